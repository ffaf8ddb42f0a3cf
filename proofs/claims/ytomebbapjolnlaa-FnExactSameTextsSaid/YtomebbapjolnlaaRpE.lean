/-
  A memory and two ropes; SameTexts of spec and impl.
-/
import Derived.Test.YtomebbapjolnlaaRpP
import Derived.Test.YtomebbapjolnlaaCmp0
import Derived.Test.YtomebbapjolnlaaShelf
namespace Go.Proofs.Ytomebbapjolnlaa
open Go.RowKit

/-- What SameTexts answers. -/
def sameTextsR (m : List (List Int)) (L Q : List Win) : Bool × Bool :=
  if Watched m L ∧ Watched m Q then (Lib.bytesOf (ropeT m L) == Lib.bytesOf (ropeT m Q), true) else (false, false)
theorem ropeT_isB {m : List (List Int)} (hz : ∀ r ∈ m, ∀ z ∈ r, IsB z) : ∀ {L : List Win}, (∀ x ∈ L, WinOK m x) → ∀ z ∈ ropeT m L, IsB z := by
  intro L
  induction L with
  | nil => intro _ z h; cases h
  | cons x xs ih =>
    intro h z hzz
    obtain ⟨n, s, l, c, rfl, hnl, _⟩ := (h x (by simp)).nat
    simp only [ropeT, Int.toNat_natCast] at hzz
    rcases List.mem_append.1 hzz with h1 | h1
    · exact wb_isB hnl hz z h1
    · exact ih (fun y hy => h y (by simp [hy])) z h1

set_option maxRecDepth 100000 in
set_option maxHeartbeats 1600000 in
theorem specSameTexts_calls (A : Option Addr) (c : Nat) (m : List (List Int)) (B : Option Addr) (k : Nat) (L : List Win) (B2 : Option Addr) (k2 : Nat) (Q : List Win) (w : World) (hr : Rd2 w w.heap.size A m) (hn : m.length ≤ maxLen) (hx : RdW w w.heap.size B L) (hl : L.length ≤ maxLen) (hx2 : RdW w w.heap.size B2 Q) (hl2 : Q.length ≤ maxLen) (hz : ∀ r ∈ m, ∀ z ∈ r, IsB z) :
    Calls Try.prog 54 #[.agg #[.slice A m.length c], .agg #[.slice B L.length k], .agg #[.slice B2 Q.length k2]] w fun e w' => e = .returned (.tuple #[.bool (sameTextsR m L Q).1, .bool (sameTextsR m L Q).2]) ∧ Below w.heap.size w w' := by
  obtain ⟨w0, hw0, hb0, hg0⟩ := enterMPP A m.length c B L.length k B2 Q.length k2 w
  have HC := Lib.hid (specRope_calls A c m B k L w0 ((hr.below hb0).more hb0.size) hn ((hx.below hb0).more hb0.size) hl)
  have HC2 := Lib.hid (fun W (hb : Below w0.heap.size w0 W) => specRope_calls A c m B2 k2 Q W ((hr.below (hb0.trans (hb.mono hb0.size))).more (Nat.le_trans hb0.size hb.size)) hn ((hx2.below (hb0.trans (hb.mono hb0.size))).more (Nat.le_trans hb0.size hb.size)) hl2)
  have HR := Lib.hid hr
  have HX := Lib.hid hx
  have HX2 := Lib.hid hx2
  have HB := Lib.hid hb0
  have HW := Lib.hid hw0
  have HG := Lib.hid hg0
  have HZ := Lib.hid hz
  have c0 := hg0.cm
  have c1 := hg0.cp
  have c2 := hg0.cq
  clear hr hx hx2 hb0 hw0 hg0 hz
  go_enter Try.func54, Try.ntmps54
  go_wp2_with fail
  rw [HW.out]
  refine HC.out.mono ?_
  rintro e w2 ⟨rfl, hb2⟩
  have HB2 := Lib.hid hb2
  clear hb2 c0 c1 c2
  have c0 := (HG.out.below HB2.out).cm
  have c2 := (HG.out.below HB2.out).cq
  by_cases hw : Watched m L
  · rw [show decide (Watched m L) = true from decide_eq_true hw]
    go_wp2_with fail
    refine (HC2.out w2 HB2.out).mono ?_
    rintro e w3 ⟨rfl, hb3⟩
    have HB3 := Lib.hid (HB2.out.trans (hb3.mono HB2.out.size))
    clear hb3 c0 c2
    by_cases hw2 : Watched m Q
    · have hd : decide (Watched m Q) = true := decide_eq_true hw2
      have HV : Hid (sameTextsR m L Q = (cmpI (ropeT m L) (ropeT m Q) == 0, true)) := Lib.hid (by rw [sameTextsR, if_pos ⟨hw, hw2⟩, cmp_zero])
      have HS1 := Lib.hid (fun W (hb : Below w0.heap.size w0 W) => specTextL_calls A c m B k L W ((HR.out.below (HB.out.trans (hb.mono HB.out.size))).more (Nat.le_trans HB.out.size hb.size)) ((HX.out.below (HB.out.trans (hb.mono HB.out.size))).more (Nat.le_trans HB.out.size hb.size)) hw)
      have HS2 := Lib.hid (fun W (hb : Below w0.heap.size w0 W) => specTextL_calls A c m B2 k2 Q W ((HR.out.below (HB.out.trans (hb.mono HB.out.size))).more (Nat.le_trans HB.out.size hb.size)) ((HX2.out.below (HB.out.trans (hb.mono HB.out.size))).more (Nat.le_trans HB.out.size hb.size)) hw2)
      have HI1 := Lib.hid (ropeT_isB HZ.out hw.2.2)
      have HI2 := Lib.hid (ropeT_isB HZ.out hw2.2.2)
      have h641 : (ropeT m L).length ≤ 4096 := by have := ropeT_ok hw; omega
      have h642 : (ropeT m Q).length ≤ 4096 := by have := ropeT_ok hw2; omega
      have HK : Hid (∀ W, Below w0.heap.size w0 W → W.cell? ⟨w.heap.size, 0, none⟩ = some (.slice A m.length c) ∧ W.cell? ⟨w.heap.size + 1, 0, none⟩ = some (.slice B L.length k) ∧ W.cell? ⟨w.heap.size + 1 + 1, 0, none⟩ = some (.slice B2 Q.length k2)) := Lib.hid fun W h => ⟨(HG.out.below h).cm, (HG.out.below h).cp, (HG.out.below h).cq⟩
      generalize ropeT m L = L1 at *
      generalize ropeT m Q = L2 at *
      clear hw hw2
      have HO : Hid (∀ W A' B' c d, Rd W W.heap.size A' (intV .u8 L1) → Rd W W.heap.size B' (intV .u8 L2) → Calls Try.prog 98 #[.slice A' L1.length c, .slice B' L2.length d] W fun e w' => e = .returned (.int .i64 (cmpI L1 L2)) ∧ ∃ n, w' = W.drewN n) := Lib.hid fun W A' B' c d h1 h2 => specOrderBig_calls A' B' c d L1 L2 W h1 h2 h641 h642 HI1.out HI2.out
      generalize cmpI L1 L2 = q at *
      rw [hd]
      clear hd
      have hc3 : Below w0.heap.size w0 w3.drew := HB3.out.drew
      obtain ⟨c0, c1, c2⟩ := HK.out w3.drew hc3
      go_wp2_with fail
      go_region_held3 (fun W => W.cell? ⟨w.heap.size, 0, none⟩ = some (.slice A m.length c) ∧ W.cell? ⟨w.heap.size + 1, 0, none⟩ = some (.slice B L.length k) ∧ W.cell? ⟨w.heap.size + 1 + 1, 0, none⟩ = some (.slice B2 Q.length k2))
        (first | (with_reducible exact ⟨c0, c1, c2⟩) | (with_reducible exact HK.out _ hc6) | (with_reducible exact HK.out _ hc5) | (with_reducible exact HK.out _ hc4))
        (first | (go_at_call 79; (with_reducible refine (HS1.out w3.drew hc3).mono ?_); rintro e w4 ⟨v4, rfl, ho4, hb4⟩; obtain ⟨A4, k4, rfl⟩ := own_form ho4; have hc4 : Below w0.heap.size w0 w4 := hc3.trans (hb4.mono hc3.size); have HO4 := Lib.hid ho4; clear ho4 hb4) | (go_at_call 79; (with_reducible refine (HS2.out w4 hc4).mono ?_); rintro e w5 ⟨v5, rfl, ho5, hb5⟩; obtain ⟨A5, k5, rfl⟩ := own_form ho5; have hc5 : Below w0.heap.size w0 w5 := hc4.trans (hb5.mono hc4.size); have HO5 := Lib.hid ho5; have HO45 := Lib.hid (own_below HO4.out hb5); clear ho5 hb5) | (go_at_call 98; (with_reducible refine (HO.out w5 _ _ _ _ (Rd.of_own HO45.out) (Rd.of_own HO5.out)).mono ?_); rintro e w6 ⟨rfl, n6, rfl⟩; have hc6 : Below w0.heap.size w0 (w5.drewN n6) := below_drewN hc5 n6))
      go_wp2_with fail
      refine bodyPost_ret (v := .tuple #[.bool (q == 0), .bool true]) (by simp [results, Try.results54, go_sem]) rfl ⟨by rw [HV.out], HB.out.trans (hc6.mono HB.out.size)⟩
    · have hd : decide (Watched m Q) = false := decide_eq_false hw2
      have HV : Hid (sameTextsR m L Q = (false, false)) := Lib.hid (by rw [sameTextsR, if_neg (fun h => hw2 h.2)])
      clear hw hw2
      rw [hd]
      go_wp2_with fail
      go_ret2
      exact ⟨by rw [HV.out]; rfl, HB.out.trans (HB3.out.mono HB.out.size)⟩
  · have hd : decide (Watched m L) = false := decide_eq_false hw
    have HV : Hid (sameTextsR m L Q = (false, false)) := Lib.hid (by rw [sameTextsR, if_neg (fun h => hw h.1)])
    clear hw
    rw [hd]
    go_wp2_with fail
    go_ret2
    exact ⟨by rw [HV.out]; rfl, HB.out.trans (HB2.out.mono HB.out.size)⟩

set_option maxRecDepth 100000 in
set_option maxHeartbeats 1600000 in
theorem implSameTexts_calls (A : Option Addr) (c : Nat) (m : List (List Int)) (B : Option Addr) (k : Nat) (L : List Win) (B2 : Option Addr) (k2 : Nat) (Q : List Win) (w : World) (hr : Rd2 w w.heap.size A m) (hn : m.length ≤ maxLen) (hx : RdW w w.heap.size B L) (hl : L.length ≤ maxLen) (hx2 : RdW w w.heap.size B2 Q) (hl2 : Q.length ≤ maxLen) (hwa : ∀ x ∈ L, WArg x) (hwa2 : ∀ x ∈ Q, WArg x) :
    Calls Try.prog 55 #[.agg #[.slice A m.length c], .agg #[.slice B L.length k], .agg #[.slice B2 Q.length k2]] w fun e w' => e = .returned (.tuple #[.bool (sameTextsR m L Q).1, .bool (sameTextsR m L Q).2]) ∧ Below w.heap.size w w' := by
  obtain ⟨w0, hw0, hb0, hg0⟩ := enterMPP A m.length c B L.length k B2 Q.length k2 w
  have HC := Lib.hid (implRopeText_calls A c m B k L w0 ((hr.below hb0).more hb0.size) hn ((hx.below hb0).more hb0.size) hl hwa)
  have HC2 := Lib.hid (fun W (hb : Below w0.heap.size w0 W) => implRopeText_calls A c m B2 k2 Q W ((hr.below (hb0.trans (hb.mono hb0.size))).more (Nat.le_trans hb0.size hb.size)) hn ((hx2.below (hb0.trans (hb.mono hb0.size))).more (Nat.le_trans hb0.size hb.size)) hl2 hwa2)
  have HB := Lib.hid hb0
  have HW := Lib.hid hw0
  have HG := Lib.hid hg0
  have c0 := hg0.cm
  have c1 := hg0.cp
  have c2 := hg0.cq
  have HV := Lib.hid (show sameTextsR m L Q = (((textR m L).2 && (textR m Q).2) && (Lib.bytesOf (textR m L).1 == Lib.bytesOf (textR m Q).1), (textR m L).2 && (textR m Q).2) by
    unfold sameTextsR textR
    by_cases h1 : Watched m L <;> by_cases h2 : Watched m Q <;> simp [h1, h2])
  clear hr hb0 hg0 hw0 hx hx2 hwa hwa2
  obtain ⟨L1, p1, hf1⟩ : ∃ L' p, textR m L = (L', p) := ⟨_, _, rfl⟩
  obtain ⟨L2, p2, hf2⟩ : ∃ L' p, textR m Q = (L', p) := ⟨_, _, rfl⟩
  rw [hf1] at HC HV
  rw [hf2] at HC2 HV
  clear hf1 hf2
  go_enter Try.func55, Try.ntmps55
  go_wp2_with fail
  rw [HW.out]
  refine HC.out.mono ?_
  rintro e w2 ⟨v1, rfl, ho1, hb2⟩
  have HB2 := Lib.hid hb2
  have HO1 := Lib.hid ho1
  clear hb2 ho1 c0 c1 c2
  have c0 := (HG.out.below HB2.out).cm
  have c2 := (HG.out.below HB2.out).cq
  go_wp2_with fail
  refine (HC2.out w2 HB2.out).mono ?_
  rintro e w3 ⟨v2, rfl, ho2, hb3⟩
  have HB3 := Lib.hid (HB.out.trans ((HB2.out.trans (hb3.mono HB2.out.size)).mono HB.out.size))
  have ho13 := own_below HO1.out hb3
  obtain ⟨A1, c1, rfl⟩ := own_form ho13
  obtain ⟨A2, c2', rfl⟩ := own_form ho2
  have HE := Lib.hid (Try.bytes_Equal_all A1 A2 L1.length c1 L2.length c2' L1 L2 w3 rfl rfl (bytesIn_rd (Rd.of_own ho13)) (bytesIn_rd (Rd.of_own ho2)))
  clear hb3 ho2 ho13 c0 c2
  generalize (Lib.bytesOf L1 == Lib.bytesOf L2) = q at *
  cases p1 <;> cases p2
  · go_wp2_with fail
    go_ret2
    exact ⟨by rw [HV.out]; rfl, HB3.out⟩
  · go_wp2_with fail
    go_ret2
    exact ⟨by rw [HV.out]; rfl, HB3.out⟩
  · go_wp2_with fail
    go_ret2
    exact ⟨by rw [HV.out]; rfl, HB3.out⟩
  · go_wp2_with fail
    refine HE.out.mono ?_
    rintro e w4 ⟨rfl, rfl⟩
    go_wp2_with fail
    go_ret2
    exact ⟨by rw [HV.out]; rfl, HB3.out⟩
end Go.Proofs.Ytomebbapjolnlaa
