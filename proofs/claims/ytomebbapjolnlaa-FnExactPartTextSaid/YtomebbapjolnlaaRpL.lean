/-
  JoinRopes of impl.
-/
import Derived.Test.YtomebbapjolnlaaRpJ
namespace Go.Proofs.Ytomebbapjolnlaa
open Go.RowKit

/-- A slice of two strands is made. -/
theorem run_strand2 (w : World) (t1 t2 : TypeId) (v1 v2 : Value) : (Instr.buildSlice 111 2 #[(0, .iface t1 v1), (1, .iface t2 v2)]).run Try.prog w = .ok (.slice (some ⟨w.heap.size, 0, none⟩) 2 2) (w.alloc (.cells #[.iface t1 v1, .iface t2 v2] 95)) := by
  have hi := info_strand
  cases hie : Try.prog.info? 95 with
  | none => simp [hie] at hi
  | some ie =>
    simp only [hie, Option.map_some, Option.some.injEq, Prod.mk.injEq] at hi
    obtain ⟨hz, hs, _⟩ := hi
    exact run_buildSlice w _ _ 2 _ _ ie _ Try.underlying111 hie hz (by rw [hs]; decide) (by rw [hs]; decide) (by rw [hs, show Array.range (2 * 1) = #[0, 1] by decide]; simp [Instr.fill, Value.cells])
theorem Br.two {w : World} {u v : Value} {L Q : List Win} (h1 : Str w w.heap.size 1 u L) (h2 : Str w w.heap.size 1 v Q) : Br (w.alloc (.cells #[u, v] 95)) (w.alloc (.cells #[u, v] 95)).heap.size 1 (some ⟨w.heap.size, 0, none⟩) [u, v] [L, Q] := by
  have hb : Below w.heap.size w (w.alloc (.cells #[u, v] 95)) := (Below.refl _ _).alloc (Nat.le_refl _) _
  refine ⟨rfl, by simp, (rd_new w [u, v] 95).more (by simp), fun i x y hx hy => ?_⟩
  match i, hx, hy with
  | 0, hx, hy =>
    simp only [List.getElem?_cons_zero, Option.some.injEq] at hx hy
    subst hx; subst hy
    exact (h1.below hb).more hb.size
  | 1, hx, hy =>
    simp only [List.getElem?_cons_succ, List.getElem?_cons_zero, Option.some.injEq] at hx hy
    subst hx; subst hy
    exact (h2.below hb).more hb.size

theorem ropeOf_two (u v : Value) (L Q F : List Win) (w : World) (h1 : Str w w.heap.size 1 u L) (h2 : Str w w.heap.size 1 v Q) (hF : L ++ Q = F) (hn : F.length ≤ 900) :
    Calls Try.prog 88 #[.slice (some ⟨w.heap.size, 0, none⟩) 2 2] (w.alloc (.cells #[u, v] 95)) fun e w' => ∃ v', e = .returned (.tuple #[.agg #[v'], .bool (keptR F).2]) ∧ OwnW w' (w.alloc (.cells #[u, v] 95)).heap.size w'.heap.size v' (keptR F).1 ∧ Below (w.alloc (.cells #[u, v] 95)).heap.size (w.alloc (.cells #[u, v] 95)) w' :=
  ropeOf_calls 1 (some ⟨w.heap.size, 0, none⟩) 2 [u, v] [L, Q] _ F (Br.two h1 h2) (by rw [← hF]; simp) hn
/-- The strand of the windows themselves. -/
theorem str_ones {w : World} {A : Option Addr} {L : List Win} {k : Nat} (h : Br w w.heap.size 0 A (strV1 L) (ones L)) (hk : L.length ≤ k) : Str w w.heap.size 1 (.iface 112 (.slice A L.length k)) L := by
  have h2 := h.str (c := k) (by rw [strV1_len]; exact hk)
  rw [strV1_len, ones_flat] at h2
  exact h2

set_option maxRecDepth 100000 in
set_option maxHeartbeats 1600000 in
theorem implJoinRopes_calls (A : Option Addr) (c : Nat) (m : List (List Int)) (B : Option Addr) (k : Nat) (L : List Win) (B2 : Option Addr) (k2 : Nat) (Q : List Win) (w : World) (hr : Rd2 w w.heap.size A m) (hn : m.length ≤ maxLen) (hx : RdW w w.heap.size B L) (hl : L.length ≤ maxLen) (hx2 : RdW w w.heap.size B2 Q) (hl2 : Q.length ≤ maxLen) (hwa : ∀ x ∈ L, WArg x) (hwa2 : ∀ x ∈ Q, WArg x) :
    Calls Try.prog 38 #[.agg #[.slice A m.length c], .agg #[.slice B L.length k], .agg #[.slice B2 Q.length k2]] w fun e w' => ∃ v, e = .returned (.tuple #[.agg #[v], .bool (joinR m L Q).2]) ∧ OwnW w' w.heap.size w'.heap.size v (joinR m L Q).1 ∧ Below w.heap.size w w' := by
  obtain ⟨w0, hw0, hb0, hg0, hr0, hz0⟩ := enterMPPR A m.length c B L.length k B2 Q.length k2 w
  have HC := Lib.hid (implRope_calls A c m B k L w0 ((hr.below hb0).more hb0.size) hn ((hx.below hb0).more hb0.size) hl hwa)
  have HC2 := Lib.hid (fun W (hb : Below w0.heap.size w0 W) => implRope_calls A c m B2 k2 Q W ((hr.below (hb0.trans (hb.mono hb0.size))).more (Nat.le_trans hb0.size hb.size)) hn ((hx2.below (hb0.trans (hb.mono hb0.size))).more (Nat.le_trans hb0.size hb.size)) hl2 hwa2)
  have HX := Lib.hid (hx.below hb0)
  have HX2 := Lib.hid (hx2.below hb0)
  have HB := Lib.hid hb0
  have HW := Lib.hid hw0
  have HG := Lib.hid hg0
  have HRV := Lib.hid (fun W (hb : Below w0.heap.size w0 W) => ropeVar hr0 hb)
  have HZ := Lib.hid hz0
  have c0 := hg0.cm
  have c1 := hg0.cp
  have c2 := hg0.cq
  clear hr hx hx2 hb0 hw0 hg0 hr0 hz0 hwa hwa2
  go_enter Try.func38, Try.ntmps38
  go_upto_region 1 with fail
  rw [HW.out]
  go_wp2_with fail
  refine HC.out.mono ?_
  rintro e w2 ⟨rfl, hb2⟩
  have HB2 := Lib.hid hb2
  clear hb2 c0 c1 c2
  have c0 := (HG.out.below HB2.out).cm
  have c2 := (HG.out.below HB2.out).cq
  by_cases hw : Watched m L
  · rw [show decide (Watched m L) = true from decide_eq_true hw]
    go_wp2_with fail
    refine (HC2.out w2 HB2.out).mono ?_
    rintro e w3 ⟨rfl, hb3⟩
    have HB3 := Lib.hid (HB2.out.trans (hb3.mono HB2.out.size))
    clear hb3 c0 c2
    by_cases hw2 : Watched m Q
    · rw [show decide (Watched m Q) = true from decide_eq_true hw2]
      have HV : Hid (joinR m L Q = keptR (L ++ Q)) := Lib.hid (if_pos ⟨hw, hw2⟩)
      have h12 := hw.2.1
      have hq12 := hw2.2.1
      have HS1 := Lib.hid (fun W (hb : Below w0.heap.size w0 W) => strandOf_calls B k L W ((HX.out.below (hb.mono HB.out.size)).more (Nat.le_trans HB.out.size hb.size)) h12)
      have HS2 := Lib.hid (fun W (hb : Below w0.heap.size w0 W) => strandOf_calls B2 k2 Q W ((HX2.out.below (hb.mono HB.out.size)).more (Nat.le_trans HB.out.size hb.size)) hq12)
      have HA : Hid (∀ W, Below w0.heap.size w0 W → W.cell? ⟨w.heap.size + 1, 0, none⟩ = some (.slice B L.length k) ∧ W.cell? ⟨w.heap.size + 1 + 1, 0, none⟩ = some (.slice B2 Q.length k2)) := Lib.hid fun W hb => ⟨(HG.out.below hb).cp, (HG.out.below hb).cq⟩
      have HA2 : Hid (∀ W, Below w0.heap.size w0 W → ∀ v, (W.setCell ⟨w.heap.size + 1 + 1 + 1, 0, none⟩ v).cell? ⟨w.heap.size + 1, 0, none⟩ = some (.slice B L.length k) ∧ (W.setCell ⟨w.heap.size + 1 + 1 + 1, 0, none⟩ v).cell? ⟨w.heap.size + 1 + 1, 0, none⟩ = some (.slice B2 Q.length k2)) := Lib.hid fun W hb v => ⟨cell_other (HA.out W hb).1 (by simp), cell_other (HA.out W hb).2 (by simp)⟩
      have hlq : (L ++ Q).length ≤ 900 := by rw [List.length_append]; omega
      obtain ⟨F, hF⟩ : ∃ F, L ++ Q = F := ⟨_, rfl⟩
      rw [hF] at HV hlq
      obtain ⟨p, hp⟩ : ∃ p, (keptR F).2 = p := ⟨_, rfl⟩
      obtain ⟨F1, hF1⟩ : ∃ F1, (keptR F).1 = F1 := ⟨_, rfl⟩
      have HKP := Lib.hid (show keptR F = (F1, p) by rw [← hp, ← hF1])
      have hrb := run_strand2
      have hc3 : Below w0.heap.size w0 w3.drew := HB3.out.drew
      obtain ⟨d1, d2⟩ := HA.out w3.drew hc3
      have HFF := Lib.hid hF
      clear hw hw2 hF hp hF1
      unfold brI at HS1 HS2
      go_wp2_with fail
      go_region_held3 (fun W => W.cell? ⟨w.heap.size + 1, 0, none⟩ = some (.slice B L.length k) ∧ W.cell? ⟨w.heap.size + 1 + 1, 0, none⟩ = some (.slice B2 Q.length k2))
        (first | (with_reducible exact ⟨d1, d2⟩) | (with_reducible exact HA.out _ hc4) | (with_reducible exact HA.out _ hc5) | (with_reducible exact HA.out _ hc6) | (with_reducible exact HA2.out _ hc6 _) | (with_reducible exact HA.out _ hc5a))
        (first | (go_at_call 84; (with_reducible refine (HS1.out w3.drew hc3).mono ?_); rintro e w4 ⟨A4, k4, rfl, hk4, hs4, hb4⟩; have hc4 : Below w0.heap.size w0 w4 := hc3.trans (hb4.mono hc3.size); have HS4 := Lib.hid hs4; clear hs4 hb4) | (go_at_call 84; (with_reducible refine (HS2.out w4 hc4).mono ?_); rintro e w5 ⟨A5, k5, rfl, hk5, hs5, hb5⟩; have hc5 : Below w0.heap.size w0 w5 := hc4.trans (hb5.mono hc4.size); have hc5a : Below w0.heap.size w0 (w5.alloc (.cells #[.iface 112 (.slice A4 L.length k4), .iface 112 (.slice A5 Q.length k5)] 95)) := hc5.alloc hc5.size _; have HRO := Lib.hid (ropeOf_two _ _ L Q F w5 (((str_ones HS4.out hk4).below hb5).more hb5.size) (str_ones hs5 hk5) HFF.out hlq); rw [HKP.out] at HRO; clear hs5 hb5) | (go_at_call 88; (with_reducible refine (HRO.out).mono ?_); rintro e w6 ⟨v6, rfl, ho6, hb6⟩; obtain ⟨A6, k6, rfl⟩ := ho6.form; have hc6 : Below w0.heap.size w0 w6 := hc5a.trans (hb6.mono hc5a.size); have HO6 := Lib.hid ho6; have hl6 : w5.heap.size ≤ w6.heap.size := Nat.le_trans (by simp) hb6.size; have HLO : Hid (w0.heap.size ≤ (w5.alloc (.cells #[.iface 112 (.slice A4 L.length k4), .iface 112 (.slice A5 Q.length k5)] 95)).heap.size) := Lib.hid hc5a.size; obtain ⟨r0, r1, r2⟩ := HRV.out w6 hc6; clear ho6 hb6))
      have r3 := r2 (.slice A6 F1.length k6)
      clear r2 hrb
      go_wp2_with fail
      refine bodyPost_ret (v := .tuple #[.agg #[.slice A6 F1.length k6], .bool p]) (by simp [results, Try.results38, go_sem, r3]) rfl ⟨_, by rw [HV.out, HKP.out], ?_, ?_⟩
      · rw [HV.out, HKP.out, World.size_setCell]
        exact (ownW_set (g := w.heap.size + 1 + 1 + 1) HO6.out (by have := HLO.out; have := HZ.out; omega)).mono (Nat.le_trans HB.out.size HLO.out) (Nat.le_refl _)
      · exact (HB.out.trans (hc6.mono HB.out.size)).setCell (p := ⟨w.heap.size + 1 + 1 + 1, 0, none⟩) (by simp; omega) _
    · have HV : Hid (joinR m L Q = ([], false)) := Lib.hid (if_neg fun h => hw2 h.2)
      rw [show decide (Watched m Q) = false from decide_eq_false hw2]
      obtain ⟨r0, r1, r2⟩ := HRV.out w3 HB3.out
      have r3 := r2 (.slice none 0 0)
      clear hw hw2 r2
      go_wp2_with fail
      refine bodyPost_ret (v := .tuple #[.agg #[.slice none 0 0], .bool false]) (by simp [results, Try.results38, go_sem, r3]) rfl ⟨_, by rw [HV.out], ?_, ?_⟩
      · rw [HV.out]; exact ownW_nil _ _ _
      · exact (HB.out.trans (HB3.out.mono HB.out.size)).setCell (p := ⟨w.heap.size + 1 + 1 + 1, 0, none⟩) (by simp; omega) _
  · have HV : Hid (joinR m L Q = ([], false)) := Lib.hid (if_neg fun h => hw h.1)
    rw [show decide (Watched m L) = false from decide_eq_false hw]
    obtain ⟨r0, r1, r2⟩ := HRV.out w2 HB2.out
    have r3 := r2 (.slice none 0 0)
    clear hw c0 c2 r2
    go_wp2_with fail
    refine bodyPost_ret (v := .tuple #[.agg #[.slice none 0 0], .bool false]) (by simp [results, Try.results38, go_sem, r3]) rfl ⟨_, by rw [HV.out], ?_, ?_⟩
    · rw [HV.out]; exact ownW_nil _ _ _
    · exact (HB.out.trans (HB2.out.mono HB.out.size)).setCell (p := ⟨w.heap.size + 1 + 1 + 1, 0, none⟩) (by simp; omega) _
end Go.Proofs.Ytomebbapjolnlaa
