/-
  ParseFrames of the program.
-/
import Derived.Test.YtoelagfcapdfpaaFrF
import Derived.Test.YtoelagfcapdfpaaWin2
import Derived.Test.YtoelagfcapdfpaaWins
import Derived.Test.YtoelagfcapdfpaaBytes0
import Derived.Test.YtoelagfcapdfpaaOwnStep
namespace Go.Proofs.Ytoelagfcapdfpaa
open Go.RowKit

theorem info_win9 : (Try.prog.info? 33).map (fun i => (i.zero, i.size, i.bytes)) = some (some (.agg #[.int .i64 0, .int .i64 0, .int .i64 0, .int .i64 0]), 4, 32) := by kernel_rfl
def cells9 (x : Win) : List Value := [.int .i64 x.arr, .int .i64 x.start, .int .i64 x.len, .int .i64 x.cap]
theorem cell_four9 (w : World) (a b c d : Value) (t : TypeId) : ∀ j u, [a, b, c, d][j]? = some u → (w.alloc (.cells #[a, b, c, d] t)).cell? ((⟨w.heap.size, 0, none⟩ : Addr).add j) = some u := by
  intro j u hu
  match j, hu with
  | 0, hu => simp at hu; subst hu; simp [Addr.add]
  | 1, hu => simp at hu; subst hu; simp [Addr.add]
  | 2, hu => simp at hu; subst hu; simp [Addr.add]
  | 3, hu => simp at hu; subst hu; simp [Addr.add]
theorem WC.snoc9 {cs : List Value} {xs : List Win} (h : WC cs xs xs.length) (hl : cs.length = xs.length * 4) (x : Win) : WC (cs ++ cells9 x) (xs ++ [x]) (xs ++ [x]).length := fun i y hi hy => by
  rw [List.length_append, List.length_singleton] at hi
  rcases Nat.lt_or_ge i xs.length with hlt | hge
  · rw [List.getElem?_append_left hlt] at hy
    obtain ⟨h0, h1, h2, h3⟩ := h i y hlt hy
    refine ⟨?_, ?_, ?_, ?_⟩
    · rw [List.getElem?_append_left (by omega)]; exact h0
    · rw [List.getElem?_append_left (by omega)]; exact h1
    · rw [List.getElem?_append_left (by omega)]; exact h2
    · rw [List.getElem?_append_left (by omega)]; exact h3
  · obtain rfl : i = xs.length := by omega
    rw [List.getElem?_append_right (Nat.le_refl _), Nat.sub_self] at hy
    simp only [List.getElem?_cons_zero, Option.some.injEq] at hy
    subst hy
    refine ⟨?_, ?_, ?_, ?_⟩
    · rw [List.getElem?_append_right (by omega), hl, Nat.sub_self]; rfl
    · rw [List.getElem?_append_right (by omega), hl, Nat.add_sub_cancel_left]; rfl
    · rw [List.getElem?_append_right (by omega), hl, Nat.add_sub_cancel_left]; rfl
    · rw [List.getElem?_append_right (by omega), hl, Nat.add_sub_cancel_left]; rfl
/-- Windows of the call's own that grow, from the block lo on. -/
def WRow (w : World) (lo : Nat) (v : Value) (k : Nat) (xs : List Win) : Prop := xs.length = k ∧ ∃ cs, w.ownsRow lo 33 4 v k cs ∧ WC cs xs xs.length
theorem WRow.below {w w' : World} {lo k : Nat} {v : Value} {xs : List Win} (h : WRow w lo v k xs) (hb : Below w.heap.size w w') : WRow w' lo v k xs := by
  obtain ⟨h0, cs, h1, h2⟩ := h
  exact ⟨h0, cs, own_keep h1 hb, h2⟩
theorem WRow.made (w : World) {lo : Nat} (h : lo ≤ w.heap.size) : WRow (w.alloc (.cells #[] 33)) lo (.slice (some ⟨w.heap.size, 0, none⟩) 0 0) 0 [] :=
  ⟨rfl, [], World.ownsRow_made (base := lo) (e := 33) (size := 4) w #[] 0 h (Nat.zero_le _) rfl, WC.zero _ _⟩
theorem WRow.own {w : World} {lo lo' k : Nat} {v : Value} {xs : List Win} (h : WRow w lo v k xs) (hl : lo' ≤ lo) : OwnW w lo' w.heap.size v xs := by
  obtain ⟨rfl, cs, h1, h2⟩ := h
  exact ⟨cs, (OwnS.new h1).mono hl (Nat.le_refl _), h2⟩
theorem block_base {w w' : World} {lo sz n g : Nat} {e : TypeId} {v : Value} {xs : List Value} {o : Obj} (ho : w.ownsRow lo e sz v n xs) (hg : w.grownBy w' v.ownBlock) (h : w.heap[g]? = some o) (hl : g < lo) : w'.heap[g]? = some o :=
  block_grown hg h (fun e => by have := (ho.lt g e).1; omega)

/-- What a window sees, read in the world of the call. -/
theorem seenB_calls (A : Option Addr) (cm : Nat) (m : List (List Int)) (n s l c : Nat) (w W : World) (hr : Rd2 w w.heap.size A m) (hb : Below w.heap.size w W) (hn : n < m.length) (h16 : m.length ≤ 16) (hl : l ≤ c) (hc : s + c ≤ m[n].length) (h1 : 1 ≤ m[n].length) (h64 : m[n].length ≤ 64) :
    Calls Try.prog 74 #[.agg #[.slice A m.length cm], .agg #[.int .i64 n, .int .i64 s, .int .i64 l, .int .i64 c]] W fun e w' => (∃ b, b.spot = none ∧ e = .returned (.slice (some b) l c) ∧ Rd w w.heap.size (some b) (intV .u8 (wb m n s l))) ∧ Below W.heap.size W w' := by
  obtain ⟨b, off, Ai, ci, rfl, hbb, hcell, hci, hcm, hri⟩ := hr.at_ hn
  have hri0 := hri
  rcases hri0 with h | ⟨br, offr, rfl, hbr, hcr⟩
  · exfalso; have := congrArg List.length h; rw [intV_len] at this; simp only [List.length_nil] at this; omega
  · refine (seen_calls b off cm m n s l c br offr ci W hn h16 hl hc h64 hci hcm ((hb.cell (p := _) hbb).trans hcell) (Nat.lt_of_lt_of_le hbb hb.size)).mono ?_
    rintro e w' ⟨⟨o, rfl, ho⟩, hb⟩
    refine ⟨⟨⟨br, o, none⟩, rfl, rfl, ?_⟩, hb⟩
    by_cases hc0 : 0 < c
    · rw [ho hc0, wb_eq hn]
      exact hri.part s l
    · obtain rfl : l = 0 := by omega
      left; simp [wb, intV]
set_option maxRecDepth 100000 in
set_option maxHeartbeats 1200000 in
theorem implParseFrames_calls (A : Option Addr) (cm : Nat) (m : List (List Int)) (x : Win) (w : World) (hr : Rd2 w w.heap.size A m) (hn : m.length ≤ maxLen) (hx : WArg x) (hz : ∀ r ∈ m, ∀ z ∈ r, IsB z) :
    Calls Try.prog 58 #[.agg #[.slice A m.length cm], .agg #[.int .i64 x.arr, .int .i64 x.start, .int .i64 x.len, .int .i64 x.cap]] w fun e w' => ∃ v, e = .returned (.tuple #[v, .int .i64 (parseR m x).2.1, .bool (parseR m x).2.2]) ∧ OwnW w' w.heap.size w'.heap.size v (parseR m x).1 ∧ Below w.heap.size w w' := by
  obtain ⟨w0, hw0, hb0, hz0, hmw⟩ := enterMW A m.length cm x.arr x.start x.len x.cap w
  obtain ⟨i0, hi0, hy, hy1, hy2⟩ := info_parts info_win9
  have HC := Lib.hid (areOne_calls A cm m x w0 ((hr.below hb0).more hb0.size) hn hx (w.heap.size + 1 + 1) (by omega))
  have HB := Lib.hid hb0
  have HR := Lib.hid hr
  have HW := Lib.hid hw0
  have HMW := Lib.hid hmw
  have hrb := run_win1
  obtain ⟨t0, t1, t2, t3⟩ := four_cells hmw.win
  have t4 := one_cell hmw.mem
  clear hr hb0 hmw hw0
  go_enter Try.func58, Try.ntmps58
  go_upto_region 1 with fail
  rw [HW.out]
  go_wp2_with fail
  refine HC.out.mono ?_
  rintro e w2 ⟨rfl, hb2⟩
  have HB2 := Lib.hid (HB.out.trans (hb2.mono HB.out.size))
  have HM2 := Lib.hid (HMW.out.below hb2)
  have hs2 : w.heap.size + 2 ≤ w2.heap.size := by have := hb2.size; omega
  clear hb2 t0 t1 t2 t3 t4 hz0
  by_cases hm : WinOK m x
  · rw [show decide (WinOK m x) = true from decide_eq_true hm]
    have hmok := hm
    obtain ⟨n, s, l, c, rfl, hnl, hlc, hsc, h1, h64, h16⟩ := hm.nat
    have HV : Hid (parseR m ⟨n, s, l, c⟩ = ((frames (wb m n s l)).1.map (payW ⟨n, s, l, c⟩ (wb m n s l)), ((frames (wb m n s l)).2 : Int), true)) := Lib.hid (by rw [parseR, if_pos hmok]; simp only [seenL, Int.toNat_natCast])
    have hbl : (wb m n s l).length = l := wb_len hnl (by omega)
    have hBB : ∀ z ∈ wb m n s l, IsB z := wb_isB hnl hz
    have HB2a := Lib.hid (HB2.out.alloc HB2.out.size (.cells #[] 33))
    have HOW : Hid (WRow (w2.alloc (.cells #[] 33)) (w.heap.size + 2) (.slice (some ⟨w2.heap.size, 0, none⟩) 0 0) 0 []) := Lib.hid (WRow.made w2 (by omega))
    have HM2a := Lib.hid (HM2.out.below ((Below.refl _ _).alloc (Nat.le_refl _) (.cells #[] 33)))
    have HSE := Lib.hid (seenB_calls A cm m n s l c w (w2.alloc (.cells #[] 33)) HR.out HB2a.out hnl h16 hlc hsc h1 h64)
    have HSL : Hid (∀ (a f : Nat), 3 ≤ f → a + f ≤ l → ∀ W, Below w.heap.size w W → Calls Try.prog 96 #[.agg #[.slice A m.length cm], .agg #[.int .i64 n, .int .i64 s, .int .i64 l, .int .i64 c], .int .i64 (a + 2), .int .i64 (a + f - 1), .int .i64 (a + f - 1)] W fun e w' => e = .returned (.tuple #[.agg #[.int .i64 n, .int .i64 (s + (a + 2)), .int .i64 (f - 3), .int .i64 (f - 3)], .bool true]) ∧ Below W.heap.size W w') := Lib.hid fun a f hf ha W hb => by
      have h := implSliceThree_calls A cm m ⟨n, s, l, c⟩ (a + 2) (a + f - 1) (a + f - 1) W ((HR.out.below hb).more hb.size) hn hx
      have hcd : WinOK m ⟨n, s, l, c⟩ ∧ (0 : Int) ≤ (a : Int) + 2 ∧ (a : Int) + 2 ≤ (a : Int) + f - 1 ∧ (a : Int) + f - 1 ≤ (a : Int) + f - 1 ∧ (a : Int) + f - 1 ≤ (c : Int) := ⟨hmok, by omega, by omega, by omega, by omega⟩
      rw [show sliceV m ⟨n, s, l, c⟩ ((a : Int) + 2) ((a : Int) + f - 1) ((a : Int) + f - 1) = _ from if_pos hcd] at h
      rw [show (a : Int) + f - 1 - (a + 2) = f - 3 by omega] at h
      exact h
    obtain ⟨B, hB⟩ : ∃ B, wb m n s l = B := ⟨_, rfl⟩
    rw [hB] at HV hbl HSE hBB
    have HBL := Lib.hid hbl
    have HBB := Lib.hid hBB
    have hl64 : l ≤ 64 := by omega
    have hc64 : c ≤ 64 := by omega
    have hd64 := (frames_mem B).2.2
    obtain ⟨c1, d0, d1, d2, d3⟩ := (show (w2.alloc (.cells #[] 33)).cell? ⟨w.heap.size, 0, none⟩ = some (.slice A m.length cm) ∧ (w2.alloc (.cells #[] 33)).cell? ⟨w.heap.size + 1, 0, none⟩ = some (.int .i64 n) ∧ (w2.alloc (.cells #[] 33)).cell? ⟨w.heap.size + 1, 1, none⟩ = some (.int .i64 s) ∧ (w2.alloc (.cells #[] 33)).cell? ⟨w.heap.size + 1, 2, none⟩ = some (.int .i64 l) ∧ (w2.alloc (.cells #[] 33)).cell? ⟨w.heap.size + 1, 3, none⟩ = some (.int .i64 c) from ⟨one_cell HM2a.out.mem, four_cells HM2a.out.win⟩)
    obtain ⟨W2, hW2⟩ : ∃ W2, w2.alloc (.cells #[] 33) = W2 := ⟨_, rfl⟩
    rw [hW2] at HB2a HOW HM2a HSE
    have HWW := Lib.hid hW2
    have hsW : w.heap.size + 2 ≤ W2.heap.size := by rw [← hW2]; simp; omega
    dsimp only at *
    clear hm hmok hB hbl hBB hz hx hW2
    go_wp2_with fail
    rw [HWW.out]
    refine HSE.out.mono ?_
    rintro e w3 ⟨⟨bA, hsp, rfl, hrA⟩, hb3⟩
    obtain ⟨bb, off, spot⟩ := bA
    have hsp' : spot = none := hsp
    subst hsp'
    have HB3 := Lib.hid (HB2a.out.trans (hb3.mono HB2a.out.size))
    have HRA : Hid (∀ W, Below w.heap.size w W → Rd W W.heap.size (some ⟨bb, off, none⟩) (intV .u8 B)) := Lib.hid fun W hb => (hrA.below hb).more hb.size
    have HO3 := Lib.hid (HOW.out.below hb3)
    have hs3 : w.heap.size + 2 ≤ w3.heap.size := Nat.le_trans hsW hb3.size
    have HM3 := Lib.hid (HM2a.out.below hb3)
    clear hb3 hrA hsp c1 d0 d1 d2 d3
    go_wp2_with fail
    go_loopw [7, 8] (fun v i wr => ∃ (ds : List Nat) (a g cap : Nat), At9 B ds a ∧ ds.length ≤ 64 ∧ v = .slice (some ⟨g, 0, none⟩) ds.length cap ∧ i = .int .i64 a ∧ WRow wr (w.heap.size + 2) (.slice (some ⟨g, 0, none⟩) ds.length cap) ds.length (ds.map (payW ⟨n, s, l, c⟩ B)) ∧ Below w.heap.size w wr ∧ MW wr w.heap.size A m.length cm n s l c) (fun _ i _ => l - (intOf i).toNat)
    case atStart => exact ⟨[], 0, _, _, At9.start (by rw [HBL.out]; omega), Nat.zero_le _, rfl, rfl, HO3.out, HB3.out, HM3.out⟩
    case round =>
      obtain ⟨ds, a, g, cap, hat, hdl, rfl, rfl, how, hbr, hmw⟩ := hrel
      have HAT := Lib.hid hat
      have hal : a ≤ l := by have := hat.1; rw [HBL.out] at this; exact this
      have HO := Lib.hid how
      have HM := Lib.hid hmw
      have HBW := Lib.hid hbr
      have hsr : w.heap.size + 2 ≤ wr.heap.size := by
        obtain ⟨_, cs, h, _⟩ := how
        have := h.lt g rfl
        omega
      have hdr : (B.drop a).length = l - a := by rw [List.length_drop, HBL.out]
      have HFF : Hid (∀ PA, (a < c → PA = (⟨bb, off + a, none⟩ : Addr)) → Calls Try.prog 95 #[.slice (some PA) (l - a) (c - a)] wr fun e w' => ∃ A2 c2, e = .returned (.tuple #[.slice A2 (frm (B.drop a)) c2, .bool (decide (frm (B.drop a) ≠ 0))]) ∧ Below wr.heap.size wr w') := Lib.hid fun PA hPA => by
        have hrd : Rd wr wr.heap.size (some PA) (intV .u8 (B.drop a)) := by
          by_cases hac : a < c
          · rw [hPA hac]
            have h := (HRA.out wr HBW.out).part a (l - a)
            rw [List.take_of_length_le (by omega)] at h
            exact h
          · left
            rw [List.drop_eq_nil_of_le (by rw [HBL.out]; omega)]
            simp [intV]
        have h := firstFrame_calls (some PA) (c - a) (B.drop a) wr hrd (by omega) (by omega) (by simp only [maxLen]; omega) (fun z hz => HBB.out z (List.mem_of_mem_drop hz))
        rw [hdr] at h
        exact h
      have hfl : frm (B.drop a) ≤ l - a := by have := frm_le (B.drop a); rw [hdr] at this; exact this
      have i1 : (0 : Int) ≤ a := by omega
      have i2 : (a : Int) ≤ l := by omega
      have i3 : (l : Int) ≤ c := by omega
      clear how hmw hbr hat hdr
      go_upto_region 4 with fail
      go_cut [10, 11] (fun s t wx => ∃ A2 c2, s = .slice A2 (frm (B.drop a)) c2 ∧ t = .bool (decide (frm (B.drop a) ≠ 0)) ∧ Below wr.heap.size wr wx)
      case first =>
        rcases (show a = c ∨ a < c by omega) with hac | hac
        · subst hac
          obtain rfl : l = a := by omega
          have HF := Lib.hid (HFF.out ⟨bb, off, none⟩ (fun h => absurd h (by omega)))
          rw [Nat.sub_self] at HF
          go_wp2_with fail
          refine HF.out.mono ?_
          rintro e w4 ⟨A2, c2, rfl, hb4⟩
          go_wp2_with fail
          go_meet
          exact ⟨A2, c2, rfl, by simp, hb4⟩
        · have hn1 : ¬ c = a := by omega
          have hn2 : ¬ a = c := by omega
          have HF := Lib.hid (HFF.out ⟨bb, off + a, none⟩ (fun _ => rfl))
          go_wp2_with fail
          refine HF.out.mono ?_
          rintro e w4 ⟨A2, c2, rfl, hb4⟩
          go_wp2_with fail
          go_meet
          exact ⟨A2, c2, rfl, by simp, hb4⟩
      obtain ⟨A2, c2, rfl, rfl, hbc⟩ := hcut
      have HM4 := Lib.hid (HM.out.below hbc)
      have HO4 := Lib.hid (HO.out.below hbc)
      have HB4 := Lib.hid (HBW.out.trans (hbc.mono HBW.out.size))
      have hsc4 : w.heap.size + 2 ≤ wc.heap.size := Nat.le_trans hsr hbc.size
      clear hbc
      by_cases hz : frm (B.drop a) = 0
      · have HDS := Lib.hid (HAT.out.stop hz)
        have hd : decide (frm (B.drop a) ≠ 0) = false := by simp [hz]
        rw [hd]
        clear hz hd hfl
        go_wp2_with fail
        exact bodyPost_ret (v := .tuple #[.slice (some ⟨g, 0, none⟩) ds.length cap, .int .i64 a, .bool true]) (by simp [results, Try.results58, go_sem]) rfl ⟨_, by rw [HV.out, ← HDS.out.2], by rw [HV.out, ← HDS.out.1]; exact HO4.out.own (by omega), HB4.out⟩
      · have HGO := Lib.hid (HAT.out.go hz)
        have hge := frm_ge hz
        have hd : decide (frm (B.drop a) ≠ 0) = true := by simp [hz]
        have HP : Hid (payW ⟨n, s, l, c⟩ B a = ⟨n, s + (a + 2), (frm (B.drop a) : Int) - 3, (frm (B.drop a) : Int) - 3⟩) := Lib.hid rfl
        have HSLa := Lib.hid (HSL.out a (frm (B.drop a)) hge.1 (by omega) wc HB4.out)
        have hdl2 : ds.length + 1 ≤ 64 := by
          obtain ⟨_, k, _, h1, _⟩ := HGO.out.1
          have := congrArg List.length h1
          rw [List.length_append, List.length_append] at this
          have := (frames_mem B).2.2
          simp only [List.length_cons, List.length_nil] at *
          omega
        rw [hd]
        clear hz hd
        generalize frm (B.drop a) = f at *
        have i4 : (3 : Int) ≤ f := by omega
        have i5 : (f : Int) ≤ 64 := by omega
        have i6 : (l : Int) ≤ 64 := by omega
        obtain ⟨c1, d0, d1, d2, d3⟩ := (show wc.cell? ⟨w.heap.size, 0, none⟩ = some (.slice A m.length cm) ∧ wc.cell? ⟨w.heap.size + 1, 0, none⟩ = some (.int .i64 n) ∧ wc.cell? ⟨w.heap.size + 1, 1, none⟩ = some (.int .i64 s) ∧ wc.cell? ⟨w.heap.size + 1, 2, none⟩ = some (.int .i64 l) ∧ wc.cell? ⟨w.heap.size + 1, 3, none⟩ = some (.int .i64 c) from ⟨one_cell HM4.out.mem, four_cells HM4.out.win⟩)
        go_wp2_with fail
        refine HSLa.out.mono ?_
        rintro e w5 ⟨rfl, hb5⟩
        have HM5 := Lib.hid (HM4.out.below hb5)
        have HO5 := Lib.hid (HO4.out.below hb5)
        have HB5 := Lib.hid (HB4.out.trans (hb5.mono HB4.out.size))
        have hsc5 : w.heap.size + 2 ≤ w5.heap.size := Nat.le_trans hsc4 hb5.size
        have hs5 := HB5.out.size
        clear hb5 c1 d0 d1 d2 d3
        go_upto_region 9 with fail
        obtain ⟨W6, hW6⟩ : ∃ W6, w5.alloc (.cells #[.int .i64 n, .int .i64 (s + (a + 2)), .int .i64 (f - 3), .int .i64 (f - 3)] 33) = W6 := ⟨_, rfl⟩
        have hb6 : Below w5.heap.size w5 W6 := by rw [← hW6]; exact (Below.refl _ _).alloc (Nat.le_refl _) _
        have hx6 : W6.heap[w5.heap.size]? = some (.cells #[.int .i64 n, .int .i64 (s + (a + 2)), .int .i64 (f - 3), .int .i64 (f - 3)] 33) := by rw [← hW6]; exact heap_alloc_new _ _
        rw [hW6]
        have HM6 := Lib.hid (HM5.out.below hb6)
        have HB6 := Lib.hid (HB5.out.trans (hb6.mono HB5.out.size))
        obtain ⟨_, cs, ho6, hwc6⟩ := HO5.out.below hb6
        have HO6 := Lib.hid ho6
        have HWC := Lib.hid (WC.snoc9 hwc6 (by have := ho6.1; rw [List.length_map]; exact this) (payW ⟨n, s, l, c⟩ B a))
        rw [HP.out] at HWC
        have hs6 : w.heap.size + 2 ≤ W6.heap.size := Nat.le_trans hsc5 hb6.size
        obtain ⟨x0, x1, x2, x3⟩ := four_cells hx6
        have hs6' : w.heap.size ≤ W6.heap.size := by omega
        clear hW6 hb6 hx6 ho6 hwc6
        go_wp2_with ((at_builtin; refine wpList_append_own _ rfl _ _ 71 rfl (w.heap.size + 2) 33 i0 _ 4 32 Try.underlying71 hi0 hy hy1 hy2 rfl (by decide) _ _ _ rfl (HO6.out.alloc _) ⟨W6.heap.size, 0, none⟩ 1 1 [.int .i64 n, .int .i64 (s + (a + 2)), .int .i64 (f - 3), .int .i64 (f - 3)] rfl rfl (cell_four9 _ _ _ _ _ _) (by simp [Value.oneCell']) (by simp only [maxLen]; omega) (by omega) (by simp; omega) ?_; intro v7 w7 hown7 hgrow _))
        have hOA := HO6.out.alloc (.cells #[.int .i64 n, .int .i64 (s + (a + 2)), .int .i64 (f - 3), .int .i64 (f - 3)] 33)
        have HB7 : Hid (Below w.heap.size w w7) := Lib.hid ((HB6.out.alloc hs6' _).grown hgrow (by simp; omega) (fun k hk => by have := (hOA.lt k hk).1; omega))
        have HM7 : Hid (MW w7 w.heap.size A m.length cm n s l c) := Lib.hid ⟨block_base hOA hgrow (alloc_old _ HM6.out.mem) (by omega), block_base hOA hgrow (alloc_old _ HM6.out.win) (by omega)⟩
        obtain ⟨g7, k7, rfl⟩ := own_some0 hown7 (by omega)
        have HO7 : Hid (WRow w7 (w.heap.size + 2) (.slice (some ⟨g7, 0, none⟩) (ds.length + 1) k7) (ds.length + 1) ((ds ++ [a]).map (payW ⟨n, s, l, c⟩ B))) := Lib.hid ⟨by simp, _, hown7, by rw [List.map_append, List.map_singleton, HP.out]; exact HWC.out⟩
        clear hOA hown7 hgrow
        refine ⟨⟨ds ++ [a], a + f, g7, k7, HGO.out.1, by rw [List.length_append]; exact hdl2, by rw [List.length_append]; rfl, by go_num, by rw [List.length_append]; exact HO7.out, HB7.out, HM7.out⟩, ?_⟩
        simp [intOf]
        omega
  · rw [show decide (WinOK m x) = false from decide_eq_false hm]
    have HV : Hid (parseR m x = ([], 0, false)) := Lib.hid (by rw [parseR, if_neg hm])
    have HO := Lib.hid (WRow.made w2 HB2.out.size)
    clear hm
    go_wp2_with fail
    exact bodyPost_ret (v := .tuple #[.slice (some ⟨w2.heap.size, 0, none⟩) 0 0, .int .i64 0, .bool false]) (by simp [results, Try.results58, go_sem]) rfl ⟨_, by rw [HV.out], by rw [HV.out]; exact HO.out.own (Nat.le_refl _), HB2.out.alloc HB2.out.size _⟩
end Go.Proofs.Ytoelagfcapdfpaa
