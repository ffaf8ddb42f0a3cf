/-
  NoticedCounts of spec and impl.
-/
import Derived.Test.YtomgjhdknondmabNot
namespace Go.Proofs.Ytomgjhdknondmab
open Go.RowKit

/-- By how many windows the first k places of an array are seen. -/
def countsTo (L : List Win) (ar : Int) (k : Nat) : List Int := (List.range k).map fun (j : Nat) => ((idxsTo (seesB L ar j) L.length).length : Int)
theorem countsTo_succ (L : List Win) (ar : Int) (k : Nat) : countsTo L ar (k + 1) = countsTo L ar k ++ [((idxsTo (seesB L ar k) L.length).length : Int)] := by simp [countsTo, List.range_succ]
theorem countsTo_len (L : List Win) (ar : Int) (k : Nat) : (countsTo L ar k).length = k := by simp [countsTo]
/-- A memory has an array. -/
def ArrOK (m : List (List Int)) (ar : Int) : Prop := 0 ≤ ar ∧ ar < m.length
instance (m : List (List Int)) (ar : Int) : Decidable (ArrOK m ar) := by unfold ArrOK; exact inferInstance
theorem placeOK_zero {m : List (List Int)} (hm : MemOK m) (ar : Int) : decide (PlaceOK m ar 0) = decide (ArrOK m ar) := decide_eq_decide.2 ⟨fun h => ⟨h.1, h.2.1⟩, fun h => by
  refine ⟨h.1, h.2, Int.le_refl _, ?_⟩
  have hn : ar.toNat < m.length := by have := h.1; have := h.2; omega
  rw [getD_eq hn]
  have := (hm.2 _ (List.getElem_mem hn)).1
  omega⟩
/-- What NoticedCounts answers. -/
def countsR (m : List (List Int)) (L : List Win) (ar : Int) : List Int × Bool :=
  if Watched m L ∧ ArrOK m ar then (countsTo L ar (m.getD ar.toNat []).length, true) else ([], false)
theorem countsR_small (m : List (List Int)) (L : List Win) (ar : Int) : (countsR m L ar).1.length ≤ 2097152 := by
  unfold countsR
  split
  · rename_i h
    have hn : ar.toNat < m.length := by have := h.2.1; have := h.2.2; omega
    have := (h.1.1.2 _ (List.getElem_mem hn)).2
    simp only [countsTo_len, getD_eq hn]
    omega
  · simp

set_option maxRecDepth 100000 in
set_option maxHeartbeats 1600000 in
theorem specCounts_calls (A : Option Addr) (c : Nat) (m : List (List Int)) (B : Option Addr) (ck : Nat) (L : List Win) (n : Nat) (w : World) (hr : Rd2 w w.heap.size A m) (hm : MemOK m) (hn : n < m.length) (hx : RdW w w.heap.size B L) (ht : ∀ x ∈ L, Tame x) (hl : L.length ≤ 12) :
    Calls Try.prog 93 #[.agg #[.slice A m.length c], .slice B L.length ck, .int .i64 n] w fun e w' => ∃ g cap, e = .returned (.slice (some ⟨g, 0, none⟩) m[n].length cap) ∧ w'.ownsRow w.heap.size 3 1 (.slice (some ⟨g, 0, none⟩) m[n].length cap) m[n].length (intV .i64 (countsTo L n m[n].length)) ∧ Below w.heap.size w w' := by
  obtain ⟨i0, hi0, hz, hz1, hz2⟩ := info_parts info_int
  have h16 := hm.1
  have h64 := (hm.2 m[n] (List.getElem_mem hn)).2
  obtain ⟨w0, hw0⟩ : ∃ w0, (w.alloc (.cells #[.slice A m.length c] 31)) = w0 := ⟨_, rfl⟩
  have hb0 : Below w.heap.size w w0 := by rw [← hw0]; exact (Below.refl _ _).alloc (Nat.le_refl _) _
  have hg0 : w0.heap[w.heap.size]? = some (.cells #[.slice A m.length c] 31) := by rw [← hw0]; exact heap_alloc_new _ _
  have hs0 : w0.heap.size = w.heap.size + 1 := by rw [← hw0]; simp
  obtain ⟨w3, hw3⟩ : ∃ w3, w0.alloc (.cells #[] 3) = w3 := ⟨_, rfl⟩
  have hb3 : Below w0.heap.size w0 w3 := by rw [← hw3]; exact (Below.refl _ _).alloc (Nat.le_refl _) _
  have HB3 := Lib.hid (hb0.trans (hb3.mono hb0.size))
  have HO3 : Hid (w3.ownsRow w.heap.size 3 1 (.slice (some ⟨w0.heap.size, 0, none⟩) 0 0) 0 []) := Lib.hid (by rw [← hw3]; exact World.ownsRow_made (base := w.heap.size) (e := 3) (size := 1) w0 #[] 0 hb0.size (Nat.zero_le _) rfl)
  have HG3 := Lib.hid ((hb3.block _ (Array.getElem?_eq_some_iff.1 hg0).1).trans hg0)
  rw [hs0] at HO3
  rw [← hw0] at hw3
  have HR := Lib.hid hr
  have HX := Lib.hid hx
  have HTM := Lib.hid ht
  have HW := Lib.hid hw3
  clear hr hm hx ht hb0 hg0 hw0 hw3 hb3 hs0
  go_enter Try.func93, Try.ntmps93
  go_upto_region 2 with fail
  rw [HW.out]
  go_wp2_with fail
  go_loopw [7, 8] (fun v i wr => ∃ k : Nat, k ≤ m[n].length ∧ i = .int .i64 k ∧ wr.ownsRow w.heap.size 3 1 v k (intV .i64 (countsTo L n k)) ∧ Below w.heap.size w wr ∧ wr.heap[w.heap.size]? = some (.cells #[.slice A m.length c] 31) ∧ ∃ g cap, v = .slice (some ⟨g, 0, none⟩) k cap) (fun _ i _ => m[n].length - (intOf i).toNat)
  case atStart => exact ⟨0, Nat.zero_le _, rfl, by simpa [countsTo, intV] using HO3.out, HB3.out, HG3.out, _, _, rfl⟩
  case round =>
    obtain ⟨k, hk, rfl, hown, hbr, hg, gv, cv, rfl⟩ := hrel
    have HO := Lib.hid hown
    have HBR := Lib.hid hbr
    have HG := Lib.hid hg
    have hbs := hbr.size
    obtain ⟨b, off, Ai, ci, rfl, hbb, hc, hci, hcm, hri⟩ := (HR.out.below HBR.out).at_ hn
    have c1 := one_cell hg
    clear hown hbr hg hri
    by_cases hlt : k < m[n].length
    · have HS := Lib.hid (specNoticed_calls B ck L n k wr ((HX.out.below HBR.out).more hbs) HTM.out hl)
      have HSN := Lib.hid (show intV .i64 (countsTo L n (k + 1)) = intV .i64 (countsTo L n k) ++ [.int .i64 ((idxsTo (seesB L n k) L.length).length : Int)] by rw [countsTo_succ]; simp [intV])
      have hql := idxsTo_len (seesB L n k) L.length
      generalize idxsTo (seesB L n k) L.length = q at *
      go_wp2_with fail
      refine HS.out.mono ?_
      rintro e w4 ⟨g4, cv4, rfl, ho4, hb4⟩
      have HB4 := Lib.hid (HBR.out.trans (hb4.mono hbs))
      have HO4 := Lib.hid (own_below HO.out hb4)
      have HG4 := Lib.hid ((hb4.block _ (Array.getElem?_eq_some_iff.1 HG.out).1).trans HG.out)
      have hbs4 := HB4.out.size
      clear hb4 c1 ho4 hc
      go_wp2_with ((at_builtin; refine wpList_append_own _ rfl _ _ 28 rfl w.heap.size 3 i0 _ 1 8 Try.underlying28 hi0 hz hz1 hz2 rfl (by decide) _ _ _ rfl (HO4.out.alloc _) ⟨w4.heap.size, 0, none⟩ 1 1 [.int .i64 q.length] rfl rfl (cell_one_new _ _ _) (by simp [Value.oneCell']) (by simp only [maxLen]; omega) (by omega) (by simp; omega) ?_; intro v' w5 hown5 hgrow _))
      have HB5 : Hid (Below w.heap.size w w5) := below_own0 (HB4.out.alloc hbs4 _) (HO4.out.alloc _) hgrow (by simp; omega)
      have HO5 : Hid (w5.ownsRow w.heap.size 3 1 v' (k + 1) (intV .i64 (countsTo L n (k + 1)))) := Lib.hid (by rw [HSN.out]; exact hown5)
      have HG5 : Hid (w5.heap[w.heap.size]? = some (.cells #[.slice (some ⟨b, off, none⟩) m.length c] 31)) := Lib.hid (by
        have h1 := alloc_old (.cells #[.int .i64 q.length] 3) HG4.out
        exact block_grown hgrow h1 (ne_some (own_far (HO4.out.alloc _) h1 (by decide))))
      have HF5 := Lib.hid (own_some0 HO5.out (by omega))
      clear hown5 hgrow
      go_roundw
      case rel => exact ⟨k + 1, by omega, by go_num, HO5.out, HB5.out, HG5.out, HF5.out⟩
      case measure => simp [intOf]; omega
    · obtain rfl : k = m[n].length := by omega
      go_wp2_with fail
      go_ret
      exact ⟨_, _, rfl, HO.out, HBR.out⟩

set_option maxRecDepth 100000 in
set_option maxHeartbeats 1600000 in
theorem implNoticedCounts_calls (A : Option Addr) (c : Nat) (m : List (List Int)) (B : Option Addr) (k : Nat) (L : List Win) (ar : Int) (w : World) (hr : Rd2 w w.heap.size A m) (hn : m.length ≤ maxLen) (hx : RdW w w.heap.size B L) (hl : L.length ≤ maxLen) (hwa : ∀ x ∈ L, WArg x) :
    Calls Try.prog 94 #[.agg #[.slice A m.length c], .slice B L.length k, .int .i64 ar] w fun e w' => ∃ v, e = .returned (.tuple #[v, .bool (countsR m L ar).2]) ∧ w'.ownsRow w.heap.size 3 1 v (countsR m L ar).1.length (intV .i64 (countsR m L ar).1) ∧ Below w.heap.size w w' := by
  obtain ⟨hb0, g1, g2, g3⟩ := enter2 w (.cells #[.slice A m.length c] 31) (.cells #[.int .i64 ar, .int .i64 0] 153)
  obtain ⟨w0, hw0⟩ : ∃ w0, (w.alloc (.cells #[.slice A m.length c] 31)).alloc (.cells #[.int .i64 ar, .int .i64 0] 153) = w0 := ⟨_, rfl⟩
  rw [hw0] at hb0 g1 g2 g3
  have HC := Lib.hid (isWatched_calls A c m B k L w0 ((hr.below hb0).more hb0.size) hn ((hx.below hb0).more hb0.size) hwa hl)
  have HR := Lib.hid hr
  have HX := Lib.hid hx
  have HB := Lib.hid hb0
  have HW := Lib.hid hw0
  have HG := Lib.hid g1
  have HG2 := Lib.hid g2
  clear hr hx hb0 hw0 g1 g2 g3
  go_enter Try.func94, Try.ntmps94
  go_wp2_with fail
  rw [HW.out]
  refine HC.out.mono ?_
  rintro e w2 ⟨rfl, hb2⟩
  have HB2 := Lib.hid (HB.out.trans (hb2.mono HB.out.size))
  have HG3 := Lib.hid ((hb2.block _ (Array.getElem?_eq_some_iff.1 HG.out).1).trans HG.out)
  have c2 := one_cell HG3.out
  obtain ⟨p0, p1⟩ := two_cells ((hb2.block _ (Array.getElem?_eq_some_iff.1 HG2.out).1).trans HG2.out)
  clear hb2
  by_cases hw : Watched m L
  · rw [show decide (Watched m L) = true from decide_eq_true hw]
    have HWT := Lib.hid hw
    have h12 := hw.2.1
    have h16 := hw.1.1
    have HP := Lib.hid (isOn_calls A c m ar 0 w2 ((HR.out.below HB2.out).more HB2.out.size) hw.1)
    rw [placeOK_zero hw.1] at HP
    clear hw
    by_cases hp : ArrOK m ar
    · rw [show decide (ArrOK m ar) = true from decide_eq_true hp] at HP
      obtain ⟨n, rfl⟩ : ∃ n : Nat, ar = n := ⟨ar.toNat, by have := hp.1; omega⟩
      have hnl : n < m.length := by have := hp.2; omega
      have h64 := (HWT.out.1.2 m[n] (List.getElem_mem hnl)).2
      have HV := Lib.hid (show countsR m L n = (countsTo L n m[n].length, true) by rw [countsR, if_pos ⟨HWT.out, hp⟩, Int.toNat_natCast, getD_eq hnl])
      have hmf : ∀ (fn : Fn) (first cap : Array Value) (w : World), (Instr.makeFunc fn first cap).run Try.prog w = .ok (.func fn first cap) w := fun _ _ _ _ => rfl
      clear hp
      go_wp2_with fail
      refine HP.out.mono ?_
      rintro e w3 ⟨rfl, hb3⟩
      have HB3 := Lib.hid (HB2.out.trans (hb3.mono HB2.out.size))
      have c3 := one_cell ((hb3.block _ (Array.getElem?_eq_some_iff.1 HG3.out).1).trans HG3.out)
      obtain ⟨b, off, Ai, ci, rfl, hbb, hc, hci, hcm, hri⟩ := (HR.out.below HB3.out).at_ hnl
      obtain ⟨i0, hi0, hz0, hz1, hz2⟩ := info_parts info_int
      obtain ⟨w4, hrun, hown, hg⟩ := run_make_full (P := Try.prog) w3 w.heap.size 28 3 i0 _ 1 Try.underlying28 hi0 hz0 hz1 .i64 .i64 m[n].length (by rw [hz2]; omega) (by simp only [maxLen]; omega) HB3.out.size
      have hb4 : Below w3.heap.size w3 w4 := (Below.refl _ _).grown hg (Nat.le_refl _) (by simp)
      rw [show (madeCells (Value.int .i64 0).cells (m[n].length * 1)).toList = List.replicate m[n].length (.int .i64 0) by rw [Nat.mul_one]; exact toList_madeCells_one _ _] at hown
      have HO := Lib.hid hown
      have HB4 := Lib.hid (HB3.out.trans (hb4.mono HB3.out.size))
      clear hb3 hb4 hown hg hri c2 p0 p1
      go_wp2_with fail
      clear hrun hmf c3 hc
      have hmf : ∀ (fn : Fn) (first cap : Array Value) (w : World), (Instr.makeFunc fn first cap).run Try.prog w = .ok (.func fn first cap) w := fun _ _ _ _ => rfl
      go_loopw [34] (fun i wr => ∃ j : Nat, j ≤ m[n].length ∧ i = .int .i64 j ∧ wr.ownsRow w.heap.size 3 1 (.slice (some ⟨w3.heap.size, 0, none⟩) m[n].length m[n].length) m[n].length (intV .i64 (countsTo L n j) ++ List.replicate (m[n].length - j) (.int .i64 0)) ∧ Below w.heap.size w wr) (fun i _ => m[n].length - (intOf i).toNat)
      case atStart => exact ⟨0, Nat.zero_le _, rfl, by simpa [countsTo, intV] using HO.out, HB4.out⟩
      case round =>
        obtain ⟨j, hj, rfl, hown, hbr⟩ := hrel
        have HBR := Lib.hid hbr
        have hbs := hbr.size
        have HOR := Lib.hid hown
        clear hown hbr
        by_cases hlt : j < m[n].length
        · obtain ⟨w5, hw5⟩ : ∃ w5, wr.alloc (.cells #[.int .i64 n, .int .i64 j] 153) = w5 := ⟨_, rfl⟩
          have hb5 : Below wr.heap.size wr w5 := by rw [← hw5]; exact (Below.refl _ _).alloc (Nat.le_refl _) _
          have HB5 := Lib.hid (HBR.out.trans (hb5.mono hbs))
          have HO5 := Lib.hid (own_below HOR.out hb5)
          have HN := Lib.hid (numbersOf_seenBy_calls B k L n j (seesB L n j) w5 ((HX.out.below HB5.out).more HB5.out.size) h12 (fun i hi W => by
            have h := seenBy_calls L[i] n j W (HWT.out.tame _ (List.getElem_mem hi))
            rw [show decide (SeesP L[i] n j) = seesB L n j i by rw [seesB, winAt_eq hi]] at h
            exact h))
          have HF := Lib.hid (show (intV .i64 (countsTo L n j) ++ List.replicate (m[n].length - j) (Value.int .i64 0)).set j (.int .i64 ((idxsTo (seesB L n j) L.length).length : Int)) = intV .i64 (countsTo L n (j + 1)) ++ List.replicate (m[n].length - (j + 1)) (Value.int .i64 0) by
            rw [fill_step _ _ _ hlt (by rw [intV_len, countsTo_len]), countsTo_succ]; simp [intV])
          have HW5 := Lib.hid hw5
          generalize idxsTo (seesB L n j) L.length = q at *
          clear hw5 hb5
          go_wp2_with fail
          rw [HW5.out]
          refine HN.out.mono ?_
          rintro e w6 ⟨g6, cv6, rfl, ho6, hb6⟩
          have HB6 := Lib.hid (HB5.out.trans (hb6.mono HB5.out.size))
          have ho := own_below HO5.out hb6
          have hf := ho.frozenAt j
          have hd : w6.cell? ⟨w3.heap.size, j, none⟩ = some (.int .i64 0) := by
            rw [ho.cellAt j (by omega), List.getElem?_append_right (by rw [intV_len, countsTo_len]; exact Nat.le_refl _), List.getElem?_replicate, if_pos (by rw [intV_len, countsTo_len]; omega)]
          have HST := Lib.hid (ho.stored j (Value.int .i64 q.length))
          have HS3 := Lib.hid HB3.out.size
          clear ho ho6 hb6
          go_wp2_with fail
          go_roundw
          case rel => exact ⟨j + 1, by omega, by go_num, by rw [← HF.out]; exact HST.out.1, HB6.out.setCell (p := ⟨w3.heap.size, j, none⟩) HS3.out _⟩
          case measure => simp [intOf]; omega
        · obtain rfl : j = m[n].length := by omega
          go_wp2_with fail
          go_ret2
          exact ⟨_, by rw [HV.out]; rfl, by rw [HV.out]; simp only [countsTo_len]; simpa using HOR.out, HBR.out⟩
    · rw [show decide (ArrOK m ar) = false from decide_eq_false hp] at HP
      have HV := Lib.hid (show countsR m L ar = ([], false) by rw [countsR, if_neg (fun h => hp h.2)])
      clear hp
      go_wp2_with fail
      refine HP.out.mono ?_
      rintro e w3 ⟨rfl, hb3⟩
      have HB3 := Lib.hid (HB2.out.trans (hb3.mono HB2.out.size))
      have HO := Lib.hid (World.ownsRow_made (base := w.heap.size) (e := 3) (size := 1) w3 #[] 0 HB3.out.size (Nat.zero_le _) rfl)
      clear hb3 c2 p0 p1
      go_wp2_with fail
      go_ret2
      exact ⟨_, by rw [HV.out]; rfl, by rw [HV.out]; exact HO.out, by have hs := HB3.out.size; (repeat (first | (with_reducible exact Below.refl _ _) | (with_reducible refine Below.drew ?_) | ((with_reducible refine Below.alloc ?_ ?hB _); case hB => (first | (with_reducible exact Nat.le_refl _) | omega | (simp; done) | (simp; omega))) | ((with_reducible refine Below.setCell ?_ ?hB _); case hB => (first | (with_reducible exact Nat.le_refl _) | omega | (simp; done) | (simp; omega))))); exact HB3.out⟩
  · rw [show decide (Watched m L) = false from decide_eq_false hw]
    have HV := Lib.hid (show countsR m L ar = ([], false) by rw [countsR, if_neg (fun h => hw h.1)])
    have HO := Lib.hid (World.ownsRow_made (base := w.heap.size) (e := 3) (size := 1) w2 #[] 0 HB2.out.size (Nat.zero_le _) rfl)
    clear hw c2 p0 p1
    go_wp2_with fail
    go_ret2
    exact ⟨_, by rw [HV.out]; rfl, by rw [HV.out]; exact HO.out, by have hs := HB2.out.size; (repeat (first | (with_reducible exact Below.refl _ _) | (with_reducible refine Below.drew ?_) | ((with_reducible refine Below.alloc ?_ ?hB _); case hB => (first | (with_reducible exact Nat.le_refl _) | omega | (simp; done) | (simp; omega))) | ((with_reducible refine Below.setCell ?_ ?hB _); case hB => (first | (with_reducible exact Nat.le_refl _) | omega | (simp; done) | (simp; omega))))); exact HB2.out⟩
end Go.Proofs.Ytomgjhdknondmab
