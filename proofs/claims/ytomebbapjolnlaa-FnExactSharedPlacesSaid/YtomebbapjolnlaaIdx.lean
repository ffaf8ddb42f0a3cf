/-
  Numbers of windows that fit; windows that see a place: l3Sees, l3Noticed, l3Place of spec; seenBy, isOn, numbersOf of impl.
-/
import Derived.Test.YtomebbapjolnlaaWatch
import Derived.Test.YtomebbapjolnlaaOvl
import Derived.Test.YtomebbapjolnlaaBytes0
import Derived.BigQuiet
namespace Go.Proofs.Ytomebbapjolnlaa
open Go.RowKit

/-- The numbers below k at which p holds. -/
def idxsTo (p : Nat → Bool) (k : Nat) : List Int := ((List.range k).filter p).map fun (i : Nat) => (i : Int)
theorem idxsTo_zero (p : Nat → Bool) : idxsTo p 0 = [] := rfl
theorem idxsTo_yes {p : Nat → Bool} {k : Nat} (h : p k = true) : idxsTo p (k + 1) = idxsTo p k ++ [(k : Int)] := by simp [idxsTo, List.range_succ, List.filter_append, h]
theorem idxsTo_no {p : Nat → Bool} {k : Nat} (h : p k = false) : idxsTo p (k + 1) = idxsTo p k := by simp [idxsTo, List.range_succ, List.filter_append, h]
theorem idxsTo_len (p : Nat → Bool) (k : Nat) : (idxsTo p k).length ≤ k := by
  have := List.length_filter_le p (List.range k)
  simpa [idxsTo] using this
def winAt (L : List Win) (k : Nat) : Win := L.getD k ⟨0, 0, 0, 0⟩
theorem winAt_eq {L : List Win} {k : Nat} (h : k < L.length) : winAt L k = L[k] := by simp [winAt, List.getElem?_eq_getElem h]
/-- A window sees a place of an array. -/
def SeesP (x : Win) (ar pl : Int) : Prop := x.arr = ar ∧ x.start ≤ pl ∧ pl < x.start + x.len
instance (x : Win) (ar pl : Int) : Decidable (SeesP x ar pl) := by unfold SeesP; exact inferInstance
def seesB (L : List Win) (ar pl : Int) (k : Nat) : Bool := decide (SeesP (winAt L k) ar pl)
/-- A memory has a place. -/
def PlaceOK (m : List (List Int)) (ar pl : Int) : Prop := 0 ≤ ar ∧ ar < m.length ∧ 0 ≤ pl ∧ pl < (m.getD ar.toNat []).length
instance (m : List (List Int)) (ar pl : Int) : Decidable (PlaceOK m ar pl) := by unfold PlaceOK; exact inferInstance

theorem specSees_calls (x : Win) (ar pl : Int) (w : World) (hx : Tame x) :
    Calls Try.prog 123 #[.agg #[.int .i64 x.arr, .int .i64 x.start, .int .i64 x.len, .int .i64 x.cap], .int .i64 ar, .int .i64 pl] w fun e w' => e = .returned (.bool (decide (SeesP x ar pl))) ∧ Below w.heap.size w w' := by
  obtain ⟨n, s, l, c⟩ := x
  obtain ⟨x1, x2, x3, x4, _, _⟩ := hx
  dsimp only at *
  obtain ⟨w0, hw0⟩ : ∃ w0, (w.alloc (.cells #[.int .i64 n, .int .i64 s, .int .i64 l, .int .i64 c] 90)) = w0 := ⟨_, rfl⟩
  have hb0 : Below w.heap.size w w0 := by rw [← hw0]; exact (Below.refl _ _).alloc (Nat.le_refl _) _
  have g1 : w0.heap[w.heap.size]? = some (.cells #[.int .i64 n, .int .i64 s, .int .i64 l, .int .i64 c] 90) := by rw [← hw0]; exact heap_alloc_new _ _
  obtain ⟨d0, d1, d2, d3⟩ := four_cells g1
  have HB := Lib.hid hb0
  have HW := Lib.hid hw0
  clear g1 hb0 hw0
  by_cases ha : n = ar
  · subst ha
    have HI := Lib.hid (specIn_calls pl s (s + l - 1) w0)
    have HD := Lib.hid (show decide (SeesP ⟨n, s, l, c⟩ n pl) = decide (s ≤ pl ∧ pl ≤ s + l - 1) from decide_eq_decide.2 ⟨fun h => ⟨h.2.1, by have := h.2.2; simp only at this; omega⟩, fun h => ⟨rfl, h.1, by simp only; omega⟩⟩)
    go_enter Try.func123, Try.ntmps123
    go_wp2_with fail
    rw [HW.out]
    refine HI.out.mono ?_
    rintro e w2 ⟨rfl, rfl⟩
    go_wp2_with fail
    go_ret
    exact ⟨ret_bool (by rw [HD.out, ← Bool.decide_and]), HB.out⟩
  · have hne : (n == ar) = false := by simp [ha]
    have HD := Lib.hid (show decide (SeesP ⟨n, s, l, c⟩ ar pl) = false from decide_eq_false fun h => ha h.1)
    clear ha
    go_enter Try.func123, Try.ntmps123
    go_wp2_with fail
    go_ret
    exact ⟨ret_bool HD.out.symm, by rw [HW.out]; exact HB.out⟩

theorem info_int : (Try.prog.info? 3).map (fun i => (i.zero, i.size, i.bytes)) = some (some (.int .i64 0), 1, 8) := by kernel_rfl

set_option maxRecDepth 100000 in
set_option maxHeartbeats 1600000 in
theorem specNoticed_calls (B : Option Addr) (ck : Nat) (L : List Win) (ar pl : Int) (w : World) (hx : RdW w w.heap.size B L) (ht : ∀ x ∈ L, Tame x) (hl : L.length ≤ 12) :
    Calls Try.prog 100 #[.slice B L.length ck, .int .i64 ar, .int .i64 pl] w fun e w' => ∃ g cap, e = .returned (.slice (some ⟨g, 0, none⟩) (idxsTo (seesB L ar pl) L.length).length cap) ∧ w'.ownsRow w.heap.size 3 1 (.slice (some ⟨g, 0, none⟩) (idxsTo (seesB L ar pl) L.length).length cap) (idxsTo (seesB L ar pl) L.length).length (intV .i64 (idxsTo (seesB L ar pl) L.length)) ∧ Below w.heap.size w w' := by
  obtain ⟨i0, hi0, hz, hz1, hz2⟩ := info_parts info_int
  obtain ⟨w3, hw3⟩ : ∃ w3, w.alloc (.cells #[] 3) = w3 := ⟨_, rfl⟩
  have HB3 := Lib.hid (show Below w.heap.size w w3 by rw [← hw3]; exact (Below.refl _ _).alloc (Nat.le_refl _) _)
  have HO3 : Hid (w3.ownsRow w.heap.size 3 1 (.slice (some ⟨w.heap.size, 0, none⟩) 0 0) 0 []) := Lib.hid (by rw [← hw3]; exact World.ownsRow_made (base := w.heap.size) (e := 3) (size := 1) w #[] 0 (Nat.le_refl _) (Nat.zero_le _) rfl)
  have HX := Lib.hid hx
  have HTM := Lib.hid ht
  have HW := Lib.hid hw3
  obtain ⟨p, hp⟩ : ∃ p, seesB L ar pl = p := ⟨_, rfl⟩
  have HP := Lib.hid hp
  rw [hp]
  clear hx ht hw3 hp
  go_enter Try.func100, Try.ntmps100
  go_upto_region 2 with fail
  rw [HW.out]
  go_wp2_with fail
  go_loopw [7, 8] (fun v i wr => ∃ k : Nat, k ≤ L.length ∧ i = .int .i64 k ∧ wr.ownsRow w.heap.size 3 1 v (idxsTo p k).length (intV .i64 (idxsTo p k)) ∧ Below w.heap.size w wr ∧ ∃ g cap, v = .slice (some ⟨g, 0, none⟩) (idxsTo p k).length cap) (fun _ i _ => L.length - (intOf i).toNat)
  case atStart => exact ⟨0, Nat.zero_le _, rfl, by simpa [idxsTo, intV] using HO3.out, HB3.out, _, _, rfl⟩
  case round =>
    obtain ⟨k, hk, rfl, hown, hbr, gv, cv, rfl⟩ := hrel
    have HO := Lib.hid hown
    have HBR := Lib.hid hbr
    have hbs := hbr.size
    have hlen := idxsTo_len p k
    clear hown hbr
    by_cases hlt : k < L.length
    · obtain ⟨b, off, rfl, hbb, e0, e1, e2, e3⟩ := (HX.out.below HBR.out).at_ hlt
      have HS := Lib.hid (specSees_calls L[k] ar pl wr (HTM.out _ (List.getElem_mem hlt)))
      have HPK : Hid (decide (SeesP L[k] ar pl) = p k) := Lib.hid (by rw [← HP.out, seesB, winAt_eq hlt])
      rw [HPK.out] at HS
      generalize L[k] = x at *
      rcases hpk : p k with _ | _
      · have HSN := Lib.hid (idxsTo_no hpk)
        rw [hpk] at HS
        clear hpk
        go_wp2_with fail
        refine HS.out.mono ?_
        rintro e w4 ⟨rfl, hb4⟩
        have HB4 := Lib.hid (HBR.out.trans (hb4.mono hbs))
        have HO4 := Lib.hid (own_below HO.out hb4)
        clear hb4 e0 e1 e2 e3
        go_wp2_with fail
        go_roundw
        case rel => exact ⟨k + 1, by omega, by go_num, by rw [HSN.out]; exact HO4.out, HB4.out, by rw [HSN.out]; exact ⟨_, _, rfl⟩⟩
        case measure => simp [intOf]; omega
      · have HSN := Lib.hid (idxsTo_yes hpk)
        rw [hpk] at HS
        clear hpk
        go_wp2_with fail
        refine HS.out.mono ?_
        rintro e w4 ⟨rfl, hb4⟩
        have HB4 := Lib.hid (HBR.out.trans (hb4.mono hbs))
        have HO4 := Lib.hid (own_below HO.out hb4)
        have hbs4 := HB4.out.size
        clear hb4 e0 e1 e2 e3
        go_wp2_with ((at_builtin; refine wpList_append_own _ rfl _ _ 114 rfl w.heap.size 3 i0 _ 1 8 Try.underlying114 hi0 hz hz1 hz2 rfl (by decide) _ _ _ rfl (HO4.out.alloc _) ⟨w4.heap.size, 0, none⟩ 1 1 [.int .i64 k] rfl rfl (cell_one_new _ _ _) (by simp [Value.oneCell']) (by simp only [maxLen]; omega) (by omega) (by simp; omega) ?_; intro v' w5 hown5 hgrow _))
        have HB5 : Hid (Below w.heap.size w w5) := below_own0 (HB4.out.alloc hbs4 _) (HO4.out.alloc _) hgrow (by simp; omega)
        have HL5 := Lib.hid (show (idxsTo p (k + 1)).length = (idxsTo p k).length + 1 by rw [HSN.out]; simp)
        have HO5 : Hid (w5.ownsRow w.heap.size 3 1 v' (idxsTo p (k + 1)).length (intV .i64 (idxsTo p (k + 1)))) := Lib.hid (by
          rw [HL5.out, show intV .i64 (idxsTo p (k + 1)) = intV .i64 (idxsTo p k) ++ [.int .i64 k] by rw [HSN.out]; simp [intV]]; exact hown5)
        have HF5 := Lib.hid (own_some0 HO5.out (by rw [HL5.out]; omega))
        clear hown5 hgrow
        go_roundw
        case rel => exact ⟨k + 1, by omega, by go_num, HO5.out, HB5.out, HF5.out⟩
        case measure => simp [intOf]; omega
    · obtain rfl : k = L.length := by omega
      go_wp2_with fail
      go_ret
      exact ⟨_, _, rfl, HO.out, HBR.out⟩

end Go.Proofs.Ytomebbapjolnlaa
