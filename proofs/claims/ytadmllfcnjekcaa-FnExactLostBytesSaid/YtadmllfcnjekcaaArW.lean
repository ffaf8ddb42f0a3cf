/-
  Lists of what is asked for: l8Asked, l8List, l8Fits, l8Count, l8Used of spec; LostBytes of both.
-/
import Derived.Test.YtadmllfcnjekcaaArV
import Derived.BigQuiet
namespace Go.Proofs.Ytadmllfcnjekcaa
open Go.RowKit

set_option maxRecDepth 100000 in
theorem specAsked_calls (x : Ak) (w : World) :
    Calls Try.prog 90 #[.agg #[.int .i64 x.size, .int .i64 x.al]] w fun e w' => e = .returned (.bool (decide (AskOK x.size x.al))) ∧ Below w.heap.size w w' := by
  obtain ⟨w0, hw0⟩ : ∃ w0, w.alloc (.cells #[.int .i64 x.size, .int .i64 x.al] 52) = w0 := ⟨_, rfl⟩
  have hb0 : Below w.heap.size w w0 := by rw [← hw0]; exact (Below.refl _ _).alloc (Nat.le_refl _) _
  have hg0 : w0.heap[w.heap.size]? = some (.cells #[.int .i64 x.size, .int .i64 x.al] 52) := by rw [← hw0]; exact heap_alloc_new _ _
  have HB := Lib.hid hb0
  have HW := Lib.hid hw0
  have HI := Lib.hid (fun W => specIn_calls x.al 1 16 W)
  obtain ⟨x0, x1⟩ := two_cells hg0
  clear hb0 hw0 hg0
  by_cases h : 0 ≤ x.size
  · have HV := Lib.hid (show decide (AskOK x.size x.al) = decide (1 ≤ x.al ∧ x.al ≤ 16) from decide_eq_decide.2 ⟨fun k => k.2, fun k => ⟨h, k⟩⟩)
    generalize decide (1 ≤ x.al ∧ x.al ≤ 16) = p at *
    go_enter Try.func90, Try.ntmps90
    go_wp2_with fail
    rw [HW.out]
    refine (HI.out _).mono ?_
    rintro e w2 ⟨rfl, rfl⟩
    go_wp2_with fail
    go_ret
    exact ⟨ret_bool HV.out.symm, HB.out⟩
  · have HV := Lib.hid (show decide (AskOK x.size x.al) = false from decide_eq_false fun k => h k.1)
    go_enter Try.func90, Try.ntmps90
    go_upto_region 1 with fail
    rw [HW.out]
    go_wp2_with fail
    go_ret
    exact ⟨ret_bool HV.out.symm, HB.out⟩

/-- All of a list may be asked for. -/
def AsksOK (qs : List Ak) (n : Nat) : Prop := ∀ i, i < n → AskOK (qs.getD i default).size (qs.getD i default).al
instance (qs : List Ak) (n : Nat) : Decidable (AsksOK qs n) := by unfold AsksOK; exact inferInstance
def ListOK (m : List (List Int)) (a : An) (qs : List Ak) : Prop := AsksOK qs qs.length ∧ ArOK m a ∧ qs.length ≤ 6
instance (m : List (List Int)) (a : An) (qs : List Ak) : Decidable (ListOK m a qs) := by unfold ListOK; exact inferInstance
theorem AsksOK.snoc {qs : List Ak} {n : Nat} (h : AsksOK qs n) (hn : n < qs.length) (h1 : AskOK qs[n].size qs[n].al) : AsksOK qs (n + 1) := fun i hi => by
  rcases Nat.lt_succ_iff_lt_or_eq.1 hi with h3 | rfl
  · exact h i h3
  · rw [getD_ak hn]; exact h1

set_option maxRecDepth 100000 in
set_option maxHeartbeats 3200000 in
theorem specList_calls (A B : Option Addr) (cm d : Nat) (m : List (List Int)) (g : An) (Z : Option Addr) (kz : Nat) (qs : List Ak) (w : World) (hr : RdA w w.heap.size A B m g.ms) (hn : m.length ≤ maxLen) (hkl : g.ms.length ≤ maxLen) (hy : RdK w w.heap.size Z qs) (hll : qs.length ≤ maxLen) :
    Calls Try.prog 97 #[.agg #[.slice A m.length cm, .int .i64 g.w.arr, .int .i64 g.w.start, .int .i64 g.w.len, .int .i64 g.w.cap, .int .i64 g.us, .slice B g.ms.length d], .slice Z qs.length kz] w fun e w' => e = .returned (.bool (decide (ListOK m g qs))) ∧ Below w.heap.size w w' := by
  obtain ⟨w0, hw0, hb0, hz0, hg0⟩ := enterA A B m.length cm g.ms.length d g w
  have HY := Lib.hid hy
  have HR := Lib.hid hr
  have HB := Lib.hid hb0
  have HW := Lib.hid hw0
  have HG := Lib.hid hg0
  unfold maxLen at hll
  clear hr hb0 hg0 hw0 hz0 hy
  go_enter Try.func97, Try.ntmps97
  go_upto_region 1 with fail
  rw [HW.out]
  go_wp2_with fail
  go_loopw [5] (fun i wr => ∃ k : Nat, k ≤ qs.length ∧ i = .int .i64 k ∧ Hid (AsksOK qs k) ∧ Below w0.heap.size w0 wr) (fun i _ => qs.length - (intOf i).toNat)
  case atStart => exact ⟨0, Nat.zero_le _, rfl, Lib.hid (fun i h => by omega), Below.refl _ _⟩
  case round =>
    obtain ⟨k, hk, rfl, HI, hb⟩ := hrel
    have HBr := Lib.hid hb
    have HBw := Lib.hid (HB.out.trans (hb.mono HB.out.size))
    clear hb
    by_cases hlt : k < qs.length
    · obtain ⟨b, off, rfl, hbb, e0, e1⟩ := (HY.out.on HBw.out).at_ hlt
      have HC := Lib.hid (specAsked_calls qs[k] wr)
      have HIS := Lib.hid (fun (h : AskOK qs[k].size qs[k].al) => HI.out.snoc hlt h)
      have HNO := Lib.hid (fun (h : ¬ AskOK qs[k].size qs[k].al) => show decide (ListOK m g qs) = false from decide_eq_false fun q => h (by have := q.1 k hlt; rwa [getD_ak hlt] at this))
      generalize qs[k] = x at *
      by_cases hok : AskOK x.size x.al
      · rw [decide_eq_true hok] at HC
        have HSN := Lib.hid (HIS.out hok)
        clear hok
        go_wp2_with fail
        refine HC.out.mono ?_
        rintro e w2 ⟨rfl, hb2⟩
        have HB2 := Lib.hid (HBr.out.trans (hb2.mono HBr.out.size))
        clear hb2
        go_wp2_with fail
        go_roundw
        case rel => exact ⟨k + 1, by omega, by go_num, HSN, HB2.out⟩
        case measure => simp [intOf]; omega
      · rw [decide_eq_false hok] at HC
        have HV := Lib.hid (HNO.out hok)
        clear hok
        go_wp2_with fail
        refine HC.out.mono ?_
        rintro e w2 ⟨rfl, hb2⟩
        have HB2 := Lib.hid (HBw.out.trans (hb2.mono HBw.out.size))
        clear hb2
        go_wp2_with fail
        go_ret
        exact ⟨ret_bool HV.out.symm, HB2.out⟩
    · have he : k = qs.length := by omega
      have HAS : Hid (AsksOK qs qs.length) := Lib.hid (by have := HI.out; rwa [he] at this)
      have HC := Lib.hid (specArena_calls A B cm d m g wr (HR.out.on HBw.out) hn hkl)
      have hgr := (HBr.out.block _ (Array.getElem?_eq_some_iff.1 HG.out).1).trans HG.out
      obtain ⟨c0, d0, d1, d2, d3, d4, d5⟩ := ar_cells hgr
      clear he hgr
      by_cases hok : ArOK m g
      · rw [decide_eq_true hok] at HC
        have HV := Lib.hid (show decide (ListOK m g qs) = decide ((qs.length : Int) ≤ 6) from decide_eq_decide.2 ⟨fun h => by have := h.2.2; omega, fun h => ⟨HAS.out, hok, by omega⟩⟩)
        clear hok
        go_wp2_with fail
        refine HC.out.mono ?_
        rintro e w2 ⟨rfl, hb2⟩
        have HB2 := Lib.hid (HBw.out.trans (hb2.mono HBw.out.size))
        clear hb2
        go_wp2_with fail
        go_ret
        exact ⟨ret_bool HV.out.symm, HB2.out⟩
      · rw [decide_eq_false hok] at HC
        have HV := Lib.hid (show decide (ListOK m g qs) = false from decide_eq_false fun h => hok h.2.1)
        clear hok
        go_wp2_with fail
        refine HC.out.mono ?_
        rintro e w2 ⟨rfl, hb2⟩
        have HB2 := Lib.hid (HBw.out.trans (hb2.mono HBw.out.size))
        clear hb2
        go_wp2_with fail
        go_ret
        exact ⟨ret_bool HV.out.symm, HB2.out⟩

set_option maxRecDepth 100000 in
set_option maxHeartbeats 1600000 in
theorem specFits_calls (A B : Option Addr) (n cm d : Nat) (g : An) (u : Int) (x : Ak) (w : World) (hu : 0 ≤ u ∧ u ≤ 64) (hl : 0 ≤ g.w.len ∧ g.w.len ≤ 64) (hx : 1 ≤ x.al ∧ x.al ≤ 16) :
    Calls Try.prog 91 #[.agg #[.slice A n cm, .int .i64 g.w.arr, .int .i64 g.w.start, .int .i64 g.w.len, .int .i64 g.w.cap, .int .i64 g.us, .slice B g.ms.length d], .int .i64 u, .agg #[.int .i64 x.size, .int .i64 x.al]] w fun e w' => e = .returned (.bool (decide (Fits g.w.len u x.size x.al))) ∧ Below w.heap.size w w' := by
  obtain ⟨hb0, g1, g2, hz⟩ := enter2 w (.cells #[.slice A n cm, .int .i64 g.w.arr, .int .i64 g.w.start, .int .i64 g.w.len, .int .i64 g.w.cap, .int .i64 g.us, .slice B g.ms.length d] 35) (.cells #[.int .i64 x.size, .int .i64 x.al] 52)
  obtain ⟨w0, hw0⟩ : ∃ w0, (w.alloc (.cells #[.slice A n cm, .int .i64 g.w.arr, .int .i64 g.w.start, .int .i64 g.w.len, .int .i64 g.w.cap, .int .i64 g.us, .slice B g.ms.length d] 35)).alloc (.cells #[.int .i64 x.size, .int .i64 x.al] 52) = w0 := ⟨_, rfl⟩
  rw [hw0] at hb0 g1 g2 hz
  have HF := Lib.hid (fun W => specFirst_calls u x.al W hu.1 hx.1 (by omega) hx.2)
  obtain ⟨t0, t1⟩ := upTo_range hu.1 hx.1
  have HB := Lib.hid hb0
  have HW := Lib.hid hw0
  obtain ⟨c0, d0, d1, d2, d3, d4, d5⟩ := ar_cells g1
  obtain ⟨x0, x1⟩ := two_cells g2
  have HFD := Lib.hid (show Fits g.w.len u x.size x.al ↔ upTo u x.al ≤ g.w.len ∧ x.size ≤ g.w.len - upTo u x.al from Iff.rfl)
  generalize upTo u x.al = F at *
  have k0 : IntKind.i64.wrap (g.w.len - F) = g.w.len - F := IntWalk.i64_in _ (by omega)
  clear hb0 hw0 g1 g2 hz
  by_cases h : F ≤ g.w.len
  · have HV := Lib.hid (show decide (Fits g.w.len u x.size x.al) = decide (x.size ≤ g.w.len - F) from decide_eq_decide.2 ⟨fun k => (HFD.out.1 k).2, fun k => HFD.out.2 ⟨h, k⟩⟩)
    go_enter Try.func91, Try.ntmps91
    go_wp2_with fail
    rw [HW.out]
    refine (HF.out _).mono ?_
    rintro e w2 ⟨rfl, rfl⟩
    go_wp2_with fail
    go_ret
    exact ⟨ret_bool HV.out.symm, HB.out⟩
  · have HV := Lib.hid (show decide (Fits g.w.len u x.size x.al) = false from decide_eq_false fun k => h (HFD.out.1 k).1)
    go_enter Try.func91, Try.ntmps91
    go_wp2_with fail
    rw [HW.out]
    refine (HF.out _).mono ?_
    rintro e w2 ⟨rfl, rfl⟩
    go_wp2_with fail
    go_ret
    exact ⟨ret_bool HV.out.symm, HB.out⟩
end Go.Proofs.Ytadmllfcnjekcaa
