/-
  Growth of spec: rules, the next cap, sizes.
-/
import Derived.Test.YtiimbojcnmbebabGrM
import Derived.Test.YtiimbojcnmbebabSpecM
import Derived.BigQuiet
import Derived.IntWalk
import Derived.Deep.DeepCutAuto
import Derived.Deep.QuietTactic
namespace Go.Proofs.Ytiimbojcnmbebab
open Go.RowKit

theorem three_cells {w : World} {g : Nat} {u0 u1 u2 : Value} {t : TypeId} (h : w.heap[g]? = some (.cells #[u0, u1, u2] t)) :
    w.cell? ⟨g, 0, none⟩ = some u0 ∧ w.cell? ⟨g, 1, none⟩ = some u1 ∧ w.cell? ⟨g, 2, none⟩ = some u2 := by simp [World.cell?, h]
theorem three_frozen {w : World} {g : Nat} {u0 u1 u2 : Value} {t : TypeId} (h : w.heap[g]? = some (.cells #[u0, u1, u2] t)) :
    w.frozen? ⟨g, 0, none⟩ = false ∧ w.frozen? ⟨g, 1, none⟩ = false ∧ w.frozen? ⟨g, 2, none⟩ = false := by simp [World.frozen?, h]
/-- A rule as a value. -/
def GR.val (g : GR) : Value := .agg #[.int .i64 g.num, .int .i64 g.den, .int .i64 g.add]
theorem specRule_calls (g : GR) (w : World) :
    Calls Try.prog 47 #[.agg #[.int .i64 g.num, .int .i64 g.den, .int .i64 g.add]] w fun e w' => e = .returned (.bool (decide g.OK)) ∧ Below w.heap.size w w' := by
  obtain ⟨w0, hw0⟩ : ∃ w0, w.alloc (.cells #[.int .i64 g.num, .int .i64 g.den, .int .i64 g.add] 25) = w0 := ⟨_, rfl⟩
  have hb0 : Below w.heap.size w w0 := by rw [← hw0]; exact (Below.refl _ _).alloc (Nat.le_refl _) _
  have hg0 : w0.heap[w.heap.size]? = some (.cells #[.int .i64 g.num, .int .i64 g.den, .int .i64 g.add] 25) := by rw [← hw0]; exact heap_alloc_new _ _
  obtain ⟨c0, c1, c2⟩ := three_cells hg0
  have HW := Lib.hid hw0
  have HB := Lib.hid hb0
  clear hw0 hb0 hg0
  have hd : decide g.OK = (decide (1 ≤ g.den ∧ g.den ≤ 8) && decide (g.den ≤ g.num ∧ g.num ≤ 8) && decide (0 ≤ g.add ∧ g.add ≤ 64)) := by
    unfold GR.OK
    rw [← Bool.decide_and, ← Bool.decide_and]
    exact decide_eq_decide.2 (by omega)
  rw [hd]
  clear hd
  obtain ⟨p1, h1⟩ : ∃ p, decide (1 ≤ g.den ∧ g.den ≤ 8) = p := ⟨_, rfl⟩
  obtain ⟨p2, h2⟩ : ∃ p, decide (g.den ≤ g.num ∧ g.num ≤ 8) = p := ⟨_, rfl⟩
  obtain ⟨p3, h3⟩ : ∃ p, decide (0 ≤ g.add ∧ g.add ≤ 64) = p := ⟨_, rfl⟩
  have HA := Lib.hid (specIn_calls g.den 1 8 w0)
  have HB2 := Lib.hid (specIn_calls g.num g.den 8 w0)
  have HC := Lib.hid (specIn_calls g.add 0 64 w0)
  rw [h1] at HA ⊢
  rw [h2] at HB2 ⊢
  rw [h3] at HC ⊢
  clear h1 h2 h3
  go_enter Try.func47, Try.ntmps47
  go_wp2_with fail
  rw [HW.out]
  refine HA.out.mono ?_
  rintro e w1 ⟨rfl, rfl⟩
  cases p1
  · go_wp2_with fail
    go_ret
    exact ⟨rfl, HB.out⟩
  · go_wp2_with fail
    refine HB2.out.mono ?_
    rintro e w1 ⟨rfl, rfl⟩
    cases p2
    · go_wp2_with fail
      go_ret
      exact ⟨rfl, HB.out⟩
    · go_wp2_with fail
      refine HC.out.mono ?_
      rintro e w1 ⟨rfl, rfl⟩
      go_wp2_with fail
      go_ret
      exact ⟨by simp, HB.out⟩
theorem specSize_calls (n : Int) (w : World) :
    Calls Try.prog 49 #[.int .i64 n] w fun e w' => e = .returned (.bool (decide (SzG n))) ∧ w = w' := by
  have HA := Lib.hid (specIn_calls n 0 1000000 w)
  rw [show decide (SzG n) = decide (0 ≤ n ∧ n ≤ 1000000) from decide_eq_decide.2 Iff.rfl]
  obtain ⟨p, hp⟩ : ∃ p, decide (0 ≤ n ∧ n ≤ 1000000) = p := ⟨_, rfl⟩
  rw [hp] at HA ⊢
  clear hp
  go_enter Try.func49, Try.ntmps49
  go_wp2_with fail
  refine HA.out.mono ?_
  rintro e w1 ⟨rfl, rfl⟩
  go_wp2_with fail
  go_ret
  exact ⟨rfl, rfl⟩
theorem most_max (a b : Int) : (if b < a then a else b) = max a b := by omega
theorem specMax_calls (a b : Int) (W : World) : Calls Try.prog 75 #[.int .i64 a, .int .i64 b] W fun e w' => e = .returned (.int .i64 (max a b)) ∧ w' = W := by
  have h := specMost_calls a b W
  rw [most_max] at h
  exact h.mono fun _ _ hh => ⟨hh.1, hh.2.symm⟩
theorem specNext_calls (g : GR) (hg : g.OK) (len cap n : Int) (h0 : 0 ≤ cap) (h1 : cap ≤ 1000000) (h2 : 0 ≤ len) (h3 : 0 ≤ n) (h4 : len + n ≤ 1000000) (w : World) :
    Calls Try.prog 50 #[.agg #[.int .i64 g.num, .int .i64 g.den, .int .i64 g.add], .int .i64 len, .int .i64 cap, .int .i64 n] w fun e w' => e = .returned (.int .i64 (nextG g len cap n)) ∧ Below w.heap.size w w' := by
  obtain ⟨w0, hw0⟩ : ∃ w0, w.alloc (.cells #[.int .i64 g.num, .int .i64 g.den, .int .i64 g.add] 25) = w0 := ⟨_, rfl⟩
  have hb0 : Below w.heap.size w w0 := by rw [← hw0]; exact (Below.refl _ _).alloc (Nat.le_refl _) _
  have hg0 : w0.heap[w.heap.size]? = some (.cells #[.int .i64 g.num, .int .i64 g.den, .int .i64 g.add] 25) := by rw [← hw0]; exact heap_alloc_new _ _
  obtain ⟨c0, c1, c2⟩ := three_cells hg0
  have HW := Lib.hid hw0
  have HB := Lib.hid hb0
  clear hw0 hb0 hg0
  obtain ⟨d1, d2, d3, d4, d5, d6⟩ := hg
  by_cases hc : len + n ≤ cap
  · have HV := Lib.hid (show nextG g len cap n = cap from if_pos hc)
    go_enter Try.func50, Try.ntmps50
    go_wp2_with fail
    go_ret
    exact ⟨by rw [HV.out]; rfl, by rw [HW.out]; exact HB.out⟩
  · have HV := Lib.hid (show nextG g len cap n = max (max ((cap * g.num).tdiv g.den + g.add) (len + n)) (cap + 1) from if_neg hc)
    have m0 : 0 ≤ cap * g.num := Int.mul_nonneg h0 (by omega)
    have m1 : cap * g.num ≤ 8000000 := by have : cap * g.num ≤ cap * 8 := Int.mul_le_mul_of_nonneg_left d4 h0; omega
    obtain ⟨t0, t1⟩ := tdiv_le (b := g.den) m0 d1
    have hz3 : ¬ g.den = 0 := by omega
    have k1 : IntKind.i64.wrap (cap * g.num) = cap * g.num := IntWalk.i64_in _ (by omega)
    have k2 : IntKind.i64.wrap ((cap * g.num).tdiv g.den) = (cap * g.num).tdiv g.den := IntWalk.i64_in _ (by omega)
    have k3 : IntKind.i64.wrap ((cap * g.num).tdiv g.den + g.add) = (cap * g.num).tdiv g.den + g.add := IntWalk.i64_in _ (by omega)
    have k4 : IntKind.i64.wrap (len + n) = len + n := IntWalk.i64_in _ (by omega)
    have k5 : IntKind.i64.wrap (cap + 1) = cap + 1 := IntWalk.i64_in _ (by omega)
    have HA := Lib.hid (fun W => specMax_calls ((cap * g.num).tdiv g.den + g.add) (len + n) W)
    have HB2 := Lib.hid (fun W => specMax_calls (max ((cap * g.num).tdiv g.den + g.add) (len + n)) (cap + 1) W)
    rw [← HV.out] at HB2
    obtain ⟨mx, hmx⟩ : ∃ mx, max ((cap * g.num).tdiv g.den + g.add) (len + n) = mx := ⟨_, rfl⟩
    rw [hmx] at HA HB2
    clear hmx
    go_enter Try.func50, Try.ntmps50
    go_upto_region 3 with fail
    rw [HW.out]
    go_quiet ((go_at_call 75; first | (with_reducible exact Calls.quiet_of_same (HA.out _)) | (with_reducible exact Calls.quiet_of_same (HB2.out _))))
    go_wp2_with fail
    go_ret
    exact ⟨rfl, below_drewN HB.out _⟩
end Go.Proofs.Ytiimbojcnmbebab
