/-
  Strands cut in two: a Window (impl).
-/
import Derived.Test.YtomebbapjolnlaaRpL
import Derived.Deep.RegionLaw
import Derived.Deep.DeepCutAuto
import Derived.IntWalk
namespace Go.Proofs.Ytomebbapjolnlaa
open Go.RowKit

/-- A window, or a braid of nothing. -/
def Flat (u : Value) (Q : List Win) : Prop := (∃ x : Win, u = winI x ∧ Q = [x]) ∨ ∃ (A : Option Addr) (c : Nat), u = brI A 0 c ∧ Q = []
theorem Flat.str {u : Value} {Q : List Win} (h : Flat u Q) (w : World) (B d : Nat) : Str w B (d + 1) u Q := by
  rcases h with h | ⟨A, c, rfl, rfl⟩
  · exact .inl h
  · exact .inr ⟨A, c, [], [], rfl, rfl, by simp, Nat.zero_le _, .inl rfl, fun i u Q hu => by simp at hu, rfl⟩
theorem Flat.one {u : Value} {Q : List Win} (h : Flat u Q) : u.oneCell' = true := by
  rcases h with ⟨x, rfl, rfl⟩ | ⟨A, c, rfl, rfl⟩ <;> simp [winI, brI, Value.oneCell']
theorem flat_none (A : Option Addr) (c : Nat) : Flat (.iface 112 (.slice A 0 c)) [] := .inr ⟨A, c, rfl, rfl⟩
theorem flat_win (x : Win) : Flat (.iface 90 (.agg #[.int .i64 x.arr, .int .i64 x.start, .int .i64 x.len, .int .i64 x.cap])) [x] := .inl ⟨x, rfl, rfl⟩
set_option maxRecDepth 100000 in
theorem winCut_calls (x : Win) (i : Int) (w : World) (h1 : 0 ≤ x.start ∧ x.start ≤ 64) (h2 : 0 ≤ x.len ∧ x.len ≤ 64) (h3 : 0 ≤ x.cap ∧ x.cap ≤ 64) :
    Calls Try.prog 150 #[.agg #[.int .i64 x.arr, .int .i64 x.start, .int .i64 x.len, .int .i64 x.cap], .int .i64 i] w fun e w' => ∃ u v, e = .returned (.tuple #[u, v]) ∧ Flat u (cutW i x).1 ∧ Flat v (cutW i x).2 ∧ Below w.heap.size w w' := by
  obtain ⟨hb0, hg0⟩ : Below w.heap.size w (w.alloc (.cells #[.int .i64 x.arr, .int .i64 x.start, .int .i64 x.len, .int .i64 x.cap] 90)) ∧ (w.alloc (.cells #[.int .i64 x.arr, .int .i64 x.start, .int .i64 x.len, .int .i64 x.cap] 90)).heap[w.heap.size]? = some (.cells #[.int .i64 x.arr, .int .i64 x.start, .int .i64 x.len, .int .i64 x.cap] 90) := ⟨by (repeat (first | (with_reducible exact Below.refl _ _) | (with_reducible refine Below.drew ?_) | ((with_reducible refine Below.alloc ?_ ?hB _); case hB => (first | (with_reducible exact Nat.le_refl _) | omega | (simp; done) | (simp; omega))) | ((with_reducible refine Below.setCell ?_ ?hB _); case hB => (first | (with_reducible exact Nat.le_refl _) | omega | (simp; done) | (simp; omega))))), heap_alloc_new _ _⟩
  obtain ⟨w0, hw0⟩ : ∃ w0, w.alloc (.cells #[.int .i64 x.arr, .int .i64 x.start, .int .i64 x.len, .int .i64 x.cap] 90) = w0 := ⟨_, rfl⟩
  rw [hw0] at hb0 hg0
  have HB := Lib.hid hb0
  have HW := Lib.hid hw0
  obtain ⟨y0, y1, y2, y3⟩ := four_cells hg0
  clear hb0 hw0
  go_enter Try.func150, Try.ntmps150
  go_upto_region 1 with fail
  rw [HW.out]
  by_cases hi0 : i ≤ 0
  · have HV : Hid (cutW i x = ([], [x])) := Lib.hid (if_pos hi0)
    go_upto_region 2 with fail
    have HY : Hid (∀ V : World, Below w0.heap.size w0 V → V.cell? ⟨w.heap.size, 0, none⟩ = some (.int .i64 x.arr) ∧ V.cell? ⟨w.heap.size, 1, none⟩ = some (.int .i64 x.start) ∧ V.cell? ⟨w.heap.size, 2, none⟩ = some (.int .i64 x.len) ∧ V.cell? ⟨w.heap.size, 3, none⟩ = some (.int .i64 x.cap)) := Lib.hid fun V hb => four_cells ((hb.block _ (Array.getElem?_eq_some_iff.1 hg0).1).trans hg0)
    obtain ⟨z0, z1, z2, z3⟩ := HY.out (w0.alloc (.cells #[] 95)) ((Below.refl _ _).alloc (Nat.le_refl _) _)
    go_region_law (fail)
    all_goals (go_wp2_with fail)
    all_goals
      refine bodyPost_ret (v := .tuple #[.iface 112 (.slice (some ⟨w0.heap.size, 0, none⟩) 0 0), .iface 90 (.agg #[.int .i64 x.arr, .int .i64 x.start, .int .i64 x.len, .int .i64 x.cap])]) (by simp [results, Try.results150, go_sem]) rfl ⟨_, _, rfl, by rw [HV.out]; exact flat_none _ _, by rw [HV.out]; exact flat_win x, HB.out.trans (((Below.refl _ _).alloc HB.out.size _).drew)⟩
  · by_cases hix : x.len ≤ i
    · have HV : Hid (cutW i x = ([x], [])) := Lib.hid (by unfold cutW; rw [if_neg hi0, if_pos hix])
      go_wp2_with fail
      refine bodyPost_ret (v := .tuple #[.iface 90 (.agg #[.int .i64 x.arr, .int .i64 x.start, .int .i64 x.len, .int .i64 x.cap]), .iface 112 (.slice (some ⟨w0.heap.size, 0, none⟩) 0 0)]) (by simp [results, Try.results150, go_sem]) rfl ⟨_, _, rfl, by rw [HV.out]; exact flat_win x, by rw [HV.out]; exact flat_none _ _, HB.out.trans ((Below.refl _ _).alloc HB.out.size _)⟩
    · have HV : Hid (cutW i x = ([⟨x.arr, x.start, i, i⟩], [⟨x.arr, x.start + i, x.len - i, x.cap - i⟩])) := Lib.hid (by unfold cutW; rw [if_neg hi0, if_neg hix])
      have hs1 : IntKind.i64.wrap (x.start + i) = x.start + i := IntWalk.i64_in _ (by omega)
      have hs2 : IntKind.i64.wrap (x.len - i) = x.len - i := IntWalk.i64_in _ (by omega)
      have hs3 : IntKind.i64.wrap (x.cap - i) = x.cap - i := IntWalk.i64_in _ (by omega)
      have HY : Hid (∀ V : World, Below w0.heap.size w0 V → V.cell? ⟨w.heap.size, 0, none⟩ = some (.int .i64 x.arr) ∧ V.cell? ⟨w.heap.size, 1, none⟩ = some (.int .i64 x.start) ∧ V.cell? ⟨w.heap.size, 2, none⟩ = some (.int .i64 x.len) ∧ V.cell? ⟨w.heap.size, 3, none⟩ = some (.int .i64 x.cap)) := Lib.hid fun V hb => four_cells ((hb.block _ (Array.getElem?_eq_some_iff.1 hg0).1).trans hg0)
      obtain ⟨z0, z1, z2, z3⟩ := HY.out (w0.alloc (.cells #[.int .i64 x.arr, .int .i64 x.start, .int .i64 i, .int .i64 i] 90)) ((Below.refl _ _).alloc (Nat.le_refl _) _)
      go_upto_region 7 with fail
      obtain ⟨hb5, g1, g2, hs5⟩ := enter2 w0 (.cells #[.int .i64 x.arr, .int .i64 x.start, .int .i64 i, .int .i64 i] 90) (.cells #[.int .i64 x.arr, .int .i64 (x.start + i), .int .i64 (x.len - i), .int .i64 (x.cap - i)] 90)
      obtain ⟨w5, hw5⟩ : ∃ w5, (w0.alloc (.cells #[.int .i64 x.arr, .int .i64 x.start, .int .i64 i, .int .i64 i] 90)).alloc (.cells #[.int .i64 x.arr, .int .i64 (x.start + i), .int .i64 (x.len - i), .int .i64 (x.cap - i)] 90) = w5 := ⟨_, rfl⟩
      rw [hw5] at hb5 g1 g2 hs5 ⊢
      obtain ⟨a0, a1, a2, a3⟩ := four_cells g1
      obtain ⟨b0, b1, b2, b3⟩ := four_cells g2
      have HB5 := Lib.hid hb5
      clear hb5 g1 g2 hs5 hw5 y0 y1 y2 y3 z0 z1 z2 z3
      go_region_law (fail)
      all_goals (go_wp2_with fail)
      all_goals
        refine bodyPost_ret (v := .tuple #[.iface 90 (.agg #[.int .i64 x.arr, .int .i64 x.start, .int .i64 i, .int .i64 i]), .iface 90 (.agg #[.int .i64 x.arr, .int .i64 (x.start + i), .int .i64 (x.len - i), .int .i64 (x.cap - i)])]) (by simp [results, Try.results150, go_sem]) rfl ⟨_, _, rfl, by rw [HV.out]; exact flat_win ⟨x.arr, x.start, i, i⟩, by rw [HV.out]; exact flat_win ⟨x.arr, x.start + i, x.len - i, x.cap - i⟩, (HB.out.trans (HB5.out.mono HB.out.size)).drew⟩
end Go.Proofs.Ytomebbapjolnlaa
