/-
  A whole key loaded and stored at once.
-/
import Derived.Test.YtoelagfcapdfpaaKyB
import Derived.Laws.Tables
namespace Go.Proofs.Ytoelagfcapdfpaa
open Go.RowKit Go.ChangeShapes Go.WideShapes Go.Joins Go.Deep

theorem size_keyA {k : List Int} (h : k.length = 16) : (Try.prog.info? 28).map (·.size) = some (keyA k).size := by
  rw [size_key h, keyA_size, intV_len]
theorem keyA_one (k : List Int) : (keyA k).all (·.oneCell') = true := Array.all_eq_true_iff_forall_mem.2 fun v hv => by
  simp only [keyA, intV, List.mem_toArray, List.mem_map] at hv
  obtain ⟨z, _, rfl⟩ := hv
  rfl
section
variable {w w' : World} {B g g' : Nat} {k k' : List Int}
theorem KeyBox.row (h : KeyBox w g k) (hk : k'.length = 16) : KeyBox (w.setRow g (keyA k')) g k' := ⟨setRow_heap w g _ _ _ _ h.1, hk⟩
theorem KeyBox.rowOther (h : KeyBox w g k) (hn : g ≠ g') (c : Array Value) : KeyBox (w.setRow g' c) g k := ⟨(setRow_other w g' g c hn).trans h.1, h.2⟩
theorem Below.setRow (h : Below B w' w) (hg : B ≤ g) (c : Array Value) : Below B w' (w.setRow g c) :=
  ⟨h.os, h.tape, h.output, by rw [setRow_size]; exact h.size, fun b hb => (setRow_other w g b c (by omega)).trans (h.block b hb)⟩
theorem KeyBox.loaded (h : KeyBox w g k) : (loadVar 28 ⟨g, 0, none⟩).run Try.prog w = .ok (.agg (keyA k)) w :=
  run_loadVar_row w g _ _ (keyA k) _ _ h.1 Try.underlying28 rfl (size_keyA h.2)
theorem KeyBox.ld {ops : Array Oper} {rest : List Oper} {o : Oper} {a : Act} {Q : Exit → Act → World → Prop} (H : KeyBox w g k) (hgd : o.guard = none) (x : Operand) (ho : o.op = .load 28 x) (hx : a.eval x = .pointer (some ⟨g, 0, none⟩))
    (h : wpList Try.prog ops Q rest (a.put o.dst (.agg (keyA k))) w) : wpList Try.prog ops Q (o :: rest) a w :=
  wpList_load_row hgd _ x ho g hx _ (keyA k) _ _ H.1 Try.underlying28 rfl (size_keyA H.2) h
theorem KeyBox.st {ops : Array Oper} {rest : List Oper} {o : Oper} {a : Act} {Q : Exit → Act → World → Prop} (H : KeyBox w g k) (hgd : o.guard = none) (x y : Operand) (ho : o.op = .store 28 x y) (hx : a.eval x = .pointer (some ⟨g, 0, none⟩)) (hk : k'.length = 16) (hy : a.eval y = .agg (keyA k'))
    (h : wpList Try.prog ops Q rest (a.put o.dst undef) (w.setRow g (keyA k'))) : wpList Try.prog ops Q (o :: rest) a w :=
  wpList_store_row hgd _ x y ho g (keyA k') hx hy _ _ H.1 (size_keyA hk) (by rw [keyA_size, keyA_size, H.2, hk]) (keyA_one _) h
end
end Go.Proofs.Ytoelagfcapdfpaa
