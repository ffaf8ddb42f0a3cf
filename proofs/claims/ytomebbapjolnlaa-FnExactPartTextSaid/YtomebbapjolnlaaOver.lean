/-
  Bytes written over a part of a row: l2Write of spec.
-/
import Derived.Test.YtomebbapjolnlaaRowAt
namespace Go.Proofs.Ytomebbapjolnlaa
open Go.RowKit

/-- The row r with the bytes ys from p on. -/
def over (r : List Int) (p : Nat) (ys : List Int) : List Int := r.take p ++ ys ++ r.drop (p + ys.length)
theorem over_len {r : List Int} {p : Nat} {ys : List Int} (h : p + ys.length ≤ r.length) : (over r p ys).length = r.length := by
  simp [over]; omega
theorem over_nil (r : List Int) (p : Nat) : over r p [] = r := by simp [over]
theorem over_step {r : List Int} {p : Nat} {ys : List Int} {z : Int} (h : p + ys.length < r.length) : (over r p ys).set (p + ys.length) z = over r p (ys ++ [z]) := by
  unfold over
  have h1 : (r.take p ++ ys).length = p + ys.length := by simp; omega
  rw [List.set_append_right _ _ (by omega), h1, Nat.sub_self, List.drop_eq_getElem_cons h, List.set_cons_zero]
  simp [Nat.add_assoc]
theorem over_get {r : List Int} {p : Nat} {ys : List Int} (h : p + ys.length < r.length) : (over r p ys)[p + ys.length]'(by rw [over_len (by omega)]; exact h) = r[p + ys.length] := by
  unfold over
  rw [List.getElem_append_right (by simp; omega)]
  simp
  congr 1
  omega
theorem grown_cell {w w' : World} {g : Nat} {p : Addr} {u : Value} (hg : w.grownBy w' (some g)) (h : w.cell? p = some u) (hn : p.block ≠ g) : w'.cell? p = some u :=
  (World.cell?_of_block (hg.block p.block (cell_lt h) (fun e => by injection e with e; exact hn e))).trans h
theorem grown_block {w w' : World} {g b : Nat} {o : Obj} (hg : w.grownBy w' (some g)) (h : w.heap[b]? = some o) (hn : b ≠ g) : w'.heap[b]? = some o :=
  (hg.block b (Array.getElem?_eq_some_iff.1 h).1 (fun e => by injection e with e; exact hn e)).trans h
theorem grown_below {w a w' : World} {g B : Nat} (hb : Below B a w) (hB : B ≤ w.heap.size) (hg : w.grownBy w' (some g)) (h : B ≤ g) : Below B a w' := hb.grown hg hB (fun q e => by injection e with e; omega)

theorem below_own2 {w w1 w2 : World} {base : Nat} {e : TypeId} {v : Value} {n : Nat} {xs : List Value} (hb : Below base w w1) (ho : w1.ownsRow base e 1 v n xs) (hg : w1.grownBy w2 v.ownBlock) (hB : base ≤ w1.heap.size) : Below base w w2 :=
  hb.grown hg hB fun k hk => (ho.lt k hk).1

end Go.Proofs.Ytomebbapjolnlaa
