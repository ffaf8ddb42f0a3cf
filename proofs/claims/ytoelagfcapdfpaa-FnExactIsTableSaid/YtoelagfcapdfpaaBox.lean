/-
  Boxes of the law: variables that hold a memory of the call's own, or a window; what keeps them.
-/
import Derived.Test.YtoelagfcapdfpaaLawW
namespace Go.Proofs.Ytoelagfcapdfpaa
open Go.RowKit

theorem below_step {a W b : World} (h : Below a.heap.size a W) (k : Below W.heap.size W b) : Below a.heap.size a b := h.trans (k.mono h.size)
theorem box_new {W b : World} {o : Obj} (h : Below (W.alloc o).heap.size (W.alloc o) b) : b.heap[W.heap.size]? = some o := (h.block _ (by simp)).trans (heap_alloc_new _ _)
theorem box_new_a {W b : World} {o o2 : Obj} (h : Below ((W.alloc o).alloc o2).heap.size ((W.alloc o).alloc o2) b) : b.heap[W.heap.size]? = some o := (h.block _ (by simp; omega)).trans (alloc_old _ (heap_alloc_new _ _))
theorem box_new_b {W b : World} {o o2 : Obj} (h : Below ((W.alloc o).alloc o2).heap.size ((W.alloc o).alloc o2) b) : b.heap[W.heap.size + 1]? = some o2 := (h.block _ (by simp)).trans (by simpa using heap_alloc_new (W.alloc o) o2)
theorem box_new_d {W b : World} {o : Obj} (h : Below (W.alloc o).drew.heap.size (W.alloc o).drew b) : b.heap[W.heap.size]? = some o := box_new (W := W) (o := o) ⟨h.os, h.tape, h.output, h.size, h.block⟩
theorem box_new_da {W b : World} {o o2 : Obj} (h : Below ((W.alloc o).alloc o2).drew.heap.size ((W.alloc o).alloc o2).drew b) : b.heap[W.heap.size]? = some o := box_new_a (W := W) (o := o) (o2 := o2) ⟨h.os, h.tape, h.output, h.size, h.block⟩
theorem box_new_db {W b : World} {o o2 : Obj} (h : Below ((W.alloc o).alloc o2).drew.heap.size ((W.alloc o).alloc o2).drew b) : b.heap[W.heap.size + 1]? = some o2 := box_new_b (W := W) (o := o) (o2 := o2) ⟨h.os, h.tape, h.output, h.size, h.block⟩
theorem box_keep {W b : World} {o : Obj} {g : Nat} (z : W.heap[g]? = some o) (h : Below W.heap.size W b) : b.heap[g]? = some o := (h.block _ (Array.getElem?_eq_some_iff.1 z).1).trans z
theorem box_keep_a {W b : World} {o x : Obj} {g : Nat} (z : W.heap[g]? = some o) (h : Below (W.alloc x).heap.size (W.alloc x) b) : b.heap[g]? = some o := box_keep (alloc_old x z) h
theorem box_keep_b {W b : World} {o x y : Obj} {g : Nat} (z : W.heap[g]? = some o) (h : Below ((W.alloc x).alloc y).heap.size ((W.alloc x).alloc y) b) : b.heap[g]? = some o := box_keep (alloc_old y (alloc_old x z)) h
theorem heap_set_same (w : World) (B off : Nat) (cells : Array Value) (t : TypeId) (u : Value) (h : w.heap[B]? = some (.cells cells t (0, 0))) (_ho : off < cells.size) :
    (w.setCell ⟨B, off, none⟩ u).heap[B]? = some (.cells (cells.setIfInBounds off u) t (0, 0)) := heap_setCell_same w B off cells t u h
theorem one_set {w : World} {g : Nat} {u v : Value} {t : TypeId} (h : w.heap[g]? = some (.cells #[u] t)) : (w.setCell ⟨g, 0, none⟩ v).heap[g]? = some (.cells #[v] t) := by
  have := heap_set_same w g 0 #[u] t v h (by simp)
  simpa using this
theorem four_set {w : World} {g : Nat} {u0 u1 u2 u3 v0 v1 v2 v3 : Value} {t : TypeId} (h : w.heap[g]? = some (.cells #[u0, u1, u2, u3] t)) :
    ((((w.setCell ⟨g, 0, none⟩ v0).setCell ⟨g, 1, none⟩ v1).setCell ⟨g, 2, none⟩ v2).setCell ⟨g, 3, none⟩ v3).heap[g]? = some (.cells #[v0, v1, v2, v3] t) := by
  have h1 := heap_set_same w g 0 _ t v0 h (by simp)
  have h2 := heap_set_same _ g 1 _ t v1 h1 (by simp)
  have h3 := heap_set_same _ g 2 _ t v2 h2 (by simp)
  have h4 := heap_set_same _ g 3 _ t v3 h3 (by simp)
  simpa using h4
theorem own_none (w : World) (lo hi : Nat) : OwnM w lo hi (.slice none 0 0) [] :=
  ⟨[], rfl, ⟨⟨by simp, .inl ⟨rfl, rfl⟩⟩, fun g h => by simp [Value.ownBlock] at h⟩, fun i h => by simp at h, fun i j x y _ h => by simp at h⟩

/-- Block g is a variable that holds the memory R, which lies from lo to hi; all of it behind b. -/
structure MBox (W : World) (b g lo hi : Nat) (v : Value) (R : List (List Int)) : Prop where
  box : W.heap[g]? = some (.cells #[v] 31)
  own : OwnM W lo hi v R
  bg : b ≤ g
  blo : b ≤ lo
  gW : g < W.heap.size
  hiW : hi ≤ W.heap.size
  loW : lo ≤ W.heap.size
  out : g < lo ∨ hi ≤ g
section
variable {W W' : World} {b g lo hi : Nat} {v : Value} {R : List (List Int)}
theorem MBox.below (h : MBox W b g lo hi v R) (k : Below W.heap.size W W') : MBox W' b g lo hi v R :=
  ⟨(k.block _ h.gW).trans h.box, h.own.below k, h.bg, h.blo, Nat.lt_of_lt_of_le h.gW k.size, Nat.le_trans h.hiW k.size, Nat.le_trans h.loW k.size, h.out⟩
theorem MBox.span (h : MBox W b g lo hi v R) {l2 h2 : Nat} (k : Span l2 h2 W W') (h1 : hi ≤ l2 ∨ h2 ≤ lo) (h3 : g < l2 ∨ h2 ≤ g) : MBox W' b g lo hi v R :=
  ⟨(k.block _ h.gW h3).trans h.box, h.own.span k h1, h.bg, h.blo, Nat.lt_of_lt_of_le h.gW k.size, Nat.le_trans h.hiW k.size, Nat.le_trans h.loW k.size, h.out⟩
theorem MBox.marked {R' : List (List Int)} (h : MBox W b g lo hi v R) (k : Span lo hi W W') (h1 : OwnM W' lo hi v R') : MBox W' b g lo hi v R' :=
  ⟨(k.block _ h.gW h.out).trans h.box, h1, h.bg, h.blo, Nat.lt_of_lt_of_le h.gW k.size, Nat.le_trans h.hiW k.size, Nat.le_trans h.loW k.size, h.out⟩
theorem MBox.cell (h : MBox W b g lo hi v R) : W.cell? ⟨g, 0, none⟩ = some v := one_cell h.box
theorem MBox.drew (h : MBox W b g lo hi v R) : MBox W.drew b g lo hi v R := ⟨h.box, h.own, h.bg, h.blo, h.gW, h.hiW, h.loW, h.out⟩
end
/-- Block g is a variable that holds a window. -/
structure WBox (W : World) (b g : Nat) (p0 p1 p2 p3 : Int) : Prop where
  box : W.heap[g]? = some (.cells #[.int .i64 p0, .int .i64 p1, .int .i64 p2, .int .i64 p3] 33)
  bg : b ≤ g
  gW : g < W.heap.size
section
variable {W W' : World} {b g : Nat} {p0 p1 p2 p3 : Int}
theorem WBox.below (h : WBox W b g p0 p1 p2 p3) (k : Below W.heap.size W W') : WBox W' b g p0 p1 p2 p3 := ⟨(k.block _ h.gW).trans h.box, h.bg, Nat.lt_of_lt_of_le h.gW k.size⟩
theorem WBox.span (h : WBox W b g p0 p1 p2 p3) {l2 h2 : Nat} (k : Span l2 h2 W W') (h3 : g < l2 ∨ h2 ≤ g) : WBox W' b g p0 p1 p2 p3 := ⟨(k.block _ h.gW h3).trans h.box, h.bg, Nat.lt_of_lt_of_le h.gW k.size⟩
theorem WBox.cells (h : WBox W b g p0 p1 p2 p3) : W.cell? ⟨g, 0, none⟩ = some (.int .i64 p0) ∧ W.cell? ⟨g, 1, none⟩ = some (.int .i64 p1) ∧ W.cell? ⟨g, 2, none⟩ = some (.int .i64 p2) ∧ W.cell? ⟨g, 3, none⟩ = some (.int .i64 p3) := four_cells h.box
end
theorem own_setCell {w : World} {lo hi g : Nat} {v u : Value} {m : List (List Int)} (h : OwnM w lo hi v m) (ho : g < lo ∨ hi ≤ g) : OwnM (w.setCell ⟨g, 0, none⟩ u) lo hi v m :=
  h.span (l2 := g) (h2 := g + 1) (Span.setCell (Span.refl g (g + 1) w) (p := ⟨g, 0, none⟩) (Nat.le_refl g) (Nat.lt_succ_self g) u) (by omega)
theorem MBox.mk' {W : World} {b g lo hi : Nat} {v : Value} {R : List (List Int)} (h : W.heap[g]? = some (.cells #[v] 31)) (ho : OwnM W lo hi v R) (bg : b ≤ g) (blo : b ≤ lo) (hiW : hi ≤ W.heap.size) (loW : lo ≤ W.heap.size) (out : g < lo ∨ hi ≤ g) : MBox W b g lo hi v R :=
  ⟨h, ho, bg, blo, (Array.getElem?_eq_some_iff.1 h).1, hiW, loW, out⟩
theorem al_le {w b : World} {o : Obj} (h : Below (w.alloc o).heap.size (w.alloc o) b) : w.heap.size + 1 ≤ b.heap.size := by
  have e : (w.alloc o).heap.size = w.heap.size + 1 := by simp
  rw [← e]
  exact h.size
theorem WBox.mk' {W : World} {b g : Nat} {p0 p1 p2 p3 : Int} (h : W.heap[g]? = some (.cells #[.int .i64 p0, .int .i64 p1, .int .i64 p2, .int .i64 p3] 33)) (bg : b ≤ g) : WBox W b g p0 p1 p2 p3 :=
  ⟨h, bg, (Array.getElem?_eq_some_iff.1 h).1⟩
theorem own_al {w w' : World} {o : Obj} {hi : Nat} {v : Value} {m : List (List Int)} (h : OwnM w' (w.alloc o).heap.size hi v m) : OwnM w' (w.heap.size + 1) hi v m := by
  have e : (w.alloc o).heap.size = w.heap.size + 1 := by simp
  rw [e] at h
  exact h
/-- Memories that are answered are small. -/
def Small (R : List (List Int)) : Prop := R.length ≤ 16 ∧ ∀ r ∈ R, r.length ≤ 64
theorem total_small : ∀ (R : List (List Int)), (∀ r ∈ R, r.length ≤ 64) → total R ≤ 64 * R.length
  | [], _ => by simp [total]
  | r :: R, h => by
    have h1 := h r (by simp)
    have h2 := total_small R (fun q hq => h q (by simp [hq]))
    have e : total (r :: R) = r.length + total R := by simp [total]
    rw [e, List.length_cons]
    omega
theorem Small.tot {R : List (List Int)} (h : Small R) : R.length ≤ 2097152 ∧ total R ≤ 2097152 ∧ R.length ≤ maxLen := by
  have h1 := total_small R h.2
  have h2 := h.1
  refine ⟨by omega, by omega, ?_⟩
  simp only [maxLen]
  omega
theorem mark1_calls (A : Option Addr) (c lo hi : Nat) (m : List (List Int)) (w : World) (ho : OwnM w lo hi (.slice A m.length c) m) (hn : m.length ≤ 2097152) (hs : total m ≤ 2097152) (hB : lo ≤ w.heap.size) (hH : hi ≤ w.heap.size) :
    Calls Try.prog 42 #[.agg #[.slice A m.length c], .int .i64 1] w fun e w' => e = .returned (.int .i64 (1 + total m)) ∧ OwnM w' lo hi (.slice A m.length c) (marksM 1 m) ∧ Span lo hi w w' := by
  have h := markMemory_calls A c lo hi m 1 w ho hn hs (by omega) hB hH
  exact h
theorem held1_calls (A : Option Addr) (c lo hi : Nat) (m : List (List Int)) (w : World) (ho : OwnM w lo hi (.slice A m.length c) (marksM 1 m)) (hn : m.length ≤ 2097152) (hs : total m ≤ 2097152) :
    Calls Try.prog 68 #[.agg #[.slice A m.length c], .int .i64 1] w fun e w' => e = .returned (.int .i64 (1 + total m)) ∧ Below w.heap.size w w' := by
  have hr : Rd2 w w.heap.size A (marksM 1 m) := OwnM.reads (c := c) (lo := lo) (hi := hi) (by rw [marksM_len]; exact ho)
  exact heldMemory_calls A c m 1 w hr hn hs (by omega)
theorem eqSame_calls (A B : Option Addr) (c d : Nat) (m : List (List Int)) (w : World) (hr : Rd2 w w.heap.size A m) (hq : Rd2 w w.heap.size B m) (hn : m.length ≤ maxLen) :
    Calls Try.prog 24 #[.agg #[.slice A m.length c], .agg #[.slice B m.length d]] w fun e w' => e = .returned (.bool true) ∧ Below w.heap.size w w' := by
  have h := eqMemory_calls A B c d m m w hr hq hn hn
  rw [show decide (m = m) = true by simp] at h
  exact h
end Go.Proofs.Ytoelagfcapdfpaa
