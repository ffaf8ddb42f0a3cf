/-
  Two boxes at once, and rows of bytes that are answered: what keeps them.
-/
import Derived.Test.YtoelagfcapdfpaaBox
namespace Go.Proofs.Ytoelagfcapdfpaa
open Go.RowKit

theorem keep_set {w : World} {g h i : Nat} {o : Obj} {u : Value} (z : w.heap[g]? = some o) (hn : g ≠ h) : (w.setCell ⟨h, i, none⟩ u).heap[g]? = some o :=
  (Below.heap_setCell w ⟨h, i, none⟩ u g hn).trans z
theorem keep_set4 {w : World} {g h : Nat} {o : Obj} {u0 u1 u2 u3 : Value} (z : w.heap[g]? = some o) (hn : g ≠ h) : ((((w.setCell ⟨h, 0, none⟩ u0).setCell ⟨h, 1, none⟩ u1).setCell ⟨h, 2, none⟩ u2).setCell ⟨h, 3, none⟩ u3).heap[g]? = some o :=
  keep_set (keep_set (keep_set (keep_set z hn) hn) hn) hn
theorem heap_alloc_at {w : World} {g : Nat} {o : Obj} (h : w.heap.size = g) : (w.alloc o).heap[g]? = some o := by
  subst h
  exact heap_alloc_new w o
theorem own_setC {w : World} {lo hi g i : Nat} {v u : Value} {m : List (List Int)} (h : OwnM w lo hi v m) (ho : g < lo ∨ hi ≤ g) : OwnM (w.setCell ⟨g, i, none⟩ u) lo hi v m :=
  h.span (l2 := g) (h2 := g + 1) (Span.setCell (Span.refl g (g + 1) w) (p := ⟨g, i, none⟩) (Nat.le_refl g) (Nat.lt_succ_self g) u) (by omega)
theorem own_alc {w : World} {lo hi : Nat} {v : Value} {m : List (List Int)} {o : Obj} (h : OwnM w lo hi v m) : OwnM (w.alloc o) lo hi v m := h.below ((Below.refl _ _).alloc (Nat.le_refl _) o)
section
variable {w b : World} {o o2 : Obj} {hi : Nat} {v : Value} {m : List (List Int)}
theorem size_al2 : ((w.alloc o).alloc o2).heap.size = w.heap.size + 2 := by simp
theorem own_ald (h : OwnM b (w.alloc o).drew.heap.size hi v m) : OwnM b (w.heap.size + 1) hi v m := own_al (o := o) h
theorem own_al2 (h : OwnM b ((w.alloc o).alloc o2).heap.size hi v m) : OwnM b (w.heap.size + 2) hi v m := by
  rw [size_al2] at h
  exact h
theorem own_al2d (h : OwnM b ((w.alloc o).alloc o2).drew.heap.size hi v m) : OwnM b (w.heap.size + 2) hi v m := own_al2 (o := o) (o2 := o2) h
theorem al_led (h : Below (w.alloc o).drew.heap.size (w.alloc o).drew b) : w.heap.size + 1 ≤ b.heap.size := al_le (o := o) ⟨h.os, h.tape, h.output, h.size, h.block⟩
theorem al2_le (h : Below ((w.alloc o).alloc o2).heap.size ((w.alloc o).alloc o2) b) : w.heap.size + 2 ≤ b.heap.size := by
  have hs := h.size
  rw [size_al2] at hs
  exact hs
theorem al2_led (h : Below ((w.alloc o).alloc o2).drew.heap.size ((w.alloc o).alloc o2).drew b) : w.heap.size + 2 ≤ b.heap.size := al2_le (o := o) (o2 := o2) ⟨h.os, h.tape, h.output, h.size, h.block⟩
end

section
variable {w w' : World} {lo hi : Nat} {A : Option Addr} {c : Nat} {R : List Int}
theorem OwnR.rd (h : OwnR w lo hi 5 (.slice A R.length c) (intV .u8 R)) : Rd w w.heap.size A (intV .u8 R) := by
  have h1 := h.1
  rw [intV_len] at h1
  exact Rd.of_own h1
theorem OwnR.form {v : Value} (h : OwnR w lo hi 5 v (intV .u8 R)) : ∃ A c, v = .slice A R.length c := by
  have h1 := h.1
  rw [intV_len] at h1
  exact own_form h1
theorem eqB_calls (X Y : Option Addr) (cx cy : Nat) (w : World) (hx : Rd w w.heap.size X (intV .u8 R)) (hy : Rd w w.heap.size Y (intV .u8 R)) (hR : R.length ≤ 2097152) :
    Calls Try.prog 54 #[.slice X R.length cx, .slice Y R.length cy] w fun e w' => e = .returned (.bool true) ∧ Below w.heap.size w w' := by
  have hm : R.length ≤ maxLen := by simp only [maxLen]; omega
  refine (eqByteS_calls X Y cx cy R R w hx hy hm hm).mono ?_
  rintro e w' ⟨rfl, n, rfl⟩
  exact ⟨by simp, below_drewN (Below.refl _ _) n⟩
theorem markB1_calls (w : World) (ho : OwnR w lo hi 5 (.slice A R.length c) (intV .u8 R)) (hR : R.length ≤ 2097152) (hB : lo ≤ w.heap.size) :
    Calls Try.prog 55 #[.slice A R.length c, .int .i64 1] w fun e w' => e = .returned (.int .i64 (1 + R.length)) ∧ OwnR w' lo hi 5 (.slice A R.length c) (intV .u8 (marksB 1 R.length)) ∧ Span lo hi w w' := by
  have h1 := ho.1
  rw [intV_len] at h1
  refine (markByteS_calls A c lo R 1 w h1 hR (by omega) hB).mono ?_
  rintro e w' ⟨rfl, h2, hg⟩
  exact ⟨rfl, ⟨by rw [intV_len, marksB_len]; exact h2, ho.2⟩, Span.of_grown hg (fun g e => ⟨(h1.lt g e).1, ho.2 g e⟩)⟩
theorem heldB1_calls (w : World) (ho : OwnR w lo hi 5 (.slice A R.length c) (intV .u8 (marksB 1 R.length))) (hR : R.length ≤ 2097152) :
    Calls Try.prog 56 #[.slice A R.length c, .int .i64 1] w fun e w' => e = .returned (.int .i64 (1 + R.length)) ∧ Below w.heap.size w w' := by
  have h1 := ho.1
  rw [intV_len, marksB_len] at h1
  refine (heldByteS_calls A c R.length 1 w (Rd.of_own h1) hR (by omega)).mono ?_
  rintro e w' ⟨rfl, rfl⟩
  exact ⟨rfl, Below.refl _ _⟩
end
end Go.Proofs.Ytoelagfcapdfpaa
