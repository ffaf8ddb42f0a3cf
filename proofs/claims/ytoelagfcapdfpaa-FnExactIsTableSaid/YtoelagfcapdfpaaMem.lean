/-
  Own words for memories: a slice of slices of bytes that can be read, and one that a call has made; nothing of the program is named here but two types' numbers.
-/
import Derived.Test.YtoelagfcapdfpaaBase
namespace Go.Proofs.Ytoelagfcapdfpaa
open Go.RowKit

/-- The slice with address A reads as the rows m. -/
def Rd2 (w : World) (B : Nat) (A : Option Addr) (m : List (List Int)) : Prop :=
  ∃ hs : List Value, hs.length = m.length ∧ Rd w B A hs ∧ ∀ i (h : i < m.length), ∃ Ai ci, hs[i]? = some (.slice Ai m[i].length ci) ∧ m[i].length ≤ ci ∧ ci ≤ maxLen ∧ Rd w B Ai (intV .u8 m[i])
section
variable {w w' : World} {B B' : Nat} {A : Option Addr} {m : List (List Int)}
theorem Rd2.keep (h : Rd2 w B A m) (hk : ∀ p : Addr, p.block < B → w'.cell? p = w.cell? p) : Rd2 w' B A m := by
  obtain ⟨hs, h1, h2, h3⟩ := h
  refine ⟨hs, h1, h2.keep hk, fun i hi => ?_⟩
  obtain ⟨Ai, ci, a, b, c, d⟩ := h3 i hi
  exact ⟨Ai, ci, a, b, c, d.keep hk⟩
theorem Rd2.more (h : Rd2 w B A m) (hB : B ≤ B') : Rd2 w B' A m := by
  obtain ⟨hs, h1, h2, h3⟩ := h
  refine ⟨hs, h1, h2.more hB, fun i hi => ?_⟩
  obtain ⟨Ai, ci, a, b, c, d⟩ := h3 i hi
  exact ⟨Ai, ci, a, b, c, d.more hB⟩
theorem Rd2.below (h : Rd2 w B A m) (hb : Below B w w') : Rd2 w' B A m := h.keep fun _ hp => hb.cell hp
theorem Rd2.drewN (h : Rd2 w B A m) (k : Nat) : Rd2 (w.drewN k) B A m := h
theorem Rd2.alloc (h : Rd2 w B A m) (hB : B ≤ w.heap.size) (o : Obj) : Rd2 (w.alloc o) B A m := h.keep fun p hp => World.cell?_alloc_lt w o p (by omega)
/-- The header of row i, and what it leads to. -/
theorem Rd2.at_ (h : Rd2 w B A m) {i : Nat} (hi : i < m.length) : ∃ b off Ai ci, A = some ⟨b, off, none⟩ ∧ b < B ∧ w.cell? ⟨b, off + i, none⟩ = some (.slice Ai m[i].length ci) ∧ m[i].length ≤ ci ∧ ci ≤ maxLen ∧ Rd w B Ai (intV .u8 m[i]) := by
  obtain ⟨hs, h1, h2, h3⟩ := h
  obtain ⟨Ai, ci, a, hc, hm, d⟩ := h3 i hi
  have hih : i < hs.length := by omega
  obtain ⟨b, off, e, hb, hcell⟩ := h2.at_ hih
  rw [List.getElem?_eq_getElem hih] at a
  injection a with a
  exact ⟨b, off, Ai, ci, e, hb, by rw [hcell, a], hc, hm, d⟩
end

/-- Only blocks from lo to hi have turned, of those that were there. -/
structure Span (lo hi : Nat) (w w' : World) : Prop where
  os : w'.os = w.os
  tape : w'.tape = w.tape
  output : w'.output = w.output
  size : w.heap.size ≤ w'.heap.size
  block : ∀ k, k < w.heap.size → (k < lo ∨ hi ≤ k) → w'.heap[k]? = w.heap[k]?
theorem Span.refl (lo hi : Nat) (w : World) : Span lo hi w w := ⟨rfl, rfl, rfl, Nat.le_refl _, fun _ _ _ => rfl⟩
theorem Span.trans {lo hi : Nat} {a b c : World} (h : Span lo hi a b) (k : Span lo hi b c) : Span lo hi a c :=
  ⟨k.os.trans h.os, k.tape.trans h.tape, k.output.trans h.output, Nat.le_trans h.size k.size, fun j hj hr => (k.block j (Nat.lt_of_lt_of_le hj h.size) hr).trans (h.block j hj hr)⟩
theorem Span.of_below {lo hi : Nat} {w w' : World} (h : Below w.heap.size w w') : Span lo hi w w' := ⟨h.os, h.tape, h.output, h.size, fun k hk _ => h.block k hk⟩
theorem Span.drewN {lo hi : Nat} {a w : World} (h : Span lo hi a w) (n : Nat) : Span lo hi a (w.drewN n) := ⟨h.os, h.tape, h.output, h.size, h.block⟩
theorem Span.of_grown {lo hi : Nat} {w w' : World} {row : Option Nat} (h : w.grownBy w' row) (hr : ∀ g, row = some g → lo ≤ g ∧ g < hi) : Span lo hi w w' :=
  ⟨h.os, h.tape, h.output, h.size, fun k hk ho => h.block k hk (fun e => by have := hr k e.symm; omega)⟩
theorem Span.mono {lo hi lo' hi' : Nat} {w w' : World} (h : Span lo hi w w') (h1 : lo' ≤ lo) (h2 : hi ≤ hi') : Span lo' hi' w w' :=
  ⟨h.os, h.tape, h.output, h.size, fun k hk ho => h.block k hk (by omega)⟩
theorem Span.below {lo hi : Nat} {w w' : World} (h : Span lo hi w w') (hl : lo ≤ w.heap.size) : Below lo w w' := ⟨h.os, h.tape, h.output, h.size, fun k hk => h.block k (by omega) (.inl hk)⟩

/-- A row of bytes of the call's own, its block from lo to hi. -/
def OwnR (w : World) (lo hi : Nat) (e : TypeId) (v : Value) (xs : List Value) : Prop := w.ownsRow lo e 1 v xs.length xs ∧ ∀ g, v.ownBlock = some g → g < hi
section
variable {w w' : World} {lo hi : Nat} {e : TypeId} {v : Value} {xs : List Value}
theorem OwnR.new (h : w'.ownsRow lo e 1 v xs.length xs) : OwnR w' lo w'.heap.size e v xs := ⟨h, fun g hg => (h.lt g hg).2⟩
theorem OwnR.span (h : OwnR w lo hi e v xs) {l2 h2 : Nat} (hs : Span l2 h2 w w') (ho : hi ≤ l2 ∨ h2 ≤ lo) : OwnR w' lo hi e v xs := by
  refine ⟨?_, h.2⟩
  rcases hv : v.ownBlock with _ | g
  · rcases h.1.2 with ⟨rfl, hn⟩ | ⟨g', cap, cur, rfl, _⟩
    · exact ⟨h.1.1, .inl ⟨rfl, hn⟩⟩
    · simp [Value.ownBlock] at hv
  · have hg := h.1.lt g hv
    have hh := h.2 g hv
    rcases h.1.2 with ⟨rfl, hn⟩ | ⟨g', cap, cur, rfl, hb, hc, r1, r2, r3, r4⟩
    · simp [Value.ownBlock] at hv
    · have hgg : g' = g := by simpa [Value.ownBlock] using hv
      subst hgg
      exact ⟨h.1.1, .inr ⟨g', cap, cur, rfl, hb, (hs.block g' hg.2 (by omega)).trans hc, r1, r2, r3, r4⟩⟩
theorem OwnR.below (h : OwnR w lo hi e v xs) (hb : Below w.heap.size w w') : OwnR w' lo hi e v xs := h.span (Span.of_below (lo := hi) (hi := hi) hb) (.inl (Nat.le_refl _))
theorem OwnR.drewN (h : OwnR w lo hi e v xs) (n : Nat) : OwnR (w.drewN n) lo hi e v xs := h
theorem OwnR.mono {lo' hi' : Nat} (h : OwnR w lo hi e v xs) (h1 : lo' ≤ lo) (h2 : hi ≤ hi') : OwnR w lo' hi' e v xs := by
  refine ⟨⟨h.1.1, ?_⟩, fun g hg => Nat.lt_of_lt_of_le (h.2 g hg) h2⟩
  rcases h.1.2 with h0 | ⟨g', cap, cur, r0, hb, r⟩
  · exact .inl h0
  · exact .inr ⟨g', cap, cur, r0, Nat.le_trans h1 hb, r⟩
end

/-- A memory of the call's own: its rows do not share. -/
def OwnM (w : World) (lo hi : Nat) (v : Value) (m : List (List Int)) : Prop :=
  ∃ hs : List Value, hs.length = m.length ∧ OwnR w lo hi 64 v hs ∧ (∀ i (h : i < m.length), ∃ x, hs[i]? = some x ∧ OwnR w lo hi 5 x (intV .u8 m[i])) ∧
    ∀ (i j : Nat) (x y : Value), i < j → hs[i]? = some x → hs[j]? = some y → x.ownBlock = none ∨ x.ownBlock ≠ y.ownBlock
section
variable {w w' : World} {lo hi : Nat} {v : Value} {m : List (List Int)}
theorem OwnM.span (h : OwnM w lo hi v m) {l2 h2 : Nat} (hs : Span l2 h2 w w') (ho : hi ≤ l2 ∨ h2 ≤ lo) : OwnM w' lo hi v m := by
  obtain ⟨hd, a, b, c, d⟩ := h
  refine ⟨hd, a, b.span hs ho, fun i hi => ?_, d⟩
  obtain ⟨x, hx, hr⟩ := c i hi
  exact ⟨x, hx, hr.span hs ho⟩
theorem OwnM.below (h : OwnM w lo hi v m) (hb : Below w.heap.size w w') : OwnM w' lo hi v m := h.span (Span.of_below (lo := hi) (hi := hi) hb) (.inl (Nat.le_refl _))
theorem OwnM.drewN (h : OwnM w lo hi v m) (n : Nat) : OwnM (w.drewN n) lo hi v m := h
theorem OwnM.mono {lo' hi' : Nat} (h : OwnM w lo hi v m) (h1 : lo' ≤ lo) (h2 : hi ≤ hi') : OwnM w lo' hi' v m := by
  obtain ⟨hd, a, b, c, d⟩ := h
  refine ⟨hd, a, b.mono h1 h2, fun i hi => ?_, d⟩
  obtain ⟨x, hx, hr⟩ := c i hi
  exact ⟨x, hx, hr.mono h1 h2⟩
theorem OwnM.form (h : OwnM w lo hi v m) : ∃ A c, v = .slice A m.length c ∧ m.length ≤ c := by
  obtain ⟨hd, a, b, c, d⟩ := h
  obtain ⟨A, cp, e⟩ := own_form b.1
  subst e
  exact ⟨A, cp, by rw [a], by rw [← a]; exact own_cap b.1⟩
theorem own_le {base : Nat} {e : TypeId} {A : Option Addr} {n c : Nat} {xs : List Value} (h : w.ownsRow base e 1 (.slice A n c) n xs) : n ≤ c ∧ c ≤ maxLen := by
  rcases h.2 with ⟨hv, hn⟩ | ⟨g, cap, cur, hv, _, _, hnc, hm, _⟩
  · injection hv with _ h1 h2; subst h2; exact ⟨by omega, Nat.zero_le _⟩
  · injection hv with _ h1 h2; subst h2; exact ⟨hnc, hm⟩
theorem OwnM.reads {A : Option Addr} {c : Nat} (h : OwnM w lo hi (.slice A m.length c) m) : Rd2 w w.heap.size A m := by
  obtain ⟨hd, a, b, r, d⟩ := h
  refine ⟨hd, a, ?_, fun i hi => ?_⟩
  · have hb := b.1
    rw [a] at hb
    exact Rd.of_own hb
  · obtain ⟨x, hx, hr⟩ := r i hi
    obtain ⟨Ai, ci, e⟩ := own_form hr.1
    subst e
    have hr1 := hr.1
    rw [intV_len] at hr1 hx
    obtain ⟨q1, q2⟩ := own_le hr1
    exact ⟨Ai, ci, hx, q1, q2, Rd.of_own hr1⟩
end
end Go.Proofs.Ytoelagfcapdfpaa
