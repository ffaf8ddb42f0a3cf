/-
  A braid of windows cut in two (impl).
-/
import Derived.Test.YtomebbapjolnlaaRpI
import Derived.Test.YtomebbapjolnlaaRpN0
namespace Go.Proofs.Ytomebbapjolnlaa
open Go.RowKit

/-- Values of the strand kind that stand for a list of windows, each a window or nothing. -/
def FlatL (cs : List Value) (Q : List Win) : Prop := ∃ Ls : List (List Win), Ls.length = cs.length ∧ (∀ (i : Nat) (u : Value) (P : List Win), cs[i]? = some u → Ls[i]? = some P → Flat u P) ∧ Ls.flatten = Q
theorem FlatL.nil : FlatL [] [] := ⟨[], rfl, fun i u P hu => by simp at hu, rfl⟩
theorem FlatL.snoc {cs : List Value} {Q P : List Win} {u : Value} (h : FlatL cs Q) (hu : Flat u P) : FlatL (cs ++ [u]) (Q ++ P) := by
  obtain ⟨Ls, hl, hf, rfl⟩ := h
  refine ⟨Ls ++ [P], by simp [hl], fun i v R hv hR => ?_, by simp⟩
  rcases Nat.lt_or_ge i cs.length with hi | hi
  · rw [List.getElem?_append_left hi] at hv
    rw [List.getElem?_append_left (by omega)] at hR
    exact hf i v R hv hR
  · rw [List.getElem?_append_right hi] at hv
    rw [List.getElem?_append_right (by omega), hl] at hR
    rcases Nat.eq_zero_or_pos (i - cs.length) with h0 | h0
    · rw [h0] at hv hR
      simp only [List.getElem?_cons_zero, Option.some.injEq] at hv hR
      rw [← hv, ← hR]; exact hu
    · rw [List.getElem?_eq_none (by simp; omega)] at hv
      exact absurd hv (by simp)
/-- Two rows of strands growing side by side. -/
structure S2 (w0 W : World) (n1 g1 c1 : Nat) (cs1 : List Value) (n2 g2 c2 : Nat) (cs2 : List Value) : Prop where
  b : Below w0.heap.size w0 W
  o1 : OwnS W w0.heap.size W.heap.size 95 1 (.slice (some ⟨g1, 0, none⟩) n1 c1) n1 cs1
  o2 : OwnS W w0.heap.size W.heap.size 95 1 (.slice (some ⟨g2, 0, none⟩) n2 c2) n2 cs2
  ne : g1 ≠ g2
section
variable {w0 W W' : World} {n1 g1 c1 n2 g2 c2 : Nat} {cs1 cs2 : List Value}
theorem S2.below (h : S2 w0 W n1 g1 c1 cs1 n2 g2 c2 cs2) (hb : Below W.heap.size W W') : S2 w0 W' n1 g1 c1 cs1 n2 g2 c2 cs2 :=
  ⟨h.b.trans (hb.mono h.b.size), (h.o1.below hb).mono (Nat.le_refl _) hb.size, (h.o2.below hb).mono (Nat.le_refl _) hb.size, h.ne⟩
theorem S2.swap (h : S2 w0 W n1 g1 c1 cs1 n2 g2 c2 cs2) : S2 w0 W n2 g2 c2 cs2 n1 g1 c1 cs1 := ⟨h.b, h.o2, h.o1, h.ne.symm⟩
theorem S2.add {W5 : World} (h : S2 w0 W n1 g1 c1 cs1 n2 g2 c2 cs2) {u : Value} {g5 c5 : Nat}
    (hown : W5.ownsRow w0.heap.size 95 1 (.slice (some ⟨g5, 0, none⟩) (n1 + 1) c5) (n1 + 1) (cs1 ++ [u])) (hg : W.grownBy W5 (some g1)) (hat : g5 = g1 ∨ g5 = W.heap.size) :
    S2 w0 W5 (n1 + 1) g5 c5 (cs1 ++ [u]) n2 g2 c2 cs2 := by
  have h1 := h.o1.1.lt g1 rfl
  have h2 := h.o2.1.lt g2 rfl
  refine ⟨h.b.grown hg h.b.size (fun g e => by injection e with e; omega), OwnS.new hown, OwnS.new (h.o2.1.kept hg (.inr (by simp [Value.ownBlock]; exact fun e => h.ne e.symm))), ?_⟩
  rcases hat with rfl | rfl
  · exact h.ne
  · omega
end
/-- One more strand is made room for. -/
theorem run_strand1 (w : World) (t1 : TypeId) (v1 : Value) : (Instr.buildSlice 112 1 #[(0, .iface t1 v1)]).run Try.prog w = .ok (.slice (some ⟨w.heap.size, 0, none⟩) 1 1) (w.alloc (.cells #[.iface t1 v1] 95)) := by
  have hi := info_strand
  cases hie : Try.prog.info? 95 with
  | none => simp [hie] at hi
  | some ie =>
    simp only [hie, Option.map_some, Option.some.injEq, Prod.mk.injEq] at hi
    obtain ⟨hz, hs, _⟩ := hi
    exact run_buildSlice w _ _ 1 _ _ ie _ Try.underlying112 hie hz (by rw [hs]; decide) (by rw [hs]; decide) (by rw [hs, show Array.range (1 * 1) = #[0] by decide]; simp [Instr.fill, Value.cells])
theorem Flat.form {u : Value} {Q : List Win} (h : Flat u Q) : ∃ t v, u = .iface t v := by
  rcases h with ⟨x, rfl, _⟩ | ⟨A, c, rfl, _⟩
  · exact ⟨_, _, rfl⟩
  · exact ⟨_, _, rfl⟩
theorem cell_one_new (w : World) (a : Value) (t : TypeId) : ∀ j u, [a][j]? = some u → (w.alloc (.cells #[a] t)).cell? ((⟨w.heap.size, 0, none⟩ : Addr).add j) = some u := fun j u h => by
  rcases Nat.eq_zero_or_pos j with rfl | h0
  · simp only [List.getElem?_cons_zero, Option.some.injEq] at h
    subst h
    simp [Addr.add, one_cell (heap_alloc_new w (.cells #[a] t))]
  · rw [List.getElem?_eq_none (by simp; omega)] at h
    exact absurd h (by simp)
/-- A row of strands is a strand. -/
theorem ownS_str {w : World} {lo hi n g c : Nat} {cs : List Value} {Q : List Win} (h : OwnS w lo hi 95 1 (.slice (some ⟨g, 0, none⟩) n c) n cs) (hf : FlatL cs Q) (hn : n ≤ 12) : Str w w.heap.size 2 (.iface 112 (.slice (some ⟨g, 0, none⟩) n c)) Q := by
  obtain ⟨Ls, hl, hfl, rfl⟩ := hf
  have hlen : cs.length = n := by have := h.1.1; omega
  rcases h.1.2 with ⟨hv, _⟩ | ⟨g', cap, cur, hv, hb, hg, hc, _⟩
  · injection hv with hA; cases hA
  · injection hv with hA hn' hcap
    injection hA with hA; injection hA with hA
    subst hcap; subst hA
    refine .inr ⟨some ⟨g, 0, none⟩, c, cs, Ls, by rw [hlen]; rfl, hl, by omega, by omega, ?_, fun i u P hu hP => (hfl i u P hu hP).str _ _ _, rfl⟩
    refine .inr ⟨g, 0, rfl, (Array.getElem?_eq_some_iff.1 hg).1, fun i u hu => ?_⟩
    have hi : i < cs.length := (List.getElem?_eq_some_iff.1 hu).1
    rw [Nat.zero_add, h.1.cellAt _ (by omega)]
    exact hu
end Go.Proofs.Ytomebbapjolnlaa
