/-
  Two lists of windows that grow side by side, each in a variable of its own.
-/
import Derived.Test.YtomebbapjolnlaaRpJ
import Derived.Test.YtomebbapjolnlaaWin2
import Derived.Maps.AppendAt
namespace Go.Proofs.Ytomebbapjolnlaa
open Go.RowKit

/-- Two variables of ropes, at p1 and p2, and what they hold. -/
structure SP (w0 W : World) (p1 g1 c1 : Nat) (F1 : List Win) (p2 g2 c2 : Nat) (F2 : List Win) : Prop where
  b : Below w0.heap.size w0 W
  f : W.heap[p1]? = some (.cells #[.slice (some ⟨g1, 0, none⟩) F1.length c1] 36)
  s : W.heap[p2]? = some (.cells #[.slice (some ⟨g2, 0, none⟩) F2.length c2] 36)
  o1 : OwnW W w0.heap.size W.heap.size (.slice (some ⟨g1, 0, none⟩) F1.length c1) F1
  o2 : OwnW W w0.heap.size W.heap.size (.slice (some ⟨g2, 0, none⟩) F2.length c2) F2
  ne : g1 ≠ g2
  np : p1 ≠ p2
  q1 : w0.heap.size ≤ p1
  q2 : w0.heap.size ≤ p2
section
variable {w0 W W' : World} {p1 g1 c1 p2 g2 c2 : Nat} {F1 F2 : List Win}
theorem SP.below (h : SP w0 W p1 g1 c1 F1 p2 g2 c2 F2) (hb : Below W.heap.size W W') : SP w0 W' p1 g1 c1 F1 p2 g2 c2 F2 :=
  ⟨h.b.trans (hb.mono h.b.size), (hb.block _ (Array.getElem?_eq_some_iff.1 h.f).1).trans h.f, (hb.block _ (Array.getElem?_eq_some_iff.1 h.s).1).trans h.s, (h.o1.below hb).mono (Nat.le_refl _) hb.size, (h.o2.below hb).mono (Nat.le_refl _) hb.size, h.ne, h.np, h.q1, h.q2⟩
theorem SP.swap (h : SP w0 W p1 g1 c1 F1 p2 g2 c2 F2) : SP w0 W p2 g2 c2 F2 p1 g1 c1 F1 := ⟨h.b, h.s, h.f, h.o2, h.o1, h.ne.symm, h.np.symm, h.q2, h.q1⟩
theorem SP.cf (h : SP w0 W p1 g1 c1 F1 p2 g2 c2 F2) : W.cell? ⟨p1, 0, none⟩ = some (.slice (some ⟨g1, 0, none⟩) F1.length c1) ∧ W.frozen? ⟨p1, 0, none⟩ = false := ⟨one_cell h.f, one_frozen h.f⟩
/-- One window more in the first list: what stands behind the append and the store. -/
theorem SP.add {W5 : World} (h : SP w0 W p1 g1 c1 F1 p2 g2 c2 F2) {cs : List Value} (hwc : WC cs F1 F1.length) (hl : cs.length = F1.length * 4) {x : Win} {g5 c5 : Nat}
    (hown : W5.ownsRow w0.heap.size 90 4 (.slice (some ⟨g5, 0, none⟩) (F1.length + 1) c5) (F1.length + 1) (cs ++ cells4 x)) (hg : W.grownBy W5 (some g1)) (hat : g5 = g1 ∨ g5 = W.heap.size) (ho1 : W.ownsRow w0.heap.size 90 4 (.slice (some ⟨g1, 0, none⟩) F1.length c1) F1.length cs) :
    SP w0 (W5.setCell ⟨p1, 0, none⟩ (.slice (some ⟨g5, 0, none⟩) (F1.length + 1) c5)) p1 g5 c5 (F1 ++ [x]) p2 g2 c2 F2 := by
  have hF : (F1 ++ [x]).length = F1.length + 1 := by simp
  obtain ⟨cs2, ho2, hwc2⟩ := h.o2
  have n1 := ne_some (own_far ho1 h.f (by decide))
  have n2 := ne_some (own_far ho1 h.s (by decide))
  have f5 := block_grown hg h.f (by simpa [Value.ownBlock] using n1)
  have s5 := block_grown hg h.s (by simpa [Value.ownBlock] using n2)
  have m1 := ne_some (own_far hown f5 (by decide))
  have hl1 := ho1.lt g1 rfl
  have hb5 : Below w0.heap.size w0 W5 := h.b.grown hg h.b.size (fun g e => by injection e with e; omega)
  have k2 : W5.ownsRow w0.heap.size 90 4 (.slice (some ⟨g2, 0, none⟩) F2.length c2) F2.length cs2 := ho2.1.kept hg (.inr (by simp [Value.ownBlock]; exact fun e => h.ne e.symm))
  have m2 := ne_some (own_far k2 f5 (by decide))
  have hl2 := ho2.1.lt g2 rfl
  refine ⟨hb5.setCell (p := ⟨p1, 0, none⟩) h.q1 _, by rw [hF]; exact one_set f5, (Below.heap_setCell W5 ⟨p1, 0, none⟩ _ p2 h.np.symm).trans s5, ?_, ?_, ?_, h.np, h.q1, h.q2⟩
  · rw [hF]
    refine ⟨_, OwnS.new (by rw [hF]; exact hown.kept (grown_setCell _ _ _) (.inr m1)), ?_⟩
    exact hwc.snoc hl x
  · exact ⟨cs2, OwnS.new (k2.kept (grown_setCell _ _ _) (.inr m2)), hwc2⟩
  · rcases hat with rfl | rfl
    · exact h.ne
    · omega
end
theorem step_append_at {P : Program} {ops : Array Oper} {o : Oper} {a : Act} {w : World} {K : Act → World → Prop} {Q : Exit → Act → World → Prop} {E : Prop}
    (hg : o.guard = none) (s x : Operand) (t : TypeId) (hop : o.op = Op.call { callee := Callee.builtin Builtin.append, args := #[s, x], argTypes := #[t, t] })
    (base : Nat) (e : TypeId) (i : TypeInfo) (z : Value) (size bytes : Nat) (h1 : P.underlying t = some (.slice e)) (h2 : P.info? e = some i) (h3 : i.zero = some z) (h4 : i.size = size) (h5 : i.bytes = bytes) (h6 : z.cells.size = size) (h7 : 0 < size)
    (v : Value) (n : Nat) (xs : List Value) (hs : a.eval s = v) (hown : w.ownsRow base e size v n xs)
    (ad : Addr) (m c : Nat) (news : List Value) (hx : a.eval x = .slice (some ad) m c) (hn : news.length = m * size) (hc : ∀ j u, news[j]? = some u → w.cell? (ad.add j) = some u) (h1c : ∀ u ∈ news, u.oneCell' = true)
    (b1 : n + m ≤ maxLen) (b2 : (n + m) * bytes ≤ 140737488355328) (b3 : base ≤ w.heap.size)
    (hK : ∀ v' w', w'.ownsRow base e size v' (n + m) (xs ++ news) → w.grownBy w' v.ownBlock → (v'.ownBlock = v.ownBlock ∨ v'.ownBlock = some w.heap.size) → K (a.put o.dst v') w') :
    if Region.wanted o (yielded ops a.tmps) = true then Oper.wp P o a w K Q else E := by
  have hw : Region.wanted o (yielded ops a.tmps) = true := by simp [Region.wanted, hg]
  rw [if_pos hw]
  obtain ⟨v', w', hrun, r1, r2, _, r4⟩ := run_append_own_at (P := P) w base t o.type e i z size bytes h1 h2 h3 h4 h5 h6 h7 v n xs hown ad m c news hn hc h1c b1 b2 b3
  unfold Oper.wp
  simp [execOp, hop, resolve, invoke, builtin, hs, hx, hrun, Result.andThen]
  exact hK v' w' r1 r2 r4
end Go.Proofs.Ytomebbapjolnlaa
