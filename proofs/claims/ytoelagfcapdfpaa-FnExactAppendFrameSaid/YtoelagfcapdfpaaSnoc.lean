/-
  A memory of the call's own gets one more row: what 'out.Arrays = append(out.Arrays, row)' leaves.
-/
import Derived.Test.YtoelagfcapdfpaaOwnStep
namespace Go.Proofs.Ytoelagfcapdfpaa
open Go.RowKit

theorem snoc_step {wr w1 w2 : World} {base b : Nat} {Ao : Option Addr} {co k : Nat} {mm : List (List Int)} {xs : List Int} {hd : List Value} {gg cap1 gg2 cap2 : Nat} {o2 : Obj} {row1 : Option Nat}
    (hbase : base ≤ wr.heap.size) (hbb : base ≤ b) (gb : wr.heap[b]? = some (.cells #[.slice Ao k co] 31))
    (ho : wr.ownsRow base 64 1 (.slice Ao k co) k hd) (hrw : Rows wr base wr.heap.size hd mm)
    (hown1 : w1.ownsRow wr.heap.size 5 1 (.slice (some ⟨gg, 0, none⟩) xs.length cap1) xs.length (intV .u8 xs)) (hgrow1 : wr.grownBy w1 row1) (hr1 : ∀ g, row1 = some g → wr.heap.size ≤ g)
    (hown2 : w2.ownsRow base 64 1 (.slice (some ⟨gg2, 0, none⟩) (k + 1) cap2) (k + 1) (hd ++ [.slice (some ⟨gg, 0, none⟩) xs.length cap1])) (hgrow2 : (w1.alloc o2).grownBy w2 (Value.slice Ao k co).ownBlock) :
    (∀ a, Below base a wr → Below base a (w2.setCell ⟨b, 0, none⟩ (.slice (some ⟨gg2, 0, none⟩) (k + 1) cap2))) ∧
      (w2.setCell ⟨b, 0, none⟩ (.slice (some ⟨gg2, 0, none⟩) (k + 1) cap2)).heap[b]? = some (.cells #[.slice (some ⟨gg2, 0, none⟩) (k + 1) cap2] 31) ∧
      (∀ (g : Nat) (cs : Array Value) (t : TypeId), wr.heap[g]? = some (.cells cs t) → 64 ≠ t → g ≠ b → (w2.setCell ⟨b, 0, none⟩ (.slice (some ⟨gg2, 0, none⟩) (k + 1) cap2)).heap[g]? = some (.cells cs t)) ∧
      OwnM (w2.setCell ⟨b, 0, none⟩ (.slice (some ⟨gg2, 0, none⟩) (k + 1) cap2)) base (w2.setCell ⟨b, 0, none⟩ (.slice (some ⟨gg2, 0, none⟩) (k + 1) cap2)).heap.size (.slice (some ⟨gg2, 0, none⟩) (k + 1) cap2) (mm ++ [xs]) := by
  have lb := (Array.getElem?_eq_some_iff.1 gb).1
  have s1 : wr.heap.size ≤ w1.heap.size := hgrow1.size
  have s2 : w1.heap.size + 1 ≤ w2.heap.size := by have := hgrow2.size; simpa using this
  have mid : ∀ (g : Nat) (o : Obj), wr.heap[g]? = some o → (Value.slice Ao k co).ownBlock ≠ some g → w2.heap[g]? = some o := fun g o h hn => by
    have hl := (Array.getElem?_eq_some_iff.1 h).1
    exact block_grown hgrow2 (alloc_old _ (block_grown hgrow1 h (fun e => by have := hr1 g e; omega))) hn
  have n3 := ne_some (own_far ho gb (by decide))
  have e3 := mid _ _ gb n3
  have hn2 : (Value.slice (some ⟨gg2, 0, none⟩) (k + 1) cap2).ownBlock ≠ some b := ne_some (own_far hown2 e3 (by decide))
  refine ⟨fun a hb => ?_, one_set e3, fun g cs t h ht hg => ?_, ?_⟩
  · have b1 : Below base a w1 := hb.grown hgrow1 hbase (fun g e => by have := hr1 g e; omega)
    have b2 : Below base a w2 := (b1.alloc (by omega) _).grown hgrow2 (by simp; omega) (fun g e => (ho.lt g e).1)
    exact b2.setCell (by simp; omega) _
  · exact block_grown (grown_setCell _ _ _) (mid _ _ h (ne_some (own_far ho h ht))) (fun e => by injection e with e; exact hg e.symm)
  · have hnew : OwnR w1 wr.heap.size w1.heap.size 5 (.slice (some ⟨gg, 0, none⟩) xs.length cap1) (intV .u8 xs) := OwnR.new (by rw [intV_len]; exact hown1)
    have r1 : Rows w1 base wr.heap.size hd mm := hrw.of_grown hgrow1 (fun g e => .inl (hr1 g e))
    have r2 : Rows w1 base w1.heap.size (hd ++ [.slice (some ⟨gg, 0, none⟩) xs.length cap1]) (mm ++ [xs]) := r1.snoc hnew hbase s1
    have r3 : Rows (w1.alloc o2) base w1.heap.size (hd ++ [.slice (some ⟨gg, 0, none⟩) xs.length cap1]) (mm ++ [xs]) := r2.below ((Below.refl _ _).alloc (Nat.le_refl _) _)
    have r4 : Rows w2 base w1.heap.size (hd ++ [.slice (some ⟨gg, 0, none⟩) xs.length cap1]) (mm ++ [xs]) := r3.of_grown hgrow2 (fun g e => by
      right
      rcases ho.2 with ⟨hv, hn⟩ | ⟨g2', cap, cur, hv, _, hg2', _⟩
      · rw [hv] at e; simp [Value.ownBlock] at e
      · rw [hv] at e
        have e : g2' = g := by simpa [Value.ownBlock] using e
        subst e
        have hl := (Array.getElem?_eq_some_iff.1 hg2').1
        refine ⟨_, alloc_old _ (block_grown hgrow1 hg2' (fun e => by have := hr1 _ e; omega)), fun cs h => ?_⟩
        injection h with _ h
        exact absurd h (by decide))
    have r5 := r4.of_grown (grown_setCell w2 b (.slice (some ⟨gg2, 0, none⟩) (k + 1) cap2)) (fun g e => by
      injection e with e
      subst e
      exact .inr ⟨_, e3, fun cs h => by injection h with _ h; exact absurd h (by decide)⟩)
    have ho2 := hown2.kept (grown_setCell w2 b (.slice (some ⟨gg2, 0, none⟩) (k + 1) cap2)) (.inr hn2)
    have hl2 : (hd ++ [Value.slice (some ⟨gg, 0, none⟩) xs.length cap1]).length = k + 1 := by have := hown2.1; omega
    rw [World.size_setCell]
    exact (r5.mono (Nat.le_refl _) (by omega)).own ⟨by rw [hl2]; exact ho2, fun g e => (hown2.lt g e).2⟩
end Go.Proofs.Ytoelagfcapdfpaa
