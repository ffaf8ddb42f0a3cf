/-
  The model's copies: l2Own of spec.
-/
import Derived.Test.YtoelagfcapdfpaaBox
import Derived.Deep.DeepCutAuto
import Derived.OwnWalk
import Derived.Deep.RegionHeld3
import Derived.Deep.AppendLies
namespace Go.Proofs.Ytoelagfcapdfpaa
open Go.RowKit

theorem Rows.kept {w w' : World} {lo hi : Nat} {hs : List Value} {m : List (List Int)} (h : Rows w lo hi hs m) {row : Option Nat} (hg : w.grownBy w' row)
    (hr : ∀ (i : Nat) (x : Value), hs[i]? = some x → x.ownBlock = none ∨ x.ownBlock ≠ row) : Rows w' lo hi hs m :=
  ⟨h.len, fun i hi => by obtain ⟨x, hx, ho⟩ := h.row i hi; exact ⟨x, hx, ho.kept hg (hr i x hx)⟩, h.apart⟩
/-- No row lies in a block of another type. -/
theorem own_far {w : World} {b : Nat} {e t : TypeId} {s : Nat} {v : Value} {n : Nat} {xs : List Value} (h : w.ownsRow b e s v n xs) {g : Nat} {cs : Array Value} (hg : w.heap[g]? = some (.cells cs t)) (he : e ≠ t) : v.ownBlock = none ∨ v.ownBlock ≠ some g := by
  rcases h.2 with ⟨rfl, _⟩ | ⟨g2, cap, cur, rfl, _, hg2, _⟩
  · exact .inl rfl
  · right
    intro e
    have e : g2 = g := by simpa [Value.ownBlock] using e
    subst e
    rw [hg] at hg2
    injection hg2 with hg2
    injection hg2 with _ ht
    exact he ht.symm

theorem cell_alloc {w : World} {p : Addr} {u : Value} (h : w.cell? p = some u) (o : Obj) : (w.alloc o).cell? p = some u := (World.cell?_alloc_lt w o p (cell_lt h)).trans h
theorem frozen_alloc {w : World} {p : Addr} {b : Bool} (h : w.frozen? p = b) (hl : p.block < w.heap.size) (o : Obj) : (w.alloc o).frozen? p = b := (((Below.refl w.heap.size w).alloc (Nat.le_refl _) o).frozen hl).trans h
theorem cell_grown {w w' : World} {row : Option Nat} {p : Addr} {u : Value} (hg : w.grownBy w' row) (h : w.cell? p = some u) (hr : row ≠ some p.block) : w'.cell? p = some u :=
  (World.cell?_of_block (hg.block p.block (cell_lt h) (fun e => hr e.symm))).trans h
theorem frozen_grown {w w' : World} {row : Option Nat} {p : Addr} {b : Bool} (hg : w.grownBy w' row) (h : w.frozen? p = b) (hl : p.block < w.heap.size) (hr : row ≠ some p.block) : w'.frozen? p = b := by
  rw [← h]; unfold World.frozen?; rw [hg.block p.block hl (fun e => hr e.symm)]
theorem ne_some {o : Option Nat} {g : Nat} (h : o = none ∨ o ≠ some g) : o ≠ some g := by
  rcases h with h | h
  · rw [h]; simp
  · exact h
theorem one_intV (zs : List Int) : ∀ u ∈ intV .u8 zs, u.oneCell' = true := by
  intro u hu
  obtain ⟨z, _, rfl⟩ := List.mem_map.1 hu
  rfl

theorem grown_setCell (w : World) (g : Nat) (u : Value) : w.grownBy (w.setCell ⟨g, 0, none⟩ u) (some g) :=
  ⟨rfl, rfl, rfl, by simp [World.size_setCell], fun k _ hk => Below.heap_setCell _ _ _ _ (fun e => hk (by rw [e]))⟩
theorem grown_alloc (w : World) (o : Obj) (row : Option Nat) : w.grownBy (w.alloc o) row := grown_of_below ((Below.refl _ _).alloc (Nat.le_refl _) o) row
theorem block_grown {w w' : World} {row : Option Nat} {g : Nat} {o : Obj} (hg : w.grownBy w' row) (h : w.heap[g]? = some o) (hr : row ≠ some g) : w'.heap[g]? = some o :=
  (hg.block g (Array.getElem?_eq_some_iff.1 h).1 (fun e => hr e.symm)).trans h
theorem Rows.of_grown {w w' : World} {lo hi : Nat} {hs : List Value} {m : List (List Int)} (h : Rows w lo hi hs m) {row : Option Nat} (hg : w.grownBy w' row) (hr : ∀ g, row = some g → hi ≤ g ∨ ∃ o : Obj, w.heap[g]? = some o ∧ ∀ cs, o ≠ .cells cs 5 (0, 0)) : Rows w' lo hi hs m := by
  refine h.kept hg fun i x hx => ?_
  have hi' : i < m.length := by rw [← h.len]; exact (List.getElem?_eq_some_iff.1 hx).1
  obtain ⟨y, hy, ho⟩ := h.row i hi'
  rw [hx] at hy
  injection hy with hy
  subst hy
  rcases hrow : row with _ | g
  · rcases hv : x.ownBlock with _ | q
    · exact .inl rfl
    · right; simp
  rcases hr g hrow with h1 | ⟨o, h1, h2⟩
  · rcases hv : x.ownBlock with _ | q
    · exact .inl rfl
    · right
      intro e
      have := ho.2 q hv
      injection e with e
      omega
  · rcases ho.1.2 with ⟨hv, hn⟩ | ⟨g2, cap, cur, hv, _, hg2, _⟩
    · left; rw [hv]; rfl
    · right
      intro e
      rw [hv] at e
      have e : g2 = g := by simpa [Value.ownBlock] using e
      subst e
      rw [h1] at hg2
      injection hg2 with hg2
      exact h2 _ hg2
/-- What one round of the copying leaves. -/
theorem own_step {w wr w1 w2 : World} {c k : Nat} {A Ao : Option Addr} {co : Nat} {m : List (List Int)} {hd : List Value} {gg cap1 gg2 cap2 : Nat} {o2 : Obj}
    (hlt : k < m.length) (hb : Below w.heap.size w wr)
    (g1 : wr.heap[w.heap.size]? = some (.cells #[.slice A m.length c] 31)) (g2 : wr.heap[w.heap.size + 1]? = some (.cells #[.slice none 0 0] 31)) (g3 : wr.heap[w.heap.size + 1 + 1 + 1]? = some (.cells #[.slice Ao k co] 31))
    (ho : wr.ownsRow w.heap.size 64 1 (.slice Ao k co) k hd) (hrw : Rows wr w.heap.size wr.heap.size hd (m.take k))
    (hown1 : w1.ownsRow wr.heap.size 5 1 (.slice (some ⟨gg, 0, none⟩) m[k].length cap1) m[k].length (intV .u8 m[k])) (hgrow1 : (wr.drew.alloc (.cells #[] 5)).grownBy w1 (some wr.heap.size))
    (hown2 : w2.ownsRow w.heap.size 64 1 (.slice (some ⟨gg2, 0, none⟩) (k + 1) cap2) (k + 1) (hd ++ [.slice (some ⟨gg, 0, none⟩) m[k].length cap1])) (hgrow2 : (w1.alloc o2).grownBy w2 (Value.slice Ao k co).ownBlock) :
    ∃ (hd' : List Value) (ov : Value), Below w.heap.size w (w2.setCell ⟨w.heap.size + 1 + 1 + 1, 0, none⟩ (.slice (some ⟨gg2, 0, none⟩) (k + 1) cap2)) ∧
      (w2.setCell ⟨w.heap.size + 1 + 1 + 1, 0, none⟩ (.slice (some ⟨gg2, 0, none⟩) (k + 1) cap2)).heap[w.heap.size]? = some (.cells #[.slice A m.length c] 31) ∧ (w2.setCell ⟨w.heap.size + 1 + 1 + 1, 0, none⟩ (.slice (some ⟨gg2, 0, none⟩) (k + 1) cap2)).heap[w.heap.size + 1]? = some (.cells #[.slice none 0 0] 31) ∧ (w2.setCell ⟨w.heap.size + 1 + 1 + 1, 0, none⟩ (.slice (some ⟨gg2, 0, none⟩) (k + 1) cap2)).heap[w.heap.size + 1 + 1 + 1]? = some (.cells #[ov] 31) ∧
      (w2.setCell ⟨w.heap.size + 1 + 1 + 1, 0, none⟩ (.slice (some ⟨gg2, 0, none⟩) (k + 1) cap2)).ownsRow w.heap.size 64 1 ov (k + 1) hd' ∧ Rows (w2.setCell ⟨w.heap.size + 1 + 1 + 1, 0, none⟩ (.slice (some ⟨gg2, 0, none⟩) (k + 1) cap2)) w.heap.size (w2.setCell ⟨w.heap.size + 1 + 1 + 1, 0, none⟩ (.slice (some ⟨gg2, 0, none⟩) (k + 1) cap2)).heap.size hd' (m.take (k + 1)) := by
  have n1 := ne_some (own_far ho g1 (by decide))
  have n2 := ne_some (own_far ho g2 (by decide))
  have n3 := ne_some (own_far ho g3 (by decide))
  have l1 := (Array.getElem?_eq_some_iff.1 g1).1
  have l2 := (Array.getElem?_eq_some_iff.1 g2).1
  have l3 := (Array.getElem?_eq_some_iff.1 g3).1
  have s1 : wr.heap.size + 1 ≤ w1.heap.size := by have := hgrow1.size; simpa using this
  have s2 : w1.heap.size + 1 ≤ w2.heap.size := by have := hgrow2.size; simpa using this
  have ha : wr.grownBy (wr.drew.alloc (.cells #[] 5)) none := grown_of_below (((Below.refl _ _).drew).alloc (Nat.le_refl _) _) none
  have far1 : ∀ g, g < wr.heap.size → (some wr.heap.size : Option Nat) ≠ some g := fun g hg e => by injection e with e; omega
  have mid : ∀ (g : Nat) (o : Obj), wr.heap[g]? = some o → g < wr.heap.size → (Value.slice Ao k co).ownBlock ≠ some g → w2.heap[g]? = some o := fun g o h hg hn =>
    block_grown hgrow2 (alloc_old _ (block_grown hgrow1 (block_grown ha h (by simp)) (far1 g hg))) hn
  have b1 : Below w.heap.size w w1 := ((hb.drew).alloc (Nat.le_trans hb.size (Nat.le_refl _)) _).grown hgrow1 (by simp; have := hb.size; omega) (fun g e => by injection e with e; have := hb.size; omega)
  have b2 : Below w.heap.size w w2 := (b1.alloc b1.size _).grown hgrow2 (by simp; have := b1.size; omega) (fun g e => (ho.lt g e).1)
  have e3 := mid _ _ g3 l3 n3
  have hn2 : (Value.slice (some ⟨gg2, 0, none⟩) (k + 1) cap2).ownBlock ≠ some (w.heap.size + 1 + 1 + 1) := ne_some (own_far hown2 e3 (by decide))
  refine ⟨hd ++ [.slice (some ⟨gg, 0, none⟩) m[k].length cap1], .slice (some ⟨gg2, 0, none⟩) (k + 1) cap2, b2.setCell (by simp; omega) _, ?_, ?_, one_set e3, hown2.kept (grown_setCell _ _ _) (.inr hn2), ?_⟩
  · exact block_grown (grown_setCell _ _ _) (mid _ _ g1 l1 n1) (fun e => by injection e with e; omega)
  · exact block_grown (grown_setCell _ _ _) (mid _ _ g2 l2 n2) (fun e => by injection e with e; omega)
  · rw [World.size_setCell, List.take_succ_eq_append_getElem hlt]
    have hnew : OwnR w1 wr.heap.size w1.heap.size 5 (.slice (some ⟨gg, 0, none⟩) m[k].length cap1) (intV .u8 m[k]) := OwnR.new (by rw [intV_len]; exact hown1)
    have r1 : Rows w1 w.heap.size wr.heap.size hd (m.take k) := (hrw.of_grown ha (fun g e => by cases e)).of_grown hgrow1 (fun g e => by injection e with e; exact .inl (by omega))
    have r2 : Rows w1 w.heap.size w1.heap.size (hd ++ [.slice (some ⟨gg, 0, none⟩) m[k].length cap1]) (m.take k ++ [m[k]]) := r1.snoc hnew hb.size (by omega)
    have r3 : Rows (w1.alloc o2) w.heap.size w1.heap.size (hd ++ [.slice (some ⟨gg, 0, none⟩) m[k].length cap1]) (m.take k ++ [m[k]]) := r2.below ((Below.refl _ _).alloc (Nat.le_refl _) _)
    have r4 : Rows w2 w.heap.size w1.heap.size (hd ++ [.slice (some ⟨gg, 0, none⟩) m[k].length cap1]) (m.take k ++ [m[k]]) := r3.of_grown hgrow2 (fun g e => by
      right
      rcases ho.2 with ⟨hv, hn⟩ | ⟨g2', cap, cur, hv, _, hg2', _⟩
      · rw [hv] at e; simp [Value.ownBlock] at e
      · rw [hv] at e
        have e : g2' = g := by simpa [Value.ownBlock] using e
        subst e
        have hl := (Array.getElem?_eq_some_iff.1 hg2').1
        refine ⟨_, alloc_old _ (block_grown hgrow1 (block_grown ha hg2' (by simp)) (far1 _ hl)), fun cs h => ?_⟩
        injection h with _ h
        exact absurd h (by decide))
    have r5 := r4.of_grown (grown_setCell w2 (w.heap.size + 1 + 1 + 1) (.slice (some ⟨gg2, 0, none⟩) (k + 1) cap2)) (fun g e => by
      injection e with e
      subst e
      exact .inr ⟨_, e3, fun cs h => by injection h with _ h; exact absurd h (by decide)⟩)
    exact r5.mono (Nat.le_refl _) (by omega)
end Go.Proofs.Ytoelagfcapdfpaa
