/-
  Lists of windows: rows of four cells each; what came in as one.
-/
import Derived.Test.YtoelagfcapdfpaaImplC
import Derived.Deep.Slices
namespace Go.Proofs.Ytoelagfcapdfpaa
open Go.RowKit Go.ChangeShapes Go.WideShapes Go.Joins Go.Deep

/-- The slice with address A reads as the windows xs. -/
def RdW (w : World) (B : Nat) (A : Option Addr) (xs : List Win) : Prop :=
  xs = [] ∨ ∃ b off, A = some ⟨b, off, none⟩ ∧ b < B ∧ WinsAt w b off xs
section
variable {w w' : World} {B B' : Nat} {A : Option Addr} {xs : List Win}
theorem RdW.keep (h : RdW w B A xs) (hk : ∀ p : Addr, p.block < B → w'.cell? p = w.cell? p) : RdW w' B A xs := by
  rcases h with rfl | ⟨b, off, e, hb, hc⟩
  · exact .inl rfl
  · refine .inr ⟨b, off, e, hb, fun i x hx => ?_⟩
    obtain ⟨h0, h1, h2, h3⟩ := hc i x hx
    exact ⟨(hk _ hb).trans h0, (hk _ hb).trans h1, (hk _ hb).trans h2, (hk _ hb).trans h3⟩
theorem RdW.more (h : RdW w B A xs) (hB : B ≤ B') : RdW w B' A xs := by
  rcases h with rfl | ⟨b, off, e, hb, hc⟩
  · exact .inl rfl
  · exact .inr ⟨b, off, e, by omega, hc⟩
theorem RdW.below (h : RdW w B A xs) (hb : Below B w w') : RdW w' B A xs := h.keep fun _ hp => hb.cell hp
theorem RdW.at_ (h : RdW w B A xs) {i : Nat} (hi : i < xs.length) : ∃ b off, A = some ⟨b, off, none⟩ ∧ b < B ∧ w.cell? ⟨b, off + i * 4, none⟩ = some (.int .i64 xs[i].arr) ∧ w.cell? ⟨b, off + i * 4 + 1, none⟩ = some (.int .i64 xs[i].start) ∧ w.cell? ⟨b, off + i * 4 + 2, none⟩ = some (.int .i64 xs[i].len) ∧ w.cell? ⟨b, off + i * 4 + 3, none⟩ = some (.int .i64 xs[i].cap) := by
  rcases h with rfl | ⟨b, off, e, hb, hc⟩
  · simp at hi
  · exact ⟨b, off, e, hb, hc i _ (List.getElem?_eq_getElem hi)⟩
end
/-- What a list of windows that came in is good for. -/
def WsArg (w : World) (A : Option Addr) (len cap : Nat) (xs : List Win) : Prop :=
  xs.length = len ∧ len ≤ cap ∧ cap ≤ maxLen ∧ RdW w w.heap.size A xs ∧ ∀ x ∈ xs, WArg x

instance : Inhabited Win := ⟨⟨0, 0, 0, 0⟩⟩
section
variable {H : Type} {enc : TypeId × Value → H} {W : World} {t e : TypeId}
set_option maxRecDepth 100000 in
/-- A list of windows that came in. -/
theorem open_wins {f0 f1 f2 f3 : Field} (ht : Try.prog.underlying t = some (.slice e)) (hs : Try.prog.underlying e = some (.struct #[f0, f1, f2, f3])) (hone : oneCellFields Try.prog #[f0, f1, f2, f3] = true) (hC : Try.prog.cellsOf e = 4)
    (h0 : f0.type = 3) (h1 : f1.type = 3) (h2 : f2.type = 3) (h3 : f3.type = 3) {fuel : Nat} {a : Option Addr} {len cap : Nat} {x : DataW H × List MemPlace}
    (h : DataW.trod enc Try.prog W 0 (fun _ => true) true fuel t [.slice a len cap] = some x) : ∃ xs, WsArg W a len cap xs := by
  rcases open_slice ht h with ⟨hcs, _⟩ | ⟨a', len', cap', m, n, D, Pl, hcs, _, hl, hm, hmm, _, hx⟩
  · simp at hcs
    obtain ⟨rfl, rfl, rfl⟩ := hcs
    exact ⟨[], rfl, Nat.le_refl _, Nat.zero_le _, .inl rfl, fun _ h => by cases h⟩
  · simp at hcs
    obtain ⟨rfl, rfl, rfl⟩ := hcs
    simp only [if_true] at hmm
    subst hmm
    have each : ∀ i, i < m → ∃ y : Win, W.cell? (a'.add (i * 4)) = some (.int .i64 y.arr) ∧ W.cell? (a'.add (i * 4 + 1)) = some (.int .i64 y.start) ∧ W.cell? (a'.add (i * 4 + 2)) = some (.int .i64 y.len) ∧ W.cell? (a'.add (i * 4 + 3)) = some (.int .i64 y.cap) ∧ WArg y := fun i hi => by
      obtain ⟨cs', g1, g2⟩ := hx i hi
      rw [hC] at g1
      obtain ⟨_, hlen, hcell⟩ := World.cells?_some g1
      obtain ⟨y0, y1, y2, y3, k, _, _, q0, q1, q2, q3⟩ := trod_struct4 hs g2
      obtain ⟨o0, k0⟩ := hone_of hone 0 f0 rfl
      obtain ⟨o1, k1⟩ := hone_of hone 1 f1 rfl
      obtain ⟨o2, k2⟩ := hone_of hone 2 f2 rfl
      obtain ⟨o3, k3⟩ := hone_of hone 3 f3 rfl
      rw [o0, k0, h0] at q0
      rw [o1, k1, h1] at q1
      rw [o2, k2, h2] at q2
      rw [o3, k3, h3] at q3
      match cs', hlen with
      | [v0, v1, v2, v3], _ =>
        obtain ⟨z0, e0, _, w0⟩ := DataW.trod_int Try.underlying3 (by simpa using q0)
        obtain ⟨z1, e1, _, w1⟩ := DataW.trod_int Try.underlying3 (by simpa using q1)
        obtain ⟨z2, e2, _, w2⟩ := DataW.trod_int Try.underlying3 (by simpa using q2)
        obtain ⟨z3, e3, _, w3⟩ := DataW.trod_int Try.underlying3 (by simpa using q3)
        obtain rfl : v0 = .int .i64 z0 := by simpa using e0
        obtain rfl : v1 = .int .i64 z1 := by simpa using e1
        obtain rfl : v2 = .int .i64 z2 := by simpa using e2
        obtain rfl : v3 = .int .i64 z3 := by simpa using e3
        have c0 := hcell 0 (by omega)
        have c1 := hcell 1 (by omega)
        have c2 := hcell 2 (by omega)
        have c3 := hcell 3 (by omega)
        rw [Deep.add_add] at c0 c1 c2 c3
        exact ⟨⟨z0, z1, z2, z3⟩, by simpa using c0, by simpa using c1, by simpa using c2, by simpa using c3, w0, w1, w2, w3⟩
    obtain ⟨f, hf⟩ := choose_lt each
    refine ⟨(List.range len).map f, by simp, hl, hm, ?_, fun y hy => ?_⟩
    · rcases Nat.eq_zero_or_pos len with rfl | hpos
      · exact .inl rfl
      · obtain ⟨b, off, spot⟩ := a'
        have hc := (hf 0 (by omega)).1
        have hspot : spot = none := by simpa [Addr.add] using World.cell?_spot hc
        subst hspot
        have hb : b < W.heap.size := by simpa [Addr.add] using cell_lt hc
        refine .inr ⟨b, off, rfl, hb, fun i y hy => ?_⟩
        have hi : i < len := by
          have := (List.getElem?_eq_some_iff.1 hy).1
          simpa using this
        rw [List.getElem?_map, List.getElem?_range hi] at hy
        injection hy with hy
        subst hy
        obtain ⟨g0, g1, g2, g3, _⟩ := hf i (by omega)
        have ad : ∀ k, (⟨b, off, none⟩ : Addr).add k = ⟨b, off + k, none⟩ := fun k => by unfold Addr.add; split <;> simp_all
        rw [ad] at g0 g1 g2 g3
        exact ⟨g0, g1, g2, g3⟩
    · obtain ⟨i, hi, rfl⟩ := List.mem_map.1 hy
      exact (hf i (by have := List.mem_range.1 hi; omega)).2.2.2.2
end

/-- Cells of windows: those of the first k of xs stand where they should. -/
def WC (cs : List Value) (xs : List Win) (k : Nat) : Prop :=
  ∀ (i : Nat) (x : Win), i < k → xs[i]? = some x → cs[i * 4]? = some (.int .i64 x.arr) ∧ cs[i * 4 + 1]? = some (.int .i64 x.start) ∧ cs[i * 4 + 2]? = some (.int .i64 x.len) ∧ cs[i * 4 + 3]? = some (.int .i64 x.cap)
theorem WC.zero (cs : List Value) (xs : List Win) : WC cs xs 0 := fun i x h => by omega
theorem WC.step {cs : List Value} {xs : List Win} {k : Nat} (h : WC cs xs k) (hk : k < xs.length) (hl : xs.length * 4 ≤ cs.length) :
    WC ((((cs.set (k * 4) (.int .i64 xs[k].arr)).set (k * 4 + 1) (.int .i64 xs[k].start)).set (k * 4 + 2) (.int .i64 xs[k].len)).set (k * 4 + 3) (.int .i64 xs[k].cap)) xs (k + 1) := fun i x hi hx => by
  rcases Nat.lt_or_ge i k with hlt | hge
  · obtain ⟨h0, h1, h2, h3⟩ := h i x hlt hx
    simp only [List.getElem?_set]
    refine ⟨?_, ?_, ?_, ?_⟩
    · rw [if_neg (by omega), if_neg (by omega), if_neg (by omega), if_neg (by omega)]; exact h0
    · rw [if_neg (by omega), if_neg (by omega), if_neg (by omega), if_neg (by omega)]; exact h1
    · rw [if_neg (by omega), if_neg (by omega), if_neg (by omega), if_neg (by omega)]; exact h2
    · rw [if_neg (by omega), if_neg (by omega), if_neg (by omega), if_neg (by omega)]; exact h3
  · obtain rfl : i = k := by omega
    rw [List.getElem?_eq_getElem hk] at hx
    injection hx with hx
    subst hx
    simp only [List.getElem?_set, List.length_set]
    refine ⟨?_, ?_, ?_, ?_⟩
    all_goals (repeat (first | rw [if_pos trivial] | rw [if_neg (by omega)] | rw [if_pos (by omega)]))

/-- A row of the call's own of n elements of sz cells each, its block from lo to hi. -/
def OwnS (w : World) (lo hi : Nat) (e : TypeId) (sz : Nat) (v : Value) (n : Nat) (cs : List Value) : Prop := w.ownsRow lo e sz v n cs ∧ ∀ g, v.ownBlock = some g → g < hi
section
variable {w w' : World} {lo hi : Nat} {e : TypeId} {sz n : Nat} {v : Value} {cs : List Value}
theorem OwnS.new (h : w'.ownsRow lo e sz v n cs) : OwnS w' lo w'.heap.size e sz v n cs := ⟨h, fun g hg => (h.lt g hg).2⟩
theorem OwnS.span (h : OwnS w lo hi e sz v n cs) {l2 h2 : Nat} (hs : Span l2 h2 w w') (ho : hi ≤ l2 ∨ h2 ≤ lo) : OwnS w' lo hi e sz v n cs := by
  refine ⟨⟨h.1.1, ?_⟩, h.2⟩
  rcases h.1.2 with h0 | ⟨g', cap, cur, rfl, hb, hc, r1, r2, r3, r4⟩
  · exact .inl h0
  · have hg := h.1.lt g' rfl
    have hh := h.2 g' rfl
    exact .inr ⟨g', cap, cur, rfl, hb, (hs.block g' hg.2 (by omega)).trans hc, r1, r2, r3, r4⟩
theorem OwnS.below (h : OwnS w lo hi e sz v n cs) (hb : Below w.heap.size w w') : OwnS w' lo hi e sz v n cs := h.span (Span.of_below (lo := hi) (hi := hi) hb) (.inl (Nat.le_refl _))
theorem OwnS.mono {lo' hi' : Nat} (h : OwnS w lo hi e sz v n cs) (h1 : lo' ≤ lo) (h2 : hi ≤ hi') : OwnS w lo' hi' e sz v n cs := by
  refine ⟨⟨h.1.1, ?_⟩, fun g hg => Nat.lt_of_lt_of_le (h.2 g hg) h2⟩
  rcases h.1.2 with h0 | ⟨g', cap, cur, r0, hb, r⟩
  · exact .inl h0
  · exact .inr ⟨g', cap, cur, r0, Nat.le_trans h1 hb, r⟩
end
/-- A list of windows of the call's own. -/
def OwnW (w : World) (lo hi : Nat) (v : Value) (xs : List Win) : Prop := ∃ cs, OwnS w lo hi 33 4 v xs.length cs ∧ WC cs xs xs.length
section
variable {w w' : World} {lo hi : Nat} {v : Value} {xs : List Win}
theorem OwnW.span (h : OwnW w lo hi v xs) {l2 h2 : Nat} (hs : Span l2 h2 w w') (ho : hi ≤ l2 ∨ h2 ≤ lo) : OwnW w' lo hi v xs := by
  obtain ⟨cs, a, b⟩ := h
  exact ⟨cs, a.span hs ho, b⟩
theorem OwnW.below (h : OwnW w lo hi v xs) (hb : Below w.heap.size w w') : OwnW w' lo hi v xs := h.span (Span.of_below (lo := hi) (hi := hi) hb) (.inl (Nat.le_refl _))
theorem OwnW.mono {lo' hi' : Nat} (h : OwnW w lo hi v xs) (h1 : lo' ≤ lo) (h2 : hi ≤ hi') : OwnW w lo' hi' v xs := by
  obtain ⟨cs, a, b⟩ := h
  exact ⟨cs, a.mono h1 h2, b⟩
theorem OwnW.form (h : OwnW w lo hi v xs) : ∃ A c, v = .slice A xs.length c := by
  obtain ⟨cs, a, b⟩ := h
  rcases a.1.2 with ⟨rfl, hn⟩ | ⟨g, cap, cur, rfl, _⟩
  · exact ⟨none, 0, by rw [hn]⟩
  · exact ⟨_, _, rfl⟩
theorem OwnW.rd {A : Option Addr} {c : Nat} (h : OwnW w lo hi (.slice A xs.length c) xs) : RdW w w.heap.size A xs := by
  obtain ⟨cs, a, b⟩ := h
  rcases a.1.2 with ⟨hv, hn⟩ | ⟨g, cap, cur, hv, _, hg, _⟩
  · exact .inl (List.eq_nil_of_length_eq_zero hn)
  · right
    injection hv with hA _ hc
    subst hA; subst hc
    have hl := a.1.1
    refine ⟨g, 0, rfl, (Array.getElem?_eq_some_iff.1 hg).1, fun i x hx => ?_⟩
    have hi : i < xs.length := (List.getElem?_eq_some_iff.1 hx).1
    obtain ⟨h0, h1, h2, h3⟩ := b i x hi hx
    rw [Nat.zero_add]
    refine ⟨?_, ?_, ?_, ?_⟩
    · rw [a.1.cellAt _ (by omega)]; exact h0
    · rw [a.1.cellAt _ (by omega)]; exact h1
    · rw [a.1.cellAt _ (by omega)]; exact h2
    · rw [a.1.cellAt _ (by omega)]; exact h3
end
end Go.Proofs.Ytoelagfcapdfpaa
