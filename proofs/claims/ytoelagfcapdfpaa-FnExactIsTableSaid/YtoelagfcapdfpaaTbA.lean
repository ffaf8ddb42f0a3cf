/-
  Lists of entries: rows of twenty cells each (a key's sixteen, a window's four); what came in as one.
-/
import Derived.Test.YtoelagfcapdfpaaKyR
import Derived.Test.YtoelagfcapdfpaaWins
namespace Go.Proofs.Ytoelagfcapdfpaa
open Go.RowKit Go.ChangeShapes Go.WideShapes Go.Joins Go.Deep

structure En where
  key : List Int
  w : Win
instance : Inhabited En := ⟨⟨[], ⟨0, 0, 0, 0⟩⟩⟩
/-- What an entry that came in is good for. -/
def EArg (x : En) : Prop := IsKey x.key ∧ WArg x.w
/-- The cells of an entry. -/
def enL (x : En) : List Value := intV .u8 x.key ++ [.int .i64 x.w.arr, .int .i64 x.w.start, .int .i64 x.w.len, .int .i64 x.w.cap]
theorem enL_len {x : En} (h : x.key.length = 16) : (enL x).length = 20 := by simp [enL, intV_len, h]
/-- The cells from off on read as entries. -/
def EnsAt (w : World) (b off : Nat) (xs : List En) : Prop :=
  ∀ (i : Nat) (x : En), xs[i]? = some x → x.key.length = 16 ∧ w.rangeAt b (off + i * 20) (enL x)
/-- The slice with address A reads as xs. -/
def RdE (w : World) (B : Nat) (A : Option Addr) (xs : List En) : Prop :=
  xs = [] ∨ ∃ b off, A = some ⟨b, off, none⟩ ∧ b < B ∧ EnsAt w b off xs
section
variable {w w' : World} {B B' : Nat} {A : Option Addr} {xs : List En}
theorem RdE.keep (h : RdE w B A xs) (hk : ∀ p : Addr, p.block < B → w'.cell? p = w.cell? p) : RdE w' B A xs := by
  rcases h with rfl | ⟨b, off, e, hb, hc⟩
  · exact .inl rfl
  · refine .inr ⟨b, off, e, hb, fun i x hx => ⟨(hc i x hx).1, fun j v hv => ?_⟩⟩
    exact (hk _ hb).trans ((hc i x hx).2 j v hv)
theorem RdE.more (h : RdE w B A xs) (hB : B ≤ B') : RdE w B' A xs := by
  rcases h with rfl | ⟨b, off, e, hb, hc⟩
  · exact .inl rfl
  · exact .inr ⟨b, off, e, by omega, hc⟩
theorem RdE.below (h : RdE w B A xs) (hb : Below B w w') : RdE w' B A xs := h.keep fun _ hp => hb.cell hp
theorem RdE.on (h : RdE w w.heap.size A xs) (hb : Below w.heap.size w w') : RdE w' w'.heap.size A xs := (h.below hb).more hb.size
theorem RdE.at_ (h : RdE w B A xs) {i : Nat} (hi : i < xs.length) : ∃ b off, A = some ⟨b, off, none⟩ ∧ b < B ∧ xs[i].key.length = 16 ∧ w.rangeAt b (off + i * 20) (enL xs[i]) := by
  rcases h with rfl | ⟨b, off, e, hb, hc⟩
  · simp at hi
  · exact ⟨b, off, e, hb, hc i _ (List.getElem?_eq_getElem hi)⟩
/-- The key of an entry in its cells, and its window. -/
theorem range_key {b o : Nat} {x : En} (h : w.rangeAt b o (enL x)) : w.rangeAt b o (intV .u8 x.key) := fun j v hv => by
  refine h j v ?_
  have hj := (List.getElem?_eq_some_iff.1 hv).1
  rw [enL, List.getElem?_append_left hj]
  exact hv
theorem range_win {b o : Nat} {x : En} (hx : x.key.length = 16) (h : w.rangeAt b o (enL x)) : w.cell? ⟨b, o + 16, none⟩ = some (.int .i64 x.w.arr) ∧ w.cell? ⟨b, o + 17, none⟩ = some (.int .i64 x.w.start) ∧ w.cell? ⟨b, o + 18, none⟩ = some (.int .i64 x.w.len) ∧ w.cell? ⟨b, o + 19, none⟩ = some (.int .i64 x.w.cap) := by
  have hl : (intV .u8 x.key).length = 16 := by rw [intV_len, hx]
  have g : ∀ j, (enL x)[16 + j]? = [.int .i64 x.w.arr, .int .i64 x.w.start, .int .i64 x.w.len, .int .i64 x.w.cap][j]? := fun j => by
    rw [enL, List.getElem?_append_right (by omega), hl, Nat.add_sub_cancel_left]
  exact ⟨h 16 _ (g 0), h 17 _ (g 1), h 18 _ (g 2), h 19 _ (g 3)⟩
end
/-- What a list of entries that came in is good for. -/
def EsArg (w : World) (A : Option Addr) (len cap : Nat) (xs : List En) : Prop :=
  xs.length = len ∧ len ≤ cap ∧ cap ≤ maxLen ∧ RdE w w.heap.size A xs ∧ ∀ x ∈ xs, EArg x
section
variable {H : Type} {enc : TypeId × Value → H} {W : World} {t e : TypeId}
theorem trod_key (ht : Try.prog.underlying t = some (.array 16 e)) (he : Try.prog.underlying e = some (.int .u8)) (hce : Try.prog.cellsOf e = 1) {cs : List Value} (hsz : cs.length = 16) {fuel : Nat} {x : DataW H × List MemPlace}
    (hf : DataW.trod enc Try.prog W 0 (fun _ => true) true fuel t cs = some x) : ∃ k, cs = intV .u8 k ∧ IsKey k := by
  obtain ⟨xs, m, _, _, _, hx, hall⟩ := DataW.trod_array ht hf
  have each : ∀ i, i < 16 → ∃ z : Int, cs[i]? = some (.int .u8 z) ∧ (Lit.int .u8 z).wf = true := fun i hi => by
    have h1 := hall i hi
    rw [List.getElem?_eq_getElem (by omega), hce, Nat.mul_one] at h1
    have h2 : (cs.drop i).take 1 = [cs[i]] := by
      rw [List.drop_eq_getElem_cons (by omega), List.take_succ_cons, List.take_zero]
    rw [h2] at h1
    obtain ⟨z, e1, _, w1⟩ := DataW.trod_int he h1
    exact ⟨z, by rw [List.getElem?_eq_getElem (by omega)]; simpa using e1, w1⟩
  obtain ⟨f, hf2⟩ := choose_lt each
  refine ⟨(List.range 16).map f, ?_, by simp, fun y hy => ?_⟩
  · apply List.ext_getElem?
    intro i
    by_cases hi : i < 16
    · rw [(hf2 i hi).1]
      simp [intV, hi]
    · rw [List.getElem?_eq_none (by omega), List.getElem?_eq_none (by simp [intV]; omega)]
  · obtain ⟨i, hi, rfl⟩ := List.mem_map.1 hy
    exact isB_of (hf2 i (by simpa using hi)).2
theorem trod_winL {f0 f1 f2 f3 : Field} (hs : Try.prog.underlying t = some (.struct #[f0, f1, f2, f3])) (hone : oneCellFields Try.prog #[f0, f1, f2, f3] = true)
    (h0 : f0.type = 3) (h1 : f1.type = 3) (h2 : f2.type = 3) (h3 : f3.type = 3) {cs : List Value} (hl : cs.length = 4) {fuel : Nat} {x : DataW H × List MemPlace}
    (hf : DataW.trod enc Try.prog W 0 (fun _ => true) true fuel t cs = some x) : ∃ y : Win, cs = [.int .i64 y.arr, .int .i64 y.start, .int .i64 y.len, .int .i64 y.cap] ∧ WArg y := by
  obtain ⟨y0, y1, y2, y3, k, _, _, q0, q1, q2, q3⟩ := trod_struct4 hs hf
  obtain ⟨o0, k0⟩ := hone_of hone 0 f0 rfl
  obtain ⟨o1, k1⟩ := hone_of hone 1 f1 rfl
  obtain ⟨o2, k2⟩ := hone_of hone 2 f2 rfl
  obtain ⟨o3, k3⟩ := hone_of hone 3 f3 rfl
  rw [o0, k0, h0] at q0
  rw [o1, k1, h1] at q1
  rw [o2, k2, h2] at q2
  rw [o3, k3, h3] at q3
  match cs, hl with
  | [v0, v1, v2, v3], _ =>
    obtain ⟨z0, e0, _, w0⟩ := DataW.trod_int Try.underlying3 (by simpa using q0)
    obtain ⟨z1, e1, _, w1⟩ := DataW.trod_int Try.underlying3 (by simpa using q1)
    obtain ⟨z2, e2, _, w2⟩ := DataW.trod_int Try.underlying3 (by simpa using q2)
    obtain ⟨z3, e3, _, w3⟩ := DataW.trod_int Try.underlying3 (by simpa using q3)
    obtain rfl : v0 = .int .i64 z0 := by simpa using e0
    obtain rfl : v1 = .int .i64 z1 := by simpa using e1
    obtain rfl : v2 = .int .i64 z2 := by simpa using e2
    obtain rfl : v3 = .int .i64 z3 := by simpa using e3
    exact ⟨⟨z0, z1, z2, z3⟩, rfl, w0, w1, w2, w3⟩
set_option maxRecDepth 100000 in
/-- A list of entries that came in. -/
theorem open_entries {f0 f1 g0 g1 g2 g3 : Field} {e8 : TypeId} (ht : Try.prog.underlying t = some (.slice e)) (hs : Try.prog.underlying e = some (.struct #[f0, f1])) (hC : Try.prog.cellsOf e = 20)
    (o0 : f0.offset = 0) (o1 : f1.offset = 16) (c0 : Try.prog.cellsOf f0.type = 16) (c1 : Try.prog.cellsOf f1.type = 4)
    (hk : Try.prog.underlying f0.type = some (.array 16 e8)) (he : Try.prog.underlying e8 = some (.int .u8)) (hce : Try.prog.cellsOf e8 = 1)
    (hw : Try.prog.underlying f1.type = some (.struct #[g0, g1, g2, g3])) (hone : oneCellFields Try.prog #[g0, g1, g2, g3] = true)
    (i0 : g0.type = 3) (i1 : g1.type = 3) (i2 : g2.type = 3) (i3 : g3.type = 3) {fuel : Nat} {a : Option Addr} {len cap : Nat} {x : DataW H × List MemPlace}
    (h : DataW.trod enc Try.prog W 0 (fun _ => true) true fuel t [.slice a len cap] = some x) : ∃ xs, EsArg W a len cap xs := by
  rcases open_slice ht h with ⟨hcs, _⟩ | ⟨a', len', cap', m, n, D, Pl, hcs, _, hl, hm, hmm, _, hx⟩
  · simp at hcs
    obtain ⟨rfl, rfl, rfl⟩ := hcs
    exact ⟨[], rfl, Nat.le_refl _, Nat.zero_le _, .inl rfl, fun _ h => by cases h⟩
  · simp at hcs
    obtain ⟨rfl, rfl, rfl⟩ := hcs
    simp only [if_true] at hmm
    subst hmm
    have each : ∀ i, i < m → ∃ y : En, (∀ (j : Nat) (v : Value), (enL y)[j]? = some v → W.cell? (a'.add (i * 20 + j)) = some v) ∧ EArg y := fun i hi => by
      obtain ⟨cs', q1, q2⟩ := hx i hi
      rw [hC] at q1
      obtain ⟨_, hlen, hcell⟩ := World.cells?_some q1
      obtain ⟨y0, y1, k, _, _, p0, p1⟩ := trod_struct2 hs q2
      rw [o0, c0] at p0
      rw [o1, c1] at p1
      obtain ⟨key, ek, hkey⟩ := trod_key hk he hce (by rw [List.length_take, List.length_drop]; omega) p0
      obtain ⟨u, eu, hu⟩ := trod_winL hw hone i0 i1 i2 i3 (by rw [List.length_take, List.length_drop]; omega) p1
      refine ⟨⟨key, u⟩, fun j v hv => ?_, hkey, hu⟩
      have hcs : cs' = enL ⟨key, u⟩ := by
        have h3 : cs' = cs'.take 16 ++ (cs'.drop 16).take 4 := by
          rw [List.take_of_length_le (l := cs'.drop 16) (by rw [List.length_drop]; omega), List.take_append_drop]
        rw [h3, enL, eu]
        rw [List.drop_zero] at ek
        rw [ek]
      rw [← hcs] at hv
      obtain ⟨hj, ev⟩ := List.getElem?_eq_some_iff.1 hv
      have := hcell j (by omega)
      rw [Deep.add_add] at this
      rw [this]
      simpa using hv
    obtain ⟨f, hf⟩ := choose_lt each
    refine ⟨(List.range len).map f, by simp, hl, hm, ?_, fun y hy => ?_⟩
    · rcases Nat.eq_zero_or_pos len with rfl | hpos
      · exact .inl rfl
      · obtain ⟨b, off, spot⟩ := a'
        have hl0 : (enL (f 0)).length = 20 := enL_len (hf 0 (by omega)).2.1.1
        have hc := (hf 0 (by omega)).1 0 _ (List.getElem?_eq_getElem (by omega))
        have hspot : spot = none := by simpa [Addr.add] using World.cell?_spot hc
        subst hspot
        have hb : b < W.heap.size := by simpa [Addr.add] using cell_lt hc
        refine .inr ⟨b, off, rfl, hb, fun i y hy => ?_⟩
        have hi : i < len := by
          have := (List.getElem?_eq_some_iff.1 hy).1
          simpa using this
        rw [List.getElem?_map, List.getElem?_range hi] at hy
        injection hy with hy
        subst hy
        have ad : ∀ k, (⟨b, off, none⟩ : Addr).add k = ⟨b, off + k, none⟩ := fun k => by unfold Addr.add; split <;> simp_all
        refine ⟨(hf i (by omega)).2.1.1, fun j v hv => ?_⟩
        have := (hf i (by omega)).1 j v hv
        rw [ad, ← Nat.add_assoc] at this
        exact this
    · obtain ⟨i, hi, rfl⟩ := List.mem_map.1 hy
      exact (hf i (by have := List.mem_range.1 hi; omega)).2
end
end Go.Proofs.Ytoelagfcapdfpaa
