/-
  Lists of what is asked for: rows of two cells each; what came in as one; the law's helpers on them.
-/
import Derived.Test.YtadmllfcnjekcaaWins
import Derived.Test.YtadmllfcnjekcaaLawW
import Derived.Test.YtadmllfcnjekcaaArM
namespace Go.Proofs.Ytadmllfcnjekcaa
open Go.RowKit Go.ChangeShapes Go.WideShapes Go.Joins Go.Deep

structure Ak where
  size : Int
  al : Int
instance : Inhabited Ak := ⟨⟨0, 0⟩⟩
/-- What something asked for that came in is good for. -/
def KArg (x : Ak) : Prop := (Lit.int .i64 x.size).wf = true ∧ (Lit.int .i64 x.al).wf = true
/-- The cells from off on read as what is asked for. -/
def AksAt (w : World) (b off : Nat) (xs : List Ak) : Prop :=
  ∀ (i : Nat) (x : Ak), xs[i]? = some x → w.cell? ⟨b, off + i * 2, none⟩ = some (.int .i64 x.size) ∧ w.cell? ⟨b, off + i * 2 + 1, none⟩ = some (.int .i64 x.al)
/-- The slice with address A reads as xs. -/
def RdK (w : World) (B : Nat) (A : Option Addr) (xs : List Ak) : Prop :=
  xs = [] ∨ ∃ b off, A = some ⟨b, off, none⟩ ∧ b < B ∧ AksAt w b off xs
section
variable {w w' : World} {B B' : Nat} {A : Option Addr} {xs : List Ak}
theorem RdK.keep (h : RdK w B A xs) (hk : ∀ p : Addr, p.block < B → w'.cell? p = w.cell? p) : RdK w' B A xs := by
  rcases h with rfl | ⟨b, off, e, hb, hc⟩
  · exact .inl rfl
  · refine .inr ⟨b, off, e, hb, fun i x hx => ?_⟩
    obtain ⟨h0, h1⟩ := hc i x hx
    exact ⟨(hk _ hb).trans h0, (hk _ hb).trans h1⟩
theorem RdK.more (h : RdK w B A xs) (hB : B ≤ B') : RdK w B' A xs := by
  rcases h with rfl | ⟨b, off, e, hb, hc⟩
  · exact .inl rfl
  · exact .inr ⟨b, off, e, by omega, hc⟩
theorem RdK.below (h : RdK w B A xs) (hb : Below B w w') : RdK w' B A xs := h.keep fun _ hp => hb.cell hp
theorem RdK.on (h : RdK w w.heap.size A xs) (hb : Below w.heap.size w w') : RdK w' w'.heap.size A xs := (h.below hb).more hb.size
theorem RdK.at_ (h : RdK w B A xs) {i : Nat} (hi : i < xs.length) : ∃ b off, A = some ⟨b, off, none⟩ ∧ b < B ∧ w.cell? ⟨b, off + i * 2, none⟩ = some (.int .i64 xs[i].size) ∧ w.cell? ⟨b, off + i * 2 + 1, none⟩ = some (.int .i64 xs[i].al) := by
  rcases h with rfl | ⟨b, off, e, hb, hc⟩
  · simp at hi
  · exact ⟨b, off, e, hb, hc i _ (List.getElem?_eq_getElem hi)⟩
end
/-- What a list of what is asked for that came in is good for. -/
def KsArg (w : World) (A : Option Addr) (len cap : Nat) (xs : List Ak) : Prop :=
  xs.length = len ∧ len ≤ cap ∧ cap ≤ maxLen ∧ RdK w w.heap.size A xs ∧ ∀ x ∈ xs, KArg x
section
variable {H : Type} {enc : TypeId × Value → H} {W : World} {t e : TypeId}
set_option maxRecDepth 100000 in
/-- A list of what is asked for that came in. -/
theorem open_asks {f0 f1 : Field} (ht : Try.prog.underlying t = some (.slice e)) (hs : Try.prog.underlying e = some (.struct #[f0, f1])) (hone : oneCellFields Try.prog #[f0, f1] = true) (hC : Try.prog.cellsOf e = 2)
    (h0 : f0.type = 3) (h1 : f1.type = 3) {fuel : Nat} {a : Option Addr} {len cap : Nat} {x : DataW H × List MemPlace}
    (h : DataW.trod enc Try.prog W 0 (fun _ => true) true fuel t [.slice a len cap] = some x) : ∃ xs, KsArg W a len cap xs := by
  rcases open_slice ht h with ⟨hcs, _⟩ | ⟨a', len', cap', m, n, D, Pl, hcs, _, hl, hm, hmm, _, hx⟩
  · simp at hcs
    obtain ⟨rfl, rfl, rfl⟩ := hcs
    exact ⟨[], rfl, Nat.le_refl _, Nat.zero_le _, .inl rfl, fun _ h => by cases h⟩
  · simp at hcs
    obtain ⟨rfl, rfl, rfl⟩ := hcs
    simp only [if_true] at hmm
    subst hmm
    have each : ∀ i, i < m → ∃ y : Ak, W.cell? (a'.add (i * 2)) = some (.int .i64 y.size) ∧ W.cell? (a'.add (i * 2 + 1)) = some (.int .i64 y.al) ∧ KArg y := fun i hi => by
      obtain ⟨cs', g1, g2⟩ := hx i hi
      rw [hC] at g1
      obtain ⟨_, hlen, hcell⟩ := World.cells?_some g1
      obtain ⟨y0, y1, k, _, _, q0, q1⟩ := trod_struct2 hs g2
      obtain ⟨o0, k0⟩ := hone_of hone 0 f0 rfl
      obtain ⟨o1, k1⟩ := hone_of hone 1 f1 rfl
      rw [o0, k0, h0] at q0
      rw [o1, k1, h1] at q1
      match cs', hlen with
      | [v0, v1], _ =>
        obtain ⟨z0, e0, _, w0⟩ := DataW.trod_int Try.underlying3 (by simpa using q0)
        obtain ⟨z1, e1, _, w1⟩ := DataW.trod_int Try.underlying3 (by simpa using q1)
        obtain rfl : v0 = .int .i64 z0 := by simpa using e0
        obtain rfl : v1 = .int .i64 z1 := by simpa using e1
        have c0 := hcell 0 (by omega)
        have c1 := hcell 1 (by omega)
        rw [Deep.add_add] at c0 c1
        exact ⟨⟨z0, z1⟩, by simpa using c0, by simpa using c1, w0, w1⟩
    obtain ⟨f, hf⟩ := choose_lt each
    refine ⟨(List.range len).map f, by simp, hl, hm, ?_, fun y hy => ?_⟩
    · rcases Nat.eq_zero_or_pos len with rfl | hpos
      · exact .inl rfl
      · obtain ⟨b, off, spot⟩ := a'
        have hc := (hf 0 (by omega)).1
        have hspot : spot = none := by simpa [Addr.add] using World.cell?_spot hc
        subst hspot
        have hb : b < W.heap.size := by simpa [Addr.add] using cell_lt hc
        refine .inr ⟨b, off, rfl, hb, fun i y hy => ?_⟩
        have hi : i < len := by
          have := (List.getElem?_eq_some_iff.1 hy).1
          simpa using this
        rw [List.getElem?_map, List.getElem?_range hi] at hy
        injection hy with hy
        subst hy
        obtain ⟨g0, g1, _⟩ := hf i (by omega)
        have ad : ∀ k, (⟨b, off, none⟩ : Addr).add k = ⟨b, off + k, none⟩ := fun k => by unfold Addr.add; split <;> simp_all
        rw [ad] at g0 g1
        exact ⟨g0, g1⟩
    · obtain ⟨i, hi, rfl⟩ := List.mem_map.1 hy
      exact (hf i (by have := List.mem_range.1 hi; omega)).2.2
end

/-- Cells of what is asked for: those of the first k of xs stand where they should. -/
def KC (cs : List Value) (xs : List Ak) (k : Nat) : Prop :=
  ∀ (i : Nat) (x : Ak), i < k → xs[i]? = some x → cs[i * 2]? = some (.int .i64 x.size) ∧ cs[i * 2 + 1]? = some (.int .i64 x.al)
theorem KC.zero (cs : List Value) (xs : List Ak) : KC cs xs 0 := fun i x h => by omega
theorem KC.step {cs : List Value} {xs : List Ak} {k : Nat} (h : KC cs xs k) (hk : k < xs.length) (hl : xs.length * 2 ≤ cs.length) :
    KC ((cs.set (k * 2) (.int .i64 xs[k].size)).set (k * 2 + 1) (.int .i64 xs[k].al)) xs (k + 1) := fun i x hi hx => by
  rcases Nat.lt_or_ge i k with hlt | hge
  · obtain ⟨h0, h1⟩ := h i x hlt hx
    simp only [List.getElem?_set]
    refine ⟨?_, ?_⟩
    · rw [if_neg (by omega), if_neg (by omega)]; exact h0
    · rw [if_neg (by omega), if_neg (by omega)]; exact h1
  · obtain rfl : i = k := by omega
    rw [List.getElem?_eq_getElem hk] at hx
    injection hx with hx
    subst hx
    simp only [List.getElem?_set, List.length_set]
    refine ⟨?_, ?_⟩
    all_goals (repeat (first | rw [if_pos trivial] | rw [if_neg (by omega)] | rw [if_pos (by omega)]))
/-- A list of what is asked for of the call's own. -/
def OwnK (w : World) (lo hi : Nat) (v : Value) (xs : List Ak) : Prop := ∃ cs, OwnS w lo hi 52 2 v xs.length cs ∧ KC cs xs xs.length
section
variable {w w' : World} {lo hi : Nat} {v : Value} {xs : List Ak}
theorem OwnK.span (h : OwnK w lo hi v xs) {l2 h2 : Nat} (hs : Span l2 h2 w w') (ho : hi ≤ l2 ∨ h2 ≤ lo) : OwnK w' lo hi v xs := by
  obtain ⟨cs, a, b⟩ := h
  exact ⟨cs, a.span hs ho, b⟩
theorem OwnK.below (h : OwnK w lo hi v xs) (hb : Below w.heap.size w w') : OwnK w' lo hi v xs := h.span (Span.of_below (lo := hi) (hi := hi) hb) (.inl (Nat.le_refl _))
theorem OwnK.form (h : OwnK w lo hi v xs) : ∃ A c, v = .slice A xs.length c := by
  obtain ⟨cs, a, b⟩ := h
  rcases a.1.2 with ⟨rfl, hn⟩ | ⟨g, cap, cur, rfl, _⟩
  · exact ⟨none, 0, by rw [hn]⟩
  · exact ⟨_, _, rfl⟩
theorem OwnK.rd {A : Option Addr} {c : Nat} (h : OwnK w lo hi (.slice A xs.length c) xs) : RdK w w.heap.size A xs := by
  obtain ⟨cs, a, b⟩ := h
  rcases a.1.2 with ⟨hv, hn⟩ | ⟨g, cap, cur, hv, _, hg, _⟩
  · exact .inl (List.eq_nil_of_length_eq_zero hn)
  · right
    injection hv with hA _ hc
    subst hA; subst hc
    have hl := a.1.1
    refine ⟨g, 0, rfl, (Array.getElem?_eq_some_iff.1 hg).1, fun i x hx => ?_⟩
    have hi : i < xs.length := (List.getElem?_eq_some_iff.1 hx).1
    obtain ⟨h0, h1⟩ := b i x hi hx
    rw [Nat.zero_add]
    refine ⟨?_, ?_⟩
    · rw [a.1.cellAt _ (by omega)]; exact h0
    · rw [a.1.cellAt _ (by omega)]; exact h1
end

theorem two_cells {w : World} {g : Nat} {u0 u1 : Value} {t : TypeId} (h : w.heap[g]? = some (.cells #[u0, u1] t)) : w.cell? ⟨g, 0, none⟩ = some u0 ∧ w.cell? ⟨g, 1, none⟩ = some u1 := by simp [World.cell?, h]
theorem two_frozen {w : World} {g : Nat} {u0 u1 : Value} {t : TypeId} (h : w.heap[g]? = some (.cells #[u0, u1] t)) : w.frozen? ⟨g, 0, none⟩ = false ∧ w.frozen? ⟨g, 1, none⟩ = false := by simp [World.frozen?, h]

/-- toAsked: the same numbers. -/
theorem toAsked_calls (a s : Int) (w : World) :
    Calls Try.prog 33 #[.agg #[.int .i64 a, .int .i64 s]] w fun e w' => e = .returned (.agg #[.int .i64 a, .int .i64 s]) ∧ Below w.heap.size w w' := by
  go_enter Try.func33, Try.ntmps33
  go_wp2_with fail
  refine bodyPost_ret (v := .agg #[.int .i64 a, .int .i64 s]) (by simp [results, Try.results33, go_sem]) rfl ⟨rfl, ?_⟩
  (repeat (first | (with_reducible exact Below.refl _ _) | (with_reducible refine Below.drew ?_) | ((with_reducible refine Below.alloc ?_ ?hB _); case hB => (first | (with_reducible exact Nat.le_refl _) | omega | (simp; done) | (simp; omega))) | ((with_reducible refine Below.setCell ?_ ?hB _); case hB => (first | (with_reducible exact Nat.le_refl _) | omega | (simp; done) | (simp; omega)))))
/-- eqAsked, where both are the same. -/
theorem eqAskedSame_calls (x : Ak) (w : World) :
    Calls Try.prog 99 #[.agg #[.int .i64 x.size, .int .i64 x.al], .agg #[.int .i64 x.size, .int .i64 x.al]] w fun e w' => e = .returned (.bool true) ∧ Below w.heap.size w w' := by
  have h1 : (x.size != x.size) = false := by simp
  have h2 : (x.al != x.al) = false := by simp
  obtain ⟨hb, g1, g2, gz⟩ := enter2 w (.cells #[.int .i64 x.size, .int .i64 x.al] 52) (.cells #[.int .i64 x.size, .int .i64 x.al] 52)
  obtain ⟨w0, hw0⟩ : ∃ w0, (w.alloc (.cells #[.int .i64 x.size, .int .i64 x.al] 52)).alloc (.cells #[.int .i64 x.size, .int .i64 x.al] 52) = w0 := ⟨_, rfl⟩
  rw [hw0] at hb g1 g2 gz
  have HB := Lib.hid hb
  have HW := Lib.hid hw0
  obtain ⟨a0, a1⟩ := two_cells g1
  obtain ⟨b0, b1⟩ := two_cells g2
  clear hb hw0 g1 g2 gz
  go_enter Try.func99, Try.ntmps99
  go_wp2_with fail
  rw [HW.out]
  go_wp2_with fail
  go_ret
  exact ⟨rfl, by (repeat (first | (with_reducible exact Below.refl _ _) | (with_reducible refine Below.drew ?_) | ((with_reducible refine Below.alloc ?_ ?hB _); case hB => (first | (with_reducible exact Nat.le_refl _) | omega | (simp; done) | (simp; omega))) | ((with_reducible refine Below.setCell ?_ ?hB _); case hB => (first | (with_reducible exact Nat.le_refl _) | omega | (simp; done) | (simp; omega))))); exact HB.out⟩
/-- szAskedS: what is left, or -1. -/
theorem szAskedS_calls (A : Option Addr) (n c : Nat) (w : World) (left : Int) (hn : n ≤ maxLen) (hl0 : 0 ≤ left) (hl1 : left ≤ 1048576) :
    Calls Try.prog 38 #[.slice A n c, .int .i64 left] w fun e w' => e = .returned (.int .i64 (if left < n then -1 else left - n)) ∧ w = w' := by
  unfold maxLen at hn
  by_cases h0 : left < n
  · rw [if_pos h0]
    go_enter Try.func38, Try.ntmps38
    go_wp2
    go_ret
    exact ⟨rfl, rfl⟩
  · rw [if_neg h0]
    go_enter Try.func38, Try.ntmps38
    go_wp2
    go_ret
    exact ⟨rfl, rfl⟩
theorem info_askB : (Try.prog.info? 52).map (fun i => (i.zero, i.size, i.bytes)) = some (some (.agg #[.int .i64 0, .int .i64 0]), 2, 16) := by kernel_rfl
/-- Two cells stored, one behind the other, in a row of the call's own. -/
theorem stored2 {w : World} {base : Nat} {e : TypeId} {g n cap : Nat} {xs : List Value} (h : w.ownsRow base e 2 (.slice (some ⟨g, 0, none⟩) n cap) n xs) (j : Nat) (u0 u1 : Value) :
    ((w.setCell ⟨g, j, none⟩ u0).setCell ⟨g, j + 1, none⟩ u1).ownsRow base e 2 (.slice (some ⟨g, 0, none⟩) n cap) n ((xs.set j u0).set (j + 1) u1) :=
  ((h.stored j u0).1.stored (j + 1) u1).1
theorem Below.set2 {B : Nat} {a w : World} (h : Below B a w) {g : Nat} (hg : B ≤ g) (j0 j1 : Nat) (u0 u1 : Value) : Below B a ((w.setCell ⟨g, j0, none⟩ u0).setCell ⟨g, j1, none⟩ u1) :=
  (h.setCell (p := ⟨g, j0, none⟩) hg u0).setCell (p := ⟨g, j1, none⟩) hg u1

/-- toAskedS: a new list with the same. -/
theorem toAskedS_calls (A : Option Addr) (c : Nat) (xs : List Ak) (w : World) (hr : RdK w w.heap.size A xs) (hn : xs.length ≤ 1048576) :
    Calls Try.prog 40 #[.slice A xs.length c] w fun e w' => ∃ v, e = .returned v ∧ OwnK w' w.heap.size w'.heap.size v xs ∧ Below w.heap.size w w' := by
  obtain ⟨i0, hi0, hz0, hz1, hz2⟩ := info_parts info_askB
  obtain ⟨w1, hrun, hown, hg⟩ := run_make_full (P := Try.prog) w w.heap.size 61 52 i0 _ 2 Try.underlying61 hi0 hz0 hz1 .i64 .i64 xs.length (by rw [hz2]; omega) (by simp only [maxLen]; omega) (Nat.le_refl _)
  have hb1 : Below w.heap.size w w1 := (Below.refl _ _).grown hg (Nat.le_refl _) (by simp)
  have HO := Lib.hid hown
  have HB0 := Lib.hid hb1
  clear hown hb1
  have HZ := Lib.hid hr
  clear hr
  go_enter Try.func40, Try.ntmps40
  go_wp2_with fail
  clear hrun
  go_loopw [4] (fun i wr => ∃ (k : Nat) (cs : List Value), k ≤ xs.length ∧ i = .int .i64 k ∧ wr.ownsRow w.heap.size 52 2 (.slice (some ⟨w.heap.size, 0, none⟩) xs.length xs.length) xs.length cs ∧ KC cs xs k ∧ Below w.heap.size w wr)
    (fun i _ => xs.length - (intOf i).toNat)
  case atStart => exact ⟨0, _, Nat.zero_le _, rfl, HO.out, KC.zero _ _, HB0.out⟩
  case round =>
    obtain ⟨k, cs, hk, rfl, ho, hwc, hb⟩ := hrel
    by_cases hlt : k < xs.length
    · obtain ⟨b, off, rfl, hbb, e0, e1⟩ := (HZ.out.below hb).at_ hlt
      have HWS := Lib.hid (hwc.step hlt (by have := ho.1; omega))
      have HO2 := Lib.hid ho
      have HB := Lib.hid hb
      generalize xs[k] = x at *
      clear ho hb hwc
      go_wp2_with fail
      refine (toAsked_calls x.size x.al wr).mono ?_
      rintro e w2 ⟨rfl, hb2⟩
      have ho2 : w2.ownsRow w.heap.size 52 2 (.slice (some ⟨w.heap.size, 0, none⟩) xs.length xs.length) xs.length cs := by
        refine HO2.out.kept (grown_of_below hb2 none) (.inr (by simp [Value.ownBlock]))
      have hcl := ho2.1
      have hf0 := ho2.frozenAt (k * 2)
      have hf1 := ho2.frozenAt (k * 2 + 1)
      obtain ⟨u0, hc0⟩ : ∃ u, w2.cell? ⟨w.heap.size, k * 2, none⟩ = some u := ⟨_, by rw [ho2.cellAt _ (by omega), List.getElem?_eq_getElem (by omega)]⟩
      obtain ⟨u1, hc1⟩ : ∃ u, w2.cell? ⟨w.heap.size, k * 2 + 1, none⟩ = some u := ⟨_, by rw [ho2.cellAt _ (by omega), List.getElem?_eq_getElem (by omega)]⟩
      have HON := Lib.hid (stored2 ho2 (k * 2) (.int .i64 x.size) (.int .i64 x.al))
      have HBN := Lib.hid (Below.set2 (HB.out.trans (hb2.mono HB.out.size)) (Nat.le_refl _) (k * 2) (k * 2 + 1) (.int .i64 x.size) (.int .i64 x.al))
      clear ho2 hb2 hcl
      go_wp2_with fail
      go_roundw
      case rel => exact ⟨k + 1, _, by omega, by go_num, HON.out, HWS.out, HBN.out⟩
      case measure => simp [intOf]; omega
    · obtain rfl : k = xs.length := by omega
      have HO2 := Lib.hid ho
      have HWC := Lib.hid hwc
      have HB := Lib.hid hb
      clear ho hb hwc
      go_wp2_with fail
      go_ret
      exact ⟨_, rfl, ⟨cs, OwnS.new HO2.out, HWC.out⟩, HB.out⟩
/-- eqAskedS, where both read alike. -/
theorem eqAskedS_calls (A B : Option Addr) (c d : Nat) (xs : List Ak) (w : World) (hr : RdK w w.heap.size A xs) (hq : RdK w w.heap.size B xs) (hn : xs.length ≤ 1048576) :
    Calls Try.prog 43 #[.slice A xs.length c, .slice B xs.length d] w fun e w' => e = .returned (.bool true) ∧ Below w.heap.size w w' := by
  have HZ := Lib.hid hr
  have HY := Lib.hid hq
  clear hr hq
  have hne : ((xs.length : Int) != (xs.length : Int)) = false := by simp
  go_enter Try.func43, Try.ntmps43
  go_wp2_with fail
  go_loopw [5] (fun i wr => ∃ k : Nat, k ≤ xs.length ∧ i = .int .i64 k ∧ Below w.heap.size w wr) (fun i _ => xs.length - (intOf i).toNat)
  case atStart => exact ⟨0, Nat.zero_le _, rfl, Below.refl _ _⟩
  case round =>
    obtain ⟨k, hk, rfl, hb⟩ := hrel
    by_cases hlt : k < xs.length
    · obtain ⟨b, off, rfl, hbb, e0, e1⟩ := (HZ.out.below hb).at_ hlt
      obtain ⟨b2, off2, rfl, hbb2, g0, g1⟩ := (HY.out.below hb).at_ hlt
      have HC := Lib.hid (fun W => eqAskedSame_calls xs[k] W)
      have HB := Lib.hid hb
      generalize xs[k] = x at *
      clear hb
      have HA := Lib.hid (fun W (h : Below wr.heap.size wr W) => show W.cell? ⟨b, off + k * 2, none⟩ = some (.int .i64 x.size) ∧ W.cell? ⟨b, off + k * 2 + 1, none⟩ = some (.int .i64 x.al) ∧ W.cell? ⟨b2, off2 + k * 2, none⟩ = some (.int .i64 x.size) ∧ W.cell? ⟨b2, off2 + k * 2 + 1, none⟩ = some (.int .i64 x.al)
        from ⟨(h.cell (cell_lt e0)).trans e0, (h.cell (cell_lt e1)).trans e1, (h.cell (cell_lt g0)).trans g0, (h.cell (cell_lt g1)).trans g1⟩)
      go_wp2_with fail
      go_region_held3 (fun W => W.cell? ⟨b, off + k * 2, none⟩ = some (.int .i64 x.size) ∧ W.cell? ⟨b, off + k * 2 + 1, none⟩ = some (.int .i64 x.al) ∧ W.cell? ⟨b2, off2 + k * 2, none⟩ = some (.int .i64 x.size) ∧ W.cell? ⟨b2, off2 + k * 2 + 1, none⟩ = some (.int .i64 x.al))
        (first | exact ⟨e0, e1, g0, g1⟩ | exact HA.out _ hc2)
        ((go_at_call 99; refine (HC.out _).mono ?_; rintro e w2 ⟨rfl, hb2⟩; have hc2 : Below wr.heap.size wr w2 := ⟨hb2.os, hb2.tape, hb2.output, hb2.size, hb2.block⟩))
      have HB2 := Lib.hid (HB.out.trans (hc2.mono HB.out.size))
      clear hb2 hc2
      go_wp2_with fail
      go_roundw
      case rel => exact ⟨k + 1, by omega, by go_num, HB2.out⟩
      case measure => simp [intOf]; omega
    · have HB := Lib.hid hb
      clear hb
      go_wp2_with fail
      go_ret
      exact ⟨rfl, HB.out⟩
/-- markAskedS: what it answers; nothing but the list turns. -/
theorem markAskedS_calls (A : Option Addr) (c lo hi : Nat) (xs : List Ak) (k : Nat) (w : World) (ho : OwnK w lo hi (.slice A xs.length c) xs) (hn : xs.length ≤ 2097152) (hk : k ≤ 4194304) :
    Calls Try.prog 44 #[.slice A xs.length c, .int .i64 k] w fun e w' => e = .returned (.int .i64 (k + 2 * xs.length)) ∧ Span lo hi w w' := by
  obtain ⟨cs0, ho0, _⟩ := ho
  have HO := Lib.hid ho0
  clear ho0
  go_enter Try.func44, Try.ntmps44
  go_wp2_with fail
  go_loopw [1, 5] (fun a i wr => ∃ (j : Nat) (cs : List Value), j ≤ xs.length ∧ i = .int .i64 j ∧ a = .int .i64 (k + 2 * j) ∧ wr.ownsRow lo 52 2 (.slice A xs.length c) xs.length cs ∧ Span lo hi w wr) (fun _ i _ => xs.length - (intOf i).toNat)
  case atStart => exact ⟨0, _, Nat.zero_le _, rfl, by go_num, HO.out.1, Span.refl _ _ _⟩
  case round =>
    obtain ⟨j, cs, hj, rfl, rfl, hown, hsp⟩ := hrel
    by_cases hlt : j < xs.length
    · rcases hown.2 with ⟨hv, hn0⟩ | ⟨g, cap, cur, hv, hbg, hh, hnc, hcm, hcs, htk⟩
      · omega
      injection hv with hA _ hcap
      subst hA
      subst hcap
      have hcl := hown.1
      have hf0 := hown.frozenAt (j * 2)
      have hf1 := hown.frozenAt (j * 2 + 1)
      obtain ⟨u0, hc0⟩ : ∃ u, wr.cell? ⟨g, j * 2, none⟩ = some u := ⟨_, by rw [hown.cellAt _ (by omega), List.getElem?_eq_getElem (by omega)]⟩
      obtain ⟨u1, hc1⟩ : ∃ u, wr.cell? ⟨g, j * 2 + 1, none⟩ = some u := ⟨_, by rw [hown.cellAt _ (by omega), List.getElem?_eq_getElem (by omega)]⟩
      have hgh : g < hi := HO.out.2 g rfl
      have HST := Lib.hid (fun u0 u1 => stored2 hown (j * 2) u0 u1)
      have HSP := Lib.hid (fun (a b : Nat) u0 u1 => (hsp.setCell (p := ⟨g, a, none⟩) hbg hgh u0).setCell (p := ⟨g, b, none⟩) hbg hgh u1)
      clear hown hsp hh hcs htk hcl
      go_wp2_with fail
      go_roundw
      case rel => exact ⟨j + 1, _, by omega, by go_num, by go_num, HST.out _ _, HSP.out _ _ _ _⟩
      case measure => simp [intOf]; omega
    · obtain rfl : j = xs.length := by omega
      have HSP := Lib.hid hsp
      clear hown hsp
      go_wp2_with fail
      go_ret
      exact ⟨rfl, HSP.out⟩
end Go.Proofs.Ytadmllfcnjekcaa
