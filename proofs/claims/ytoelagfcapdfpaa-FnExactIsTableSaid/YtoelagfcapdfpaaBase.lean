/-
  Own words for memory: a slice value that can be read as a list of one-cell values; nothing of the program is named here.
-/
import Derived.WalkKit
import Derived.Below
import Derived.Laws.OwnMore
import Derived.Laws.MakeOwn
import Derived.Deep.Draws
import Derived.Lib.Hide
import Derived.Laws.StructEq
import Derived.Laws.Rows
import Derived.Laws.AppendOwn
namespace Go.Proofs.Ytoelagfcapdfpaa
open Go.RowKit

/-- The slice with address A reads as the values xs (one cell each), in blocks below B. -/
def Rd (w : World) (B : Nat) (A : Option Addr) (xs : List Value) : Prop :=
  xs = [] ∨ ∃ b off, A = some ⟨b, off, none⟩ ∧ b < B ∧ ∀ i u, xs[i]? = some u → w.cell? ⟨b, off + i, none⟩ = some u

section
variable {w w' : World} {B B' : Nat} {A : Option Addr} {xs : List Value}
theorem Rd.empty : Rd w B A [] := .inl rfl
theorem Rd.at_ (h : Rd w B A xs) {k : Nat} (hk : k < xs.length) : ∃ b off, A = some ⟨b, off, none⟩ ∧ b < B ∧ w.cell? ⟨b, off + k, none⟩ = some xs[k] := by
  rcases h with rfl | ⟨b, off, e, hb, hc⟩
  · simp at hk
  · exact ⟨b, off, e, hb, hc k _ (List.getElem?_eq_getElem hk)⟩
theorem Rd.keep (h : Rd w B A xs) (hk : ∀ p : Addr, p.block < B → w'.cell? p = w.cell? p) : Rd w' B A xs := by
  rcases h with rfl | ⟨b, off, e, hb, hc⟩
  · exact .inl rfl
  · exact .inr ⟨b, off, e, hb, fun i u hu => (hk _ hb).trans (hc i u hu)⟩
theorem Rd.more (h : Rd w B A xs) (hB : B ≤ B') : Rd w B' A xs := by
  rcases h with rfl | ⟨b, off, e, hb, hc⟩
  · exact .inl rfl
  · exact .inr ⟨b, off, e, by omega, hc⟩
theorem Rd.below (h : Rd w B A xs) (hb : Below B w w') : Rd w' B A xs := h.keep fun _ hp => hb.cell hp
theorem Rd.drew (h : Rd w B A xs) : Rd w.drew B A xs := h
theorem Rd.drewN (h : Rd w B A xs) (k : Nat) : Rd (w.drewN k) B A xs := h
theorem Rd.alloc (h : Rd w B A xs) (hB : B ≤ w.heap.size) (o : Obj) : Rd (w.alloc o) B A xs := h.keep fun p hp => World.cell?_alloc_lt w o p (by omega)
theorem Rd.setCell (h : Rd w B A xs) {p : Addr} (hB : B ≤ p.block) (u : Value) : Rd (w.setCell p u) B A xs :=
  h.keep fun q hq => World.cell?_setCell_other w p q u (fun e => by subst e; omega)
theorem Rd.grown (h : Rd w B A xs) {row : Option Nat} (hg : w.grownBy w' row) (hB : B ≤ w.heap.size) (hr : ∀ g, row = some g → B ≤ g) : Rd w' B A xs :=
  h.keep fun p hp => World.cell?_of_block (hg.block p.block (by omega) (fun e => by have := hr _ e.symm; omega))
/-- A row of the call's own reads as its elements. -/
theorem Rd.of_own {base : Nat} {e : TypeId} {n c : Nat} (h : w.ownsRow base e 1 (.slice A n c) n xs) : Rd w w.heap.size A xs := by
  rcases h.2 with ⟨hv, hn⟩ | ⟨g, cap, cur, hv, _, hh, _, _, _, _⟩
  · left
    have := h.1
    exact List.eq_nil_of_length_eq_zero (by omega)
  · right
    injection hv with hA _ hc
    subst hA; subst hc
    refine ⟨g, 0, rfl, (Array.getElem?_eq_some_iff.1 hh).1, fun i u hu => ?_⟩
    have hi : i < xs.length := (List.getElem?_eq_some_iff.1 hu).1
    have := h.1
    rw [Nat.zero_add, h.cellAt i (by omega)]
    exact hu
theorem own_len {base : Nat} {e : TypeId} {v : Value} {n : Nat} (h : w.ownsRow base e 1 v n xs) : xs.length = n := by have := h.1; omega
/-- The form of the value of a row of the call's own. -/
theorem own_form {base : Nat} {e : TypeId} {v : Value} {n : Nat} (h : w.ownsRow base e 1 v n xs) : ∃ A c, v = .slice A n c := by
  rcases h.2 with ⟨rfl, rfl⟩ | ⟨g, cap, cur, rfl, _⟩
  · exact ⟨_, _, rfl⟩
  · exact ⟨_, _, rfl⟩
theorem own_cap {base : Nat} {e : TypeId} {n c : Nat} (h : w.ownsRow base e 1 (.slice A n c) n xs) : n ≤ c := by
  rcases h.2 with ⟨hv, hn⟩ | ⟨g, cap, cur, hv, _, _, hnc, _⟩
  · injection hv with _ h1 h2; omega
  · injection hv with _ h1 h2; omega
theorem grown_of_below (h : Below w.heap.size w w') (row : Option Nat) : w.grownBy w' row := ⟨h.os, h.tape, h.output, h.size, fun i hi _ => h.block i hi⟩
theorem own_below {base : Nat} {e : TypeId} {v : Value} {n : Nat} (h : w.ownsRow base e 1 v n xs) (hb : Below w.heap.size w w') : w'.ownsRow base e 1 v n xs := by
  rcases hv : v.ownBlock with _ | g
  · exact h.kept (grown_of_below hb none) (.inl hv)
  · exact h.kept (grown_of_below hb none) (.inr (by rw [hv]; simp))
theorem own_drewN {base : Nat} {e : TypeId} {v : Value} {n : Nat} (h : w.ownsRow base e 1 v n xs) (k : Nat) : (w.drewN k).ownsRow base e 1 v n xs := h
theorem below_drewN {a : World} (h : Below B a w) (k : Nat) : Below B a (w.drewN k) := ⟨h.os, h.tape, h.output, h.size, h.block⟩
theorem below_cells (hb : Below w.heap.size w w') : (∀ b o, b < w.heap.size → w'.cell? ⟨b, o, none⟩ = w.cell? ⟨b, o, none⟩) ∧ (∀ b o, b < w.heap.size → w'.frozen? ⟨b, o, none⟩ = w.frozen? ⟨b, o, none⟩) :=
  ⟨fun b o h => hb.cell (p := ⟨b, o, none⟩) h, fun b o h => hb.frozen (p := ⟨b, o, none⟩) h⟩
end

/-- Strings as values. -/
def strV (zs : List ByteArray) : List Value := zs.map .string
theorem strV_len (zs : List ByteArray) : (strV zs).length = zs.length := by simp [strV]
theorem strV_get {zs : List ByteArray} {k : Nat} (h : k < (strV zs).length) : (strV zs)[k] = .string (zs[k]'(by simpa [strV] using h)) := by simp [strV]
theorem Rd.str {w : World} {B : Nat} {A : Option Addr} {zs : List ByteArray} (h : Rd w B A (strV zs)) {k : Nat} (hk : k < zs.length) :
    ∃ b off, A = some ⟨b, off, none⟩ ∧ b < B ∧ w.cell? ⟨b, off + k, none⟩ = some (.string zs[k]) := by
  obtain ⟨b, off, e, hb, hc⟩ := h.at_ (by rw [strV_len]; exact hk)
  rw [strV_get] at hc
  exact ⟨b, off, e, hb, hc⟩
/-- A row that is filled from the left: one element more. -/
theorem fill_step {z u : Value} (f : List Value) (n k : Nat) (hk : k < n) (hf : f.length = k) :
    (f ++ List.replicate (n - k) z).set k u = (f ++ [u]) ++ List.replicate (n - (k + 1)) z := by
  rw [List.set_append_right _ _ (by omega), hf, Nat.sub_self, show n - k = (n - (k + 1)) + 1 by omega, List.replicate_succ, List.set_cons_zero, List.append_assoc, List.singleton_append]
theorem strV_snoc (zs : List ByteArray) (k : Nat) (h : k < zs.length) : strV (zs.take (k + 1)) = strV (zs.take k) ++ [.string zs[k]] := by
  unfold strV; rw [List.take_succ_eq_append_getElem h, List.map_append]; rfl
theorem fill_str {z : Value} (zs : List ByteArray) (k : Nat) (h : k < zs.length) :
    (strV (zs.take k) ++ List.replicate (zs.length - k) z).set k (.string zs[k]) = strV (zs.take (k + 1)) ++ List.replicate (zs.length - (k + 1)) z := by
  rw [fill_step _ _ _ h (by simp [strV]; omega), strV_snoc zs k h]
theorem bytes_inj {a b : ByteArray} (h : a.toList = b.toList) : a = b := by
  rw [ByteArray.toList_eq, ByteArray.toList_eq] at h
  exact ByteArray.ext (Array.toList_inj.1 h)
theorem ret_bool {a b : Bool} (h : a = b) : Ending.returned (.bool a) = .returned (.bool b) := by rw [h]
theorem take_eq_snoc {α : Type} {xs ys : List α} {k : Nat} (h : xs.take k = ys.take k) (h1 : k < xs.length) (h2 : k < ys.length) (he : xs[k] = ys[k]) : xs.take (k + 1) = ys.take (k + 1) := by
  rw [List.take_succ_eq_append_getElem h1, List.take_succ_eq_append_getElem h2, h, he]

/-- What a slice of strings that came in is good for. -/
def StrArg (w : World) (A : Option Addr) (len cap : Nat) (zs : List ByteArray) : Prop :=
  zs.length = len ∧ len ≤ cap ∧ len ≤ maxLen ∧ Rd w w.heap.size A (strV zs) ∧ ∀ z ∈ zs, z.size ≤ maxLen
theorem strArg_none (w : World) : StrArg w none 0 0 [] := ⟨rfl, Nat.le_refl _, Nat.zero_le _, Rd.empty, fun _ h => by cases h⟩
theorem cell_lt {w : World} {p : Addr} {v : Value} (h : w.cell? p = some v) : p.block < w.heap.size := by
  rcases Nat.lt_or_ge p.block w.heap.size with hlt | hge
  · exact hlt
  · unfold World.cell? at h
    rw [Array.getElem?_eq_none hge] at h
    cases h
theorem strArg_some {w : World} {x : Addr} {l c : Nat} {zs : List ByteArray} (hl : l ≤ c) (hm : c ≤ maxLen) (hz : l ≤ zs.length)
    (hcell : ∀ i, i < zs.length → w.cell? (x.add i) = some (.string (zs.getD i ByteArray.empty))) (hwz : ∀ z ∈ zs, z.size ≤ maxLen) : StrArg w (some x) l c (zs.take l) := by
  refine ⟨by rw [List.length_take]; omega, hl, by omega, ?_, fun z h => hwz z (List.mem_of_mem_take h)⟩
  rcases Nat.eq_zero_or_pos l with rfl | hpos
  · exact .inl (by simp [strV])
  · obtain ⟨b, off, spot⟩ := x
    have hc := hcell 0 (by omega)
    have hspot : spot = none := by simpa [Addr.add] using World.cell?_spot hc
    subst hspot
    have hb : b < w.heap.size := by simpa [Addr.add] using cell_lt hc
    refine .inr ⟨b, off, rfl, hb, fun i u hu => ?_⟩
    have hi : i < l := by
      have := (List.getElem?_eq_some_iff.1 hu).1
      simp [strV] at this
      omega
    have h1 := hcell i (by omega)
    have h2 : (strV (zs.take l))[i]? = some (.string (zs.getD i ByteArray.empty)) := by
      simp only [strV, List.getElem?_map, List.getElem?_take, hi, if_true]
      rw [List.getElem?_eq_getElem (by omega), List.getD_eq_getElem?_getD, List.getElem?_eq_getElem (by omega)]
      rfl
    rw [h2] at hu
    injection hu with hu
    rw [← hu, ← h1]
    simp [Addr.add]
    by_cases h0 : i = 0 <;> simp [h0]
theorem ret_val {a b : Value} (h : a = b) : Ending.returned a = .returned b := by rw [h]
theorem ret_int {k : IntKind} {a b : Int} (h : a = b) : Ending.returned (.int k a) = .returned (.int k b) := by rw [h]
theorem bytes_take_snoc (s : ByteArray) (k : Nat) (h : k < s.size) : s.data.toList.take (k + 1) = s.data.toList.take k ++ [s[k]] := by
  rw [List.take_succ_eq_append_getElem (by simpa using h)]; rfl
theorem one_byte {s : ByteArray} (h : s.size = 1) : ∃ c, s = ⟨#[c]⟩ := by
  obtain ⟨⟨l⟩⟩ := s
  match l, h with
  | [c], _ => exact ⟨c, rfl⟩
theorem ne_bool {a b : ByteArray} (h : a ≠ b) : (!a.toList == b.toList) = true := by simpa using fun e => h (bytes_inj e)
theorem eq_bool {a b : ByteArray} (h : a = b) : (!a.toList == b.toList) = false := by simp [h]
/-- A new block of one-cell values reads as these. -/
theorem rd_new (w : World) (cs : List Value) (t : TypeId) : Rd (w.alloc (.cells cs.toArray t)) (w.heap.size + 1) (some ⟨w.heap.size, 0, none⟩) cs := by
  refine .inr ⟨w.heap.size, 0, rfl, by omega, fun i u hu => ?_⟩
  have h : (w.alloc (.cells cs.toArray t)).heap[w.heap.size]? = some (.cells cs.toArray t (0, 0)) := heap_alloc_new w _
  rw [cell_of_row _ _ _ _ _ _ h]
  simpa using hu

/-- Integers as values. -/
def intV (k : IntKind) (zs : List Int) : List Value := zs.map (.int k)
theorem intV_len (k : IntKind) (zs : List Int) : (intV k zs).length = zs.length := by simp [intV]
theorem Rd.int {w : World} {B : Nat} {A : Option Addr} {k : IntKind} {zs : List Int} (h : Rd w B A (intV k zs)) {i : Nat} (hi : i < zs.length) :
    ∃ b off, A = some ⟨b, off, none⟩ ∧ b < B ∧ w.cell? ⟨b, off + i, none⟩ = some (.int k zs[i]) := by
  obtain ⟨b, off, e, hb, hc⟩ := h.at_ (k := i) (by rw [intV_len]; exact hi)
  refine ⟨b, off, e, hb, ?_⟩
  rw [hc]; simp [intV]
/-- What a slice of integers that came in is good for. -/
def IntArg (k : IntKind) (w : World) (A : Option Addr) (len cap : Nat) (zs : List Int) : Prop :=
  zs.length = len ∧ len ≤ cap ∧ cap ≤ maxLen ∧ Rd w w.heap.size A (intV k zs) ∧ ∀ z ∈ zs, (Lit.int k z).wf = true
theorem intArg_none (k : IntKind) (w : World) : IntArg k w none 0 0 [] := ⟨rfl, Nat.le_refl _, Nat.zero_le _, Rd.empty, fun _ h => by cases h⟩
theorem intArg_some {k : IntKind} {w : World} {x : Addr} {l c : Nat} {zs : List Int} (hl : l ≤ c) (hm : c ≤ maxLen) (hz : l ≤ zs.length)
    (hcell : ∀ i, i < zs.length → w.cell? (x.add i) = some (.int k (zs.getD i 0))) (hwz : ∀ z ∈ zs, (Lit.int k z).wf = true) : IntArg k w (some x) l c (zs.take l) := by
  refine ⟨by rw [List.length_take]; omega, hl, hm, ?_, fun z h => hwz z (List.mem_of_mem_take h)⟩
  rcases Nat.eq_zero_or_pos l with rfl | hpos
  · exact .inl (by simp [intV])
  · obtain ⟨b, off, spot⟩ := x
    have hc := hcell 0 (by omega)
    have hspot : spot = none := by simpa [Addr.add] using World.cell?_spot hc
    subst hspot
    have hb : b < w.heap.size := by simpa [Addr.add] using cell_lt hc
    refine .inr ⟨b, off, rfl, hb, fun i u hu => ?_⟩
    have hi : i < l := by
      have := (List.getElem?_eq_some_iff.1 hu).1
      simp [intV] at this
      omega
    have h1 := hcell i (by omega)
    have h2 : (intV k (zs.take l))[i]? = some (.int k (zs.getD i 0)) := by
      simp only [intV, List.getElem?_map, List.getElem?_take, hi, if_true]
      rw [List.getElem?_eq_getElem (by omega), List.getD_eq_getElem?_getD, List.getElem?_eq_getElem (by omega)]
      rfl
    rw [h2] at hu
    injection hu with hu
    rw [← hu, ← h1]
    simp [Addr.add]
    by_cases h0 : i = 0 <;> simp [h0]
end Go.Proofs.Ytoelagfcapdfpaa
