/-
  Entries in boxes and in rows of one's own; the law's helpers on them.
-/
import Derived.Test.YtoelagfcapdfpaaTbA
import Derived.Test.YtoelagfcapdfpaaLawW
import Derived.Deep.Upon
namespace Go.Proofs.Ytoelagfcapdfpaa
open Go.RowKit Go.ChangeShapes Go.WideShapes Go.Joins Go.Deep

/-- A list with some of its values set, from a place on. -/
def setL : List Value → Nat → List Value → List Value
  | cs, _, [] => cs
  | cs, o, v :: r => setL (cs.set o v) (o + 1) r
theorem setL_len : ∀ (vs cs : List Value) (o : Nat), (setL cs o vs).length = cs.length
  | [], _, _ => rfl
  | v :: r, cs, o => by rw [setL, setL_len r, List.length_set]
theorem setL_out : ∀ (vs cs : List Value) (o i : Nat), i < o ∨ o + vs.length ≤ i → (setL cs o vs)[i]? = cs[i]?
  | [], _, _, _, _ => rfl
  | v :: r, cs, o, i, h => by
    rw [List.length_cons] at h
    rw [setL, setL_out r _ _ _ (by omega), List.getElem?_set, if_neg (by omega)]
theorem setL_in : ∀ (vs cs : List Value) (o j : Nat), o + vs.length ≤ cs.length → j < vs.length → (setL cs o vs)[o + j]? = vs[j]?
  | [], _, _, _, _, h => by simp at h
  | v :: r, cs, o, j, hl, h => by
    rw [List.length_cons] at h hl
    cases j with
    | zero =>
      simp only [Nat.add_zero]
      rw [setL, setL_out r _ _ _ (by omega), List.getElem?_set, if_pos rfl, if_pos (by omega)]
      rfl
    | succ j =>
      rw [setL, show o + (j + 1) = o + 1 + j by omega, setL_in r _ _ _ (by rw [List.length_set]; omega) (by omega)]
      rfl
theorem setCells_heap {g : Nat} {t : TypeId} : ∀ (vs : List Value) (o : Nat) (w : World) (C : List Value), w.heap[g]? = some (.cells C.toArray t) → (w.setCells g o vs).heap[g]? = some (.cells (setL C o vs).toArray t)
  | [], _, _, _, h => h
  | v :: r, o, w, C, h => by
    rw [World.setCells, setL]
    refine setCells_heap r (o + 1) _ _ ?_
    rw [← List.setIfInBounds_toArray]
    exact heap_setCell_same _ _ _ _ _ _ h
theorem below_setCells {B g : Nat} {w' : World} : ∀ (vs : List Value) (o : Nat) {w : World}, Below B w' w → B ≤ g → Below B w' (w.setCells g o vs)
  | [], _, _, h, _ => h
  | v :: r, o, w, h, hg => below_setCells r (o + 1) (w := w.setCell ⟨g, o, none⟩ v) (h.setCell (p := ⟨g, o, none⟩) hg v) hg
theorem stored_cells {base : Nat} {e : TypeId} {k g n cap : Nat} : ∀ (vs : List Value) (o : Nat) (w : World) (xs : List Value), w.ownsRow base e k (.slice (some ⟨g, 0, none⟩) n cap) n xs → (w.setCells g o vs).ownsRow base e k (.slice (some ⟨g, 0, none⟩) n cap) n (setL xs o vs)
  | [], _, _, _, h => h
  | v :: r, o, w, xs, h => by
    rw [World.setCells, setL]
    exact stored_cells r (o + 1) _ _ (h.stored o v).1

/-- A box with an entry. -/
def EBox (t : TypeId) (w : World) (g : Nat) (x : En) : Prop := w.heap[g]? = some (.cells (enL x).toArray t) ∧ x.key.length = 16
def zeroE : En := ⟨zeroK, ⟨0, 0, 0, 0⟩⟩
theorem info_ent : (Try.prog.info? 93).map (fun i => (i.zero, i.size, i.bytes)) = some (some (.agg (enL zeroE).toArray), 20, 48) := by kernel_rfl
theorem size_ent {x : En} (h : x.key.length = 16) : (Try.prog.info? 93).map (·.size) = some (enL x).toArray.size := by
  obtain ⟨i, hi, _, hs, _⟩ := info_parts info_ent
  rw [hi, List.size_toArray, enL_len h]
  simp [hs]
theorem size_entL {x : En} (h : x.key.length = 16) : (Try.prog.info? 96).map (·.size) = some (enL x).length := by
  rw [enL_len h]
  kernel_rfl
theorem enL_one (x : En) : (enL x).toArray.all (·.oneCell') = true := Array.all_eq_true_iff_forall_mem.2 fun v hv => by
  simp only [enL, List.mem_toArray, List.mem_append] at hv
  rcases hv with h | h
  · obtain ⟨z, _, rfl⟩ := List.mem_map.1 h
    rfl
  · simp only [List.mem_cons, List.not_mem_nil, or_false] at h
    rcases h with rfl | rfl | rfl | rfl <;> rfl
section
variable {t : TypeId} {w w' : World} {B g g' : Nat} {x y : En}
theorem EBox.lt (h : EBox t w g x) : g < w.heap.size := (Array.getElem?_eq_some_iff.1 h.1).1
theorem EBox.below (h : EBox t w g x) (hb : Below w.heap.size w w') : EBox t w' g x := ⟨(hb.block _ h.lt).trans h.1, h.2⟩
theorem EBox.range (h : EBox t w g x) : w.rangeAt g 0 (enL x) := fun j v hv => by
  rw [Nat.zero_add, cell_of_row w g j _ _ _ h.1, List.getElem?_toArray, hv]
theorem EBox.key (h : EBox t w g x) : w.rangeAt g 0 (intV .u8 x.key) := range_key h.range
theorem EBox.win (h : EBox t w g x) : w.cell? ⟨g, 16, none⟩ = some (.int .i64 x.w.arr) ∧ w.cell? ⟨g, 17, none⟩ = some (.int .i64 x.w.start) ∧ w.cell? ⟨g, 18, none⟩ = some (.int .i64 x.w.len) ∧ w.cell? ⟨g, 19, none⟩ = some (.int .i64 x.w.cap) := by
  have := range_win h.2 h.range
  rw [Nat.zero_add, Nat.zero_add, Nat.zero_add, Nat.zero_add] at this
  exact this
theorem EBox.frozen (h : EBox t w g x) (i : Nat) : w.frozen? ⟨g, i, none⟩ = false := by simp [World.frozen?, h.1]
theorem EBox.there (h : EBox t w g x) : w.there g 0 16 := fun j hj => by
  rw [Nat.zero_add]
  refine ⟨?_, h.frozen j⟩
  have hl : j < (enL x).length := by rw [enL_len h.2]; omega
  have := h.range j _ (List.getElem?_eq_getElem hl)
  rw [Nat.zero_add] at this
  rw [this]
  rfl
theorem EBox.setKey (h : EBox t w g x) {k : List Int} (hk : k.length = 16) : EBox t (w.setCells g 0 (intV .u8 k)) g ⟨k, x.w⟩ := by
  refine ⟨?_, hk⟩
  rw [setCells_heap _ _ _ _ h.1]
  have hl : (intV .u8 k).length = 16 := by rw [intV_len, hk]
  have hl2 : (intV .u8 x.key).length = 16 := by rw [intV_len, h.2]
  have hl3 : (intV .u8 (⟨k, x.w⟩ : En).key).length = 16 := hl
  have e : setL (enL x) 0 (intV .u8 k) = enL ⟨k, x.w⟩ := by
    apply List.ext_getElem?
    intro i
    by_cases hi : i < 16
    · have := setL_in (intV .u8 k) (enL x) 0 i (by rw [hl, enL_len h.2]; omega) (by omega)
      rw [Nat.zero_add] at this
      rw [this, enL, List.getElem?_append_left (by omega)]
    · rw [setL_out _ _ _ _ (by omega), enL, enL, List.getElem?_append_right (by omega), List.getElem?_append_right (by omega), hl3, hl2]
  rw [e]
theorem EBox.setWin (h : EBox t w g x) (a s l c : Int) : EBox t ((((w.setCell ⟨g, 16, none⟩ (.int .i64 a)).setCell ⟨g, 17, none⟩ (.int .i64 s)).setCell ⟨g, 18, none⟩ (.int .i64 l)).setCell ⟨g, 19, none⟩ (.int .i64 c)) g ⟨x.key, ⟨a, s, l, c⟩⟩ := by
  refine ⟨?_, h.2⟩
  have e := setCells_heap [.int .i64 a, .int .i64 s, .int .i64 l, .int .i64 c] 16 w _ h.1
  have hl2 : (intV .u8 x.key).length = 16 := by rw [intV_len, h.2]
  have hl3 : (intV .u8 (⟨x.key, ⟨a, s, l, c⟩⟩ : En).key).length = 16 := hl2
  have e2 : setL (enL x) 16 [.int .i64 a, .int .i64 s, .int .i64 l, .int .i64 c] = enL ⟨x.key, ⟨a, s, l, c⟩⟩ := by
    apply List.ext_getElem?
    intro i
    by_cases hi : i < 16
    · rw [setL_out _ _ _ _ (by omega), enL, enL, List.getElem?_append_left (by omega), List.getElem?_append_left (by omega)]
    · by_cases h20 : i < 20
      · have := setL_in [.int .i64 a, .int .i64 s, .int .i64 l, .int .i64 c] (enL x) 16 (i - 16) (by rw [enL_len h.2]; simp) (by simp; omega)
        rw [show 16 + (i - 16) = i by omega] at this
        rw [this, enL, List.getElem?_append_right (by omega), hl3]
      · rw [List.getElem?_eq_none (by rw [setL_len, enL_len h.2]; omega), List.getElem?_eq_none (by rw [enL_len (x := ⟨x.key, ⟨a, s, l, c⟩⟩) h.2]; omega)]
  rw [e2] at e
  exact e
theorem EBox.other (h : EBox t w g x) {p : Addr} (hp : p.block ≠ g) (v : Value) : EBox t (w.setCell p v) g x := ⟨keep_setA h.1 hp, h.2⟩
theorem EBox.otherC (h : EBox t w g x) (hp : g' ≠ g) : ∀ (vs : List Value) (o : Nat), EBox t (w.setCells g' o vs) g x := fun vs o =>
  ⟨(World.heap_setCells_other w g' o vs h.lt (fun e => hp e.symm)).trans h.1, h.2⟩
theorem EBox.rowOther (h : EBox t w g x) (hn : g ≠ g') (c : Array Value) : EBox t (w.setRow g' c) g x := ⟨(setRow_other w g' g c hn).trans h.1, h.2⟩
theorem EBox.row (h : EBox 93 w g x) (hy : y.key.length = 16) : EBox 93 (w.setRow g (enL y).toArray) g y := ⟨setRow_heap w g _ _ _ _ h.1, hy⟩
theorem EBox.ld {ops : Array Oper} {rest : List Oper} {o : Oper} {a : Act} {Q : Exit → Act → World → Prop} (H : EBox 93 w g x) (hgd : o.guard = none) (z : Operand) (ho : o.op = .load 93 z) (hx : a.eval z = .pointer (some ⟨g, 0, none⟩))
    (h : wpList Try.prog ops Q rest (a.put o.dst (.agg (enL x).toArray)) w) : wpList Try.prog ops Q (o :: rest) a w :=
  wpList_load_row hgd _ z ho g hx _ (enL x).toArray _ _ H.1 Try.underlying93 rfl (size_ent H.2) h
theorem EBox.st {ops : Array Oper} {rest : List Oper} {o : Oper} {a : Act} {Q : Exit → Act → World → Prop} (H : EBox 93 w g x) (hgd : o.guard = none) (z u : Operand) (ho : o.op = .store 93 z u) (hx : a.eval z = .pointer (some ⟨g, 0, none⟩)) (hk : y.key.length = 16) (hy : a.eval u = .agg (enL y).toArray)
    (h : wpList Try.prog ops Q rest (a.put o.dst undef) (w.setRow g (enL y).toArray)) : wpList Try.prog ops Q (o :: rest) a w :=
  wpList_store_row hgd _ z u ho g (enL y).toArray hx hy _ _ H.1 (size_ent hk) (by rw [List.size_toArray, List.size_toArray, enL_len H.2, enL_len hk]) (enL_one _) h
end

set_option maxRecDepth 100000 in
/-- toEntry: the same. -/
theorem toEntry_calls (x : En) (w : World) (hx : x.key.length = 16) :
    Calls Try.prog 80 #[.agg (enL x).toArray] w fun e w' => e = .returned (.agg (enL x).toArray) ∧ Below w.heap.size w w' := by
  obtain ⟨h1, h2, h3, h4, h5⟩ := enter3 w (.cells (enL x).toArray 96) (.cells #[.int .u8 0, .int .u8 0, .int .u8 0, .int .u8 0, .int .u8 0, .int .u8 0, .int .u8 0, .int .u8 0, .int .u8 0, .int .u8 0, .int .u8 0, .int .u8 0, .int .u8 0, .int .u8 0, .int .u8 0, .int .u8 0, .int .i64 0, .int .i64 0, .int .i64 0, .int .i64 0] 93) (.cells #[.int .u8 0, .int .u8 0, .int .u8 0, .int .u8 0, .int .u8 0, .int .u8 0, .int .u8 0, .int .u8 0, .int .u8 0, .int .u8 0, .int .u8 0, .int .u8 0, .int .u8 0, .int .u8 0, .int .u8 0, .int .u8 0, .int .i64 0, .int .i64 0, .int .i64 0, .int .i64 0] 93)
  obtain ⟨w0, hw0⟩ : ∃ w0, ((w.alloc (.cells (enL x).toArray 96)).alloc (.cells #[.int .u8 0, .int .u8 0, .int .u8 0, .int .u8 0, .int .u8 0, .int .u8 0, .int .u8 0, .int .u8 0, .int .u8 0, .int .u8 0, .int .u8 0, .int .u8 0, .int .u8 0, .int .u8 0, .int .u8 0, .int .u8 0, .int .i64 0, .int .i64 0, .int .i64 0, .int .i64 0] 93)).alloc (.cells #[.int .u8 0, .int .u8 0, .int .u8 0, .int .u8 0, .int .u8 0, .int .u8 0, .int .u8 0, .int .u8 0, .int .u8 0, .int .u8 0, .int .u8 0, .int .u8 0, .int .u8 0, .int .u8 0, .int .u8 0, .int .u8 0, .int .i64 0, .int .i64 0, .int .i64 0, .int .i64 0] 93) = w0 := ⟨_, rfl⟩
  rw [hw0] at h1 h2 h3 h4 h5
  have HB := Lib.hid h1
  have HW := Lib.hid hw0
  have H1 := Lib.hid (show EBox 96 w0 w.heap.size x from ⟨h2, hx⟩)
  have H2 := Lib.hid (show EBox 93 w0 (w.heap.size + 1) zeroE from ⟨h3, by decide⟩)
  have H3 := Lib.hid (show EBox 93 w0 (w.heap.size + 1 + 1) zeroE from ⟨h4, by decide⟩)
  have HK := Lib.hid hx
  have HT := Lib.hid (fun W => toByteA16_calls x.key W hx)
  clear h1 h2 h3 h4 hw0 hx
  go_enter Try.func80, Try.ntmps80
  go_upto_region 2 with fail
  rw [HW.out]
  go_wp2_with (refine wpList_load_mid rfl 28 _ rfl w.heap.size 0 rfl (intV .u8 x.key) _ H1.out.key under_key rfl (size_key HK.out) ?_)
  refine (HT.out w0).mono ?_
  rintro e w1 ⟨rfl, hb1⟩
  have HB1 := Lib.hid (HB.out.trans (hb1.mono HB.out.size))
  have K1 := Lib.hid (H1.out.below hb1)
  have K2 := Lib.hid (H2.out.below hb1)
  have K3 := Lib.hid (H3.out.below hb1)
  clear hb1
  go_upto_region 3 with (refine wpList_store_mid rfl 28 _ _ rfl (w.heap.size + 1 + 1) 0 (keyA x.key) rfl rfl (by rw [keyA_size, HK.out]; exact K3.out.there) (size_keyA HK.out) (keyA_one _) ?_)
  have HV : Hid (Below w.heap.size w (w1.setCells (w.heap.size + 1 + 1) 0 (intV .u8 x.key))) := Lib.hid (below_setCells _ _ HB1.out (by omega))
  have V1 : Hid (EBox 96 (w1.setCells (w.heap.size + 1 + 1) 0 (intV .u8 x.key)) w.heap.size x) := Lib.hid (K1.out.otherC (by omega) _ _)
  have V2 : Hid (EBox 93 (w1.setCells (w.heap.size + 1 + 1) 0 (intV .u8 x.key)) (w.heap.size + 1) zeroE) := Lib.hid (K2.out.otherC (by omega) _ _)
  have V3 : Hid (EBox 93 (w1.setCells (w.heap.size + 1 + 1) 0 (intV .u8 x.key)) (w.heap.size + 1 + 1) ⟨x.key, ⟨0, 0, 0, 0⟩⟩) := Lib.hid (K3.out.setKey HK.out)
  try rw [List.toList_toArray]
  generalize w1.setCells (w.heap.size + 1 + 1) 0 (intV .u8 x.key) = V at *
  obtain ⟨c16, c17, c18, c19⟩ := V1.out.win
  go_wp2_with fail
  refine (toWin_calls _ _ _ _ V).mono ?_
  rintro e w2 ⟨rfl, hb2⟩
  have HB2 := Lib.hid (HV.out.trans (hb2.mono HV.out.size))
  have U2 := Lib.hid (V2.out.below hb2)
  have U3 := Lib.hid (V3.out.below hb2)
  obtain ⟨d16, d17, d18, d19⟩ := U3.out.win
  have f16 := U3.out.frozen 16
  have f17 := U3.out.frozen 17
  have f18 := U3.out.frozen 18
  have f19 := U3.out.frozen 19
  clear hb2 c16 c17 c18 c19
  go_upto_region 4 with fail
  have HR : Hid (Below w.heap.size w ((((w2.setCell ⟨w.heap.size + 1 + 1, 16, none⟩ (.int .i64 x.w.arr)).setCell ⟨w.heap.size + 1 + 1, 17, none⟩ (.int .i64 x.w.start)).setCell ⟨w.heap.size + 1 + 1, 18, none⟩ (.int .i64 x.w.len)).setCell ⟨w.heap.size + 1 + 1, 19, none⟩ (.int .i64 x.w.cap))) := Lib.hid (by
    refine Below.setCell (Below.setCell (Below.setCell (Below.setCell HB2.out ?_ _) ?_ _) ?_ _) ?_ _ <;> (show w.heap.size ≤ w.heap.size + 1 + 1; omega))
  have R3 := Lib.hid (U3.out.setWin x.w.arr x.w.start x.w.len x.w.cap)
  have R2 : Hid (EBox 93 ((((w2.setCell ⟨w.heap.size + 1 + 1, 16, none⟩ (.int .i64 x.w.arr)).setCell ⟨w.heap.size + 1 + 1, 17, none⟩ (.int .i64 x.w.start)).setCell ⟨w.heap.size + 1 + 1, 18, none⟩ (.int .i64 x.w.len)).setCell ⟨w.heap.size + 1 + 1, 19, none⟩ (.int .i64 x.w.cap)) (w.heap.size + 1) zeroE) := Lib.hid (by
    refine EBox.other (EBox.other (EBox.other (EBox.other U2.out ?_ _) ?_ _) ?_ _) ?_ _ <;> (show w.heap.size + 1 + 1 ≠ w.heap.size + 1; omega))
  clear d16 d17 d18 d19 f16 f17 f18 f19
  generalize (((w2.setCell ⟨w.heap.size + 1 + 1, 16, none⟩ (.int .i64 x.w.arr)).setCell ⟨w.heap.size + 1 + 1, 17, none⟩ (.int .i64 x.w.start)).setCell ⟨w.heap.size + 1 + 1, 18, none⟩ (.int .i64 x.w.len)).setCell ⟨w.heap.size + 1 + 1, 19, none⟩ (.int .i64 x.w.cap) = R at *
  go_wp2_with (first | (refine EBox.ld (x := x) R3.out rfl _ rfl rfl ?_) | (refine EBox.st (y := x) R2.out rfl _ _ rfl rfl HK.out rfl ?_))
  exact bodyPost_ret (v := .agg (enL x).toArray) (results_cell_row rfl _ _ (w.heap.size + 1) _ (enL x).toArray _ _ rfl (R2.out.row HK.out).1 Try.underlying93 rfl (size_ent HK.out)) rfl ⟨rfl, Below.setRow HR.out (by omega) _⟩
end Go.Proofs.Ytoelagfcapdfpaa
