/-
  Ropes as the law has them: a rope that comes in, boxes that hold one; szRope, toRope, eqRope, markRope of the law.
-/
import Derived.Test.YtomebbapjolnlaaWinsL
import Derived.Test.YtomebbapjolnlaaBox
namespace Go.Proofs.Ytomebbapjolnlaa
open Go.RowKit Go.ChangeShapes Go.WideShapes Go.Joins Go.Deep

section
variable {H : Type} {enc : TypeId × Value → H} {W : World} {b0 : Nat} {v : Value} {d : DataW H} {p : List MemPlace} {t : TypeId} {r : Reach}
set_option maxRecDepth 100000 in
/-- A rope that came in. -/
theorem open_rope {f0 g0 g1 g2 g3 : Field} {t1 e : TypeId} (hs : Try.prog.underlying t = some (.struct #[f0])) (hone : oneCellFields Try.prog #[f0] = true) (hC : Try.prog.cellsOf t = 1) (hft : f0.type = t1)
    (ht1 : Try.prog.underlying t1 = some (.slice e)) (hse : Try.prog.underlying e = some (.struct #[g0, g1, g2, g3])) (hone2 : oneCellFields Try.prog #[g0, g1, g2, g3] = true) (hC4 : Try.prog.cellsOf e = 4)
    (h0 : g0.type = 3) (h1 : g1.type = 3) (h2 : g2.type = 3) (h3 : g3.type = 3)
    (hv : Value.okWide Try.prog W r b0 t v) (h : DataW.Trod enc Try.prog W 0 (fun _ => true) true t v d p) : ∃ A len cap L, v = .agg #[.slice A len cap] ∧ WsArg W A len cap L := by
  obtain ⟨cs, rfl, hsz⟩ := okWide_struct hs hv
  obtain ⟨c0, rfl⟩ := size_one (hsz.trans hC)
  obtain ⟨fuel, hf⟩ := h
  obtain ⟨y0, n, hx, _, h0'⟩ := trod_struct1 hs hf
  obtain ⟨o0, k0⟩ := hone_of hone 0 f0 rfl
  have h1' : DataW.trod enc Try.prog W 0 (fun _ => true) true n t1 [c0] = some y0 := by rw [← hft]; simpa [Value.cells, o0, k0] using h0'
  obtain ⟨A, len, cap, rfl⟩ : ∃ A len cap, c0 = .slice A len cap := by
    rcases open_slice ht1 h1' with ⟨hcs, _⟩ | ⟨a', len', cap', m, n, D, Pl, hcs, _⟩
    · exact ⟨none, 0, 0, by simpa using hcs⟩
    · exact ⟨some a', len', cap', by simpa using hcs⟩
  obtain ⟨L, hL⟩ := open_wins ht1 hse hone2 hC4 h0 h1 h2 h3 h1'
  exact ⟨A, len, cap, L, rfl, hL⟩
end

theorem szRope_calls (A : Option Addr) (n c : Nat) (w : World) (left : Int) (hn : n ≤ maxLen) (hl0 : 0 ≤ left) (hl1 : left ≤ 1048576) :
    Calls Try.prog 19 #[.agg #[.slice A n c], .int .i64 left] w fun e w' => e = .returned (.int .i64 (if left < n then -1 else left - n)) ∧ Below w.heap.size w w' := by
  obtain ⟨w0, hw0⟩ : ∃ w0, (w.alloc (.cells #[.slice A n c] 27)) = w0 := ⟨_, rfl⟩
  have hb0 : Below w.heap.size w w0 := by rw [← hw0]; exact (Below.refl _ _).alloc (Nat.le_refl _) _
  have HC := Lib.hid (szWindowS_calls A n c w0 left hn hl0 hl1)
  have HB := Lib.hid hb0
  have HW := Lib.hid hw0
  clear hb0 hw0
  by_cases h0 : left < n
  · rw [if_pos h0] at HC
    rw [if_pos h0]
    clear h0
    go_enter Try.func19, Try.ntmps19
    go_wp2_with fail
    rw [HW.out]
    refine HC.out.mono ?_
    rintro e w2 ⟨rfl, rfl⟩
    go_wp2_with fail
    go_ret
    exact ⟨rfl, HB.out⟩
  · rw [if_neg h0] at HC
    rw [if_neg h0]
    have h1 : ¬ (left - n) < 0 := by omega
    clear h0
    go_enter Try.func19, Try.ntmps19
    go_wp2_with fail
    rw [HW.out]
    refine HC.out.mono ?_
    rintro e w2 ⟨rfl, rfl⟩
    go_wp2_with fail
    go_ret
    exact ⟨rfl, HB.out⟩

theorem toRope_calls (A : Option Addr) (c : Nat) (L : List Win) (w : World) (hr : RdW w w.heap.size A L) (hn : L.length ≤ 1048576) :
    Calls Try.prog 22 #[.agg #[.slice A L.length c]] w fun e w' => ∃ v, e = .returned (.agg #[v]) ∧ OwnW w' w.heap.size w'.heap.size v L ∧ Below w.heap.size w w' := by
  obtain ⟨w0, hw0⟩ : ∃ w0, ((w.alloc (.cells #[.slice A L.length c] 27)).alloc (.cells #[.slice none 0 0] 36)).alloc (.cells #[.slice none 0 0] 36) = w0 := ⟨_, rfl⟩
  have hb0 : Below w.heap.size w w0 := by rw [← hw0]; exact (((Below.refl _ _).alloc (Nat.le_refl _) _).alloc (by simp) _).alloc (by simp; omega) _
  have hsz0 : w0.heap.size = w.heap.size + 3 := by rw [← hw0]; simp
  have h1 : w0.heap[w.heap.size + 1]? = some (.cells #[.slice none 0 0] 36) := by rw [← hw0]; exact alloc_old _ (by simpa using heap_alloc_new (w.alloc _) _)
  have h2 : w0.heap[w.heap.size + 1 + 1]? = some (.cells #[.slice none 0 0] 36) := by rw [← hw0]; simpa using heap_alloc_new ((w.alloc _).alloc _) _
  have HC := Lib.hid (toWindowS_calls A c L w0 ((hr.below hb0).more hb0.size) hn)
  have HB := Lib.hid hb0
  have HW := Lib.hid hw0
  have H1 := Lib.hid h1
  have H2 := Lib.hid h2
  have HZ := Lib.hid hsz0
  clear hr hb0 h1 h2 hsz0 hw0
  go_enter Try.func22, Try.ntmps22
  go_wp2_with fail
  rw [HW.out]
  refine HC.out.mono ?_
  rintro e w2 ⟨v, rfl, hv, hb2⟩
  have HK1 := Lib.hid (show w2.heap[w.heap.size + 1]? = some (.cells #[.slice none 0 0] 36) from (hb2.block _ (by have := HZ.out; omega)).trans H1.out)
  have HK2 := Lib.hid (show w2.heap[w.heap.size + 1 + 1]? = some (.cells #[.slice none 0 0] 36) from (hb2.block _ (by have := HZ.out; omega)).trans H2.out)
  obtain ⟨Av, cv, rfl⟩ := hv.form
  have HV := Lib.hid hv
  have HB2 := Lib.hid hb2
  clear hv hb2
  have c1 := one_cell HK1.out
  have f1 := one_frozen HK1.out
  have c2 := one_cell HK2.out
  have f2 := one_frozen HK2.out
  go_wp2_with fail
  have hsp : Span (w.heap.size + 1) (w.heap.size + 3) w2 ((w2.setCell ⟨w.heap.size + 1 + 1, 0, none⟩ (.slice Av L.length cv)).setCell ⟨w.heap.size + 1, 0, none⟩ (.slice Av L.length cv)) :=
    ((Span.refl _ _ _).setCell (by simp) (by simp) _).setCell (by simp) (by simp) _
  refine bodyPost_ret (v := .agg #[.slice Av L.length cv]) (by simp [results, Try.results22, go_sem, c1]) rfl ⟨_, rfl, ?_, ?_⟩
  · have hz := HZ.out
    exact (HV.out.span hsp (.inr (by omega))).mono (by omega) (by simp)
  · exact (HB.out.trans (HB2.out.mono HB.out.size)).trans ((hsp.below (by have := HB.out.size; have := HB2.out.size; have := HZ.out; omega)).mono (by omega))

theorem eqRope_calls (A B : Option Addr) (c d : Nat) (L : List Win) (w : World) (hr : RdW w w.heap.size A L) (hq : RdW w w.heap.size B L) (hn : L.length ≤ 1048576) :
    Calls Try.prog 25 #[.agg #[.slice A L.length c], .agg #[.slice B L.length d]] w fun e w' => e = .returned (.bool true) ∧ Below w.heap.size w w' := by
  obtain ⟨w0, hw0⟩ : ∃ w0, (w.alloc (.cells #[.slice A L.length c] 36)).alloc (.cells #[.slice B L.length d] 36) = w0 := ⟨_, rfl⟩
  have hb0 : Below w.heap.size w w0 := by rw [← hw0]; exact ((Below.refl _ _).alloc (Nat.le_refl _) _).alloc (by simp) _
  have HC := Lib.hid (eqWindowS_calls A B c d L w0 ((hr.below hb0).more hb0.size) ((hq.below hb0).more hb0.size) hn)
  have HB := Lib.hid hb0
  have HW := Lib.hid hw0
  clear hr hq hb0 hw0
  go_enter Try.func25, Try.ntmps25
  go_wp2_with fail
  rw [HW.out]
  refine HC.out.mono ?_
  rintro e w2 ⟨rfl, hb2⟩
  have HB2 := Lib.hid (HB.out.trans (hb2.mono HB.out.size))
  clear hb2
  go_wp2_with fail
  go_ret
  exact ⟨rfl, HB2.out⟩

theorem markRope_calls (A : Option Addr) (c lo hi : Nat) (L : List Win) (k : Nat) (w : World) (ho : OwnW w lo hi (.slice A L.length c) L) (hn : L.length ≤ 2097152) (hk : k ≤ 4194304) :
    Calls Try.prog 30 #[.agg #[.slice A L.length c], .int .i64 k] w fun e w' => e = .returned (.int .i64 (k + 4 * L.length)) ∧ Span lo hi w w' := by
  obtain ⟨w0, hw0⟩ : ∃ w0, (w.alloc (.cells #[.slice A L.length c] 36)) = w0 := ⟨_, rfl⟩
  have hb0 : Below w.heap.size w w0 := by rw [← hw0]; exact (Below.refl _ _).alloc (Nat.le_refl _) _
  have HC := Lib.hid (markWindowS_calls A c lo hi L k w0 (ho.below hb0) hn hk)
  have HB := Lib.hid hb0
  have HW := Lib.hid hw0
  clear ho hb0 hw0
  go_enter Try.func30, Try.ntmps30
  go_wp2_with fail
  rw [HW.out]
  refine HC.out.mono ?_
  rintro e w2 ⟨rfl, hsp⟩
  have HS2 := Lib.hid ((Span.of_below (lo := lo) (hi := hi) HB.out).trans hsp)
  clear hsp
  go_wp2_with fail
  go_ret
  exact ⟨rfl, HS2.out⟩

/-- Block g is a variable that holds the rope L, which lies from lo to hi; all of it behind b. -/
structure LBox (W : World) (b g lo hi : Nat) (v : Value) (L : List Win) : Prop where
  box : W.heap[g]? = some (.cells #[v] 36)
  own : OwnW W lo hi v L
  bg : b ≤ g
  blo : b ≤ lo
  gW : g < W.heap.size
  hiW : hi ≤ W.heap.size
  loW : lo ≤ W.heap.size
  out : g < lo ∨ hi ≤ g
section
variable {W W' : World} {b g lo hi : Nat} {v : Value} {L : List Win}
theorem LBox.below (h : LBox W b g lo hi v L) (k : Below W.heap.size W W') : LBox W' b g lo hi v L :=
  ⟨(k.block _ h.gW).trans h.box, h.own.below k, h.bg, h.blo, Nat.lt_of_lt_of_le h.gW k.size, Nat.le_trans h.hiW k.size, Nat.le_trans h.loW k.size, h.out⟩
theorem LBox.span (h : LBox W b g lo hi v L) {l2 h2 : Nat} (k : Span l2 h2 W W') (h1 : hi ≤ l2 ∨ h2 ≤ lo) (h3 : g < l2 ∨ h2 ≤ g) : LBox W' b g lo hi v L :=
  ⟨(k.block _ h.gW h3).trans h.box, h.own.span k h1, h.bg, h.blo, Nat.lt_of_lt_of_le h.gW k.size, Nat.le_trans h.hiW k.size, Nat.le_trans h.loW k.size, h.out⟩
theorem LBox.cell (h : LBox W b g lo hi v L) : W.cell? ⟨g, 0, none⟩ = some v := one_cell h.box
theorem LBox.drew (h : LBox W b g lo hi v L) : LBox W.drew b g lo hi v L := ⟨h.box, h.own, h.bg, h.blo, h.gW, h.hiW, h.loW, h.out⟩
theorem LBox.mk' {W : World} {b g lo hi : Nat} {v : Value} {L : List Win} (h : W.heap[g]? = some (.cells #[v] 36)) (ho : OwnW W lo hi v L) (bg : b ≤ g) (blo : b ≤ lo) (hiW : hi ≤ W.heap.size) (loW : lo ≤ W.heap.size) (out : g < lo ∨ hi ≤ g) : LBox W b g lo hi v L :=
  ⟨h, ho, bg, blo, (Array.getElem?_eq_some_iff.1 h).1, hiW, loW, out⟩
end
end Go.Proofs.Ytomebbapjolnlaa
