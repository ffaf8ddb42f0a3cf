/-
  The law's helpers on memories and windows: toMemory, szMemory, eqMemory, markMemory, heldMemory, toWindow, eqWindow.
-/
import Derived.Test.YtoelagfcapdfpaaMatE
import Derived.Test.YtoelagfcapdfpaaMatK
namespace Go.Proofs.Ytoelagfcapdfpaa
open Go.RowKit

theorem one_cell {w : World} {g : Nat} {u : Value} {t : TypeId} (h : w.heap[g]? = some (.cells #[u] t)) : w.cell? ⟨g, 0, none⟩ = some u := by simp [World.cell?, h]
theorem one_frozen {w : World} {g : Nat} {u : Value} {t : TypeId} (h : w.heap[g]? = some (.cells #[u] t)) : w.frozen? ⟨g, 0, none⟩ = false := by simp [World.frozen?, h]
theorem alloc_old {w : World} {g : Nat} {o : Obj} (x : Obj) (h : w.heap[g]? = some o) : (w.alloc x).heap[g]? = some o :=
  (((Below.refl w.heap.size w).alloc (Nat.le_refl _) x).block g (Array.getElem?_eq_some_iff.1 h).1).trans h
theorem Span.setCell {lo hi : Nat} {a w : World} (h : Span lo hi a w) {p : Addr} (h1 : lo ≤ p.block) (h2 : p.block < hi) (u : Value) : Span lo hi a (w.setCell p u) :=
  ⟨h.os, h.tape, h.output, by rw [World.size_setCell]; exact h.size, fun k hk ho => by rw [Below.heap_setCell _ _ _ _ (by omega)]; exact h.block k hk ho⟩
theorem toMemory_calls (A : Option Addr) (c : Nat) (m : List (List Int)) (w : World) (hr : Rd2 w w.heap.size A m) (hn : m.length ≤ 1048576) (hs : ∀ r ∈ m, r.length ≤ 1048576) :
    Calls Try.prog 20 #[.agg #[.slice A m.length c]] w fun e w' => ∃ v, e = .returned (.agg #[v]) ∧ OwnM w' w.heap.size w'.heap.size v m ∧ Below w.heap.size w w' := by
  obtain ⟨w0, hw0⟩ : ∃ w0, ((w.alloc (.cells #[.slice A m.length c] 24)).alloc (.cells #[.slice none 0 0] 31)).alloc (.cells #[.slice none 0 0] 31) = w0 := ⟨_, rfl⟩
  have hb0 : Below w.heap.size w w0 := by rw [← hw0]; exact (((Below.refl _ _).alloc (Nat.le_refl _) _).alloc (by simp) _).alloc (by simp; omega) _
  have hsz0 : w0.heap.size = w.heap.size + 3 := by rw [← hw0]; simp
  have h1 : w0.heap[w.heap.size + 1]? = some (.cells #[.slice none 0 0] 31) := by rw [← hw0]; exact alloc_old _ (by simpa using heap_alloc_new (w.alloc _) _)
  have h2 : w0.heap[w.heap.size + 1 + 1]? = some (.cells #[.slice none 0 0] 31) := by rw [← hw0]; simpa using heap_alloc_new ((w.alloc _).alloc _) _
  have HC := Lib.hid (toByteSS_calls A c m w0 ((hr.below hb0).more hb0.size) hn hs)
  have HB := Lib.hid hb0
  have HW := Lib.hid hw0
  have H1 := Lib.hid h1
  have H2 := Lib.hid h2
  have HZ := Lib.hid hsz0
  clear hr hs hb0 h1 h2 hsz0 hw0
  go_enter Try.func20, Try.ntmps20
  go_wp2_with fail
  rw [HW.out]
  refine HC.out.mono ?_
  rintro e w2 ⟨v, rfl, hv, hb2⟩
  have HK1 := Lib.hid (show w2.heap[w.heap.size + 1]? = some (.cells #[.slice none 0 0] 31) from (hb2.block _ (by have := HZ.out; omega)).trans H1.out)
  have HK2 := Lib.hid (show w2.heap[w.heap.size + 1 + 1]? = some (.cells #[.slice none 0 0] 31) from (hb2.block _ (by have := HZ.out; omega)).trans H2.out)
  obtain ⟨Av, cv, rfl, hcv⟩ := hv.form
  have HV := Lib.hid hv
  have HB2 := Lib.hid hb2
  clear hv hb2
  have c1 := one_cell HK1.out
  have f1 := one_frozen HK1.out
  have c2 := one_cell HK2.out
  have f2 := one_frozen HK2.out
  go_wp2_with fail
  have hsp : Span (w.heap.size + 1) (w.heap.size + 3) w2 ((w2.setCell ⟨w.heap.size + 1 + 1, 0, none⟩ (.slice Av m.length cv)).setCell ⟨w.heap.size + 1, 0, none⟩ (.slice Av m.length cv)) :=
    ((Span.refl _ _ _).setCell (by simp) (by simp) _).setCell (by simp) (by simp) _
  refine bodyPost_ret (v := .agg #[.slice Av m.length cv]) (by simp [results, Try.results20, go_sem, c1]) rfl ⟨_, rfl, ?_, ?_⟩
  · have hz := HZ.out
    exact (HV.out.span hsp (.inr (by omega))).mono (by omega) (by simp)
  · exact (HB.out.trans (HB2.out.mono HB.out.size)).trans ((hsp.below (by have := HB.out.size; have := HB2.out.size; have := HZ.out; omega)).mono (by omega))

theorem szMemory_calls (A : Option Addr) (c : Nat) (m : List (List Int)) (w : World) (left : Int) (hr : Rd2 w w.heap.size A m) (hn : m.length ≤ maxLen) (hl0 : 0 ≤ left) (hl1 : left ≤ 1048576) :
    Calls Try.prog 18 #[.agg #[.slice A m.length c], .int .i64 left] w fun e w' => SzM m left e ∧ Below w.heap.size w w' := by
  obtain ⟨w0, hw0⟩ : ∃ w0, (w.alloc (.cells #[.slice A m.length c] 24)) = w0 := ⟨_, rfl⟩
  have hb0 : Below w.heap.size w w0 := by rw [← hw0]; exact (Below.refl _ _).alloc (Nat.le_refl _) _
  have HC := Lib.hid (szByteSS_calls A c m w0 left ((hr.below hb0).more hb0.size) hn hl0 hl1)
  have HB := Lib.hid hb0
  have HW := Lib.hid hw0
  clear hr hb0 hw0
  go_enter Try.func18, Try.ntmps18
  go_wp2_with fail
  rw [HW.out]
  refine HC.out.mono ?_
  rintro e w2 ⟨⟨r, rfl, hr⟩, rfl⟩
  have HR := Lib.hid hr
  by_cases hneg : r < 0
  · clear hr
    go_wp2_with fail
    go_ret
    exact ⟨⟨-1, rfl, .inl rfl⟩, HB.out⟩
  · clear hr
    go_wp2_with fail
    go_ret
    exact ⟨⟨r, rfl, HR.out⟩, HB.out⟩

theorem eqMemory_calls (A B : Option Addr) (c d : Nat) (m q : List (List Int)) (w : World) (hr : Rd2 w w.heap.size A m) (hq : Rd2 w w.heap.size B q) (hn : m.length ≤ maxLen) (hm : q.length ≤ maxLen) :
    Calls Try.prog 24 #[.agg #[.slice A m.length c], .agg #[.slice B q.length d]] w fun e w' => e = .returned (.bool (decide (m = q))) ∧ Below w.heap.size w w' := by
  obtain ⟨w0, hw0⟩ : ∃ w0, (w.alloc (.cells #[.slice A m.length c] 31)).alloc (.cells #[.slice B q.length d] 31) = w0 := ⟨_, rfl⟩
  have hb0 : Below w.heap.size w w0 := by rw [← hw0]; exact ((Below.refl _ _).alloc (Nat.le_refl _) _).alloc (by simp) _
  have HC := Lib.hid (eqByteSS_calls A B c d m q w0 ((hr.below hb0).more hb0.size) ((hq.below hb0).more hb0.size) hn hm)
  have HB := Lib.hid hb0
  have HW := Lib.hid hw0
  clear hr hq hb0 hw0
  go_enter Try.func24, Try.ntmps24
  go_wp2_with fail
  rw [HW.out]
  refine HC.out.mono ?_
  rintro e w2 ⟨rfl, n, rfl⟩
  by_cases he : m = q
  · have hd : decide (m = q) = true := decide_eq_true he
    clear he
    go_wp2_with fail
    go_ret
    exact ⟨ret_bool hd.symm, below_drewN HB.out n⟩
  · have hd : decide (m = q) = false := decide_eq_false he
    clear he
    go_wp2_with fail
    go_ret
    exact ⟨ret_bool hd.symm, below_drewN HB.out n⟩

theorem markMemory_calls (A : Option Addr) (c lo hi : Nat) (m : List (List Int)) (k : Nat) (w : World) (ho : OwnM w lo hi (.slice A m.length c) m) (hn : m.length ≤ 2097152) (hs : total m ≤ 2097152) (hk : k ≤ 2097152) (hB : lo ≤ w.heap.size) (_hH : hi ≤ w.heap.size) :
    Calls Try.prog 42 #[.agg #[.slice A m.length c], .int .i64 k] w fun e w' => e = .returned (.int .i64 (k + total m)) ∧ OwnM w' lo hi (.slice A m.length c) (marksM k m) ∧ Span lo hi w w' := by
  obtain ⟨w0, hw0⟩ : ∃ w0, (w.alloc (.cells #[.slice A m.length c] 31)) = w0 := ⟨_, rfl⟩
  have hb0 : Below w.heap.size w w0 := by rw [← hw0]; exact (Below.refl _ _).alloc (Nat.le_refl _) _
  have HC := Lib.hid (markByteSS_calls A c lo hi m k w0 (ho.below hb0) hn hs hk (Nat.le_trans hB hb0.size))
  have HB := Lib.hid hb0
  have HW := Lib.hid hw0
  clear ho hb0 hw0
  go_enter Try.func42, Try.ntmps42
  go_wp2_with fail
  rw [HW.out]
  refine HC.out.mono ?_
  rintro e w2 ⟨rfl, ho2, hsp⟩
  have HO2 := Lib.hid ho2
  have HS2 := Lib.hid ((Span.of_below (lo := lo) (hi := hi) HB.out).trans hsp)
  clear ho2 hsp
  go_wp2_with fail
  go_ret
  exact ⟨rfl, HO2.out, HS2.out⟩

theorem heldMemory_calls (A : Option Addr) (c : Nat) (m : List (List Int)) (k : Nat) (w : World) (hr : Rd2 w w.heap.size A (marksM k m)) (hn : m.length ≤ 2097152) (hs : total m ≤ 2097152) (hk : k ≤ 2097152) :
    Calls Try.prog 68 #[.agg #[.slice A m.length c], .int .i64 k] w fun e w' => e = .returned (.int .i64 (k + total m)) ∧ Below w.heap.size w w' := by
  obtain ⟨w0, hw0⟩ : ∃ w0, (w.alloc (.cells #[.slice A m.length c] 31)) = w0 := ⟨_, rfl⟩
  have hb0 : Below w.heap.size w w0 := by rw [← hw0]; exact (Below.refl _ _).alloc (Nat.le_refl _) _
  have HC := Lib.hid (heldByteSS_calls A c m k w0 ((hr.below hb0).more hb0.size) hn hs hk)
  have HB := Lib.hid hb0
  have HW := Lib.hid hw0
  clear hr hb0 hw0
  go_enter Try.func68, Try.ntmps68
  go_wp2_with fail
  rw [HW.out]
  refine HC.out.mono ?_
  rintro e w2 ⟨rfl, rfl⟩
  have hpos : ¬ ((k : Int) + (total m : Nat)) < 0 := by omega
  go_wp2_with fail
  go_ret
  exact ⟨rfl, HB.out⟩

/-- A window's four numbers. -/
structure Win where
  arr : Int
  start : Int
  len : Int
  cap : Int
deriving DecidableEq
def Win.val (x : Win) : Value := .agg #[.int .i64 x.arr, .int .i64 x.start, .int .i64 x.len, .int .i64 x.cap]
def Win.zero : Win := ⟨0, 0, 0, 0⟩
theorem toWindow_calls (x : Win) (w : World) :
    Calls Try.prog 21 #[x.val] w fun e w' => e = .returned x.val ∧ Below w.heap.size w w' := by
  obtain ⟨a, s, l, c⟩ := x
  unfold Win.val
  go_enter Try.func21, Try.ntmps21
  go_wp2_with fail
  refine bodyPost_ret (v := .agg #[.int .i64 a, .int .i64 s, .int .i64 l, .int .i64 c]) (by simp [results, Try.results21, go_sem]) rfl ⟨rfl, ?_⟩
  (repeat (first | (with_reducible exact Below.refl _ _) | (with_reducible refine Below.drew ?_) | ((with_reducible refine Below.alloc ?_ ?hB _); case hB => (first | (with_reducible exact Nat.le_refl _) | omega | (simp; done) | (simp; omega))) | ((with_reducible refine Below.setCell ?_ ?hB _); case hB => (first | (with_reducible exact Nat.le_refl _) | omega | (simp; done) | (simp; omega)))))

theorem eqWindow_calls (x y : Win) (w : World) :
    Calls Try.prog 39 #[x.val, y.val] w fun e w' => e = .returned (.bool (decide (x = y))) ∧ Below w.heap.size w w' := by
  obtain ⟨a, s, l, c⟩ := x
  obtain ⟨a2, s2, l2, c2⟩ := y
  unfold Win.val
  have hd : decide ((⟨a, s, l, c⟩ : Win) = ⟨a2, s2, l2, c2⟩) = (!(a != a2) && !(s != s2) && !(l != l2) && !(c != c2)) := by rw [Bool.eq_iff_iff]; simp [and_assoc]
  have HD := Lib.hid hd
  clear hd
  rcases h1 : (a != a2) with _ | _ <;> rcases h2 : (s != s2) with _ | _ <;> rcases h3 : (l != l2) with _ | _ <;> rcases h4 : (c != c2) with _ | _ <;>
  · go_enter Try.func39, Try.ntmps39
    go_wp2_with fail
    go_ret
    refine ⟨ret_bool (by rw [HD.out, h1, h2, h3, h4]; rfl), ?_⟩
    (repeat (first | (with_reducible exact Below.refl _ _) | (with_reducible refine Below.drew ?_) | ((with_reducible refine Below.alloc ?_ ?hB _); case hB => (first | (with_reducible exact Nat.le_refl _) | omega | (simp; done) | (simp; omega))) | ((with_reducible refine Below.setCell ?_ ?hB _); case hB => (first | (with_reducible exact Nat.le_refl _) | omega | (simp; done) | (simp; omega)))))
end Go.Proofs.Ytoelagfcapdfpaa
