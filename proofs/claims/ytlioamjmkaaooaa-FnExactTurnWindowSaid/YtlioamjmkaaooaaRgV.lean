/-
  A window turned: l5Turn, TurnWindow of spec.
-/
import Derived.Test.YtlioamjmkaaooaaRgB
import Derived.Test.YtlioamjmkaaooaaBox2
import Derived.Deep.DeepCutAuto
namespace Go.Proofs.Ytlioamjmkaaooaa
open Go.RowKit

/-- The bytes of a window behind a turn by k. -/
def turnL (m : List (List Int)) (n s l k : Nat) : List Int := wb m n (s + k) (l - k) ++ wb m n s k
theorem turnL_len {m : List (List Int)} {n s l k : Nat} (hn : n < m.length) (h : s + l ≤ m[n].length) (hk : k ≤ l) : (turnL m n s l k).length = l := by
  rw [turnL, List.length_append, wb_len hn (by omega), wb_len hn (by omega)]; omega
theorem wb_drop {m : List (List Int)} {n s l k : Nat} (hn : n < m.length) : (wb m n s l).drop k = wb m n (s + k) (l - k) := by
  rw [wb_eq hn, wb_eq hn, List.drop_take, List.drop_drop]
theorem wb_tk {m : List (List Int)} {n s l k : Nat} (hn : n < m.length) (h : k ≤ l) : (wb m n s l).take k = wb m n s k := by
  rw [wb_eq hn, wb_eq hn, List.take_take, Nat.min_eq_left h]
theorem rd_cell {w : World} {B g o i : Nat} {xs : List Value} {u : Value} (h : Rd w B (some ⟨g, o, none⟩) xs) (hu : xs[i]? = some u) : w.cell? ⟨g, o + i, none⟩ = some u := by
  rcases h with h | ⟨b, off, e, hb, hc⟩
  · rw [h] at hu; simp at hu
  · injection e with e; injection e with e1 e2; subst e1; subst e2
    exact hc i u hu
theorem one_intVR (xs : List Int) : ∀ u ∈ intV .u8 xs, u.oneCell' = true := by
  intro u hu
  obtain ⟨z, _, rfl⟩ := List.mem_map.1 hu
  rfl
theorem own_conv {w : World} {base a b : Nat} {e : TypeId} {v : Value} {xs ys : List Value} (h : w.ownsRow base e 1 v a xs) (hab : a = b) (hx : xs = ys) : w.ownsRow base e 1 v b ys := by
  subst hab hx
  exact h
theorem own_drw {w : World} {base n : Nat} {e : TypeId} {v : Value} {xs : List Value} (h : w.ownsRow base e 1 v n xs) : w.drew.ownsRow base e 1 v n xs := h
theorem own_drwM {w : World} {lo hi : Nat} {v : Value} {m : List (List Int)} (h : OwnM w lo hi v m) : OwnM w.drew lo hi v m := h
/-- The memory behind a turn. -/
def turnM (m : List (List Int)) (n s l k : Nat) : List (List Int) := m.set n (over (m.getD n []) s (turnL m n s l k))

set_option maxRecDepth 100000 in
set_option maxHeartbeats 3200000 in
theorem specTurn_calls (A : Option Addr) (cm : Nat) (m : List (List Int)) (n s l c k : Nat) (w : World) (hr : Rd2 w w.heap.size A m) (hok : WinOK m ⟨n, s, l, c⟩) (hk : k ≤ l) :
    Calls Try.prog 86 #[.agg #[.slice A m.length cm], .agg #[.int .i64 n, .int .i64 s, .int .i64 l, .int .i64 c], .int .i64 k] w fun e w' => ∃ v, e = .returned (.agg #[v]) ∧ OwnM w' w.heap.size w'.heap.size v (turnM m n s l k) ∧ Below w.heap.size w w' := by
  have hmok := hok.1
  obtain ⟨n', s', l', c', e, hn, hlc, hsc, h1m, h64, h16⟩ := hok.nat
  simp only [Win.mk.injEq, Int.natCast_inj] at e
  obtain ⟨rfl, rfl, rfl, rfl⟩ := e
  have hsl : s + l ≤ m[n].length := by omega
  obtain ⟨i0, hi0, hz, hz1, hz2⟩ := info_parts info_u8
  obtain ⟨w0, hw0, hb0, hz0, hmw⟩ := enterMWM A m.length cm n s l c w
  have HC := Lib.hid (specBytes_calls A cm m n s l c w0 ((hr.below hb0).more hb0.size) hn h16 hsl h64)
  have HR := Lib.hid hr
  have HB := Lib.hid hb0
  have HW := Lib.hid hw0
  have HMW := Lib.hid hmw
  have HML := Lib.hid (show (turnL m n s l k).length = l from turnL_len hn hsl hk)
  have HTE := Lib.hid (show intV .u8 ((wb m n s l).drop k) ++ intV .u8 ((wb m n s l).take k) = intV .u8 (turnL m n s l k) by rw [wb_drop hn, wb_tk hn hk, turnL]; simp [intV])
  have HWL := Lib.hid (show (wb m n s l).length = l from wb_len hn hsl)
  have HTM := Lib.hid (show turnM m n s l k = m.set n (over m[n] (s + 0) (turnL m n s l k)) by rw [turnM, getD_eq hn, Nat.add_zero])
  have HWR : Hid (∀ W, Below w.heap.size w W → ∀ LA lc, Rd W W.heap.size LA (intV .u8 (turnL m n s l k)) → Calls Try.prog 103 #[.agg #[.slice A m.length cm], .agg #[.int .i64 n, .int .i64 s, .int .i64 l, .int .i64 c], .int .i64 0, .slice LA (turnL m n s l k).length lc] W fun e w' => ∃ v, e = .returned (.agg #[v]) ∧ OwnM w' W.heap.size w'.heap.size v (turnM m n s l k) ∧ Below W.heap.size W w') := Lib.hid (fun W hb LA lc hl => by
    have h := specWrite_calls A cm m n s 0 l c LA lc (turnL m n s l k) W ((hr.below hb).more hb.size) hmok hn (by rw [turnL_len hn hsl hk]; omega) hl
    rw [← HTM.out] at h
    exact h)
  have c0 := one_cell hmw.mw.mem
  obtain ⟨d0, d1, d2, d3⟩ := four_cells hmw.mw.win
  generalize wb m n s l = L at *
  clear hr hb0 hmw hw0 hmok
  go_enter Try.func86, Try.ntmps86
  go_wp2_with fail
  rw [HW.out]
  refine HC.out.mono ?_
  rintro e w4 ⟨g4, cv, rfl, ho4, hb4⟩
  have HB4 := Lib.hid (HB.out.trans (hb4.mono HB.out.size))
  have HM4 := Lib.hid (HMW.out.below hb4)
  have HO4 := Lib.hid ho4
  have hlc4 : l ≤ cv := (own_le ho4).1
  have hlc5 : cv ≤ maxLen := (own_le ho4).2
  have hs04 := hb4.size
  clear hb4 ho4 c0 d0 d1 d2 d3
  have HLR : Hid (Rd w4 w4.heap.size (some ⟨g4, 0, none⟩) (intV .u8 L)) := Lib.hid (by
    have h := HO4.out
    rw [← HWL.out] at h
    exact Rd.of_own h)
  have HK : Hid (∀ W, Below w4.heap.size w4 W → W.cell? ⟨w.heap.size, 0, none⟩ = some (.slice A m.length cm) ∧ W.cell? ⟨w.heap.size + 1, 0, none⟩ = some (.int .i64 n) ∧ W.cell? ⟨w.heap.size + 1, 1, none⟩ = some (.int .i64 s) ∧ W.cell? ⟨w.heap.size + 1, 2, none⟩ = some (.int .i64 l) ∧ W.cell? ⟨w.heap.size + 1, 3, none⟩ = some (.int .i64 c)) := Lib.hid fun W h => ⟨one_cell (HM4.out.below h).mw.mem, four_cells (HM4.out.below h).mw.win⟩
  have HD1 : Hid (∀ W, Below w4.heap.size w4 W → ∀ o, (k < l → o = k) → ∀ j u, (intV .u8 (L.drop k))[j]? = some u → W.cell? ((⟨g4, o, none⟩ : Addr).add j) = some u) := Lib.hid fun W hb o ho j u hu => by
    have hj : j < l - k := by
      have := (List.getElem?_eq_some_iff.1 hu).1
      rw [intV_len, List.length_drop, HWL.out] at this
      exact this
    rw [ho (by omega)]
    have hu2 : (intV .u8 L)[k + j]? = some u := by
      rw [← hu]; simp [intV, List.getElem?_drop]
    have h := rd_cell (HLR.out.below hb) hu2
    rw [Nat.zero_add] at h
    rw [Go.WideShapes.add_plain]
    exact h
  have HD2 : Hid (∀ W, Below w4.heap.size w4 W → ∀ j u, (intV .u8 (L.take k))[j]? = some u → W.cell? ((⟨g4, 0, none⟩ : Addr).add j) = some u) := Lib.hid fun W hb j u hu => by
    have hj : j < k := by
      have := (List.getElem?_eq_some_iff.1 hu).1
      rw [intV_len, List.length_take, HWL.out] at this
      omega
    have hu2 : (intV .u8 L)[j]? = some u := by
      rw [← hu]; simp [intV, hj]
    have h := rd_cell (HLR.out.below hb) hu2
    rw [Go.WideShapes.add_plain]
    exact h
  have j1 : (0 : Int) ≤ (k : Int) := by omega
  have j2 : (k : Int) ≤ (l : Int) := by omega
  have j3 : (k : Int) ≤ (cv : Int) := by omega
  have j4 : (l : Int) ≤ (cv : Int) := by omega
  have hkl := hk
  have hlen1 : (L.drop k).length = l - k := by rw [List.length_drop, HWL.out]
  have hlen2 : (L.take k).length = k := by rw [List.length_take, HWL.out]; omega
  have HN1 := Lib.hid (show (intV .u8 (L.drop k)).length = (l - k) * 1 by rw [intV_len, hlen1]; omega)
  have HN2 := Lib.hid (show (intV .u8 (L.take k)).length = k * 1 by rw [intV_len, hlen2]; omega)
  clear hlen1 hlen2
  have HOM := Lib.hid (own_drw (World.ownsRow_made (base := w4.heap.size) (e := 5) (size := 1) w4 #[] 0 (Nat.le_refl _) (Nat.zero_le _) rfl))
  have hc5 : Below w4.heap.size w4 (w4.alloc (.cells #[] 5)).drew := ((Below.refl _ _).alloc (Nat.le_refl _) _).drew
  have hsz5 : w4.heap.size ≤ (w4.alloc (.cells #[] 5)).drew.heap.size := hc5.size
  have HL : Hid (∀ W : World, W.heap[w.heap.size]? = some (.cells #[.slice A m.length cm] 32) → W.heap[w.heap.size + 1]? = some (.cells #[.int .i64 n, .int .i64 s, .int .i64 l, .int .i64 c] 34) → W.cell? ⟨w.heap.size, 0, none⟩ = some (.slice A m.length cm) ∧ W.cell? ⟨w.heap.size + 1, 0, none⟩ = some (.int .i64 n) ∧ W.cell? ⟨w.heap.size + 1, 1, none⟩ = some (.int .i64 s) ∧ W.cell? ⟨w.heap.size + 1, 2, none⟩ = some (.int .i64 l) ∧ W.cell? ⟨w.heap.size + 1, 3, none⟩ = some (.int .i64 c)) := Lib.hid fun W h h' => ⟨one_cell h, four_cells h'⟩
  have HC5 := Lib.hid hc5
  clear hc5
  generalize hME : turnM m n s l k = M at *
  have HME := Lib.hid hME
  clear hME
  generalize turnL m n s l k = T at *
  rcases (show k < l ∨ (k = l ∧ cv = l) ∨ (k = l ∧ l < cv) by omega) with hcs | ⟨hcs, hcs2⟩ | ⟨hcs, hcs2⟩
  all_goals (try have hne : ¬ cv = k := by omega)
  all_goals (try have hne2 : ¬ cv = l := by omega)
  all_goals (go_wp2_with fail)
  all_goals (
    obtain ⟨c0, d0, d1, d2, d3⟩ := HK.out w4.drew (Below.refl _ _).drew
    go_region_held3 (fun W => W.cell? ⟨w.heap.size, 0, none⟩ = some (.slice A m.length cm) ∧ W.cell? ⟨w.heap.size + 1, 0, none⟩ = some (.int .i64 n) ∧ W.cell? ⟨w.heap.size + 1, 1, none⟩ = some (.int .i64 s) ∧ W.cell? ⟨w.heap.size + 1, 2, none⟩ = some (.int .i64 l) ∧ W.cell? ⟨w.heap.size + 1, 3, none⟩ = some (.int .i64 c))
      (first | (with_reducible exact ⟨c0, d0, d1, d2, d3⟩) | (with_reducible exact HK.out _ HC5.out) | (with_reducible exact HK.out _ hc6) | (with_reducible exact HK.out _ hc7) | (with_reducible exact HK.out _ hc8) | exact HL.out _ (one_other (HM4.out.below hc8).mw.mem (by omega)) (one_other (HM4.out.below hc8).mw.win (by omega)))
      (first | (refine step_append_ring rfl (.tmp 13) (.tmp 16) 45 rfl w4.heap.size 5 i0 _ 1 1 Try.underlying45 hi0 hz hz1 hz2 rfl (by decide) (.slice (some ⟨w4.heap.size, 0, none⟩) 0 0) 0 [] rfl HOM.out _ _ _ (intV .u8 (L.drop k)) rfl (by have h := HN1.out; omega) (HD1.out _ HC5.out _ (by omega)) (one_intVR _) (by simp only [maxLen]; omega) (by omega) hsz5 ?_; intro v6 w6 hown6 hg6; have hc6 : Below w4.heap.size w4 w6 := below_own2 HC5.out HOM.out hg6 hsz5; have HO6 := Lib.hid hown6; have hs6 := hc6.size; clear hown6 hg6) | (refine step_append_ring rfl (.tmp 17) (.tmp 20) 45 rfl w4.heap.size 5 i0 _ 1 1 Try.underlying45 hi0 hz hz1 hz2 rfl (by decide) v6 _ _ rfl HO6.out _ _ _ (intV .u8 (L.take k)) rfl (by have h := HN2.out; omega) (HD2.out _ hc6) (one_intVR _) (by simp only [maxLen]; omega) (by omega) hs6 ?_; intro v7 w7 hown7 hg7; have hc7 : Below w4.heap.size w4 w7 := below_own2 hc6 HO6.out hg7 hs6; have ho7 := own_conv (b := T.length) (ys := intV .u8 T) hown7 (by have e1 := HML.out; omega) (by rw [List.nil_append]; exact HTE.out); have HO7 := Lib.hid ho7; obtain ⟨A7, c7, rfl⟩ := own_form ho7; have hs7 := hc7.size; clear hown7 hg7 ho7) | (go_at_call 103; (with_reducible refine (HWR.out w7 (HB4.out.trans (hc7.mono HB4.out.size)) A7 c7 (Rd.of_own HO7.out)).mono ?_); rintro e w8 ⟨v8, rfl, ho8, hb8⟩; obtain ⟨A8, c8, rfl, hc8'⟩ := ho8.form; have hc8 : Below w4.heap.size w4 w8 := hc7.trans (hb8.mono hc7.size); have HO8 := Lib.hid ho8; have hs8 := hb8.size; have q0 := one_cell (HM4.out.below hc8).res; have qf := one_frozen (HM4.out.below hc8).res; clear ho8 hb8)))
  all_goals (go_wp2_with fail)
  all_goals (
    refine bodyPost_ret (v := .agg #[.slice A8 M.length c8]) (by simp [results, Try.results86, go_sem, q0]) rfl ⟨_, rfl, ?_, by (repeat (first | (with_reducible exact Below.refl _ _) | (with_reducible refine Below.drew ?_) | ((with_reducible refine Below.alloc ?_ ?hB _); case hB => (first | (with_reducible exact Nat.le_refl _) | omega | (simp; done) | (simp; omega))) | ((with_reducible refine Below.setCell ?_ ?hB _); case hB => (first | (with_reducible exact Nat.le_refl _) | omega | (simp; done) | (simp; omega))))); exact HB4.out.trans (hc8.mono HB4.out.size)⟩
    rw [HME.out]
    refine (own_setC (i := 0) (g := w.heap.size + 1 + 1) (u := .slice A8 M.length c8) HO8.out (.inl (by omega))).mono (by omega) ?_
    simp only [World.size_setCell]
    exact Nat.le_refl _)
end Go.Proofs.Ytlioamjmkaaooaa
