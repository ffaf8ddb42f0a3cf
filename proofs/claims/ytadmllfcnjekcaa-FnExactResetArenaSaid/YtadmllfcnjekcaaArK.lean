/-
  MarkArena of spec and impl.
-/
import Derived.Test.YtadmllfcnjekcaaArO
namespace Go.Proofs.Ytadmllfcnjekcaa
open Go.RowKit

theorem markArR_small (m : List (List Int)) (a : An) : Small (markArR m a).1 ∧ (markArR m a).2.1.ms.length ≤ 2097152 := by
  unfold markArR
  split
  · rename_i h
    refine ⟨⟨h.1.1.1.1, fun r hr => (h.1.1.1.2 r hr).2⟩, ?_⟩
    have := h.1.2.2.2.1
    simp
    omega
  · exact ⟨⟨by simp, fun r hr => by simp at hr⟩, by simp [zeroAn]⟩

/-- A row of the call's own is kept where a span leaves its block out. -/
theorem own_past {w w' : World} {base n l h : Nat} {e : TypeId} {v : Value} {xs : List Value} (ho : w.ownsRow base e 1 v n xs) (hs : Span l h w w') (hne : ∀ b, v.ownBlock = some b → b < l ∨ h ≤ b) : w'.ownsRow base e 1 v n xs := by
  refine ⟨ho.1, ?_⟩
  rcases ho.2 with h0 | ⟨g', cap, cur, rfl, hb, hc, r1, r2, r3, r4⟩
  · exact .inl h0
  · have hg := ho.lt g' rfl
    exact .inr ⟨g', cap, cur, rfl, hb, (hs.block g' hg.2 (hne g' rfl)).trans hc, r1, r2, r3, r4⟩
/-- A row's block is no variable of another type. -/
theorem row_ne {w : World} {base n q : Nat} {e t : TypeId} {v : Value} {xs : List Value} {cs : Array Value} (ho : w.ownsRow base e 1 v n xs) (hq : w.heap[q]? = some (.cells cs t)) (ht : t ≠ e) : ∀ b, v.ownBlock = some b → b < q ∨ q + 1 ≤ b := fun b hb => by
  rcases ho.2 with ⟨rfl, _⟩ | ⟨g', cap, cur, rfl, _, hc, _⟩
  · cases hb
  · obtain rfl : g' = b := Option.some.inj hb
    rcases Nat.lt_trichotomy g' q with h | h | h
    · exact .inl h
    · subst h
      rw [hc] at hq
      injection hq with hq
      injection hq with _ hq
      exact absurd hq.symm ht
    · exact .inr h
theorem intV_snocV (zs : List Int) (z : Int) : intV .i64 zs ++ [.int .i64 z] = intV .i64 (zs ++ [z]) := by simp [intV]

set_option maxRecDepth 100000 in
set_option maxHeartbeats 3200000 in
theorem specMarkArena_calls (A B : Option Addr) (cm d : Nat) (m : List (List Int)) (g : An) (w : World) (hr : RdA w w.heap.size A B m g.ms) (hn : m.length ≤ maxLen) (hkl : g.ms.length ≤ maxLen) :
    Calls Try.prog 47 #[.agg #[.slice A m.length cm, .int .i64 g.w.arr, .int .i64 g.w.start, .int .i64 g.w.len, .int .i64 g.w.cap, .int .i64 g.us, .slice B g.ms.length d]] w fun e w' => ∃ v u, e = .returned (.tuple #[.agg #[v, .int .i64 (markArR m g).2.1.w.arr, .int .i64 (markArR m g).2.1.w.start, .int .i64 (markArR m g).2.1.w.len, .int .i64 (markArR m g).2.1.w.cap, .int .i64 (markArR m g).2.1.us, u], .bool (markArR m g).2.2]) ∧ OwnA w' w.heap.size w'.heap.size v u (markArR m g).1 (markArR m g).2.1.ms ∧ Below w.heap.size w w' := by
  obtain ⟨i0, hi0, hz, hz1, hz2⟩ := info_parts info_intO
  obtain ⟨w0, hw0, hb0, hz0, haa⟩ := enterAA A B m.length cm d g w
  have HC := Lib.hid (specArena_calls A B cm d m g w0 (hr.on hb0) hn hkl)
  have HR := Lib.hid hr
  have HB := Lib.hid hb0
  have HW := Lib.hid hw0
  have HAA := Lib.hid haa
  obtain ⟨c0, d0, d1, d2, d3, d4, d5⟩ := ar_cells haa.par
  clear hr hb0 hw0 haa
  go_enter Try.func47, Try.ntmps47
  go_wp2_with fail
  rw [HW.out]
  refine HC.out.mono ?_
  rintro e w2 ⟨rfl, hb2⟩
  have HB2 := Lib.hid (HB.out.trans (hb2.mono HB.out.size))
  have HA2 := Lib.hid (HAA.out.below hb2)
  have hs2 := hb2.size
  clear hb2 c0 d0 d1 d2 d3 d4 d5
  obtain ⟨c0, d0, d1, d2, d3, d4, d5⟩ := ar_cells HA2.out.par
  by_cases hok : ArOK m g
  · have hd : decide (ArOK m g) = true := decide_eq_true hok
    by_cases h8 : g.ms.length = 8
    · have HV : Hid (markArR m g = ([], zeroAn, false)) := Lib.hid (by rw [markArR, if_neg (fun h => h.2 h8)])
      have h8' : ((g.ms.length : Int) == 8) = true := by simp [h8]
      have H8 := Lib.hid h8
      clear h8 hok
      obtain ⟨r0, r1, r2, r3, r4, r5, r6⟩ := ar_cells HA2.out.res
      obtain ⟨f0, f1, f2, f3, f4, f5, f6⟩ := ar_frozen HA2.out.res
      go_wp2_with fail
      refine bodyPost_ret (v := .tuple #[.agg #[.slice none 0 0, .int .i64 0, .int .i64 0, .int .i64 0, .int .i64 0, .int .i64 0, .slice none 0 0], .bool false]) (by simp [results, Try.results47, go_sem, r0, r1, r2, r3, r4, r5, r6]) rfl ⟨.slice none 0 0, .slice none 0 0, by rw [HV.out]; rfl, by rw [HV.out]; exact OwnA.none_ _ (by simp only [size_seven]; have := HB2.out.size; omega), by (repeat (first | (with_reducible exact Below.refl _ _) | (with_reducible refine Below.drew ?_) | ((with_reducible refine Below.alloc ?_ ?hB _); case hB => (first | (with_reducible exact Nat.le_refl _) | omega | (simp; done) | (simp; omega))) | ((with_reducible refine Below.setCell ?_ ?hB _); case hB => (first | (with_reducible exact Nat.le_refl _) | omega | (simp; done) | (simp; omega))))); exact HB2.out⟩
    · have HV : Hid (markArR m g = (m, ⟨g.w, g.us, g.ms ++ [g.us]⟩, true)) := Lib.hid (by rw [markArR, if_pos ⟨hok, h8⟩])
      have h8' : ((g.ms.length : Int) == 8) = false := by simp; omega
      have HOK := Lib.hid hok
      have hl8 : g.ms.length ≤ 8 := hok.2.2.2.1
      have HO := Lib.hid (ownArena_calls A B cm d m g g.us w2 (HR.out.on HB2.out) hok.1.1 (by omega))
      have H8 := Lib.hid h8
      clear h8 hok
      go_wp2_with fail
      refine HO.out.mono ?_
      rintro e w3 ⟨v, u, rfl, ho, hb3⟩
      obtain ⟨Av, cv, Bu, du, rfl, rfl, hcv⟩ := ho.form
      obtain ⟨w4, hw4⟩ : ∃ w4, w3.alloc (.cells #[.slice Av m.length cv, .int .i64 g.w.arr, .int .i64 g.w.start, .int .i64 g.w.len, .int .i64 g.w.cap, .int .i64 g.us, .slice Bu g.ms.length du] 35) = w4 := ⟨_, rfl⟩
      have hb4 : Below w3.heap.size w3 w4 := by rw [← hw4]; exact (Below.refl _ _).alloc (Nat.le_refl _) _
      have hx4 : w4.heap[w3.heap.size]? = some (.cells #[.slice Av m.length cv, .int .i64 g.w.arr, .int .i64 g.w.start, .int .i64 g.w.len, .int .i64 g.w.cap, .int .i64 g.us, .slice Bu g.ms.length du] 35) := by rw [← hw4]; exact heap_alloc_new _ _
      have hz4 : w4.heap.size = w3.heap.size + 1 := by rw [← hw4]; simp
      obtain ⟨mid, hm1, hm2, hom, hor⟩ := ho.below hb4
      have HW4 := Lib.hid hw4
      have HB4 := Lib.hid (hb3.trans (hb4.mono hb3.size))
      have HA4 := Lib.hid ((HA2.out.below hb3).below hb4)
      have HX4 := Lib.hid hx4
      have HZ4 := Lib.hid hz4
      have hor1 := hor.1
      rw [intV_len] at hor1
      have HN : Hid (∀ (j : Nat) (x : Value), ([.int .i64 g.us] : List Value)[j]? = some x → (w4.alloc (.cells #[.int .i64 g.us] 3)).cell? ((⟨w4.heap.size, 0, none⟩ : Addr).add j) = some x) := Lib.hid fun j x hx => by
        have hj : j = 0 := by have := (List.getElem?_eq_some_iff.1 hx).1; simp at this; exact this
        subst hj
        injection hx with hx
        subst hx
        exact one_cell (heap_alloc_new w4 _)
      have H1 := Lib.hid (show ∀ x ∈ ([.int .i64 g.us] : List Value), x.oneCell' = true from fun x hx => by rw [List.mem_singleton.1 hx]; rfl)
      have hmw : mid ≤ w4.heap.size := by omega
      have HOR := Lib.hid (show (w4.alloc (.cells #[.int .i64 g.us] 3)).ownsRow mid 3 1 (.slice Bu g.ms.length du) g.ms.length (intV .i64 g.ms) from own_below hor1 ((Below.refl _ _).alloc (Nat.le_refl _) _))
      have HOM := Lib.hid hom
      have HLT := Lib.hid (show ∀ b, (Value.slice Bu g.ms.length du).ownBlock = some b → mid ≤ b ∧ b < w3.heap.size from fun b e => ⟨(hor1.lt b e).1, hor.2 b e⟩)
      obtain ⟨x0, x1, x2, x3, x4, x5, x6⟩ := ar_cells hx4
      obtain ⟨y0, y1, y2, y3, y4, y5, y6⟩ := ar_frozen hx4
      have hs3 := hb3.size
      clear hb3 hb4 hw4 hx4 ho hom hor hor1 hz4 c0 d0 d1 d2 d3 d4 d5
      obtain ⟨c0, d0, d1, d2, d3, d4, d5⟩ := ar_cells HA4.out.par
      go_upto_region 4 with fail
      rw [HW4.out]
      go_wp2_with ((at_builtin; refine wpList_append_own _ rfl _ _ 27 rfl mid 3 i0 _ 1 8 Try.underlying27 hi0 hz hz1 hz2 rfl (by decide) _ _ _ rfl HOR.out ⟨w4.heap.size, 0, none⟩ 1 1 [.int .i64 g.us] rfl rfl HN.out H1.out (by simp only [maxLen]; omega) (by omega) (by simp; omega) ?_; intro v' w6 hown6 hgrow hnil; rw [intV_snocV] at hown6; (have hgrow2 : (w4.alloc (.cells #[.int .i64 g.us] 3)).grownBy w6 (Value.slice Bu g.ms.length du).ownBlock := hgrow); (have hs46 : Span mid w3.heap.size w4 w6 := (Span.of_below (show Below w4.heap.size w4 (w4.alloc (.cells #[.int .i64 g.us] 3)) from (Below.refl _ _).alloc (Nat.le_refl _) _)).trans (Span.of_grown hgrow2 HLT.out)); (have hX6 := (hs46.block _ (Array.getElem?_eq_some_iff.1 HX4.out).1 (.inr (Nat.le_refl _))).trans HX4.out); (have hP6 := (hs46.block _ (Array.getElem?_eq_some_iff.1 HA4.out.par).1 (.inl (by have := HB2.out.size; omega))).trans HA4.out.par); (have hR6 := (hs46.block _ (Array.getElem?_eq_some_iff.1 HA4.out.res).1 (.inl (by have := HB2.out.size; omega))).trans HA4.out.res); obtain ⟨B6, d6, rfl⟩ := own_form hown6; (have HO6 := Lib.hid hown6); (have HM6 := Lib.hid (HOM.out.span hs46 (.inl (Nat.le_refl _)))); (have HB6 := Lib.hid (HB4.out.trans ((hs46.below hmw).mono hm1))); (have HXX := Lib.hid hX6); (have HS46 := Lib.hid hs46.size); clear hgrow hgrow2 hnil hs46 hown6 x0 x1 x2 x3 x4 x5 x6 y0 y1 y2 y3 y4 y5 y6 c0 d0 d1 d2 d3 d4 d5; obtain ⟨x0, x1, x2, x3, x4, x5, x6⟩ := ar_cells hX6; obtain ⟨y0, y1, y2, y3, y4, y5, y6⟩ := ar_frozen hX6; obtain ⟨r0, r1, r2, r3, r4, r5, r6⟩ := ar_cells hR6; obtain ⟨f0, f1, f2, f3, f4, f5, f6⟩ := ar_frozen hR6; clear hX6 hR6 hP6))
      have hl2 := HB2.out.size
      have hlX := (Array.getElem?_eq_some_iff.1 HXX.out).1
      refine bodyPost_ret (v := .tuple #[.agg #[.slice Av m.length cv, .int .i64 g.w.arr, .int .i64 g.w.start, .int .i64 g.w.len, .int .i64 g.w.cap, .int .i64 g.us, .slice B6 (g.ms.length + 1) d6], .bool true]) (by simp [results, Try.results47, go_sem, r0, r1, r2, r3, r4, r5, r6]) rfl ⟨.slice Av m.length cv, .slice B6 (g.ms.length + 1) d6, by rw [HV.out], ?_, by (repeat (first | (with_reducible exact Below.refl _ _) | (with_reducible refine Below.drew ?_) | ((with_reducible refine Below.alloc ?_ ?hB _); case hB => (first | (with_reducible exact Nat.le_refl _) | omega | (simp; done) | (simp; omega))) | ((with_reducible refine Below.setCell ?_ ?hB _); case hB => (first | (with_reducible exact Nat.le_refl _) | omega | (simp; done) | (simp; omega))))); exact HB2.out.trans (HB6.out.mono HB2.out.size)⟩
      rw [HV.out]
      have hsp : Span w3.heap.size (w3.heap.size + 1) w6 (w6.setCell ⟨w3.heap.size, 6, none⟩ (.slice B6 (g.ms.length + 1) d6)) := span_set (Span.refl _ _ _) (Nat.le_refl _) (by omega)
      have ho6 := own_past HO6.out hsp (row_ne HO6.out HXX.out (by decide))
      have hfin : OwnA (w6.setCell ⟨w3.heap.size, 6, none⟩ (.slice B6 (g.ms.length + 1) d6)) w2.heap.size (w6.setCell ⟨w3.heap.size, 6, none⟩ (.slice B6 (g.ms.length + 1) d6)).heap.size (.slice Av m.length cv) (.slice B6 (g.ms.length + 1) d6) m (g.ms ++ [g.us]) :=
        ⟨mid, hm1, by rw [World.size_setCell]; omega, HM6.out.span hsp (.inl hm2), OwnR.new (by rw [intV_len, List.length_append]; exact ho6)⟩
      exact (hfin.seven (.inl (by omega))).mono (by omega) (by simp only [World.size_setCell]; exact Nat.le_refl _)
  · have hd : decide (ArOK m g) = false := decide_eq_false hok
    have HV : Hid (markArR m g = ([], zeroAn, false)) := Lib.hid (by rw [markArR, if_neg (fun h => hok h.1)])
    clear hok
    obtain ⟨r0, r1, r2, r3, r4, r5, r6⟩ := ar_cells HA2.out.res
    obtain ⟨f0, f1, f2, f3, f4, f5, f6⟩ := ar_frozen HA2.out.res
    go_wp2_with fail
    refine bodyPost_ret (v := .tuple #[.agg #[.slice none 0 0, .int .i64 0, .int .i64 0, .int .i64 0, .int .i64 0, .int .i64 0, .slice none 0 0], .bool false]) (by simp [results, Try.results47, go_sem, r0, r1, r2, r3, r4, r5, r6]) rfl ⟨.slice none 0 0, .slice none 0 0, by rw [HV.out]; rfl, by rw [HV.out]; exact OwnA.none_ _ (by simp only [size_seven]; have := HB2.out.size; omega), by (repeat (first | (with_reducible exact Below.refl _ _) | (with_reducible refine Below.drew ?_) | ((with_reducible refine Below.alloc ?_ ?hB _); case hB => (first | (with_reducible exact Nat.le_refl _) | omega | (simp; done) | (simp; omega))) | ((with_reducible refine Below.setCell ?_ ?hB _); case hB => (first | (with_reducible exact Nat.le_refl _) | omega | (simp; done) | (simp; omega))))); exact HB2.out⟩

set_option maxRecDepth 100000 in
set_option maxHeartbeats 3200000 in
theorem implMarkArena_calls (A B : Option Addr) (cm d : Nat) (m : List (List Int)) (g : An) (w : World) (hr : RdA w w.heap.size A B m g.ms) (hn : m.length ≤ maxLen) (hkl : g.ms.length ≤ maxLen) (hx : AArgW g) :
    Calls Try.prog 48 #[.agg #[.slice A m.length cm, .int .i64 g.w.arr, .int .i64 g.w.start, .int .i64 g.w.len, .int .i64 g.w.cap, .int .i64 g.us, .slice B g.ms.length d]] w fun e w' => ∃ v u, e = .returned (.tuple #[.agg #[v, .int .i64 (markArR m g).2.1.w.arr, .int .i64 (markArR m g).2.1.w.start, .int .i64 (markArR m g).2.1.w.len, .int .i64 (markArR m g).2.1.w.cap, .int .i64 (markArR m g).2.1.us, u], .bool (markArR m g).2.2]) ∧ OwnA w' w.heap.size w'.heap.size v u (markArR m g).1 (markArR m g).2.1.ms ∧ Below w.heap.size w w' := by
  obtain ⟨i0, hi0, hz, hz1, hz2⟩ := info_parts info_intO
  obtain ⟨w0, hw0, hb0, hz0, haa⟩ := enterAA A B m.length cm d g w
  have HC := Lib.hid (openA_calls w.heap.size A B cm d m g w0 haa.par (hr.on hb0) hn hkl hx)
  have HB := Lib.hid hb0
  have HW := Lib.hid hw0
  have HAA := Lib.hid haa
  clear hr hb0 hw0 haa
  go_enter Try.func48, Try.ntmps48
  go_wp2_with fail
  rw [HW.out]
  refine HC.out.mono ?_
  rintro e w2 (⟨hok, rfl, hb2⟩ | ⟨hok, rfl, hsp, A2, c2, B2, e2, hq2, ho2⟩)
  · have HV : Hid (markArR m g = ([], zeroAn, false)) := Lib.hid (by rw [markArR, if_neg (fun h => hok h.1)])
    have HB2 := Lib.hid (HB.out.trans (hb2.mono HB.out.size))
    have HA2 := Lib.hid (HAA.out.below hb2)
    clear hok hb2
    obtain ⟨r0, r1, r2, r3, r4, r5, r6⟩ := ar_cells HA2.out.res
    obtain ⟨f0, f1, f2, f3, f4, f5, f6⟩ := ar_frozen HA2.out.res
    go_wp2_with fail
    refine bodyPost_ret (v := .tuple #[.agg #[.slice none 0 0, .int .i64 0, .int .i64 0, .int .i64 0, .int .i64 0, .int .i64 0, .slice none 0 0], .bool false]) (by simp [results, Try.results48, go_sem, r0, r1, r2, r3, r4, r5, r6]) rfl ⟨.slice none 0 0, .slice none 0 0, by rw [HV.out]; rfl, by rw [HV.out]; exact OwnA.none_ _ (by simp only [size_seven]; have := HB2.out.size; omega), by (repeat (first | (with_reducible exact Below.refl _ _) | (with_reducible refine Below.drew ?_) | ((with_reducible refine Below.alloc ?_ ?hB _); case hB => (first | (with_reducible exact Nat.le_refl _) | omega | (simp; done) | (simp; omega))) | ((with_reducible refine Below.setCell ?_ ?hB _); case hB => (first | (with_reducible exact Nat.le_refl _) | omega | (simp; done) | (simp; omega))))); exact HB2.out⟩
  · have HB2 := Lib.hid (HB.out.trans ((hsp.below (by omega)).mono (Nat.le_refl _)))
    have HR2 := Lib.hid ((hsp.block _ (Array.getElem?_eq_some_iff.1 HAA.out.res).1 (.inr (Nat.le_refl _))).trans HAA.out.res)
    have HQ2 := Lib.hid hq2
    have hs2 := hsp.size
    obtain ⟨c0, d0, d1, d2, d3, d4, d5⟩ := ar_cells hq2
    by_cases h8 : g.ms.length = 8
    · have HV : Hid (markArR m g = ([], zeroAn, false)) := Lib.hid (by rw [markArR, if_neg (fun h => h.2 h8)])
      have h8' : ((g.ms.length : Int) == 8) = true := by simp [h8]
      clear h8 hok hsp hq2 ho2
      obtain ⟨r0, r1, r2, r3, r4, r5, r6⟩ := ar_cells HR2.out
      obtain ⟨f0, f1, f2, f3, f4, f5, f6⟩ := ar_frozen HR2.out
      go_wp2_with fail
      refine bodyPost_ret (v := .tuple #[.agg #[.slice none 0 0, .int .i64 0, .int .i64 0, .int .i64 0, .int .i64 0, .int .i64 0, .slice none 0 0], .bool false]) (by simp [results, Try.results48, go_sem, r0, r1, r2, r3, r4, r5, r6]) rfl ⟨.slice none 0 0, .slice none 0 0, by rw [HV.out]; rfl, by rw [HV.out]; exact OwnA.none_ _ (by simp only [size_seven]; have := HB2.out.size; omega), by (repeat (first | (with_reducible exact Below.refl _ _) | (with_reducible refine Below.drew ?_) | ((with_reducible refine Below.alloc ?_ ?hB _); case hB => (first | (with_reducible exact Nat.le_refl _) | omega | (simp; done) | (simp; omega))) | ((with_reducible refine Below.setCell ?_ ?hB _); case hB => (first | (with_reducible exact Nat.le_refl _) | omega | (simp; done) | (simp; omega))))); exact HB2.out⟩
    · have HV : Hid (markArR m g = (m, ⟨g.w, g.us, g.ms ++ [g.us]⟩, true)) := Lib.hid (by rw [markArR, if_pos ⟨hok, h8⟩])
      have h8' : ((g.ms.length : Int) == 8) = false := by simp; omega
      have hl8 : g.ms.length ≤ 8 := hok.2.2.2.1
      obtain ⟨mid, hm1, hm2, hom, hor⟩ := ho2
      have hor1 := hor.1
      rw [intV_len] at hor1
      have HN : Hid (∀ (j : Nat) (x : Value), ([.int .i64 g.us] : List Value)[j]? = some x → (w2.alloc (.cells #[.int .i64 g.us] 3)).cell? ((⟨w2.heap.size, 0, none⟩ : Addr).add j) = some x) := Lib.hid fun j x hx => by
        have hj : j = 0 := by have := (List.getElem?_eq_some_iff.1 hx).1; simp at this; exact this
        subst hj
        injection hx with hx
        subst hx
        exact one_cell (heap_alloc_new w2 _)
      have H1 := Lib.hid (show ∀ x ∈ ([.int .i64 g.us] : List Value), x.oneCell' = true from fun x hx => by rw [List.mem_singleton.1 hx]; rfl)
      have hmw : mid ≤ w2.heap.size := by omega
      have HOR := Lib.hid (show (w2.alloc (.cells #[.int .i64 g.us] 3)).ownsRow mid 3 1 (.slice B2 g.ms.length e2) g.ms.length (intV .i64 g.ms) from own_below hor1 ((Below.refl _ _).alloc (Nat.le_refl _) _))
      have HOM := Lib.hid hom
      have HLT := Lib.hid (show ∀ b, (Value.slice B2 g.ms.length e2).ownBlock = some b → mid ≤ b ∧ b < w2.heap.size from fun b e => ⟨(hor1.lt b e).1, hor.2 b e⟩)
      obtain ⟨x0, x1, x2, x3, x4, x5, x6⟩ := ar_frozen hq2
      clear h8 hok hsp hq2 hom hor hor1
      go_wp2_with ((at_builtin; refine wpList_append_own _ rfl _ _ 27 rfl mid 3 i0 _ 1 8 Try.underlying27 hi0 hz hz1 hz2 rfl (by decide) _ _ _ rfl HOR.out ⟨w2.heap.size, 0, none⟩ 1 1 [.int .i64 g.us] rfl rfl HN.out H1.out (by simp only [maxLen]; omega) (by omega) (by simp; omega) ?_; intro v' w6 hown6 hgrow hnil; rw [intV_snocV] at hown6; (have hgrow2 : (w2.alloc (.cells #[.int .i64 g.us] 3)).grownBy w6 (Value.slice B2 g.ms.length e2).ownBlock := hgrow); (have hs46 : Span mid w2.heap.size w2 w6 := (Span.of_below (show Below w2.heap.size w2 (w2.alloc (.cells #[.int .i64 g.us] 3)) from (Below.refl _ _).alloc (Nat.le_refl _) _)).trans (Span.of_grown hgrow2 HLT.out)); (have hX6 := (hs46.block _ (Array.getElem?_eq_some_iff.1 HQ2.out).1 (.inl (by omega))).trans HQ2.out); (have hR6 := (hs46.block _ (Array.getElem?_eq_some_iff.1 HR2.out).1 (.inl (by omega))).trans HR2.out); obtain ⟨B6, d6, rfl⟩ := own_form hown6; (have HO6 := Lib.hid hown6); (have HM6 := Lib.hid (HOM.out.span hs46 (.inl (Nat.le_refl _)))); (have HB6 := Lib.hid (HB2.out.trans ((hs46.below hmw).mono (by omega)))); (have HS46 := Lib.hid hs46.size); clear hgrow hgrow2 hnil hs46 hown6 x0 x1 x2 x3 x4 x5 x6 c0 d0 d1 d2 d3 d4 d5; obtain ⟨x0, x1, x2, x3, x4, x5, x6⟩ := ar_cells hX6; obtain ⟨y0, y1, y2, y3, y4, y5, y6⟩ := ar_frozen hX6; obtain ⟨r0, r1, r2, r3, r4, r5, r6⟩ := ar_cells hR6; obtain ⟨f0, f1, f2, f3, f4, f5, f6⟩ := ar_frozen hR6; clear hX6 hR6))
      have hl6 := HB6.out.size
      refine bodyPost_ret (v := .tuple #[.agg #[.slice A2 m.length c2, .int .i64 g.w.arr, .int .i64 g.w.start, .int .i64 g.w.len, .int .i64 g.w.cap, .int .i64 g.us, .slice B6 (g.ms.length + 1) d6], .bool true]) (by simp [results, Try.results48, go_sem, r0, r1, r2, r3, r4, r5, r6]) rfl ⟨.slice A2 m.length c2, .slice B6 (g.ms.length + 1) d6, by rw [HV.out], ?_, by (repeat (first | (with_reducible exact Below.refl _ _) | (with_reducible refine Below.drew ?_) | ((with_reducible refine Below.alloc ?_ ?hB _); case hB => (first | (with_reducible exact Nat.le_refl _) | omega | (simp; done) | (simp; omega))) | ((with_reducible refine Below.setCell ?_ ?hB _); case hB => (first | (with_reducible exact Nat.le_refl _) | omega | (simp; done) | (simp; omega))))); exact HB6.out⟩
      rw [HV.out]
      have hfin : OwnA w6 w0.heap.size w6.heap.size (.slice A2 m.length c2) (.slice B6 (g.ms.length + 1) d6) m (g.ms ++ [g.us]) :=
        ⟨mid, hm1, (by have := HS46.out; omega), HM6.out, OwnR.new (by rw [intV_len, List.length_append]; exact HO6.out)⟩
      exact ((hfin.setC (.inl (by omega))).seven (.inl (by omega))).mono (by omega) (by simp only [World.size_setCell]; exact Nat.le_refl _)
end Go.Proofs.Ytadmllfcnjekcaa
