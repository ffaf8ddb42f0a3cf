/-
  Arenas of the call's own: l1Own, l8Own of spec; slices.Clone, open of impl.
-/
import Derived.Test.YtadmllfcnjekcaaArS
import Derived.Test.YtadmllfcnjekcaaSpecO
import Derived.Test.YtadmllfcnjekcaaCopyM
import Derived.Deep.RegionHeld3
import Derived.Deep.RegionLaw
import Derived.Deep.DeepCutAuto
namespace Go.Proofs.Ytadmllfcnjekcaa
open Go.RowKit

theorem ints_one (zs : List Int) : ∀ u ∈ intV .i64 zs, u.oneCell' = true := by
  intro u hu
  obtain ⟨z, _, rfl⟩ := List.mem_map.1 hu
  rfl
theorem info_intO : (Try.prog.info? 3).map (fun i => (i.zero, i.size, i.bytes)) = some (some (.int .i64 0), 1, 8) := by kernel_rfl
/-- The cells of a row that reads as ints, as append wants them. -/
theorem ints_news {w : World} {b off B : Nat} {zs : List Int} (h : Rd w B (some ⟨b, off, none⟩) (intV .i64 zs)) : ∀ (j : Nat) (u : Value), (intV .i64 zs)[j]? = some u → w.cell? ((⟨b, off, none⟩ : Addr).add j) = some u := fun j u hu => by
  have hj : j < (intV .i64 zs).length := (List.getElem?_eq_some_iff.1 hu).1
  obtain ⟨b2, off2, e, hb, hc⟩ := h.at_ hj
  injection e with e
  injection e with e1 e2
  subst e1; subst e2
  rw [List.getElem?_eq_getElem hj] at hu
  injection hu with hu
  rw [← hu, ← hc]
  simp [Addr.add]
  by_cases h0 : j = 0 <;> simp [h0]

set_option maxRecDepth 100000 in
/-- l1Own: the same ints, in a row of the call's own. -/
theorem ownInts_calls (C : Option Addr) (cn : Nat) (zs : List Int) (w : World) (hr : Rd w w.heap.size C (intV .i64 zs)) (hn : zs.length ≤ 1000000) :
    Calls Try.prog 100 #[.slice C zs.length cn] w fun e w' => ∃ v, e = .returned v ∧ w'.ownsRow w.heap.size 3 1 v zs.length (intV .i64 zs) ∧ Below w.heap.size w w' := by
  obtain ⟨i0, hi0, hz, hz1, hz2⟩ := info_parts info_intO
  have HO := Lib.hid (World.ownsRow_made (base := w.heap.size) (e := 3) (size := 1) w #[] 0 (Nat.le_refl _) (Nat.zero_le _) rfl)
  rcases C with _ | ⟨b, off, spot⟩
  · obtain rfl : zs = [] := by
      rcases hr with h | ⟨b, off, e, _⟩
      · simpa [intV] using h
      · cases e
    clear hr
    go_enter Try.func100, Try.ntmps100
    go_wp2_with ((at_builtin; refine wpList_append_own_none _ rfl _ _ 27 rfl w.heap.size 3 i0 1 Try.underlying27 hi0 _ _ _ rfl HO.out rfl ?_))
    go_ret
    exact ⟨_, rfl, HO.out, (Below.refl _ _).alloc (Nat.le_refl _) _⟩
  · have HN : Hid (∀ (j : Nat) (u : Value), (intV .i64 zs)[j]? = some u → (w.alloc (.cells #[] 3)).cell? ((⟨b, off, spot⟩ : Addr).add j) = some u) := Lib.hid fun j u hu => by
      rcases hr with h | ⟨b2, off2, e, hb, hc⟩
      · rw [h] at hu; cases hu
      · have hr2 : Rd w w.heap.size (some ⟨b2, off2, none⟩) (intV .i64 zs) := .inr ⟨b2, off2, rfl, hb, hc⟩
        rw [show (⟨b, off, spot⟩ : Addr) = ⟨b2, off2, none⟩ from Option.some.inj e]
        exact ints_news (hr2.alloc (Nat.le_refl _) _) j u hu
    have H1 := Lib.hid (ints_one zs)
    clear hr
    go_enter Try.func100, Try.ntmps100
    go_wp2_with ((at_builtin; refine wpList_append_own _ rfl _ _ 27 rfl w.heap.size 3 i0 _ 1 8 Try.underlying27 hi0 hz hz1 hz2 rfl (by decide) _ _ _ rfl HO.out ⟨b, off, spot⟩ zs.length cn (intV .i64 zs) rfl (by rw [intV_len, Nat.mul_one]) HN.out H1.out (by simp only [maxLen]; omega) (by omega) (by simp) ?_; intro v' w5 hown5 hgrow hnil))
    rw [Nat.zero_add, List.nil_append] at hown5
    have HR := Lib.hid (And.intro hown5 (show Below w.heap.size w w5 from ((Below.refl _ _).alloc (Nat.le_refl _) _).grown hgrow (by simp) (by intro k hk; have hk' : w.heap.size = k := Option.some.inj hk; omega)))
    obtain ⟨g5, c5, rfl⟩ := own_form hown5
    clear hown5 hgrow hnil
    go_wp2_with fail
    go_ret
    exact ⟨_, rfl, HR.out.1, HR.out.2⟩
/-- slices.Clone at ints: the same ints, in a row of the call's own. -/
theorem cloneInts_calls (C : Option Addr) (cn : Nat) (zs : List Int) (w : World) (hr : Rd w w.heap.size C (intV .i64 zs)) (hn : zs.length ≤ 1000000) :
    Calls Try.prog 125 #[.slice C zs.length cn] w fun e w' => ∃ v, e = .returned v ∧ w'.ownsRow w.heap.size 3 1 v zs.length (intV .i64 zs) ∧ Below w.heap.size w w' := by
  rcases C with _ | a
  · obtain rfl : zs = [] := by
      rcases hr with h | ⟨b, off, e, _⟩
      · simpa [intV] using h
      · cases e
    refine (Try.slices_Clone_int_nil 0 cn w).mono ?_
    rintro e w' ⟨rfl, rfl⟩
    exact ⟨_, rfl, World.ownsRow_nil _ _ _ _, Below.refl _ _⟩
  · rcases hr with h | ⟨b, off, e, hb, hc⟩
    · obtain rfl : zs = [] := by simpa [intV] using h
      refine (Try.slices_Clone_int_zero a cn w).mono ?_
      rintro e w' ⟨v, rfl, ho, _, hbw⟩
      exact ⟨v, rfl, ho, hbw⟩
    · obtain rfl : a = ⟨b, off, none⟩ := Option.some.inj e
      refine (Try.slices_Clone_int b off zs.length cn zs w (Nat.le_refl _) (by omega) (fun j hj => ?_)).mono ?_
      · have h1 := hc j (.int .i64 zs[j]) (by simp [intV, List.getElem?_eq_getElem hj])
        rw [h1, List.getD_eq_getElem?_getD, List.getElem?_eq_getElem hj]
        rfl
      · rintro e w' ⟨v, rfl, ho, _, hbw⟩
        rw [List.take_length] at ho
        exact ⟨v, rfl, ho, hbw⟩

/-- Blocks b and b + 1 are an arena that came in, and the answer's, an arena that is zero as yet. -/
structure AA (W : World) (b : Nat) (A B : Option Addr) (n c d : Nat) (g : An) : Prop where
  par : W.heap[b]? = some (.cells #[.slice A n c, .int .i64 g.w.arr, .int .i64 g.w.start, .int .i64 g.w.len, .int .i64 g.w.cap, .int .i64 g.us, .slice B g.ms.length d] 35)
  res : W.heap[b + 1]? = some (.cells #[.slice none 0 0, .int .i64 0, .int .i64 0, .int .i64 0, .int .i64 0, .int .i64 0, .slice none 0 0] 35)
theorem AA.below {W W' : World} {b : Nat} {A B : Option Addr} {n c d : Nat} {g : An} (h : AA W b A B n c d g) (hb : Below W.heap.size W W') : AA W' b A B n c d g :=
  ⟨(hb.block _ (Array.getElem?_eq_some_iff.1 h.par).1).trans h.par, (hb.block _ (Array.getElem?_eq_some_iff.1 h.res).1).trans h.res⟩
theorem enterAA (A B : Option Addr) (n c d : Nat) (g : An) (w : World) :
    ∃ w0, (w.alloc (.cells #[.slice A n c, .int .i64 g.w.arr, .int .i64 g.w.start, .int .i64 g.w.len, .int .i64 g.w.cap, .int .i64 g.us, .slice B g.ms.length d] 35)).alloc (.cells #[.slice none 0 0, .int .i64 0, .int .i64 0, .int .i64 0, .int .i64 0, .int .i64 0, .slice none 0 0] 35) = w0 ∧ Below w.heap.size w w0 ∧ w0.heap.size = w.heap.size + 2 ∧ AA w0 w.heap.size A B n c d g := by
  obtain ⟨h1, h2, h3, h4⟩ := enter2 w (.cells #[.slice A n c, .int .i64 g.w.arr, .int .i64 g.w.start, .int .i64 g.w.len, .int .i64 g.w.cap, .int .i64 g.us, .slice B g.ms.length d] 35) (.cells #[.slice none 0 0, .int .i64 0, .int .i64 0, .int .i64 0, .int .i64 0, .int .i64 0, .slice none 0 0] 35)
  exact ⟨_, rfl, h1, h4, h2, h3⟩

set_option maxRecDepth 100000 in
set_option maxHeartbeats 1600000 in
theorem ownArena_calls (A B : Option Addr) (cm d : Nat) (m : List (List Int)) (g : An) (us : Int) (w : World) (hr : RdA w w.heap.size A B m g.ms) (hok : MemOK m) (hk : g.ms.length ≤ 1000000) :
    Calls Try.prog 93 #[.agg #[.slice A m.length cm, .int .i64 g.w.arr, .int .i64 g.w.start, .int .i64 g.w.len, .int .i64 g.w.cap, .int .i64 g.us, .slice B g.ms.length d], .int .i64 us] w fun e w' => ∃ v u, e = .returned (.agg #[v, .int .i64 g.w.arr, .int .i64 g.w.start, .int .i64 g.w.len, .int .i64 g.w.cap, .int .i64 us, u]) ∧ OwnA w' w.heap.size w'.heap.size v u m g.ms ∧ Below w.heap.size w w' := by
  obtain ⟨w0, hw0, hb0, hz0, haa⟩ := enterAA A B m.length cm d g w
  have HC := Lib.hid (specOwn_calls A cm m w0.drew (show Rd2 w0 w0.heap.size A m from (hr.on hb0).1) hok)
  have HI := Lib.hid (fun W (hb : Below w0.heap.size w0 W) => ownInts_calls B d g.ms W ((hr.on (hb0.trans (hb.mono hb0.size))).2) hk)
  have HB := Lib.hid hb0
  have HW := Lib.hid hw0
  have HAA := Lib.hid haa
  have HL := Lib.hid (fun (W : World) (hb : Below w0.heap.size w0 W) => ar_cells (haa.below hb).par)
  have HLB := Lib.hid (fun (W : World) (hb : W.heap[w.heap.size]? = some (.cells #[.slice A m.length cm, .int .i64 g.w.arr, .int .i64 g.w.start, .int .i64 g.w.len, .int .i64 g.w.cap, .int .i64 g.us, .slice B g.ms.length d] 35)) => ar_cells hb)
  obtain ⟨c0, d0, d1, d2, d3, d4, d5⟩ := HL.out w0.drew (Below.refl _ _).drew
  clear hr hb0 hw0 haa
  go_enter Try.func93, Try.ntmps93
  go_wp2_with fail
  rw [HW.out]
  go_region_held3 (fun W => W.cell? ⟨w.heap.size, 0, none⟩ = some (.slice A m.length cm) ∧ W.cell? ⟨w.heap.size, 1, none⟩ = some (.int .i64 g.w.arr) ∧ W.cell? ⟨w.heap.size, 2, none⟩ = some (.int .i64 g.w.start) ∧ W.cell? ⟨w.heap.size, 3, none⟩ = some (.int .i64 g.w.len) ∧ W.cell? ⟨w.heap.size, 4, none⟩ = some (.int .i64 g.w.cap) ∧ W.cell? ⟨w.heap.size, 5, none⟩ = some (.int .i64 g.us) ∧ W.cell? ⟨w.heap.size, 6, none⟩ = some (.slice B g.ms.length d))
    (first | (with_reducible exact ⟨c0, d0, d1, d2, d3, d4, d5⟩) | (with_reducible exact HL.out _ hc3) | (with_reducible exact HL.out _ hc2) | (with_reducible exact HK.out))
    (first | (go_at_call 84; (with_reducible refine HC.out.mono ?_); rintro e w2 ⟨v, rfl, hv, hb2⟩; obtain ⟨Av, cv, rfl, hcv⟩ := hv.form; have hc2 : Below w0.heap.size w0 w2 := (Below.refl _ _).drew.trans hb2) | (go_at_call 100; (with_reducible refine (HI.out _ hc2).mono ?_); rintro e w3 ⟨u, rfl, hu, hb3⟩; obtain ⟨Bu, du, rfl⟩ := own_form hu; have hc3 : Below w0.heap.size w0 w3 := hc2.trans (hb3.mono hc2.size); obtain ⟨r0, r1, r2, r3, r4, r5, r6⟩ := ar_cells (HAA.out.below hc3).res; obtain ⟨f0, f1, f2, f3, f4, f5, f6⟩ := ar_frozen (HAA.out.below hc3).res; have HK := Lib.hid (HLB.out _ (ar_keep (q := w.heap.size + 1) (v0 := .slice Av m.length cv) (v1 := .int .i64 g.w.arr) (v2 := .int .i64 g.w.start) (v3 := .int .i64 g.w.len) (v4 := .int .i64 g.w.cap) (v5 := .int .i64 us) (v6 := .slice Bu g.ms.length du) (HAA.out.below hc3).par (by omega)))))
  have HV : Hid (OwnA w3 w0.heap.size w3.heap.size (.slice Av m.length cv) (.slice Bu g.ms.length du) m g.ms) := Lib.hid ⟨w2.heap.size, hc2.size, hb3.size, hv.below hb3, OwnR.new (by rw [intV_len]; exact hu)⟩
  have HB3 := Lib.hid (HB.out.trans (hc3.mono HB.out.size))
  have hs := hc3.size
  clear hv hu hb2 hb3 hc2 hc3 c0 d0 d1 d2 d3 d4 d5
  go_wp2_with fail
  refine bodyPost_ret (v := .agg #[.slice Av m.length cv, .int .i64 g.w.arr, .int .i64 g.w.start, .int .i64 g.w.len, .int .i64 g.w.cap, .int .i64 us, .slice Bu g.ms.length du]) (by simp [results, Try.results93, go_sem, r0, r1, r2, r3, r4, r5, r6]) rfl ⟨_, _, rfl, ?_, by (repeat (first | (with_reducible exact Below.refl _ _) | (with_reducible refine Below.drew ?_) | ((with_reducible refine Below.alloc ?_ ?hB _); case hB => (first | (with_reducible exact Nat.le_refl _) | omega | (simp; done) | (simp; omega))) | ((with_reducible refine Below.setCell ?_ ?hB _); case hB => (first | (with_reducible exact Nat.le_refl _) | omega | (simp; done) | (simp; omega))))); exact HB3.out⟩
  rw [size_seven]
  exact (HV.out.seven (.inl (by omega))).mono (by omega) (Nat.le_refl _)

/-- What open does with the arena in block q. -/
def OpenedA (m : List (List Int)) (g : An) (q : Nat) (w : World) (e : Ending) (w' : World) : Prop :=
  (¬ ArOK m g ∧ e = .returned (.bool false) ∧ Below w.heap.size w w') ∨
  (ArOK m g ∧ e = .returned (.bool true) ∧ Span q (q + 1) w w' ∧ ∃ A c B d, w'.heap[q]? = some (.cells #[.slice A m.length c, .int .i64 g.w.arr, .int .i64 g.w.start, .int .i64 g.w.len, .int .i64 g.w.cap, .int .i64 g.us, .slice B g.ms.length d] 35) ∧ OwnA w' w.heap.size w'.heap.size (.slice A m.length c) (.slice B g.ms.length d) m g.ms)
theorem two_set {w : World} {q : Nat} {u0 u1 u2 u3 u4 u5 u6 v0 v6 : Value} {t : TypeId} (h : w.heap[q]? = some (.cells #[u0, u1, u2, u3, u4, u5, u6] t)) :
    ((w.setCell ⟨q, 0, none⟩ v0).setCell ⟨q, 6, none⟩ v6).heap[q]? = some (.cells #[v0, u1, u2, u3, u4, u5, v6] t) := by
  have h1 := ar_put (i := 6) (v := v6) (ar_put (i := 0) (v := v0) h)
  simpa using h1
set_option maxRecDepth 100000 in
set_option maxHeartbeats 3200000 in
theorem openA_calls (q : Nat) (A B : Option Addr) (cm d : Nat) (m : List (List Int)) (g : An) (w : World) (hq : w.heap[q]? = some (.cells #[.slice A m.length cm, .int .i64 g.w.arr, .int .i64 g.w.start, .int .i64 g.w.len, .int .i64 g.w.cap, .int .i64 g.us, .slice B g.ms.length d] 35)) (hr : RdA w w.heap.size A B m g.ms) (hn : m.length ≤ maxLen) (hkl : g.ms.length ≤ maxLen) (hx : AArgW g) :
    Calls Try.prog 86 #[.pointer (some ⟨q, 0, none⟩)] w fun e w' => OpenedA m g q w e w' := by
  have HC := Lib.hid (implIsArena_calls A B cm d m g w hr hn hkl hx)
  have HQ := Lib.hid hq
  have HR := Lib.hid hr
  have hqs := (Array.getElem?_eq_some_iff.1 hq).1
  obtain ⟨c0, d0, d1, d2, d3, d4, d5⟩ := ar_cells hq
  clear hq hr
  go_enter Try.func86, Try.ntmps86
  go_wp2_with fail
  refine HC.out.mono ?_
  rintro e w2 ⟨rfl, hb2⟩
  have HB2 := Lib.hid hb2
  have HQ2 := Lib.hid ((hb2.block _ hqs).trans HQ.out)
  clear hb2 c0 d0 d1 d2 d3 d4 d5
  by_cases hok : ArOK m g
  · have hd : isArenaR m g = true := decide_eq_true hok
    have HOK := Lib.hid hok
    have HM := Lib.hid (copyMemory_calls A cm m w2.drew (show Rd2 w2 w2.heap.size A m from (HR.out.on HB2.out).1) hok.1.1)
    have HI := Lib.hid (fun W (hb : Below w2.heap.size w2 W) => cloneInts_calls B d g.ms W ((HR.out.on (HB2.out.trans (hb.mono HB2.out.size))).2) (by have := HOK.out.2.2.2.1; omega))
    have HL := Lib.hid (fun (W : World) (hb : Below w2.heap.size w2 W) => ar_cells ((hb.block _ (Array.getElem?_eq_some_iff.1 HQ2.out).1).trans HQ2.out))
    obtain ⟨c0, d0, d1, d2, d3, d4, d5⟩ := HL.out w2.drew (Below.refl _ _).drew
    clear hok
    go_upto_region 3 with fail
    go_cut [14, 19] (fun s14 s19 wx => ∃ A2 c2 B2 e2, ∃ w3 w4, s14 = .agg #[.slice A2 m.length c2] ∧ s19 = .slice B2 g.ms.length e2 ∧ Below w2.heap.size w2 w3 ∧ Below w3.heap.size w3 w4 ∧ OwnM w3 w2.heap.size w3.heap.size (.slice A2 m.length c2) m ∧ w4.ownsRow w3.heap.size 3 1 (.slice B2 g.ms.length e2) g.ms.length (intV .i64 g.ms) ∧ wx = (w4.setCell ⟨q, 0, none⟩ (.slice A2 m.length c2)).setCell ⟨q, 6, none⟩ (.slice B2 g.ms.length e2))
    case first =>
      go_region_with (first | (go_at_call 124; (with_reducible refine HM.out.mono ?_); rintro e w3 ⟨v, rfl, hv, hb3⟩; obtain ⟨Av, cv, rfl, hcv⟩ := hv.form; have hc3 : Below w2.heap.size w2 w3 := (Below.refl _ _).drew.trans hb3; obtain ⟨p0, p1, p2, p3, p4, p5, p6⟩ := HL.out w3 hc3) | (go_at_call 125; (with_reducible refine (HI.out _ hc3).mono ?_); rintro e w4 ⟨u, rfl, hu, hb4⟩; obtain ⟨Bu, du, rfl⟩ := own_form hu; have hc4 : Below w2.heap.size w2 w4 := hc3.trans (hb4.mono hc3.size); obtain ⟨f0, f1, f2, f3, f4, f5, f6⟩ := ar_frozen ((hc4.block _ (Array.getElem?_eq_some_iff.1 HQ2.out).1).trans HQ2.out); obtain ⟨q0, q1, q2, q3, q4, q5, q6⟩ := HL.out w4 hc4))
      all_goals (go_wp2_with fail)
      all_goals go_meet
      all_goals exact ⟨_, _, _, _, w3, w4, rfl, rfl, hc3, hb4, hv, hu, rfl⟩
    case rest =>
      obtain ⟨A2, c2, B2, e2, w3, w4, rfl, rfl, h3, h4, hv, hu, hwc⟩ := hcut
      have HH := Lib.hid (And.intro h3 (And.intro h4 (And.intro hv (And.intro hu hwc))))
      clear h3 h4 hv hu hwc c0 d0 d1 d2 d3 d4 d5
      go_wp2_with fail
      go_ret
      obtain ⟨h3, h4, hv, hu, hwc⟩ := HH.out
      have h24 := h3.trans (h4.mono h3.size)
      have hq4 := (h24.block _ (Array.getElem?_eq_some_iff.1 HQ2.out).1).trans HQ2.out
      have hsz := HB2.out.size
      refine .inr ⟨HOK.out, rfl, ?_, A2, c2, B2, e2, ?_, ?_⟩
      · rw [hwc]
        exact (Span.of_below (HB2.out.trans (h24.mono hsz))).trans (span_set (span_set (Span.refl _ _ _) (Nat.le_refl _) (by omega)) (Nat.le_refl _) (by omega))
      · rw [hwc]
        exact two_set hq4
      · rw [hwc]
        have ho : OwnA w4 w2.heap.size w4.heap.size (.slice A2 m.length c2) (.slice B2 g.ms.length e2) m g.ms := ⟨w3.heap.size, h3.size, h4.size, hv.below h4, OwnR.new (by rw [intV_len]; exact hu)⟩
        have h5 := (Array.getElem?_eq_some_iff.1 HQ2.out).1
        exact ((ho.setC (.inl (by omega))).setC (.inl (by omega))).mono hsz (by simp only [World.size_setCell]; omega)
  · have hd : isArenaR m g = false := decide_eq_false hok
    have HOK := Lib.hid hok
    clear hok
    go_wp2_with fail
    go_ret
    exact .inl ⟨HOK.out, rfl, HB2.out⟩
end Go.Proofs.Ytadmllfcnjekcaa
