/-
  FnSlices: the walk of the law.
-/
import Derived.Test.YtmcabnbmjbepjaaDoorSl0
import Derived.Test.YtmcabnbmjbepjaaDoorRB
import Derived.Test.YtmcabnbmjbepjaaDoorDraw3
import Derived.Test.YtmcabnbmjbepjaaDoorWinI
import Derived.Test.YtmcabnbmjbepjaaDoorWinS
import Derived.Test.YtmcabnbmjbepjaaDoorWTextB
import Derived.Deep.DeepCutAuto
namespace Go.Proofs.YtmcabnbmjbepjaaDoor
open Go.RowKit

theorem Dn.wf {z : Int} (h : Dn z) : (Lit.int .i64 z).wf = true := by
  obtain ⟨h1, h2⟩ := h
  simp [Lit.wf, IntKind.min, IntKind.max, IntKind.signed, IntKind.bits]
  omega
theorem DW.warg {x : Win} (h : DW x) : WArg x := ⟨h.a.wf, h.s.wf, h.l.wf, h.c.wf⟩

theorem imp3 {m : List (List Int)} {x : Win} {i j k : Int} {T3 T2 : Win} {p3 p2 : Bool} (h3 : (p3 = true ∧ SlOK m x i j k ∧ T3 = ⟨x.arr, x.start + i, j - i, k - i⟩) ∨ (p3 = false ∧ ¬ SlOK m x i j k ∧ T3 = zeroW))
    (h2 : (p2 = true ∧ SlOK m x i j x.cap ∧ T2 = ⟨x.arr, x.start + i, j - i, x.cap - i⟩) ∨ (p2 = false ∧ ¬ SlOK m x i j x.cap ∧ T2 = zeroW)) : p3 = false ∨ p3 = true ∧ p2 = true := by
  rcases h3 with ⟨rfl, h, _⟩ | ⟨rfl, _, _⟩
  · rcases h2 with ⟨rfl, _, _⟩ | ⟨_, hn, _⟩
    · exact .inr ⟨rfl, rfl⟩
    · exact absurd ⟨h.1, h.2.1, h.2.2.1, Int.le_trans h.2.2.2.1 h.2.2.2.2, Int.le_refl _⟩ hn
  · exact .inl rfl

set_option maxHeartbeats 6400000 in
set_option maxRecDepth 100000 in
theorem fnSlices_walk (A : Option Addr) (n cp : Nat) (zs : List Int) (w : World) (ht : Tabs w) (ha : IntArg .u8 w A n cp zs) :
    Calls Tryd.prog 3 #[.slice A n cp] w fun e w' => e = .returned (.bool true) ∧ Below w.heap.size w w' := by
  obtain ⟨hn, hcap, hmax, hr, hz⟩ := ha
  unfold maxLen at hmax
  by_cases hm : n ≤ 65536
  · have HD1 := Lib.hid (drawThree_calls n cp A zs w hr hn hm hz)
    have HD2 := Lib.hid (fun (W : World) (hr : Rd W W.heap.size A (intV .u8 zs)) => drawWhole_calls n cp A zs W hr hn hm hz)
    have HR := Lib.hid hr
    have HT := Lib.hid ht
    clear hr hz hn ht
    go_enter Tryd.func3, Tryd.ntmps3
    go_wp2_with (go_at_call 4; go_in)
    refine HD1.out.mono ?_
    rintro e w1 ⟨M, v, x, i, j, k, rfl, hM, hx, ho, hb1⟩
    obtain ⟨AM, cM, rfl, hcM⟩ := ho.form
    have HO := Lib.hid ho
    have HX := Lib.hid hx.warg
    have HM := Lib.hid hM
    have hML : M.length ≤ maxLen := by unfold maxLen; have := hM.1; omega
    have HB0 := Lib.hid hb1
    clear ho hb1 hcM
    obtain ⟨w2, hw⟩ : ∃ w2, ((w1.alloc (.cells #[.slice AM M.length cM] 26)).alloc (.cells #[.int .i64 x.arr, .int .i64 x.start, .int .i64 x.len, .int .i64 x.cap] 28)) = w2 := ⟨_, rfl⟩
    obtain ⟨hb, hg1, hg2, hsz⟩ := enter2 w1 (.cells #[.slice AM M.length cM] 26) (.cells #[.int .i64 x.arr, .int .i64 x.start, .int .i64 x.len, .int .i64 x.cap] 28)
    rw [hw] at hb hg1 hg2 hsz
    have Hgm := Lib.hid hg1
    have Hgw := Lib.hid hg2
    clear hg1 hg2 hsz
    have HWw2 := Lib.hid hw
    replace HB0 := Lib.hid (HB0.out.trans (hb.mono HB0.out.size))
    clear hb hw
    have HC : Hid (∀ W, Below w2.heap.size w2 W → W.cell? ⟨w1.heap.size, 0, none⟩ = some (.slice AM M.length cM) ∧ W.cell? ⟨w1.heap.size + 1, 0, none⟩ = some (.int .i64 x.arr) ∧ W.cell? ⟨w1.heap.size + 1, 1, none⟩ = some (.int .i64 x.start) ∧ W.cell? ⟨w1.heap.size + 1, 2, none⟩ = some (.int .i64 x.len) ∧ W.cell? ⟨w1.heap.size + 1, 3, none⟩ = some (.int .i64 x.cap)) := Lib.hid fun W hb => by
      obtain ⟨e0, e1, e2, e3⟩ := four_cells (keepB Hgw.out hb)
      exact ⟨one_cell (keepB Hgm.out hb), e0, e1, e2, e3⟩
    have HRM : Hid (∀ W, Below w2.heap.size w2 W → Rd2 W W.heap.size AM M) := Lib.hid (fun W hb => ((HO.out.below (by rw [← HWw2.out]; (repeat (first | (with_reducible exact Below.refl _ _) | (with_reducible refine Below.drew ?_) | ((with_reducible refine Below.alloc ?_ ?hB _); case hB => (first | (with_reducible exact Nat.le_refl _) | omega | (simp; done) | (simp; omega))) | ((with_reducible refine Below.setCell ?_ ?hB _); case hB => (first | (with_reducible exact Nat.le_refl _) | omega | (simp; done) | (simp; omega))))))).below hb).reads)
    have HB2 := Lib.hid (Below.refl w2.heap.size w2)
    obtain ⟨T3, p3, hS3, hF3⟩ := sliceV_parts M x i j k
    obtain ⟨T2, p2, hS2, hF2⟩ := sliceV_parts M x i j x.cap
    obtain ⟨T1, p1, hS1, hF1⟩ := sliceV_parts M x 0 x.len x.len
    have HF3 := Lib.hid hF3
    have HF2 := Lib.hid hF2
    have HF1 := Lib.hid hF1
    clear hF3 hF2 hF1
    have n3 : (p3 != p3) = false := by simp
    have n2 : (p2 != p2) = false := by simp
    have n1 : (p1 != p1) = false := by simp
    obtain ⟨c0, c1, c2, c3, c4⟩ := HC.out _ HB2.out
    go_wp2_with fail
    rw [HWw2.out]
    refine ((by have hq := implSliceThree_calls AM cM M x i j k w2 (HRM.out _ HB2.out) hML HX.out; rw [hS3] at hq; exact hq : Calls _ _ _ _ (fun e w' => e = .returned (.tuple #[.agg #[.int .i64 T3.arr, .int .i64 T3.start, .int .i64 T3.len, .int .i64 T3.cap], .bool p3]) ∧ Below w2.heap.size w2 w'))).mono ?_
    rintro e w3 ⟨rfl, hb⟩
    replace HB0 := Lib.hid (HB0.out.trans (hb.mono HB0.out.size))
    replace HB2 := Lib.hid (HB2.out.trans (hb.mono HB2.out.size))
    clear hb
    clear c0 c1 c2 c3 c4
    obtain ⟨w4, hw⟩ : ∃ w4, (w3.alloc (.cells #[.int .i64 T3.arr, .int .i64 T3.start, .int .i64 T3.len, .int .i64 T3.cap] 28)) = w4 := ⟨_, rfl⟩
    have hb : Below w3.heap.size w3 w4 := by rw [← hw]; exact (Below.refl _ _).alloc (Nat.le_refl _) _
    have Ht3 : Hid (w4.heap[w3.heap.size]? = some (.cells #[.int .i64 T3.arr, .int .i64 T3.start, .int .i64 T3.len, .int .i64 T3.cap] 28)) := Lib.hid (by rw [← hw]; exact heap_alloc_new _ _)
    have HWw4 := Lib.hid hw
    replace HB0 := Lib.hid (HB0.out.trans (hb.mono HB0.out.size))
    replace HB2 := Lib.hid (HB2.out.trans (hb.mono HB2.out.size))
    clear hb hw
    have HBw4 := Lib.hid (Below.refl w4.heap.size w4)
    go_upto_region 5 with fail
    rw [HWw4.out]
    obtain ⟨c0, c1, c2, c3, c4⟩ := HC.out _ HB2.out
    go_wp2_with fail
    refine ((by have hq := specSliceThree_calls AM cM M x i j k w4 (HRM.out _ HB2.out) hML; rw [hS3] at hq; exact hq : Calls _ _ _ _ (fun e w' => e = .returned (.tuple #[.agg #[.int .i64 T3.arr, .int .i64 T3.start, .int .i64 T3.len, .int .i64 T3.cap], .bool p3]) ∧ Below w4.heap.size w4 w'))).mono ?_
    rintro e w5 ⟨rfl, hb⟩
    replace HB0 := Lib.hid (HB0.out.trans (hb.mono HB0.out.size))
    replace HB2 := Lib.hid (HB2.out.trans (hb.mono HB2.out.size))
    replace HBw4 := Lib.hid (HBw4.out.trans (hb.mono HBw4.out.size))
    clear hb
    clear c0 c1 c2 c3 c4
    obtain ⟨w6, hw⟩ : ∃ w6, (w5.alloc (.cells #[.int .i64 T3.arr, .int .i64 T3.start, .int .i64 T3.len, .int .i64 T3.cap] 28)) = w6 := ⟨_, rfl⟩
    have hb : Below w5.heap.size w5 w6 := by rw [← hw]; exact (Below.refl _ _).alloc (Nat.le_refl _) _
    have Ht3s : Hid (w6.heap[w5.heap.size]? = some (.cells #[.int .i64 T3.arr, .int .i64 T3.start, .int .i64 T3.len, .int .i64 T3.cap] 28)) := Lib.hid (by rw [← hw]; exact heap_alloc_new _ _)
    have HWw6 := Lib.hid hw
    replace HB0 := Lib.hid (HB0.out.trans (hb.mono HB0.out.size))
    replace HB2 := Lib.hid (HB2.out.trans (hb.mono HB2.out.size))
    replace HBw4 := Lib.hid (HBw4.out.trans (hb.mono HBw4.out.size))
    clear hb hw
    go_upto_region 6 with fail
    rw [HWw6.out]
    obtain ⟨c0, c1, c2, c3, c4⟩ := HC.out _ HB2.out
    obtain ⟨a0, a1, a2, a3⟩ := four_cells (keepB Ht3.out HBw4.out)
    obtain ⟨b0, b1, b2, b3⟩ := four_cells Ht3s.out
    go_wp2_with fail
    clear a0 a1 a2 a3 b0 b1 b2 b3
    as_aux_lemma =>
      refine ((by have hq := implSliceTwo_calls AM cM M x i j w6 (HRM.out _ HB2.out) hML HX.out; rw [hS2] at hq; exact hq : Calls _ _ _ _ (fun e w' => e = .returned (.tuple #[.agg #[.int .i64 T2.arr, .int .i64 T2.start, .int .i64 T2.len, .int .i64 T2.cap], .bool p2]) ∧ Below w6.heap.size w6 w'))).mono ?_
      rintro e w7 ⟨rfl, hb⟩
      replace HB0 := Lib.hid (HB0.out.trans (hb.mono HB0.out.size))
      replace HB2 := Lib.hid (HB2.out.trans (hb.mono HB2.out.size))
      replace HBw4 := Lib.hid (HBw4.out.trans (hb.mono HBw4.out.size))
      clear hb
      clear c0 c1 c2 c3 c4
      obtain ⟨w8, hw⟩ : ∃ w8, (w7.alloc (.cells #[.int .i64 T2.arr, .int .i64 T2.start, .int .i64 T2.len, .int .i64 T2.cap] 28)) = w8 := ⟨_, rfl⟩
      have hb : Below w7.heap.size w7 w8 := by rw [← hw]; exact (Below.refl _ _).alloc (Nat.le_refl _) _
      have Ht2 : Hid (w8.heap[w7.heap.size]? = some (.cells #[.int .i64 T2.arr, .int .i64 T2.start, .int .i64 T2.len, .int .i64 T2.cap] 28)) := Lib.hid (by rw [← hw]; exact heap_alloc_new _ _)
      have HWw8 := Lib.hid hw
      replace HB0 := Lib.hid (HB0.out.trans (hb.mono HB0.out.size))
      replace HB2 := Lib.hid (HB2.out.trans (hb.mono HB2.out.size))
      replace HBw4 := Lib.hid (HBw4.out.trans (hb.mono HBw4.out.size))
      clear hb hw
      have HBw8 := Lib.hid (Below.refl w8.heap.size w8)
      go_upto_region 9 with fail
      rw [HWw8.out]
      obtain ⟨c0, c1, c2, c3, c4⟩ := HC.out _ HB2.out
      go_wp2_with fail
      refine ((by have hq := specSliceTwo_calls AM cM M x i j w8 (HRM.out _ HB2.out) hML; rw [hS2] at hq; exact hq : Calls _ _ _ _ (fun e w' => e = .returned (.tuple #[.agg #[.int .i64 T2.arr, .int .i64 T2.start, .int .i64 T2.len, .int .i64 T2.cap], .bool p2]) ∧ Below w8.heap.size w8 w'))).mono ?_
      rintro e w9 ⟨rfl, hb⟩
      replace HB0 := Lib.hid (HB0.out.trans (hb.mono HB0.out.size))
      replace HB2 := Lib.hid (HB2.out.trans (hb.mono HB2.out.size))
      replace HBw4 := Lib.hid (HBw4.out.trans (hb.mono HBw4.out.size))
      replace HBw8 := Lib.hid (HBw8.out.trans (hb.mono HBw8.out.size))
      clear hb
      clear c0 c1 c2 c3 c4
      obtain ⟨w10, hw⟩ : ∃ w10, (w9.alloc (.cells #[.int .i64 T2.arr, .int .i64 T2.start, .int .i64 T2.len, .int .i64 T2.cap] 28)) = w10 := ⟨_, rfl⟩
      have hb : Below w9.heap.size w9 w10 := by rw [← hw]; exact (Below.refl _ _).alloc (Nat.le_refl _) _
      have Ht2s : Hid (w10.heap[w9.heap.size]? = some (.cells #[.int .i64 T2.arr, .int .i64 T2.start, .int .i64 T2.len, .int .i64 T2.cap] 28)) := Lib.hid (by rw [← hw]; exact heap_alloc_new _ _)
      have HWw10 := Lib.hid hw
      replace HB0 := Lib.hid (HB0.out.trans (hb.mono HB0.out.size))
      replace HB2 := Lib.hid (HB2.out.trans (hb.mono HB2.out.size))
      replace HBw4 := Lib.hid (HBw4.out.trans (hb.mono HBw4.out.size))
      replace HBw8 := Lib.hid (HBw8.out.trans (hb.mono HBw8.out.size))
      clear hb hw
      go_upto_region 10 with fail
      rw [HWw10.out]
      obtain ⟨c0, c1, c2, c3, c4⟩ := HC.out _ HB2.out
      obtain ⟨a0, a1, a2, a3⟩ := four_cells (keepB Ht2.out HBw8.out)
      obtain ⟨b0, b1, b2, b3⟩ := four_cells Ht2s.out
      have HI : Hid (p3 = false ∨ p3 = true ∧ p2 = true) := Lib.hid (imp3 HF3.out HF2.out)
      go_cut [105] (fun s105 wx => s105 = .bool false ∧ w10 = wx)
      case first =>
        rcases HI.out with rfl | ⟨rfl, rfl⟩
        all_goals go_wp2_with fail
        all_goals go_meet
        all_goals exact ⟨rfl, rfl⟩
      case rest =>
        obtain ⟨rfl, hwc⟩ := hcut
        subst hwc
        as_aux_lemma =>
          clear a0 a1 a2 a3 b0 b1 b2 b3
          go_wp2_with fail
          obtain ⟨q, hq⟩ : ∃ q, decide (WinOK M x) = q := ⟨_, rfl⟩
          obtain ⟨r, hr⟩ : ∃ r, decide (MemOK M) = r := ⟨_, rfl⟩
          have HQW := Lib.hid hq
          have HQR : Hid (q = false ∨ q = true ∧ r = true) := Lib.hid (by
            by_cases h : WinOK M x
            · exact .inr ⟨by rw [← hq]; exact decide_eq_true h, by rw [← hr]; exact decide_eq_true h.1⟩
            · exact .inl (by rw [← hq]; exact decide_eq_false h))
          have HK1 : Hid (p1 = false ∧ q = false ∨ p1 = true ∧ q = true ∧ (T1.len != x.len) = false ∧ (T1.cap != x.len) = false) := Lib.hid (by
            obtain ⟨h1, h2⟩ := clip_facts HF1.out
            rw [hq] at h1
            subst h1
            cases p1
            · exact .inl ⟨rfl, rfl⟩
            · obtain ⟨e1, e2⟩ := h2 rfl
              exact .inr ⟨rfl, rfl, by simp [e1], by simp [e2]⟩)
          have nq : (q != q) = false := by simp
          have nr : (r != r) = false := by simp
          have HIW := Lib.hid (fun W (hr : Rd2 W W.heap.size AM M) => implIsWindow_calls AM cM M x W hr hML HX.out)
          have HSW := Lib.hid (fun W (hr : Rd2 W W.heap.size AM M) => specIsWindow_calls AM cM M x W hr hML)
          have HIM := Lib.hid (fun W (hr : Rd2 W W.heap.size AM M) => implIsMemory_calls AM cM M W hr hML)
          rw [hq, hr] at HIW HSW
          rw [hr] at HIM
          clear hq hr
          refine ((by have hq := implClipWindow_calls AM cM M x  w10 (HRM.out _ HB2.out) hML HX.out; rw [hS1] at hq; exact hq : Calls _ _ _ _ (fun e w' => e = .returned (.tuple #[.agg #[.int .i64 T1.arr, .int .i64 T1.start, .int .i64 T1.len, .int .i64 T1.cap], .bool p1]) ∧ Below w10.heap.size w10 w'))).mono ?_
          rintro e w11 ⟨rfl, hb⟩
          replace HB0 := Lib.hid (HB0.out.trans (hb.mono HB0.out.size))
          replace HB2 := Lib.hid (HB2.out.trans (hb.mono HB2.out.size))
          replace HBw4 := Lib.hid (HBw4.out.trans (hb.mono HBw4.out.size))
          replace HBw8 := Lib.hid (HBw8.out.trans (hb.mono HBw8.out.size))
          clear hb
          clear c0 c1 c2 c3 c4
          obtain ⟨w12, hw⟩ : ∃ w12, (w11.alloc (.cells #[.int .i64 T1.arr, .int .i64 T1.start, .int .i64 T1.len, .int .i64 T1.cap] 28)) = w12 := ⟨_, rfl⟩
          have hb : Below w11.heap.size w11 w12 := by rw [← hw]; exact (Below.refl _ _).alloc (Nat.le_refl _) _
          have Ht1 : Hid (w12.heap[w11.heap.size]? = some (.cells #[.int .i64 T1.arr, .int .i64 T1.start, .int .i64 T1.len, .int .i64 T1.cap] 28)) := Lib.hid (by rw [← hw]; exact heap_alloc_new _ _)
          have HWw12 := Lib.hid hw
          replace HB0 := Lib.hid (HB0.out.trans (hb.mono HB0.out.size))
          replace HB2 := Lib.hid (HB2.out.trans (hb.mono HB2.out.size))
          replace HBw4 := Lib.hid (HBw4.out.trans (hb.mono HBw4.out.size))
          replace HBw8 := Lib.hid (HBw8.out.trans (hb.mono HBw8.out.size))
          clear hb hw
          have HBw12 := Lib.hid (Below.refl w12.heap.size w12)
          go_upto_region 13 with fail
          rw [HWw12.out]
          obtain ⟨c0, c1, c2, c3, c4⟩ := HC.out _ HB2.out
          go_wp2_with fail
          refine ((by have hq := specClipWindow_calls AM cM M x  w12 (HRM.out _ HB2.out) hML; rw [hS1] at hq; exact hq : Calls _ _ _ _ (fun e w' => e = .returned (.tuple #[.agg #[.int .i64 T1.arr, .int .i64 T1.start, .int .i64 T1.len, .int .i64 T1.cap], .bool p1]) ∧ Below w12.heap.size w12 w'))).mono ?_
          rintro e w13 ⟨rfl, hb⟩
          replace HB0 := Lib.hid (HB0.out.trans (hb.mono HB0.out.size))
          replace HB2 := Lib.hid (HB2.out.trans (hb.mono HB2.out.size))
          replace HBw4 := Lib.hid (HBw4.out.trans (hb.mono HBw4.out.size))
          replace HBw8 := Lib.hid (HBw8.out.trans (hb.mono HBw8.out.size))
          replace HBw12 := Lib.hid (HBw12.out.trans (hb.mono HBw12.out.size))
          clear hb
          clear c0 c1 c2 c3 c4
          obtain ⟨w14, hw⟩ : ∃ w14, (w13.alloc (.cells #[.int .i64 T1.arr, .int .i64 T1.start, .int .i64 T1.len, .int .i64 T1.cap] 28)) = w14 := ⟨_, rfl⟩
          have hb : Below w13.heap.size w13 w14 := by rw [← hw]; exact (Below.refl _ _).alloc (Nat.le_refl _) _
          have Ht1s : Hid (w14.heap[w13.heap.size]? = some (.cells #[.int .i64 T1.arr, .int .i64 T1.start, .int .i64 T1.len, .int .i64 T1.cap] 28)) := Lib.hid (by rw [← hw]; exact heap_alloc_new _ _)
          have HWw14 := Lib.hid hw
          replace HB0 := Lib.hid (HB0.out.trans (hb.mono HB0.out.size))
          replace HB2 := Lib.hid (HB2.out.trans (hb.mono HB2.out.size))
          replace HBw4 := Lib.hid (HBw4.out.trans (hb.mono HBw4.out.size))
          replace HBw8 := Lib.hid (HBw8.out.trans (hb.mono HBw8.out.size))
          replace HBw12 := Lib.hid (HBw12.out.trans (hb.mono HBw12.out.size))
          clear hb hw
          go_upto_region 14 with fail
          rw [HWw14.out]
          obtain ⟨c0, c1, c2, c3, c4⟩ := HC.out _ HB2.out
          obtain ⟨a0, a1, a2, a3⟩ := four_cells (keepB Ht1.out HBw12.out)
          obtain ⟨b0, b1, b2, b3⟩ := four_cells Ht1s.out
          go_cut [142] (fun s142 wx => s142 = .bool false ∧ w14 = wx)
          case first =>
            rcases HK1.out with ⟨rfl, rfl⟩ | ⟨rfl, rfl, k1, k2⟩
            all_goals go_wp2_with fail
            all_goals go_meet
            all_goals exact ⟨rfl, rfl⟩
          case rest =>
            obtain ⟨rfl, hwc⟩ := hcut
            subst hwc
            as_aux_lemma =>
              obtain rfl : p1 = q := by rcases HK1.out with ⟨h1, h2⟩ | ⟨h1, h2, _⟩ <;> rw [h1, h2]
              clear a0 a1 a2 a3 b0 b1 b2 b3 HK1 Ht1 Ht1s n1
              as_aux_lemma =>
                go_wp2_with fail
                refine (HIW.out _ (HRM.out _ HB2.out)).mono ?_
                rintro e w15 ⟨rfl, hb⟩
                replace HB0 := Lib.hid (HB0.out.trans (hb.mono HB0.out.size))
                replace HB2 := Lib.hid (HB2.out.trans (hb.mono HB2.out.size))
                replace HBw4 := Lib.hid (HBw4.out.trans (hb.mono HBw4.out.size))
                replace HBw8 := Lib.hid (HBw8.out.trans (hb.mono HBw8.out.size))
                clear hb
                clear c0 c1 c2 c3 c4
                obtain ⟨c0, c1, c2, c3, c4⟩ := HC.out _ HB2.out
                go_wp2_with fail
                refine (HSW.out _ (HRM.out _ HB2.out)).mono ?_
                rintro e w16 ⟨rfl, hb⟩
                replace HB0 := Lib.hid (HB0.out.trans (hb.mono HB0.out.size))
                replace HB2 := Lib.hid (HB2.out.trans (hb.mono HB2.out.size))
                replace HBw4 := Lib.hid (HBw4.out.trans (hb.mono HBw4.out.size))
                replace HBw8 := Lib.hid (HBw8.out.trans (hb.mono HBw8.out.size))
                clear hb
                clear c0 c1 c2 c3 c4
                obtain ⟨c0, c1, c2, c3, c4⟩ := HC.out _ HB2.out
                go_upto_region 18 with fail
                go_cut [176] (fun s176 wx => s176 = .bool false ∧ Below w16.heap.size w16 wx)
                case first =>
                  go_wp2_with fail
                  refine (HIM.out _ (HRM.out _ HB2.out)).mono ?_
                  rintro e w17 ⟨rfl, hb⟩
                  rcases HQR.out with rfl | ⟨rfl, rfl⟩
                  · cases r
                    all_goals go_wp2_with fail
                    all_goals go_meet
                    all_goals exact ⟨rfl, hb⟩
                  · go_wp2_with fail
                    go_meet
                    exact ⟨rfl, hb⟩
                case rest =>
                  obtain ⟨rfl, hb⟩ := hcut
                  obtain ⟨w17, hw17⟩ : ∃ w17, w17 = wc := ⟨_, rfl⟩
                  subst hw17
                  replace HB0 := Lib.hid (HB0.out.trans (hb.mono HB0.out.size))
                  replace HB2 := Lib.hid (HB2.out.trans (hb.mono HB2.out.size))
                  replace HBw4 := Lib.hid (HBw4.out.trans (hb.mono HBw4.out.size))
                  replace HBw8 := Lib.hid (HBw8.out.trans (hb.mono HBw8.out.size))
                  clear hb c0 c1 c2 c3 c4 HQR HIW HSW HIM nr
                  as_aux_lemma =>
                    obtain ⟨c0, c1, c2, c3, c4⟩ := HC.out _ HB2.out
                    obtain ⟨L, hL⟩ : ∃ L, (bytesR M x).1 = L := ⟨_, rfl⟩
                    have HL := Lib.hid hL
                    have HIB := Lib.hid (fun W (hr : Rd2 W W.heap.size AM M) => implWindowBytes_calls AM cM M x W hr hML HX.out)
                    rw [hL, bytesR_ok, HQW.out] at HIB
                    have HSB := Lib.hid (fun W (hr : Rd2 W W.heap.size AM M) => specWindowBytes_calls AM cM M x W hr hML)
                    rw [hL, bytesR_ok, HQW.out] at HSB
                    clear hL
                    go_wp2_with fail
                    refine (HIB.out _ (HRM.out _ HB2.out)).mono ?_
                    rintro e w18 ⟨v1, rfl, ho, hb⟩
                    replace HB0 := Lib.hid (HB0.out.trans (hb.mono HB0.out.size))
                    replace HB2 := Lib.hid (HB2.out.trans (hb.mono HB2.out.size))
                    replace HBw4 := Lib.hid (HBw4.out.trans (hb.mono HBw4.out.size))
                    replace HBw8 := Lib.hid (HBw8.out.trans (hb.mono HBw8.out.size))
                    clear hb
                    obtain ⟨AL, cL, rfl⟩ := own_form ho
                    have HRL : Hid (∀ W, Below w18.heap.size w18 W → Rd W W.heap.size AL (intV .u8 L)) := Lib.hid (fun W hb => ((Rd.of_own ho).below hb).more hb.size)
                    have HB18 := Lib.hid (Below.refl w18.heap.size w18)
                    clear ho c0 c1 c2 c3 c4
                    obtain ⟨c0, c1, c2, c3, c4⟩ := HC.out _ HB2.out
                    go_wp2_with fail
                    refine (HSB.out _ (HRM.out _ HB2.out)).mono ?_
                    rintro e w19 ⟨v2, rfl, ho, hb⟩
                    replace HB0 := Lib.hid (HB0.out.trans (hb.mono HB0.out.size))
                    replace HB2 := Lib.hid (HB2.out.trans (hb.mono HB2.out.size))
                    replace HBw4 := Lib.hid (HBw4.out.trans (hb.mono HBw4.out.size))
                    replace HBw8 := Lib.hid (HBw8.out.trans (hb.mono HBw8.out.size))
                    replace HB18 := Lib.hid (HB18.out.trans (hb.mono HB18.out.size))
                    clear hb
                    obtain ⟨AL2, cL2, rfl⟩ := own_form ho
                    have HRL2 := Lib.hid (Rd.of_own ho)
                    clear ho c0 c1 c2 c3 c4 HIB HSB
                    go_wp2_with fail
                    refine (rBytes_same L AL AL2 cL cL2 w19 (HRL.out _ HB18.out) HRL2.out).mono ?_
                    rintro e w20 ⟨rfl, hb⟩
                    replace HB0 := Lib.hid (HB0.out.trans (hb.mono HB0.out.size))
                    replace HB2 := Lib.hid (HB2.out.trans (hb.mono HB2.out.size))
                    replace HBw4 := Lib.hid (HBw4.out.trans (hb.mono HBw4.out.size))
                    replace HBw8 := Lib.hid (HBw8.out.trans (hb.mono HBw8.out.size))
                    replace HB18 := Lib.hid (HB18.out.trans (hb.mono HB18.out.size))
                    clear hb
                    clear HRL2
                    go_wp2_with fail
                    as_aux_lemma =>
                      refine (HD2.out w20 ((HR.out.below HB0.out).more HB0.out.size)).mono ?_
                      rintro e w21 ⟨G, v3, a, rfl, hG, ho, hb⟩
                      replace HB0 := Lib.hid (HB0.out.trans (hb.mono HB0.out.size))
                      replace HB2 := Lib.hid (HB2.out.trans (hb.mono HB2.out.size))
                      replace HBw4 := Lib.hid (HBw4.out.trans (hb.mono HBw4.out.size))
                      replace HBw8 := Lib.hid (HBw8.out.trans (hb.mono HBw8.out.size))
                      replace HB18 := Lib.hid (HB18.out.trans (hb.mono HB18.out.size))
                      clear hb
                      obtain ⟨AG, cG, rfl, hcG⟩ := ho.form
                      have HOG := Lib.hid ho
                      have hGL : G.length ≤ maxLen := by unfold maxLen; have := hG.1; omega
                      clear ho hcG hG HD2
                      obtain ⟨w22, hw⟩ : ∃ w22, (w21.alloc (.cells #[.slice AG G.length cG] 26)) = w22 := ⟨_, rfl⟩
                      have hb : Below w21.heap.size w21 w22 := by rw [← hw]; exact (Below.refl _ _).alloc (Nat.le_refl _) _
                      have Hgg : Hid (w22.heap[w21.heap.size]? = some (.cells #[.slice AG G.length cG] 26)) := Lib.hid (by rw [← hw]; exact heap_alloc_new _ _)
                      have HWw22 := Lib.hid hw
                      replace HB0 := Lib.hid (HB0.out.trans (hb.mono HB0.out.size))
                      replace HB2 := Lib.hid (HB2.out.trans (hb.mono HB2.out.size))
                      replace HBw4 := Lib.hid (HBw4.out.trans (hb.mono HBw4.out.size))
                      replace HBw8 := Lib.hid (HBw8.out.trans (hb.mono HBw8.out.size))
                      replace HB18 := Lib.hid (HB18.out.trans (hb.mono HB18.out.size))
                      clear hb hw
                      have HCG : Hid (∀ W, Below w22.heap.size w22 W → W.cell? ⟨w21.heap.size, 0, none⟩ = some (.slice AG G.length cG)) := Lib.hid fun W hb => one_cell (keepB Hgg.out hb)
                      have HRG : Hid (∀ W, Below w22.heap.size w22 W → Rd2 W W.heap.size AG G) := Lib.hid (fun W hb => ((HOG.out.below (by rw [← HWw22.out]; (repeat (first | (with_reducible exact Below.refl _ _) | (with_reducible refine Below.drew ?_) | ((with_reducible refine Below.alloc ?_ ?hB _); case hB => (first | (with_reducible exact Nat.le_refl _) | omega | (simp; done) | (simp; omega))) | ((with_reducible refine Below.setCell ?_ ?hB _); case hB => (first | (with_reducible exact Nat.le_refl _) | omega | (simp; done) | (simp; omega))))))).below hb).reads)
                      have HB22 := Lib.hid (Below.refl w22.heap.size w22)
                      obtain ⟨T7, p7, hS7, hF7⟩ := wholeV_parts G a
                      have HF7 := Lib.hid hF7
                      have n7 : (p7 != p7) = false := by simp
                      clear hF7
                      as_aux_lemma =>
                        go_upto_region 25 with fail
                        rw [HWw22.out]
                        have g0 := HCG.out _ HB22.out
                        go_wp2_with fail
                        refine ((by have hq := implWholeWindow_calls AG cG G a w22 (HRG.out _ HB22.out) hGL; rw [hS7] at hq; exact hq : Calls _ _ _ _ (fun e w' => e = .returned (.tuple #[.agg #[.int .i64 T7.arr, .int .i64 T7.start, .int .i64 T7.len, .int .i64 T7.cap], .bool p7]) ∧ Below w22.heap.size w22 w'))).mono ?_
                        rintro e w23 ⟨rfl, hb⟩
                        replace HB0 := Lib.hid (HB0.out.trans (hb.mono HB0.out.size))
                        replace HB2 := Lib.hid (HB2.out.trans (hb.mono HB2.out.size))
                        replace HBw4 := Lib.hid (HBw4.out.trans (hb.mono HBw4.out.size))
                        replace HBw8 := Lib.hid (HBw8.out.trans (hb.mono HBw8.out.size))
                        replace HB18 := Lib.hid (HB18.out.trans (hb.mono HB18.out.size))
                        replace HB22 := Lib.hid (HB22.out.trans (hb.mono HB22.out.size))
                        clear hb
                        clear g0
                        obtain ⟨w24, hw⟩ : ∃ w24, (w23.alloc (.cells #[.int .i64 T7.arr, .int .i64 T7.start, .int .i64 T7.len, .int .i64 T7.cap] 28)) = w24 := ⟨_, rfl⟩
                        have hb : Below w23.heap.size w23 w24 := by rw [← hw]; exact (Below.refl _ _).alloc (Nat.le_refl _) _
                        have Ht7 : Hid (w24.heap[w23.heap.size]? = some (.cells #[.int .i64 T7.arr, .int .i64 T7.start, .int .i64 T7.len, .int .i64 T7.cap] 28)) := Lib.hid (by rw [← hw]; exact heap_alloc_new _ _)
                        have HWw24 := Lib.hid hw
                        replace HB0 := Lib.hid (HB0.out.trans (hb.mono HB0.out.size))
                        replace HB2 := Lib.hid (HB2.out.trans (hb.mono HB2.out.size))
                        replace HBw4 := Lib.hid (HBw4.out.trans (hb.mono HBw4.out.size))
                        replace HBw8 := Lib.hid (HBw8.out.trans (hb.mono HBw8.out.size))
                        replace HB18 := Lib.hid (HB18.out.trans (hb.mono HB18.out.size))
                        replace HB22 := Lib.hid (HB22.out.trans (hb.mono HB22.out.size))
                        clear hb hw
                        have HBw24 := Lib.hid (Below.refl w24.heap.size w24)
                        as_aux_lemma =>
                          go_upto_region 26 with fail
                          rw [HWw24.out]
                          have g0 := HCG.out _ HB22.out
                          go_wp2_with fail
                          refine ((by have hq := specWholeWindow_calls AG cG G a w24 (HRG.out _ HB22.out) hGL; rw [hS7] at hq; exact hq : Calls _ _ _ _ (fun e w' => e = .returned (.tuple #[.agg #[.int .i64 T7.arr, .int .i64 T7.start, .int .i64 T7.len, .int .i64 T7.cap], .bool p7]) ∧ Below w24.heap.size w24 w'))).mono ?_
                          rintro e w25 ⟨rfl, hb⟩
                          replace HB0 := Lib.hid (HB0.out.trans (hb.mono HB0.out.size))
                          replace HB2 := Lib.hid (HB2.out.trans (hb.mono HB2.out.size))
                          replace HBw4 := Lib.hid (HBw4.out.trans (hb.mono HBw4.out.size))
                          replace HBw8 := Lib.hid (HBw8.out.trans (hb.mono HBw8.out.size))
                          replace HB18 := Lib.hid (HB18.out.trans (hb.mono HB18.out.size))
                          replace HB22 := Lib.hid (HB22.out.trans (hb.mono HB22.out.size))
                          replace HBw24 := Lib.hid (HBw24.out.trans (hb.mono HBw24.out.size))
                          clear hb
                          clear g0
                          obtain ⟨w26, hw⟩ : ∃ w26, (w25.alloc (.cells #[.int .i64 T7.arr, .int .i64 T7.start, .int .i64 T7.len, .int .i64 T7.cap] 28)) = w26 := ⟨_, rfl⟩
                          have hb : Below w25.heap.size w25 w26 := by rw [← hw]; exact (Below.refl _ _).alloc (Nat.le_refl _) _
                          have Ht7s : Hid (w26.heap[w25.heap.size]? = some (.cells #[.int .i64 T7.arr, .int .i64 T7.start, .int .i64 T7.len, .int .i64 T7.cap] 28)) := Lib.hid (by rw [← hw]; exact heap_alloc_new _ _)
                          have HWw26 := Lib.hid hw
                          replace HB0 := Lib.hid (HB0.out.trans (hb.mono HB0.out.size))
                          replace HB2 := Lib.hid (HB2.out.trans (hb.mono HB2.out.size))
                          replace HBw4 := Lib.hid (HBw4.out.trans (hb.mono HBw4.out.size))
                          replace HBw8 := Lib.hid (HBw8.out.trans (hb.mono HBw8.out.size))
                          replace HB18 := Lib.hid (HB18.out.trans (hb.mono HB18.out.size))
                          replace HB22 := Lib.hid (HB22.out.trans (hb.mono HB22.out.size))
                          replace HBw24 := Lib.hid (HBw24.out.trans (hb.mono HBw24.out.size))
                          clear hb hw
                          go_upto_region 27 with fail
                          rw [HWw26.out]
                          obtain ⟨a0, a1, a2, a3⟩ := four_cells (keepB Ht7.out HBw24.out)
                          obtain ⟨b0, b1, b2, b3⟩ := four_cells Ht7s.out
                          obtain ⟨c0, c1, c2, c3, c4⟩ := HC.out _ HB2.out
                          go_upto_region 29 with fail
                          clear a0 a1 a2 a3 b0 b1 b2 b3 Ht7s
                          as_aux_lemma =>
                            have HSW := Lib.hid (fun W => specWindowText_calls x.arr x.start x.len x.cap W (i64_bounds HX.out.1) (i64_bounds HX.out.2.1) (i64_bounds HX.out.2.2.1) (i64_bounds HX.out.2.2.2))
                            have HIW := Lib.hid (fun W (ht : Tabs W) => implWindowText_calls x.arr x.start x.len x.cap W ht (i64_bounds HX.out.1) (i64_bounds HX.out.2.1) (i64_bounds HX.out.2.2.1) (i64_bounds HX.out.2.2.2))
                            have HTc := Lib.hid (HT.out.below HB0.out)
                            have nt : (!(winT x.arr x.start x.len x.cap).toList == (winT x.arr x.start x.len x.cap).toList) = false := by simp
                            go_cut [232] (fun s232 wx => s232 = .bool false ∧ Below w26.heap.size w26 wx)
                            case first =>
                              have HD := Lib.hid ((Below.refl w26.heap.size w26).drew)
                              have HCD := Lib.hid (fun W (hb : Below w26.heap.size w26 W) => HC.out W (HB2.out.trans (hb.mono HB2.out.size)))
                              clear c0 c1 c2 c3 c4
                              obtain ⟨c0, c1, c2, c3, c4⟩ := HCD.out _ HD.out
                              go_region_law (first
                                | ((try go_simp); go_at_call 21; refine (HIW.out _ (by first | exact HTc.out.below HD.out | exact HTc.out.below hcs)).mono ?_; rintro e wi ⟨rfl, hbi⟩; have hci : Below w26.heap.size w26 wi := (by first | exact HD.out.trans hbi | exact hcs.trans (hbi.mono hcs.size)); obtain ⟨i0, i1, i2, i3, i4⟩ := HCD.out _ hci)
                                | ((try go_simp); go_at_call 22; refine (HSW.out _).mono ?_; rintro e ws ⟨rfl, hbs⟩; have hcs : Below w26.heap.size w26 ws := (by first | exact HD.out.trans hbs | exact hci.trans (hbs.mono hci.size)); obtain ⟨j0, j1, j2, j3, j4⟩ := HCD.out _ hcs))
                              all_goals go_wp2_with fail
                              all_goals go_meet
                              all_goals (first | exact ⟨rfl, hci⟩ | exact ⟨rfl, hcs⟩)
                            case rest =>
                              obtain ⟨rfl, hb⟩ := hcut
                              obtain ⟨w27, hw27⟩ : ∃ w27, w27 = wc := ⟨_, rfl⟩
                              subst hw27
                              replace HB0 := Lib.hid (HB0.out.trans (hb.mono HB0.out.size))
                              replace HB2 := Lib.hid (HB2.out.trans (hb.mono HB2.out.size))
                              replace HBw4 := Lib.hid (HBw4.out.trans (hb.mono HBw4.out.size))
                              replace HBw8 := Lib.hid (HBw8.out.trans (hb.mono HBw8.out.size))
                              replace HB18 := Lib.hid (HB18.out.trans (hb.mono HB18.out.size))
                              replace HB22 := Lib.hid (HB22.out.trans (hb.mono HB22.out.size))
                              replace HBw24 := Lib.hid (HBw24.out.trans (hb.mono HBw24.out.size))
                              clear hb c0 c1 c2 c3 c4 HIW HSW HTc nt
                              as_aux_lemma =>
                                have Hg0 := Lib.hid (HCG.out w27 HB22.out)
                                go_upto_if 233 with fail
                                go_cut [] (fun wx => Below w27.heap.size w27 wx)
                                case first =>
                                  as_aux_lemma =>
                                    rcases HF7.out with ⟨rfl, hm0, ha0, ha1, hT7⟩ | ⟨rfl, _⟩
                                    · obtain ⟨S, hS⟩ : ∃ S, (bytesR G T7).1 = S := ⟨_, rfl⟩
                                      have hF := whole_facts hm0 ha0 ha1 hT7 hS.symm
                                      have HB := Lib.hid (implWindowBytes_calls AG cG G T7 w27 (HRG.out _ HB22.out) hGL hF.arg)
                                      rw [hS, bytesR_ok, decide_eq_true hF.ok] at HB
                                      have HF := Lib.hid hF
                                      have g0 := HCG.out _ HB22.out
                                      obtain ⟨a0, a1, a2, a3⟩ := four_cells (keepB Ht7.out HBw24.out)
                                      clear hm0 ha1 hT7 hS hF
                                      go_wp2_with fail
                                      refine HB.out.mono ?_
                                      rintro e w28 ⟨v4, rfl, ho, hb⟩
                                      obtain ⟨AS, cS, rfl⟩ := own_form ho
                                      have HO4 := Lib.hid ho
                                      have HB22b := Lib.hid (HB22.out.trans (hb.mono HB22.out.size))
                                      have HB27 := Lib.hid hb
                                      clear ho hb g0 a0 a1 a2 a3
                                      have g0 := HCG.out _ HB22b.out
                                      obtain ⟨an, rfl⟩ : ∃ an : Nat, a = an := ⟨a.toNat, by omega⟩
                                      have han : an < G.length := by have := HF.out.al; simpa using this
                                      obtain ⟨b, off, Ai, ci, rfl, hbb, hce, hci, hcm, hrd⟩ := (HRG.out _ HB22b.out).at_ han
                                      obtain rfl : S = G[an] := by have := HF.out.all; simpa using this
                                      have HRD := Lib.hid hrd
                                      clear hrd
                                      have hge : decide ((an : Int) < 0) = false := by simp
                                      go_wp2_with fail
                                      refine (rBytes_same G[an] _ _ _ _ w28 (Rd.of_own HO4.out) HRD.out).mono ?_
                                      rintro e w29 ⟨rfl, hb2⟩
                                      go_wp2_with fail
                                      go_meet
                                      exact HB27.out.trans (hb2.mono HB27.out.size)
                                    · go_wp2_with fail
                                      go_meet
                                      exact Below.refl _ _
                                case rest =>
                                  obtain ⟨w28, hw28⟩ : ∃ w28, w28 = wc := ⟨_, rfl⟩
                                  subst hw28
                                  have hb := hcut
                                  replace HB0 := Lib.hid (HB0.out.trans (hb.mono HB0.out.size))
                                  replace HB2 := Lib.hid (HB2.out.trans (hb.mono HB2.out.size))
                                  replace HBw4 := Lib.hid (HBw4.out.trans (hb.mono HBw4.out.size))
                                  replace HBw8 := Lib.hid (HBw8.out.trans (hb.mono HBw8.out.size))
                                  replace HB18 := Lib.hid (HB18.out.trans (hb.mono HB18.out.size))
                                  replace HB22 := Lib.hid (HB22.out.trans (hb.mono HB22.out.size))
                                  replace HBw24 := Lib.hid (HBw24.out.trans (hb.mono HBw24.out.size))
                                  clear hb hcut
                                  as_aux_lemma =>
                                    go_upto_if 252 with fail
                                    go_cut [] (fun wx => Below w28.heap.size w28 wx)
                                    case first =>
                                      as_aux_lemma =>
                                        rcases HF2.out with ⟨rfl, hs2, hT2⟩ | ⟨rfl, _⟩
                                        · obtain ⟨S, hS⟩ : ∃ S, (bytesR M T2).1 = S := ⟨_, rfl⟩
                                          have hF := two_facts hs2 hT2 HL.out.symm hS.symm
                                          have HB := Lib.hid (implWindowBytes_calls AM cM M T2 w28 (HRM.out _ HB2.out) hML hF.arg)
                                          rw [hS, bytesR_ok, decide_eq_true hF.ok] at HB
                                          have HP : Hid (p3 = false ∨ p3 = true ∧ (T2.len != T3.len) = false) := Lib.hid (by
                                            rcases HF3.out with ⟨h, _, h2⟩ | ⟨h, _⟩
                                            · exact .inr ⟨h, by rw [hF.len, h2]; simp⟩
                                            · exact .inl h)
                                          obtain ⟨iN, rfl⟩ : ∃ iN : Nat, i = iN := ⟨i.toNat, by have := hF.i0; omega⟩
                                          obtain ⟨jN, rfl⟩ : ∃ jN : Nat, j = jN := ⟨j.toNat, by have := hF.i0; have := hF.ij; omega⟩
                                          have e1 : ((S.length : Int) != (jN : Int) - iN) = false := by simp [hF.many]
                                          have e2 : (T2.cap != x.cap - iN) = false := by simp [hF.cap]
                                          have h1 := hF.ij
                                          have h2 := hF.jc
                                          have h3 := hF.c64
                                          have HF := Lib.hid hF
                                          clear hs2 hT2 hS hF
                                          obtain ⟨c0, c1, c2, c3, c4⟩ := HC.out _ HB2.out
                                          obtain ⟨a0, a1, a2, a3⟩ := four_cells (keepB Ht2.out HBw8.out)
                                          go_wp2_with fail
                                          refine HB.out.mono ?_
                                          rintro e w29 ⟨v5, rfl, ho, hb⟩
                                          obtain ⟨AS, cS, rfl⟩ := own_form ho
                                          have HRS := Lib.hid (Rd.of_own ho)
                                          have HRL29 := Lib.hid (HRL.out w29 (HB18.out.trans (hb.mono HB18.out.size)))
                                          have HB28 := Lib.hid hb
                                          clear ho c0 c1 c2 c3 c4 a0 a1 a2 a3
                                          obtain ⟨c0, c1, c2, c3, c4⟩ := HC.out w29 (HB2.out.trans (hb.mono HB2.out.size))
                                          obtain ⟨a0, a1, a2, a3⟩ := four_cells (keepB Ht2.out (HBw8.out.trans (hb.mono HBw8.out.size)))
                                          obtain ⟨b0, b1, b2, b3⟩ := four_cells (keepB Ht3.out (HBw4.out.trans (hb.mono HBw4.out.size)))
                                          clear hb HB
                                          go_upto_region 37 with fail
                                          go_cut [287] (fun s287 wx => s287 = .bool false ∧ w29 = wx)
                                          case first =>
                                            rcases HP.out with rfl | ⟨rfl, e3⟩
                                            all_goals go_wp2_with fail
                                            all_goals go_meet
                                            all_goals exact ⟨rfl, rfl⟩
                                          case rest =>
                                            obtain ⟨rfl, hwc⟩ := hcut
                                            subst hwc
                                            clear c0 c1 c2 c3 c4 a0 a1 a2 a3 b0 b1 b2 b3 e1 e2 h2
                                            as_aux_lemma =>
                                              go_wp2
                                              go_loopw [38] (fun s wr => ∃ kk nn : Nat, kk ≤ S.length ∧ s = .int .i64 kk ∧ wr = w29.drewN nn) (fun s _ => S.length - (intOf s).toNat)
                                              case atStart => exact ⟨0, 0, Nat.zero_le _, rfl, rfl⟩
                                              case round =>
                                                obtain ⟨kk, nn, hk, rfl, rfl⟩ := hrel
                                                have h64 : S.length ≤ 64 ∧ iN ≤ 64 := by have := HF.out.many; have := HF.out.jc; have := HF.out.c64; omega
                                                obtain ⟨h64, hi64⟩ := h64
                                                by_cases hlt : kk < S.length
                                                · obtain ⟨b, off, rfl, hbb, hc⟩ := HRS.out.int hlt
                                                  by_cases hg : iN + kk < L.length
                                                  · obtain ⟨b2, off2, rfl, hbb2, hc2⟩ := HRL29.out.int hg
                                                    have hne : (S[kk] != L[iN + kk]) = false := by simpa using HF.out.same kk hlt (by simpa using hg)
                                                    have hgi : decide (((iN : Int) + kk) < L.length) = true := decide_eq_true (by omega)
                                                    have hkk : kk ≤ 64 := by omega
                                                    go_wp2
                                                    go_quiet (fail)
                                                    go_wp2
                                                    go_roundw
                                                    case rel => exact ⟨kk + 1, nn + nq, by omega, by go_num, rfl⟩
                                                    case measure => simp [intOf]; omega
                                                  · have hgi : decide (((iN : Int) + kk) < L.length) = false := decide_eq_false (by omega)
                                                    clear hg
                                                    have hkk : kk ≤ 64 := by omega
                                                    go_wp2
                                                    go_quiet (fail)
                                                    go_wp2
                                                    go_roundw
                                                    case rel => exact ⟨kk + 1, nn + nq, by omega, by go_num, rfl⟩
                                                    case measure => simp [intOf]; omega
                                                · have hge : ¬ (kk : Int) < S.length := by omega
                                                  clear hlt
                                                  go_wp2
                                                  go_meet
                                                  exact below_drewN HB28.out _
                                        · go_wp2_with fail
                                          go_meet
                                          exact Below.refl _ _
                                    case rest =>
                                      obtain ⟨w30, hw30⟩ : ∃ w30, w30 = wc := ⟨_, rfl⟩
                                      subst hw30
                                      have hb := hcut
                                      replace HB0 := Lib.hid (HB0.out.trans (hb.mono HB0.out.size))
                                      replace HB2 := Lib.hid (HB2.out.trans (hb.mono HB2.out.size))
                                      replace HBw4 := Lib.hid (HBw4.out.trans (hb.mono HBw4.out.size))
                                      replace HBw8 := Lib.hid (HBw8.out.trans (hb.mono HBw8.out.size))
                                      replace HB18 := Lib.hid (HB18.out.trans (hb.mono HB18.out.size))
                                      replace HB22 := Lib.hid (HB22.out.trans (hb.mono HB22.out.size))
                                      replace HBw24 := Lib.hid (HBw24.out.trans (hb.mono HBw24.out.size))
                                      clear hb hcut
                                      go_wp2_with fail
                                      go_ret
                                      exact ⟨rfl, HB0.out⟩
  · clear hr hz hn ht
    go_enter Tryd.func3, Tryd.ntmps3
    go_wp2_with (go_at_call 4; go_in)
    go_ret
    exact ⟨rfl, Below.refl _ _⟩
end Go.Proofs.YtmcabnbmjbepjaaDoor
