/-
  l7Split of spec.
-/
import Derived.Test.YtomebbapjolnlaaRpN0
import Derived.Deep.DeepCutAuto
import Derived.Deep.RegionLaw
import Derived.IntWalk
namespace Go.Proofs.Ytomebbapjolnlaa
open Go.RowKit

/-- Whether a window comes to the first list whole. -/
def goesB (i t d : Int) (x : Win) : Bool := decide (d + x.len ≤ i ∧ (0 < x.len ∨ d < i ∨ i = t))
theorem cutOne_first {i t d : Int} {x : Win} (h : goesB i t d x = true) : cutOne i t d x = ([x], []) := by
  unfold cutOne; rw [if_pos (of_decide_eq_true h)]
theorem cutOne_second {i t d : Int} {x : Win} (h : goesB i t d x = false) (h2 : i ≤ d) : cutOne i t d x = ([], [x]) := by
  unfold cutOne; rw [if_neg (of_decide_eq_false h), if_pos h2]
theorem cutOne_both {i t d : Int} {x : Win} (h : goesB i t d x = false) (h2 : ¬ i ≤ d) : cutOne i t d x = ([⟨x.arr, x.start, i - d, i - d⟩], [⟨x.arr, x.start + (i - d), x.len - (i - d), x.cap - (i - d)⟩]) := by
  unfold cutOne; rw [if_neg (of_decide_eq_false h), if_neg h2]
theorem splitTo_step (i t : Int) (L : List Win) (j : Nat) (h : j < L.length) : splitTo i t L (j + 1) = ((splitTo i t L j).1 ++ (cutOne i t (rpLen (L.take j)) L[j]).1, (splitTo i t L j).2 ++ (cutOne i t (rpLen (L.take j)) L[j]).2) := by
  rw [splitTo]; simp [List.getElem?_eq_getElem h]
theorem rp_le {L : List Win} (h : Tiny L) (k : Nat) : 0 ≤ rpLen (L.take k) ∧ rpLen (L.take k) ≤ 64 * L.length := by
  have h1 := rpLen_bounds (L := L.take k) fun x hx => h x (List.mem_of_mem_take hx)
  have h3 : (L.take k).length ≤ L.length := List.length_take_le' _ _
  omega

theorem own_below4 {w w' : World} {base : Nat} {e : TypeId} {sz : Nat} {v : Value} {n : Nat} {xs : List Value} (h : w.ownsRow base e sz v n xs) (hb : Below w.heap.size w w') : w'.ownsRow base e sz v n xs := own_keep h hb
set_option maxRecDepth 100000 in
set_option maxHeartbeats 6400000 in
theorem specSplit_calls (B : Option Addr) (k : Nat) (L : List Win) (i : Int) (w : World) (hx : RdW w w.heap.size B L) (hl : L.length ≤ 12) (hq : Tiny L) (hi : 0 ≤ i ∧ i ≤ rpLen L) (hwf : ∀ x ∈ L, 0 ≤ x.start ∧ x.start ≤ 64 ∧ 0 ≤ x.cap ∧ x.cap ≤ 64) :
    Calls Try.prog 91 #[.agg #[.slice B L.length k], .int .i64 i] w fun e w' => ∃ v1 v2, e = .returned (.tuple #[.agg #[v1], .agg #[v2]]) ∧ OwnW w' w.heap.size w'.heap.size v1 (splitR L i).1 ∧ OwnW w' w.heap.size w'.heap.size v2 (splitR L i).2 ∧ Below w.heap.size w w' := by
  obtain ⟨i0, hi0, hz, hz1, hz2⟩ := info_parts info_winE
  obtain ⟨hb0, g1, g2, g3, hsz⟩ := enter3 w (.cells #[.slice B L.length k] 36) (.cells #[.slice none 0 0] 36) (.cells #[.slice none 0 0] 36)
  obtain ⟨w0, hw0⟩ : ∃ w0, ((w.alloc (.cells #[.slice B L.length k] 36)).alloc (.cells #[.slice none 0 0] 36)).alloc (.cells #[.slice none 0 0] 36) = w0 := ⟨_, rfl⟩
  rw [hw0] at hb0 g1 g2 g3 hsz
  obtain ⟨w1, hw1⟩ : ∃ w1, (((w0.alloc (.cells #[] 90)).alloc (.cells #[] 90)).alloc (.cells #[.slice (some ⟨w0.heap.size, 0, none⟩) 0 0] 36)).alloc (.cells #[.slice (some ⟨w0.heap.size + 1, 0, none⟩) 0 0] 36) = w1 := ⟨_, rfl⟩
  have hsp : SP w0 w1 (w0.heap.size + 1 + 1) w0.heap.size 0 [] (w0.heap.size + 1 + 1 + 1) (w0.heap.size + 1) 0 [] := by
    have o1 := World.ownsRow_made (base := w0.heap.size) (e := 90) (size := 4) w0 #[] 0 (Nat.le_refl _) (Nat.zero_le _) rfl
    have o2 := World.ownsRow_made (base := w0.heap.size) (e := 90) (size := 4) (w0.alloc (.cells #[] 90)) #[] 0 (by simp) (Nat.zero_le _) rfl
    have o2' : ((w0.alloc (.cells #[] 90)).alloc (.cells #[] 90)).ownsRow w0.heap.size 90 4 (.slice (some ⟨w0.heap.size + 1, 0, none⟩) 0 0) 0 [] := by simpa using o2
    rw [← hw1]
    refine ⟨by (repeat (first | (with_reducible exact Below.refl _ _) | (with_reducible refine Below.drew ?_) | ((with_reducible refine Below.alloc ?_ ?hB _); case hB => (first | (with_reducible exact Nat.le_refl _) | omega | (simp; done) | (simp; omega))) | ((with_reducible refine Below.setCell ?_ ?hB _); case hB => (first | (with_reducible exact Nat.le_refl _) | omega | (simp; done) | (simp; omega))))), ?_, ?_, ?_, ?_, by simp, by simp, by omega, by omega⟩
    · exact alloc_old _ (by simpa using heap_alloc_new ((w0.alloc (.cells #[] 90)).alloc (.cells #[] 90)) (.cells #[.slice (some ⟨w0.heap.size, 0, none⟩) 0 0] 36))
    · simpa using heap_alloc_new (((w0.alloc (.cells #[] 90)).alloc (.cells #[] 90)).alloc (.cells #[.slice (some ⟨w0.heap.size, 0, none⟩) 0 0] 36)) (.cells #[.slice (some ⟨w0.heap.size + 1, 0, none⟩) 0 0] 36)
    · exact ⟨[], OwnS.new (((o1.alloc _).alloc _).alloc _), fun i x h => by simp at h⟩
    · exact ⟨[], OwnS.new ((o2'.alloc _).alloc _), fun i x h => by simp at h⟩
  have HSP := Lib.hid hsp
  have HX := Lib.hid (hx.below hb0)
  have HB := Lib.hid hb0
  have HW := Lib.hid hw0
  have HW1 := Lib.hid hw1
  have HQ := Lib.hid hq
  have HWF := Lib.hid hwf
  have HZ := Lib.hid hsz
  have HR : Hid (∀ W, Below w0.heap.size w0 W → W.cell? ⟨w.heap.size, 0, none⟩ = some (.slice B L.length k)) := Lib.hid fun W hb => one_cell ((hb.block _ (by omega)).trans g1)
  have HZ1 : Hid (∀ W, Below w0.heap.size w0 W → W.heap[w.heap.size + 1]? = some (.cells #[.slice none 0 0] 36) ∧ W.heap[w.heap.size + 1 + 1]? = some (.cells #[.slice none 0 0] 36)) := Lib.hid fun W hb => ⟨(hb.block _ (by omega)).trans g2, (hb.block _ (by omega)).trans g3⟩
  have HLEN := Lib.hid (fun W (hb : Below w0.heap.size w0 W) => specLength_calls B k L W (((hx.below hb0).below (hb.mono hb0.size)).more (Nat.le_trans hb0.size hb.size)) hl hq)
  obtain ⟨t, ht⟩ : ∃ t, rpLen L = t := ⟨_, rfl⟩
  have HT := Lib.hid ht
  rw [ht] at hi HLEN
  have ht1 : t ≤ 768 := by have h1 := rpLen_bounds (L := L) hq; rw [ht] at h1; omega
  have hia := hi.1
  have hib := hi.2
  clear hx hb0 hw0 hw1 g1 g2 g3 hsz hsp hq hwf ht hi
  go_enter Try.func91, Try.ntmps91
  go_upto_region 1 with fail
  rw [HW.out]
  go_upto_region 2 with fail
  rw [HW1.out]
  go_wp2_with fail
  go_loopw [8, 9] (fun d n wr => ∃ (j g1 c1 g2 c2 : Nat), j ≤ L.length ∧ n = .int .i64 j ∧ d = .int .i64 (rpLen (L.take j)) ∧ SP w0 wr (w0.heap.size + 1 + 1) g1 c1 (splitTo i t L j).1 (w0.heap.size + 1 + 1 + 1) g2 c2 (splitTo i t L j).2) (fun _ n _ => L.length - (intOf n).toNat)
  case atStart => exact ⟨0, _, _, _, _, Nat.zero_le _, rfl, rfl, HSP.out⟩
  case round =>
    obtain ⟨j, g1, c1, g2, c2, hj, rfl, rfl, hsp⟩ := hrel
    have cr := HR.out wr hsp.b
    by_cases hlt : j < L.length
    · obtain ⟨b, off, rfl, hbb, e0, e1, e2, e3⟩ := (HX.out.below (hsp.b.mono HB.out.size)).at_ hlt
      have HST := Lib.hid (splitTo_step i t L j hlt)
      have HDL := Lib.hid (rpLen_take L j hlt)
      have hd0 := (rp_le HQ.out j).1
      have hd1 := (rp_le HQ.out j).2
      have hx0 := (HQ.out _ (List.getElem_mem hlt)).1
      have hx1 := (HQ.out _ (List.getElem_mem hlt)).2
      obtain ⟨hs0, hs1, hk0, hk1⟩ := HWF.out _ (List.getElem_mem hlt)
      have hn1 := (splitTo_len i t L j).1
      have hn2 := (splitTo_len i t L j).2
      generalize L[j] = x at *
      obtain ⟨d, hd⟩ : ∃ d, rpLen (L.take j) = d := ⟨_, rfl⟩
      rw [hd] at HST HDL hd0 hd1 ⊢
      obtain ⟨F1, hF1⟩ : ∃ F1, (splitTo i t L j).1 = F1 := ⟨_, rfl⟩
      obtain ⟨F2, hF2⟩ : ∃ F2, (splitTo i t L j).2 = F2 := ⟨_, rfl⟩
      rw [hF1, hF2] at HST hsp
      rw [hF1] at hn1
      rw [hF2] at hn2
      obtain ⟨w4, hw4⟩ : ∃ w4, wr.alloc (.cells #[.int .i64 x.arr, .int .i64 x.start, .int .i64 x.len, .int .i64 x.cap] 90) = w4 := ⟨_, rfl⟩
      have hb4 : Below wr.heap.size wr w4 := by rw [← hw4]; exact (Below.refl _ _).alloc (Nat.le_refl _) _
      have h4 : w4.heap[wr.heap.size]? = some (.cells #[.int .i64 x.arr, .int .i64 x.start, .int .i64 x.len, .int .i64 x.cap] 90) := by rw [← hw4]; exact heap_alloc_new _ _
      have HS4 := Lib.hid (hsp.below hb4)
      have H4 := Lib.hid h4
      have HW4 := Lib.hid hw4
      have HSR := Lib.hid hsp.b
      have hbp : w0.heap.size + 1 + 1 + 1 < wr.heap.size := (Array.getElem?_eq_some_iff.1 hsp.s).1
      have hlt1 : g1 < wr.heap.size := by obtain ⟨_, h, _⟩ := hsp.o1; exact h.2 g1 rfl
      have hlt2 : g2 < wr.heap.size := by obtain ⟨_, h, _⟩ := hsp.o2; exact h.2 g2 rfl
      clear hsp hw4 hb4 h4 hd hF1 hF2
      go_upto_region 9 with fail
      rw [HW4.out]
      obtain ⟨y0, y1, y2, y3⟩ := four_cells H4.out
      have cr4 := HR.out w4 HS4.out.b
      clear cr e0 e1 e2 e3
      obtain ⟨bb, hbb2⟩ : ∃ bb, goesB i t d x = bb := ⟨_, rfl⟩
      have HBB := Lib.hid hbb2
      go_cut [54] (fun s54 wx => s54 = .bool bb ∧ Below w4.heap.size w4 wx)
      case first =>
        by_cases hc : d + x.len ≤ i
        · by_cases hp : 0 < x.len
          · have hv : bb = true := by rw [← hbb2]; exact decide_eq_true ⟨hc, .inl hp⟩
            clear hbb2
            go_wp2_with fail
            go_meet
            exact ⟨by rw [hv], Below.refl _ _⟩
          · by_cases hdi : d < i
            · have hv : bb = true := by rw [← hbb2]; exact decide_eq_true ⟨hc, .inr (.inl hdi)⟩
              clear hbb2
              go_wp2_with fail
              go_meet
              exact ⟨by rw [hv], Below.refl _ _⟩
            · have HCL := Lib.hid (HLEN.out w4 HS4.out.b)
              by_cases hit : i = t
              · have hv : bb = true := by rw [← hbb2]; exact decide_eq_true ⟨hc, .inr (.inr hit)⟩
                have hbe : (i == t) = true := by simpa using hit
                clear hbb2 hit
                go_wp2_with fail
                refine HCL.out.mono ?_
                rintro e w5 ⟨rfl, hb5⟩
                have HB5 := Lib.hid hb5
                clear hb5 cr4 y0 y1 y2 y3
                go_wp2_with fail
                go_meet
                exact ⟨by rw [hv], HB5.out⟩
              · have hv : bb = false := by rw [← hbb2]; exact decide_eq_false (by rintro ⟨_, h | h | h⟩; exact hp h; exact hdi h; exact hit h)
                have hbe : (i == t) = false := by simpa using hit
                clear hbb2 hit
                go_wp2_with fail
                refine HCL.out.mono ?_
                rintro e w5 ⟨rfl, hb5⟩
                have HB5 := Lib.hid hb5
                clear hb5 cr4 y0 y1 y2 y3
                go_wp2_with fail
                go_meet
                exact ⟨by rw [hv], HB5.out⟩
        · have hv : bb = false := by rw [← hbb2]; exact decide_eq_false fun h => hc h.1
          clear hbb2
          go_wp2_with fail
          go_meet
          exact ⟨by rw [hv], Below.refl _ _⟩
      case rest =>
        obtain ⟨rfl, hb5⟩ := hcut
        obtain ⟨w5, hw5⟩ : ∃ w5, w5 = wc := ⟨_, rfl⟩
        subst hw5
        have HS5 := Lib.hid (HS4.out.below hb5)
        have H5 := Lib.hid ((hb5.block _ (Array.getElem?_eq_some_iff.1 H4.out).1).trans H4.out)
        clear hb5 y0 y1 y2 y3 cr4 hbb2
        cases bb
        · by_cases hid : i ≤ d
          · have HC1 := Lib.hid (cutOne_second HBB.out hid)
            have HST2 := Lib.hid (show splitTo i t L (j + 1) = (F1, F2 ++ [x]) by rw [HST.out, HC1.out]; simp)
            obtain ⟨cs, ho1, hwc⟩ := (HS5.out.swap).o1
            have hcl := ho1.1.1
            have HO1 := Lib.hid ho1.1
            have HWC := Lib.hid hwc
            have HCL := Lib.hid hcl
            obtain ⟨q0, f0⟩ := (HS5.out.swap).cf
            obtain ⟨y0, y1, y2, y3⟩ := four_cells H5.out
            have hrb := run_win1
            have hbs5 := HS5.out.b.size
            clear ho1 hwc hcl
            go_upto_region 13 with ((at_builtin; refine wpList_append_own_at _ rfl _ _ 34 rfl w0.heap.size 90 i0 _ 4 32 Try.underlying34 hi0 hz hz1 hz2 rfl (by decide) _ _ _ rfl (HO1.out.alloc _) ⟨w5.heap.size, 0, none⟩ 1 1 [.int .i64 x.arr, .int .i64 x.start, .int .i64 x.len, .int .i64 x.cap] rfl rfl (cell_four_new _ _ _ _ _ _) (by simp [Value.oneCell']) (by simp only [maxLen]; omega) (by omega) (by simp; omega) ?_; intro v6 w6 hown6 hgrow6 _ hat6; obtain ⟨g6, c6, rfl⟩ := own_some0 hown6 (by omega); have HN6 := Lib.hid hown6; have HG6 : Hid ((w5.alloc (.cells #[.int .i64 x.arr, .int .i64 x.start, .int .i64 x.len, .int .i64 x.cap] 90)).grownBy w6 (some g2)) := Lib.hid hgrow6; have HA6 : Hid (g6 = g2 ∨ g6 = (w5.alloc (.cells #[.int .i64 x.arr, .int .i64 x.start, .int .i64 x.len, .int .i64 x.cap] 90)).heap.size) := Lib.hid (by rcases hat6 with h | h; exact .inl (Option.some.inj (show some g6 = some g2 from h)); exact .inr (Option.some.inj (show some g6 = some _ from h))); have bx6 := block_grown hgrow6 (alloc_old _ (HS5.out.swap).f) (ne_some (own_far HO1.out (HS5.out.swap).f (by decide))); have q6 := one_cell bx6; have f6 := one_frozen bx6; clear hown6 hgrow6 hat6))
            have HSA := Lib.hid ((HS5.out.swap).below ((Below.refl _ _).alloc (Nat.le_refl _) (.cells #[.int .i64 x.arr, .int .i64 x.start, .int .i64 x.len, .int .i64 x.cap] 90)))
            have HSN := Lib.hid (HSA.out.add HWC.out HCL.out (x := x) HN6.out HG6.out HA6.out (HO1.out.alloc _))
            have HXB := Lib.hid ((Below.heap_setCell w6 ⟨w0.heap.size + 1 + 1 + 1, 0, none⟩ (.slice (some ⟨g6, 0, none⟩) (F2.length + 1) c6) wr.heap.size (by simp; omega)).trans (block_grown HG6.out (alloc_old _ H5.out) (show (some g2 : Option Nat) ≠ some wr.heap.size from fun e => by injection e with e; omega)))
            obtain ⟨w7, hw7⟩ : ∃ w7, w6.setCell ⟨w0.heap.size + 1 + 1 + 1, 0, none⟩ (.slice (some ⟨g6, 0, none⟩) (F2.length + 1) c6) = w7 := ⟨_, rfl⟩
            rw [hw7] at HSN HXB ⊢
            clear hw7 bx6 q6 f6 q0 f0 y0 y1 y2 y3 hrb HA6 HG6 HN6
            obtain ⟨y0, y1, y2, y3⟩ := four_cells HXB.out
            go_wp2_with fail
            go_roundw
            case rel => exact ⟨j + 1, _, _, _, _, by omega, by go_num, by rw [HDL.out], by rw [HST2.out]; exact HSN.out.swap⟩
            case measure => simp [intOf]; omega
          · have HC1 := Lib.hid (cutOne_both HBB.out hid)
            have HST2 := Lib.hid (show splitTo i t L (j + 1) = (F1 ++ [⟨x.arr, x.start, i - d, i - d⟩], F2 ++ [⟨x.arr, x.start + (i - d), x.len - (i - d), x.cap - (i - d)⟩]) by rw [HST.out, HC1.out])
            have hid2 : d < i := by omega
            have hlen2 : i - d < x.len := by
              have h := of_decide_eq_false HBB.out
              rcases Int.lt_or_le (i - d) x.len with h9 | h9
              · exact h9
              · exact absurd ⟨by omega, .inr (.inl hid2)⟩ h
            have hwr : IntKind.i64.wrap (i - d) = i - d := IntWalk.i64_in _ (by omega)
            have HSL1 : Hid (∀ W, Calls Try.prog 118 #[.agg #[.int .i64 x.arr, .int .i64 x.start, .int .i64 x.len, .int .i64 x.cap], .int .i64 0, .int .i64 (i - d), .int .i64 (i - d)] W fun e w' => e = .returned (.agg #[.int .i64 x.arr, .int .i64 x.start, .int .i64 (i - d), .int .i64 (i - d)]) ∧ Below W.heap.size W w') := Lib.hid fun W => by
              have h := specSlice_calls x.arr x.start x.len x.cap 0 (i - d) (i - d) W (by omega) (by omega) (by omega) (by omega)
              rw [show x.start + 0 = x.start by omega, show i - d - 0 = i - d by omega] at h
              exact h
            have HSL2 : Hid (∀ W, Calls Try.prog 118 #[.agg #[.int .i64 x.arr, .int .i64 x.start, .int .i64 x.len, .int .i64 x.cap], .int .i64 (i - d), .int .i64 x.len, .int .i64 x.cap] W fun e w' => e = .returned (.agg #[.int .i64 x.arr, .int .i64 (x.start + (i - d)), .int .i64 (x.len - (i - d)), .int .i64 (x.cap - (i - d))]) ∧ Below W.heap.size W w') := Lib.hid fun W => specSlice_calls x.arr x.start x.len x.cap (i - d) x.len x.cap W (by omega) (by omega) (by omega) (by omega)
            go_upto_region 7 with fail
            obtain ⟨cs, ho1, hwc⟩ := (HS5.out).o1
            have hcl := ho1.1.1
            have HO1 := Lib.hid ho1.1
            have HWC := Lib.hid hwc
            have HCL := Lib.hid hcl
            have HAL : Hid (∀ V, Below w5.heap.size w5 V → SP w0 V (w0.heap.size + 1 + 1) g1 c1 F1 (w0.heap.size + 1 + 1 + 1) g2 c2 F2 ∧ V.heap[wr.heap.size]? = some (.cells #[.int .i64 x.arr, .int .i64 x.start, .int .i64 x.len, .int .i64 x.cap] 90)) := Lib.hid fun V hb => ⟨(HS5.out).below hb, (hb.block _ (Array.getElem?_eq_some_iff.1 H5.out).1).trans H5.out⟩
            have hbd : Below w5.heap.size w5 w5.drew := (Below.refl _ _).drew
            have hsd := HAL.out _ hbd
            obtain ⟨q0, f0⟩ := hsd.1.cf
            obtain ⟨y0, y1, y2, y3⟩ := four_cells hsd.2
            have hrb := run_win1
            have hbs5 := HS5.out.b.size
            clear ho1 hwc hcl hsd
            go_cut [] (fun wx => ∃ g c, SP w0 wx (w0.heap.size + 1 + 1) g c (F1 ++ [⟨x.arr, x.start, i - d, i - d⟩]) (w0.heap.size + 1 + 1 + 1) g2 c2 F2 ∧ wx.heap[wr.heap.size]? = some (.cells #[.int .i64 x.arr, .int .i64 x.start, .int .i64 x.len, .int .i64 x.cap] 90))
            case first =>
              go_region_law (first | ((try go_simp); go_at_call 118; (with_reducible refine (HSL1.out w5.drew).mono ?_); rintro e w6 ⟨rfl, hb6⟩; have hc6 : Below w5.heap.size w5 w6 := ⟨hb6.os, hb6.tape, hb6.output, hb6.size, hb6.block⟩; have HS6 := Lib.hid (HAL.out w6 hc6); obtain ⟨q6, f6⟩ := HS6.out.1.cf; have q6a := cell_alloc q6 (.cells #[.int .i64 x.arr, .int .i64 x.start, .int .i64 (i - d), .int .i64 (i - d)] 90); obtain ⟨z0, z1, z2, z3⟩ := four_cells HS6.out.2; have HO6 := Lib.hid (own_below4 HO1.out hc6); have hs6 := HS6.out.1.b.size; clear hb6) | (refine step_append_at rfl (.tmp 28) (.tmp 37) 34 rfl w0.heap.size 90 i0 _ 4 32 Try.underlying34 hi0 hz hz1 hz2 rfl (by decide) (.slice (some ⟨g1, 0, none⟩) F1.length c1) F1.length cs (by simp [Act.eval]) (HO6.out.alloc _) ⟨w6.heap.size, 0, none⟩ 1 1 [.int .i64 x.arr, .int .i64 x.start, .int .i64 (i - d), .int .i64 (i - d)] (by simp [Act.eval]) rfl (cell_four_new _ _ _ _ _ _) (by simp [Value.oneCell']) (by simp only [maxLen]; omega) (by omega) (by simp; omega) ?_; intro v7 w7 hown7 hgrow7 hat7; obtain ⟨g7, c7, rfl⟩ := own_some0 hown7 (by omega); have HN7 := Lib.hid hown7; have HG7 : Hid ((w6.alloc (.cells #[.int .i64 x.arr, .int .i64 x.start, .int .i64 (i - d), .int .i64 (i - d)] 90)).grownBy w7 (some g1)) := Lib.hid hgrow7; have HA7 : Hid (g7 = g1 ∨ g7 = (w6.alloc (.cells #[.int .i64 x.arr, .int .i64 x.start, .int .i64 (i - d), .int .i64 (i - d)] 90)).heap.size) := Lib.hid (by rcases hat7 with h | h; exact .inl (Option.some.inj (show some g7 = some g1 from h)); exact .inr (Option.some.inj (show some g7 = some _ from h))); have bx7 := block_grown HG7.out (alloc_old _ HS6.out.1.f) (ne_some (own_far HO6.out HS6.out.1.f (by decide))); have q7 := one_cell bx7; have f7 := one_frozen bx7; clear hown7 hgrow7 hat7))
              all_goals (go_wp2_with fail)
              all_goals go_meet
              all_goals
                have hsn := (HS6.out.1.below ((Below.refl _ _).alloc (Nat.le_refl _) (.cells #[.int .i64 x.arr, .int .i64 x.start, .int .i64 (i - d), .int .i64 (i - d)] 90))).add HWC.out HCL.out (x := ⟨x.arr, x.start, i - d, i - d⟩) HN7.out HG7.out HA7.out (HO6.out.alloc _)
                exact ⟨_, _, hsn, (Below.heap_setCell w7 ⟨w0.heap.size + 1 + 1, 0, none⟩ _ wr.heap.size (by simp; omega)).trans (block_grown HG7.out (alloc_old _ HS6.out.2) (show (some g1 : Option Nat) ≠ some wr.heap.size from fun e => by injection e with e; omega))⟩
            case rest =>
              obtain ⟨gn8, cn8, hspn, hxn⟩ := hcut
              obtain ⟨w8, hw8⟩ : ∃ w8, w8 = wc := ⟨_, rfl⟩
              subst hw8
              have HS8 := Lib.hid hspn
              have H8 := Lib.hid hxn
              clear hspn hxn q0 f0 y0 y1 y2 y3 hrb HAL hbd HO1 HWC HCL
              go_upto_region 8 with fail
              obtain ⟨cs, ho1, hwc⟩ := (HS8.out.swap).o1
              have hcl := ho1.1.1
              have HO1 := Lib.hid ho1.1
              have HWC := Lib.hid hwc
              have HCL := Lib.hid hcl
              have HAL : Hid (∀ V, Below w8.heap.size w8 V → SP w0 V (w0.heap.size + 1 + 1 + 1) g2 c2 F2 (w0.heap.size + 1 + 1) gn8 cn8 (F1 ++ [⟨x.arr, x.start, i - d, i - d⟩]) ∧ V.heap[wr.heap.size]? = some (.cells #[.int .i64 x.arr, .int .i64 x.start, .int .i64 x.len, .int .i64 x.cap] 90)) := Lib.hid fun V hb => ⟨(HS8.out.swap).below hb, (hb.block _ (Array.getElem?_eq_some_iff.1 H8.out).1).trans H8.out⟩
              have hbd : Below w8.heap.size w8 w8.drew := (Below.refl _ _).drew
              have hsd := HAL.out _ hbd
              obtain ⟨q0, f0⟩ := hsd.1.cf
              obtain ⟨y0, y1, y2, y3⟩ := four_cells hsd.2
              have hrb := run_win1
              have hbs5 := HS8.out.b.size
              clear ho1 hwc hcl hsd
              go_region_law (first | ((try go_simp); go_at_call 118; (with_reducible refine (HSL2.out w8.drew).mono ?_); rintro e w6 ⟨rfl, hb6⟩; have hc6 : Below w8.heap.size w8 w6 := ⟨hb6.os, hb6.tape, hb6.output, hb6.size, hb6.block⟩; have HS6 := Lib.hid (HAL.out w6 hc6); obtain ⟨q6, f6⟩ := HS6.out.1.cf; have q6a := cell_alloc q6 (.cells #[.int .i64 x.arr, .int .i64 (x.start + (i - d)), .int .i64 (x.len - (i - d)), .int .i64 (x.cap - (i - d))] 90); obtain ⟨z0, z1, z2, z3⟩ := four_cells HS6.out.2; have HO6 := Lib.hid (own_below4 HO1.out hc6); have hs6 := HS6.out.1.b.size; clear hb6) | (refine step_append_at rfl (.tmp 41) (.tmp 51) 34 rfl w0.heap.size 90 i0 _ 4 32 Try.underlying34 hi0 hz hz1 hz2 rfl (by decide) (.slice (some ⟨g2, 0, none⟩) F2.length c2) F2.length cs (by simp [Act.eval]) (HO6.out.alloc _) ⟨w6.heap.size, 0, none⟩ 1 1 [.int .i64 x.arr, .int .i64 (x.start + (i - d)), .int .i64 (x.len - (i - d)), .int .i64 (x.cap - (i - d))] (by simp [Act.eval]) rfl (cell_four_new _ _ _ _ _ _) (by simp [Value.oneCell']) (by simp only [maxLen]; omega) (by omega) (by simp; omega) ?_; intro v7 w7 hown7 hgrow7 hat7; obtain ⟨g7, c7, rfl⟩ := own_some0 hown7 (by omega); have HN7 := Lib.hid hown7; have HG7 : Hid ((w6.alloc (.cells #[.int .i64 x.arr, .int .i64 (x.start + (i - d)), .int .i64 (x.len - (i - d)), .int .i64 (x.cap - (i - d))] 90)).grownBy w7 (some g2)) := Lib.hid hgrow7; have HA7 : Hid (g7 = g2 ∨ g7 = (w6.alloc (.cells #[.int .i64 x.arr, .int .i64 (x.start + (i - d)), .int .i64 (x.len - (i - d)), .int .i64 (x.cap - (i - d))] 90)).heap.size) := Lib.hid (by rcases hat7 with h | h; exact .inl (Option.some.inj (show some g7 = some g2 from h)); exact .inr (Option.some.inj (show some g7 = some _ from h))); have bx7 := block_grown HG7.out (alloc_old _ HS6.out.1.f) (ne_some (own_far HO6.out HS6.out.1.f (by decide))); have q7 := one_cell bx7; have f7 := one_frozen bx7; clear hown7 hgrow7 hat7))
              all_goals (go_upto_region 13 with fail)
              all_goals
                have hsn := (HS6.out.1.below ((Below.refl _ _).alloc (Nat.le_refl _) (.cells #[.int .i64 x.arr, .int .i64 (x.start + (i - d)), .int .i64 (x.len - (i - d)), .int .i64 (x.cap - (i - d))] 90))).add HWC.out HCL.out (x := ⟨x.arr, x.start + (i - d), x.len - (i - d), x.cap - (i - d)⟩) HN7.out HG7.out HA7.out (HO6.out.alloc _)
                have hxn := (Below.heap_setCell w7 ⟨w0.heap.size + 1 + 1 + 1, 0, none⟩ (.slice (some ⟨g7, 0, none⟩) (F2.length + 1) c7) wr.heap.size (by simp; omega)).trans (block_grown HG7.out (alloc_old _ HS6.out.2) (show (some g2 : Option Nat) ≠ some wr.heap.size from fun e => by injection e with e; omega))
                obtain ⟨w9, hw9⟩ : ∃ w9, w7.setCell ⟨w0.heap.size + 1 + 1 + 1, 0, none⟩ (.slice (some ⟨g7, 0, none⟩) (F2.length + 1) c7) = w9 := ⟨_, rfl⟩
                rw [hw9] at hsn hxn ⊢
                have HS9 := Lib.hid hsn.swap
                have H9 := Lib.hid hxn
                clear hsn hxn hw9 q0 f0 y0 y1 y2 y3 q6 q6a f6 z0 z1 z2 z3 bx7 q7 f7 hrb HAL hbd
                obtain ⟨y0, y1, y2, y3⟩ := four_cells H9.out
                go_wp2_with fail
                go_roundw
                case rel => exact ⟨j + 1, _, _, _, _, by omega, by go_num, by rw [HDL.out], by rw [HST2.out]; exact HS9.out⟩
                case measure => simp [intOf]; omega
        · have HC1 := Lib.hid (cutOne_first HBB.out)
          have HST2 := Lib.hid (show splitTo i t L (j + 1) = (F1 ++ [x], F2) by rw [HST.out, HC1.out]; simp)
          obtain ⟨cs, ho1, hwc⟩ := (HS5.out).o1
          have hcl := ho1.1.1
          have HO1 := Lib.hid ho1.1
          have HWC := Lib.hid hwc
          have HCL := Lib.hid hcl
          obtain ⟨q0, f0⟩ := (HS5.out).cf
          obtain ⟨y0, y1, y2, y3⟩ := four_cells H5.out
          have hrb := run_win1
          have hbs5 := HS5.out.b.size
          clear ho1 hwc hcl
          go_upto_region 13 with ((at_builtin; refine wpList_append_own_at _ rfl _ _ 34 rfl w0.heap.size 90 i0 _ 4 32 Try.underlying34 hi0 hz hz1 hz2 rfl (by decide) _ _ _ rfl (HO1.out.alloc _) ⟨w5.heap.size, 0, none⟩ 1 1 [.int .i64 x.arr, .int .i64 x.start, .int .i64 x.len, .int .i64 x.cap] rfl rfl (cell_four_new _ _ _ _ _ _) (by simp [Value.oneCell']) (by simp only [maxLen]; omega) (by omega) (by simp; omega) ?_; intro v6 w6 hown6 hgrow6 _ hat6; obtain ⟨g6, c6, rfl⟩ := own_some0 hown6 (by omega); have HN6 := Lib.hid hown6; have HG6 : Hid ((w5.alloc (.cells #[.int .i64 x.arr, .int .i64 x.start, .int .i64 x.len, .int .i64 x.cap] 90)).grownBy w6 (some g1)) := Lib.hid hgrow6; have HA6 : Hid (g6 = g1 ∨ g6 = (w5.alloc (.cells #[.int .i64 x.arr, .int .i64 x.start, .int .i64 x.len, .int .i64 x.cap] 90)).heap.size) := Lib.hid (by rcases hat6 with h | h; exact .inl (Option.some.inj (show some g6 = some g1 from h)); exact .inr (Option.some.inj (show some g6 = some _ from h))); have bx6 := block_grown hgrow6 (alloc_old _ (HS5.out).f) (ne_some (own_far HO1.out (HS5.out).f (by decide))); have q6 := one_cell bx6; have f6 := one_frozen bx6; clear hown6 hgrow6 hat6))
          have HSA := Lib.hid ((HS5.out).below ((Below.refl _ _).alloc (Nat.le_refl _) (.cells #[.int .i64 x.arr, .int .i64 x.start, .int .i64 x.len, .int .i64 x.cap] 90)))
          have HSN := Lib.hid (HSA.out.add HWC.out HCL.out (x := x) HN6.out HG6.out HA6.out (HO1.out.alloc _))
          have HXB := Lib.hid ((Below.heap_setCell w6 ⟨w0.heap.size + 1 + 1, 0, none⟩ (.slice (some ⟨g6, 0, none⟩) (F1.length + 1) c6) wr.heap.size (by simp; omega)).trans (block_grown HG6.out (alloc_old _ H5.out) (show (some g1 : Option Nat) ≠ some wr.heap.size from fun e => by injection e with e; omega)))
          obtain ⟨w7, hw7⟩ : ∃ w7, w6.setCell ⟨w0.heap.size + 1 + 1, 0, none⟩ (.slice (some ⟨g6, 0, none⟩) (F1.length + 1) c6) = w7 := ⟨_, rfl⟩
          rw [hw7] at HSN HXB ⊢
          clear hw7 bx6 q6 f6 q0 f0 y0 y1 y2 y3 hrb HA6 HG6 HN6
          obtain ⟨y0, y1, y2, y3⟩ := four_cells HXB.out
          go_wp2_with fail
          go_roundw
          case rel => exact ⟨j + 1, _, _, _, _, by omega, by go_num, by rw [HDL.out], by rw [HST2.out]; exact HSN.out⟩
          case measure => simp [intOf]; omega
    · obtain rfl : j = L.length := by omega
      have HF1 := Lib.hid (show (splitR L i).1 = (splitTo i t L L.length).1 by rw [splitR, HT.out])
      have HF2 := Lib.hid (show (splitR L i).2 = (splitTo i t L L.length).2 by rw [splitR, HT.out])
      generalize (splitTo i t L L.length).1 = F1 at *
      generalize (splitTo i t L L.length).2 = F2 at *
      have HS5 := Lib.hid hsp
      have hz5 := HZ1.out wr hsp.b
      have HZ5 := Lib.hid hz5
      have u1 := one_cell hz5.1
      have u2 := one_cell hz5.2
      have v1 := one_frozen hz5.1
      have v2 := one_frozen hz5.2
      obtain ⟨q0, _⟩ := hsp.cf
      obtain ⟨q1, _⟩ := hsp.swap.cf
      have hzz : w0.heap.size = w.heap.size + 3 := HZ.out
      have HQ0 : Hid (∀ V, (V = wr ∨ (∃ u, V = wr.setCell ⟨w.heap.size + 1, 0, none⟩ u) ∨ (∃ u, V = wr.setCell ⟨w.heap.size + 1 + 1, 0, none⟩ u) ∨ (∃ u u', V = (wr.setCell ⟨w.heap.size + 1, 0, none⟩ u).setCell ⟨w.heap.size + 1 + 1, 0, none⟩ u')) → V.cell? ⟨w0.heap.size + 1 + 1, 0, none⟩ = some (.slice (some ⟨g1, 0, none⟩) F1.length c1) ∧ V.cell? ⟨w0.heap.size + 1 + 1 + 1, 0, none⟩ = some (.slice (some ⟨g2, 0, none⟩) F2.length c2)) := Lib.hid fun V h => by
        rcases h with rfl | ⟨u, rfl⟩ | ⟨u, rfl⟩ | ⟨u, u', rfl⟩
        · exact ⟨q0, q1⟩
        · exact ⟨cell_other q0 (by simp; omega), cell_other q1 (by simp; omega)⟩
        · exact ⟨cell_other q0 (by simp; omega), cell_other q1 (by simp; omega)⟩
        · exact ⟨cell_other (cell_other q0 (by simp; omega)) (by simp; omega), cell_other (cell_other q1 (by simp; omega)) (by simp; omega)⟩
      have HD0 : Hid (∀ V : World, (V.cell? ⟨w0.heap.size + 1 + 1, 0, none⟩ = some (.slice (some ⟨g1, 0, none⟩) F1.length c1) ∧ V.cell? ⟨w0.heap.size + 1 + 1 + 1, 0, none⟩ = some (.slice (some ⟨g2, 0, none⟩) F2.length c2)) → V.drew.cell? ⟨w0.heap.size + 1 + 1, 0, none⟩ = some (.slice (some ⟨g1, 0, none⟩) F1.length c1) ∧ V.drew.cell? ⟨w0.heap.size + 1 + 1 + 1, 0, none⟩ = some (.slice (some ⟨g2, 0, none⟩) F2.length c2)) := Lib.hid fun _ h => h
      have e1 : ((wr.setCell ⟨w.heap.size + 1, 0, none⟩ (.slice (some ⟨g1, 0, none⟩) F1.length c1)).setCell ⟨w.heap.size + 1 + 1, 0, none⟩ (.slice (some ⟨g2, 0, none⟩) F2.length c2)).cell? ⟨w.heap.size + 1, 0, none⟩ = some (.slice (some ⟨g1, 0, none⟩) F1.length c1) := cell_other (one_cell (one_set hz5.1)) (by simp)
      have hz6 := (Below.heap_setCell wr ⟨w.heap.size + 1, 0, none⟩ (.slice (some ⟨g1, 0, none⟩) F1.length c1) (w.heap.size + 1 + 1) (by simp)).trans hz5.2
      have e2 : ((wr.setCell ⟨w.heap.size + 1, 0, none⟩ (.slice (some ⟨g1, 0, none⟩) F1.length c1)).setCell ⟨w.heap.size + 1 + 1, 0, none⟩ (.slice (some ⟨g2, 0, none⟩) F2.length c2)).cell? ⟨w.heap.size + 1 + 1, 0, none⟩ = some (.slice (some ⟨g2, 0, none⟩) F2.length c2) := one_cell (one_set hz6)
      have HE := Lib.hid (And.intro e1 e2)
      have HDR : Hid (∀ V : World, (V.cell? ⟨w.heap.size + 1, 0, none⟩ = some (.slice (some ⟨g1, 0, none⟩) F1.length c1) ∧ V.cell? ⟨w.heap.size + 1 + 1, 0, none⟩ = some (.slice (some ⟨g2, 0, none⟩) F2.length c2)) → V.drew.cell? ⟨w.heap.size + 1, 0, none⟩ = some (.slice (some ⟨g1, 0, none⟩) F1.length c1) ∧ V.drew.cell? ⟨w.heap.size + 1 + 1, 0, none⟩ = some (.slice (some ⟨g2, 0, none⟩) F2.length c2)) := Lib.hid fun _ h => h
      clear hsp hz5 hz6 hzz e1 e2
      go_wp2_with fail
      go_region_held3 (fun W => W.cell? ⟨w0.heap.size + 1 + 1, 0, none⟩ = some (.slice (some ⟨g1, 0, none⟩) F1.length c1) ∧ W.cell? ⟨w0.heap.size + 1 + 1 + 1, 0, none⟩ = some (.slice (some ⟨g2, 0, none⟩) F2.length c2))
        (first | exact ⟨q0, q1⟩ | exact HQ0.out _ (.inl rfl) | exact HQ0.out _ (.inr (.inl ⟨_, rfl⟩)) | exact HQ0.out _ (.inr (.inr (.inl ⟨_, rfl⟩))) | exact HQ0.out _ (.inr (.inr (.inr ⟨_, _, rfl⟩))) | exact HD0.out _ (HQ0.out _ (.inl rfl)) | exact HD0.out _ (HQ0.out _ (.inr (.inl ⟨_, rfl⟩))) | exact HD0.out _ (HQ0.out _ (.inr (.inr (.inl ⟨_, rfl⟩)))) | exact HD0.out _ (HQ0.out _ (.inr (.inr (.inr ⟨_, _, rfl⟩)))))
        (fail)
      have HD1 := Lib.hid (HDR.out _ HE.out)
      have hwz : w.heap.size + 1 + 1 < w0.heap.size := by have := HZ.out; omega
      have HWZ := Lib.hid hwz
      clear hwz
      go_wp2_with fail
      refine bodyPost_ret (v := .tuple #[.agg #[.slice (some ⟨g1, 0, none⟩) F1.length c1], .agg #[.slice (some ⟨g2, 0, none⟩) F2.length c2]]) (by simp [results, Try.results91, go_sem, HD1.out.1, HD1.out.2]) rfl ⟨_, _, rfl, ?_, ?_, ?_⟩
      · rw [HF1.out]
        exact ((ownW_set (ownW_set HS5.out.o1 (by have := HWZ.out; omega)) HWZ.out).below (Below.refl _ _).drew).mono HB.out.size (by simp [World.size_setCell, World.drew])
      · rw [HF2.out]
        exact ((ownW_set (ownW_set HS5.out.o2 (by have := HWZ.out; omega)) HWZ.out).below (Below.refl _ _).drew).mono HB.out.size (by simp [World.size_setCell, World.drew])
      · exact (((HB.out.trans (HS5.out.b.mono HB.out.size)).setCell (p := ⟨w.heap.size + 1, 0, none⟩) (by simp) _).setCell (p := ⟨w.heap.size + 1 + 1, 0, none⟩) (by simp; omega) _).drew
end Go.Proofs.Ytomebbapjolnlaa
