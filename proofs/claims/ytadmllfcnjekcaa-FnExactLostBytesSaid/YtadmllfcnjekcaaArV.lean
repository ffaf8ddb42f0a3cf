/-
  GiveAll of impl.
-/
import Derived.Test.YtadmllfcnjekcaaArU
import Derived.Test.YtadmllfcnjekcaaArO
import Derived.Test.YtadmllfcnjekcaaWinsL
namespace Go.Proofs.Ytadmllfcnjekcaa
open Go.RowKit

theorem six_keep {w : World} {g h i : Nat} {o : Obj} {u : Value} (z : w.heap[g]? = some o) (hn : g ≠ h) : (w.setCell ⟨h, i, none⟩ u).heap[g]? = some o := keep_set z hn
/-- A row of four cells each is kept where a span leaves its block out. -/
theorem own_past4 {w w' : World} {base n l h sz : Nat} {e : TypeId} {v : Value} {xs : List Value} (ho : w.ownsRow base e sz v n xs) (hs : Span l h w w') (hne : ∀ b, v.ownBlock = some b → b < l ∨ h ≤ b) : w'.ownsRow base e sz v n xs := by
  refine ⟨ho.1, ?_⟩
  rcases ho.2 with h0 | ⟨g', cap, cur, rfl, hb, hc, r1, r2, r3, r4⟩
  · exact .inl h0
  · have hg := ho.lt g' rfl
    exact .inr ⟨g', cap, cur, rfl, hb, (hs.block g' hg.2 (hne g' rfl)).trans hc, r1, r2, r3, r4⟩
theorem giveAll_none {m : List (List Int)} {g : An} {qs : List Ak} (h : ¬ GiveOK m g qs) : giveAllR m g qs = ([], zeroAn, [], false) := by rw [giveAllR, if_neg h]

theorem none_win (X : World) {lo b : Nat} (hb : X.heap.size = b) (h : lo ≤ X.heap.size) : OwnW (X.alloc (.cells #[] 33)) lo (X.alloc (.cells #[] 33)).heap.size (.slice (some ⟨b, 0, none⟩) 0 0) [] := by
  subst hb
  exact ⟨[], OwnS.new (World.ownsRow_made X #[] 0 h (Nat.zero_le _) rfl), WC.zero _ _⟩
set_option maxRecDepth 100000 in
set_option maxHeartbeats 6400000 in
theorem implGiveAll_calls (A B : Option Addr) (cm d : Nat) (m : List (List Int)) (g : An) (Z : Option Addr) (kz : Nat) (qs : List Ak) (w : World) (hr : RdA w w.heap.size A B m g.ms) (hn : m.length ≤ maxLen) (hkl : g.ms.length ≤ maxLen) (hx : AArgW g) (hy : RdK w w.heap.size Z qs) (_hll : qs.length ≤ maxLen) (hka : ∀ x ∈ qs, KArg x) :
    Calls Try.prog 41 #[.agg #[.slice A m.length cm, .int .i64 g.w.arr, .int .i64 g.w.start, .int .i64 g.w.len, .int .i64 g.w.cap, .int .i64 g.us, .slice B g.ms.length d], .slice Z qs.length kz] w fun e w' => ∃ v u s mid, e = .returned (.tuple #[.agg #[v, .int .i64 (giveAllR m g qs).2.1.w.arr, .int .i64 (giveAllR m g qs).2.1.w.start, .int .i64 (giveAllR m g qs).2.1.w.len, .int .i64 (giveAllR m g qs).2.1.w.cap, .int .i64 (giveAllR m g qs).2.1.us, u], s, .bool (giveAllR m g qs).2.2.2]) ∧ w.heap.size ≤ mid ∧ mid ≤ w'.heap.size ∧ OwnA w' w.heap.size mid v u (giveAllR m g qs).1 (giveAllR m g qs).2.1.ms ∧ OwnW w' mid w'.heap.size s (giveAllR m g qs).2.2.1 ∧ Below w.heap.size w w' := by
  obtain ⟨w0, hw0, hb0, hz0, haa⟩ := enterAA A B m.length cm d g w
  have HC := Lib.hid (openA_calls w.heap.size A B cm d m g w0 haa.par (hr.on hb0) hn hkl hx)
  have HY := Lib.hid hy
  have HB := Lib.hid hb0
  have HW := Lib.hid hw0
  have HAA := Lib.hid haa
  have HKA := Lib.hid hka
  have HXW := Lib.hid hx.1
  clear hr hb0 hw0 haa hy hka
  have HZ0 := Lib.hid hz0
  have hz1 : w.heap.size + 2 ≤ w0.heap.size := by omega
  have hzl : w.heap.size + 1 < w0.heap.size := by omega
  clear hz0
  by_cases h6 : (6 : Int) < qs.length
  · have HV := Lib.hid (giveAll_none (m := m) (g := g) (qs := qs) (fun h => by have := h.2.1; omega))
    obtain ⟨r0, r1, r2, r3, r4, r5, r6⟩ := ar_cells HAA.out.res
    obtain ⟨f0, f1, f2, f3, f4, f5, f6⟩ := ar_frozen HAA.out.res
    go_enter Try.func41, Try.ntmps41
    go_upto_region 2 with fail
    rw [HW.out]
    go_wp2_with fail
    refine bodyPost_ret (v := .tuple #[.agg #[.slice none 0 0, .int .i64 0, .int .i64 0, .int .i64 0, .int .i64 0, .int .i64 0, .slice none 0 0], .slice (some ⟨w0.heap.size, 0, none⟩) 0 0, .bool false]) (by simp [results, Try.results41, go_sem, r0, r1, r2, r3, r4, r5, r6, hzl]) rfl ⟨.slice none 0 0, .slice none 0 0, .slice (some ⟨w0.heap.size, 0, none⟩) 0 0, w.heap.size, by rw [HV.out]; rfl, Nat.le_refl _, ?_, ?_, ?_, ?_⟩
    · have := HB.out.size; simp; omega
    · rw [HV.out]; exact OwnA.none_ _ (Nat.le_refl _)
    · rw [HV.out]; exact none_win _ (by simp only [size_seven]) (by have := HB.out.size; simp only [size_seven]; omega)
    · (repeat (first | (with_reducible exact Below.refl _ _) | (with_reducible refine Below.drew ?_) | ((with_reducible refine Below.alloc ?_ ?hB _); case hB => (first | (with_reducible exact Nat.le_refl _) | omega | (simp; done) | (simp; omega))) | ((with_reducible refine Below.setCell ?_ ?hB _); case hB => (first | (with_reducible exact Nat.le_refl _) | omega | (simp; done) | (simp; omega))))); exact HB.out
  · have h6' : qs.length ≤ 6 := by omega
    have h6'' : ¬ (6 : Int) < qs.length := by omega
    clear h6
    go_enter Try.func41, Try.ntmps41
    go_wp2_with fail
    rw [HW.out]
    refine HC.out.mono ?_
    rintro e w2 (⟨hok, rfl, hb2⟩ | ⟨hok, rfl, hsp, A2, c2, B2, e2, hq2, ho2⟩)
    · have HV := Lib.hid (giveAll_none (m := m) (g := g) (qs := qs) (fun h => hok h.1))
      have HB2 := Lib.hid (HB.out.trans (hb2.mono HB.out.size))
      have HA2 := Lib.hid (HAA.out.below hb2)
      have hz2 : w.heap.size + 1 < w2.heap.size := (Array.getElem?_eq_some_iff.1 HA2.out.res).1
      clear hok hb2
      obtain ⟨r0, r1, r2, r3, r4, r5, r6⟩ := ar_cells HA2.out.res
      obtain ⟨f0, f1, f2, f3, f4, f5, f6⟩ := ar_frozen HA2.out.res
      go_wp2_with fail
      refine bodyPost_ret (v := .tuple #[.agg #[.slice none 0 0, .int .i64 0, .int .i64 0, .int .i64 0, .int .i64 0, .int .i64 0, .slice none 0 0], .slice (some ⟨w2.heap.size, 0, none⟩) 0 0, .bool false]) (by simp [results, Try.results41, go_sem, r0, r1, r2, r3, r4, r5, r6, hz2]) rfl ⟨.slice none 0 0, .slice none 0 0, .slice (some ⟨w2.heap.size, 0, none⟩) 0 0, w.heap.size, by rw [HV.out]; rfl, Nat.le_refl _, ?_, ?_, ?_, ?_⟩
      · have := HB2.out.size; simp; omega
      · rw [HV.out]; exact OwnA.none_ _ (Nat.le_refl _)
      · rw [HV.out]; exact none_win _ (by simp only [size_seven]) (by have := HB2.out.size; simp only [size_seven]; omega)
      · (repeat (first | (with_reducible exact Below.refl _ _) | (with_reducible refine Below.drew ?_) | ((with_reducible refine Below.alloc ?_ ?hB _); case hB => (first | (with_reducible exact Nat.le_refl _) | omega | (simp; done) | (simp; omega))) | ((with_reducible refine Below.setCell ?_ ?hB _); case hB => (first | (with_reducible exact Nat.le_refl _) | omega | (simp; done) | (simp; omega))))); exact HB2.out
    · have HB2 := Lib.hid (HB.out.trans ((hsp.below (by omega)).mono (Nat.le_refl _)))
      have HR2 := Lib.hid ((hsp.block _ (Array.getElem?_eq_some_iff.1 HAA.out.res).1 (.inr (Nat.le_refl _))).trans HAA.out.res)
      have HQ2 := Lib.hid hq2
      have hs2 := hsp.size
      have HO2 := Lib.hid ho2
      have HOK := Lib.hid hok
      clear hok hsp hq2 ho2
      obtain ⟨i0, hi0, hz, hz1', hz2⟩ := info_parts info_winB
      obtain ⟨w3, hrun, hown, hg⟩ := run_make_full (P := Try.prog) w2 w2.heap.size 58 33 i0 _ 4 Try.underlying58 hi0 hz hz1' .i64 .i64 qs.length (by rw [hz2]; omega) (by simp only [maxLen]; omega) (Nat.le_refl _)
      have hb3 : Below w2.heap.size w2 w3 := (Below.refl _ _).grown hg (Nat.le_refl _) (by simp)
      have hlt3 : w2.heap.size + 1 ≤ w3.heap.size := by
        rcases hown.2 with ⟨hv, _⟩ | ⟨g', cap, cur, hv, _, hh, _⟩
        · cases hv
        · injection hv with hv; injection hv with hv; injection hv with hv; subst hv; exact (Array.getElem?_eq_some_iff.1 hh).1
      have HK3 := Lib.hid (show w3.heap[w.heap.size]? = some (.cells #[.slice A2 m.length c2, .int .i64 g.w.arr, .int .i64 g.w.start, .int .i64 g.w.len, .int .i64 g.w.cap, .int .i64 (usedA g.us (qs.take 0)), .slice B2 g.ms.length e2] 35) ∧ w3.heap[w.heap.size + 1]? = some (.cells #[.slice none 0 0, .int .i64 0, .int .i64 0, .int .i64 0, .int .i64 0, .int .i64 0, .slice none 0 0] 35) ∧ OwnA w3 w0.heap.size w2.heap.size (.slice A2 m.length c2) (.slice B2 g.ms.length e2) m g.ms ∧ _ ∧ Below w.heap.size w w3 from
        ⟨(hb3.block _ (Array.getElem?_eq_some_iff.1 HQ2.out).1).trans (by rw [List.take_zero, usedA_nil]; exact HQ2.out), (hb3.block _ (Array.getElem?_eq_some_iff.1 HR2.out).1).trans HR2.out, HO2.out.below hb3, hown, HB2.out.trans (hb3.mono HB2.out.size)⟩)
      clear hown hg hb3
      go_wp2_with fail
      clear hrun
      go_loopw [26] (fun i wr => ∃ (k : Nat) (cs : List Value), k ≤ qs.length ∧ i = .int .i64 k ∧ w2.heap.size + 1 ≤ wr.heap.size ∧ Hid (OkAt g.w.len g.us qs k) ∧ wr.heap[w.heap.size]? = some (.cells #[.slice A2 m.length c2, .int .i64 g.w.arr, .int .i64 g.w.start, .int .i64 g.w.len, .int .i64 g.w.cap, .int .i64 (usedA g.us (qs.take k)), .slice B2 g.ms.length e2] 35) ∧ wr.heap[w.heap.size + 1]? = some (.cells #[.slice none 0 0, .int .i64 0, .int .i64 0, .int .i64 0, .int .i64 0, .int .i64 0, .slice none 0 0] 35) ∧ OwnA wr w0.heap.size w2.heap.size (.slice A2 m.length c2) (.slice B2 g.ms.length e2) m g.ms ∧
        wr.ownsRow w2.heap.size 33 4 (.slice (some ⟨w2.heap.size, 0, none⟩) qs.length qs.length) qs.length cs ∧ WC cs (winsA g.w g.us qs qs.length) k ∧ Below w.heap.size w wr) (fun i _ => qs.length - (intOf i).toNat)
      case atStart => exact ⟨0, _, Nat.zero_le _, rfl, hlt3, Lib.hid (OkAt.zero _ _ _), HK3.out.1, HK3.out.2.1, HK3.out.2.2.1, HK3.out.2.2.2.1, WC.zero _ _, HK3.out.2.2.2.2⟩
      case round =>
        obtain ⟨k, cs, hk, rfl, hsz, HI, hq, hres, hoa, hrow, hwc, hb⟩ := hrel
        have HQ := Lib.hid hq
        have HRS := Lib.hid hres
        have HOA := Lib.hid hoa
        have HRW := Lib.hid hrow
        have HWC := Lib.hid hwc
        have HBr := Lib.hid hb
        clear hq hres hoa hrow hwc hb
        by_cases hlt : k < qs.length
        · obtain ⟨b, off, rfl, hbb, e0, e1⟩ := (HY.out.on HBr.out).at_ hlt
          have HKX := Lib.hid (HKA.out qs[k] (List.getElem_mem hlt))
          have HKE := Lib.hid (show qs[k] = qs[k] from rfl)
          obtain ⟨wa, hwa⟩ : ∃ wa, wr.alloc (.cells #[.int .i64 qs[k].size, .int .i64 qs[k].al] 52) = wa := ⟨_, rfl⟩
          have hba : Below wr.heap.size wr wa := by rw [← hwa]; exact (Below.refl _ _).alloc (Nat.le_refl _) _
          have hxa : wa.heap[wr.heap.size]? = some (.cells #[.int .i64 qs[k].size, .int .i64 qs[k].al] 52) := by rw [← hwa]; exact heap_alloc_new _ _
          have hqa := (hba.block _ (Array.getElem?_eq_some_iff.1 HQ.out).1).trans HQ.out
          have hoa := HOA.out.below hba
          have hu := HI.out.used hk HOK.out.2.1 HOK.out.2.2.1
          have HGI := Lib.hid (giveIn_calls w.heap.size A2 B2 c2 e2 m ⟨g.w, usedA g.us (qs.take k), g.ms⟩ qs[k] wa hqa (fun W hs => (hoa.span hs (.inr (by omega))).reads.1) hn HXW.out HOK.out.1 hu HKX.out)
          have HWA := Lib.hid hwa
          have HBA := Lib.hid hba
          have HXA := Lib.hid hxa
          have HOA2 := Lib.hid hoa
          have HIS := Lib.hid (fun (h1 : AskOK qs[k].size qs[k].al) (h2 : Fits g.w.len (usedA g.us (qs.take k)) qs[k].size qs[k].al) => HI.out.snoc hlt h1 h2)
          have HUT := Lib.hid (usedA_take g.us qs hlt)
          have HIN := Lib.hid (fun (h : OkAt g.w.len g.us qs qs.length) => h.at_ (i := k) hlt hlt)
          have HWE := Lib.hid (show (winsA g.w g.us qs qs.length)[k]'(by rw [winsA_len]; exact hlt) = ⟨g.w.arr, g.w.start + upTo (usedA g.us (qs.take k)) qs[k].al, qs[k].size, qs[k].size⟩ by simp only [winsA, List.getElem_map, List.getElem_range, winA, getD_ak hlt])
          have hza : wr.heap.size < wa.heap.size := (Array.getElem?_eq_some_iff.1 hxa).1
          clear hwa hba hxa hqa hoa hu
          have HWS := Lib.hid (HWC.out.step (by rw [winsA_len]; exact hlt) (by rw [winsA_len]; have := HRW.out.1; omega))
          rw [HWE.out] at HWS
          generalize usedA g.us (qs.take k) = U at *
          generalize hge : qs[k] = x at *
          clear hge
          go_upto_region 7 with fail
          rw [HWA.out]
          obtain ⟨y0, y1⟩ := two_cells HXA.out
          go_wp2_with fail
          refine HGI.out.mono ?_
          rintro e w5 (⟨hno, rfl, hb5⟩ | ⟨hk1, hk2, rfl, hs5, hq5⟩)
          · have HV := Lib.hid (giveAll_none (m := m) (g := g) (qs := qs) (fun h => hno (HIN.out h.2.2)))
            obtain ⟨w6, hw6⟩ : ∃ w6, w5.alloc (.cells #[.int .i64 0, .int .i64 0, .int .i64 0, .int .i64 0] 33) = w6 := ⟨_, rfl⟩
            have hb6 : Below w5.heap.size w5 w6 := by rw [← hw6]; exact (Below.refl _ _).alloc (Nat.le_refl _) _
            have HB6 := Lib.hid (HBr.out.trans (((HBA.out.trans (hb5.mono HBA.out.size)).trans (hb6.mono (Nat.le_trans HBA.out.size hb5.size))).mono HBr.out.size))
            have HR6 := Lib.hid ((hb6.block _ (Array.getElem?_eq_some_iff.1 ((hb5.block _ (Array.getElem?_eq_some_iff.1 ((HBA.out.block _ (Array.getElem?_eq_some_iff.1 HRS.out).1).trans HRS.out)).1).trans ((HBA.out.block _ (Array.getElem?_eq_some_iff.1 HRS.out).1).trans HRS.out))).1).trans ((hb5.block _ (Array.getElem?_eq_some_iff.1 ((HBA.out.block _ (Array.getElem?_eq_some_iff.1 HRS.out).1).trans HRS.out)).1).trans ((HBA.out.block _ (Array.getElem?_eq_some_iff.1 HRS.out).1).trans HRS.out)))
            have hz6 : w.heap.size + 1 < w6.heap.size := (Array.getElem?_eq_some_iff.1 HR6.out).1
            have HW6 := Lib.hid hw6
            clear hno hb5 hb6 hw6 y0 y1 e0 e1
            go_upto_region 8 with fail
            rw [HW6.out]
            obtain ⟨r0, r1, r2, r3, r4, r5, r6⟩ := ar_cells HR6.out
            obtain ⟨f0, f1, f2, f3, f4, f5, f6⟩ := ar_frozen HR6.out
            go_wp2_with fail
            refine bodyPost_ret (v := .tuple #[.agg #[.slice none 0 0, .int .i64 0, .int .i64 0, .int .i64 0, .int .i64 0, .int .i64 0, .slice none 0 0], .slice (some ⟨w6.heap.size, 0, none⟩) 0 0, .bool false]) (by simp [results, Try.results41, go_sem, r0, r1, r2, r3, r4, r5, r6, hz6]) rfl ⟨.slice none 0 0, .slice none 0 0, .slice (some ⟨w6.heap.size, 0, none⟩) 0 0, w.heap.size, by rw [HV.out]; rfl, Nat.le_refl _, ?_, ?_, ?_, ?_⟩
            · have := HB6.out.size; simp; omega
            · rw [HV.out]; exact OwnA.none_ _ (Nat.le_refl _)
            · rw [HV.out]; exact none_win _ (by simp only [size_seven]) (by have := HB6.out.size; simp only [size_seven]; omega)
            · (repeat (first | (with_reducible exact Below.refl _ _) | (with_reducible refine Below.drew ?_) | ((with_reducible refine Below.alloc ?_ ?hB _); case hB => (first | (with_reducible exact Nat.le_refl _) | omega | (simp; done) | (simp; omega))) | ((with_reducible refine Below.setCell ?_ ?hB _); case hB => (first | (with_reducible exact Nat.le_refl _) | omega | (simp; done) | (simp; omega))))); exact HB6.out
          · obtain ⟨w6, hw6⟩ : ∃ w6, w5.alloc (.cells #[.int .i64 g.w.arr, .int .i64 (g.w.start + upTo U x.al), .int .i64 x.size, .int .i64 x.size] 33) = w6 := ⟨_, rfl⟩
            have hb6 : Below w5.heap.size w5 w6 := by rw [← hw6]; exact (Below.refl _ _).alloc (Nat.le_refl _) _
            have hx6 : w6.heap[w5.heap.size]? = some (.cells #[.int .i64 g.w.arr, .int .i64 (g.w.start + upTo U x.al), .int .i64 x.size, .int .i64 x.size] 33) := by rw [← hw6]; exact heap_alloc_new _ _
            have hwq : w.heap.size + 1 ≤ w2.heap.size := by omega
            have hrow6 : w6.ownsRow w2.heap.size 33 4 (.slice (some ⟨w2.heap.size, 0, none⟩) qs.length qs.length) qs.length cs :=
              own_past4 (own_past4 (own_past4 HRW.out (Span.of_below (lo := 0) (hi := 0) HBA.out) (fun b _ => .inr (Nat.zero_le _))) hs5 (fun b hb => .inr (by have hb2 : w2.heap.size = b := Option.some.inj hb; omega))) (Span.of_below (lo := 0) (hi := 0) hb6) (fun b _ => .inr (Nat.zero_le _))
            have hoa6 : OwnA w6 w0.heap.size w2.heap.size (.slice A2 m.length c2) (.slice B2 g.ms.length e2) m g.ms := (HOA2.out.span hs5 (.inr (by omega))).below hb6
            have hq6 := (hb6.block _ (Array.getElem?_eq_some_iff.1 hq5).1).trans hq5
            have hra := (HBA.out.block _ (Array.getElem?_eq_some_iff.1 HRS.out).1).trans HRS.out
            have hr5 := (hs5.block _ (Array.getElem?_eq_some_iff.1 hra).1 (.inr (Nat.le_refl _))).trans hra
            have hr6 := (hb6.block _ (Array.getElem?_eq_some_iff.1 hr5).1).trans hr5
            have hbw6 : Below w.heap.size w w6 := HBr.out.trans ((HBA.out.mono HBr.out.size).trans (((hs5.below (by omega)).mono (Nat.le_refl _)).trans (hb6.mono (by have := HBr.out.size; have := HBA.out.size; have := hs5.size; omega))))
            have hs6 : w2.heap.size + 1 ≤ w6.heap.size := by have := HBA.out.size; have := hs5.size; have := hb6.size; omega
            have hcl := hrow6.1
            have hf0 := hrow6.frozenAt (k * 4)
            have hf1 := hrow6.frozenAt (k * 4 + 1)
            have hf2 := hrow6.frozenAt (k * 4 + 2)
            have hf3 := hrow6.frozenAt (k * 4 + 3)
            obtain ⟨u0, hc0⟩ : ∃ u, w6.cell? ⟨w2.heap.size, k * 4, none⟩ = some u := ⟨_, by rw [hrow6.cellAt _ (by omega), List.getElem?_eq_getElem (by omega)]⟩
            obtain ⟨u1, hc1⟩ : ∃ u, w6.cell? ⟨w2.heap.size, k * 4 + 1, none⟩ = some u := ⟨_, by rw [hrow6.cellAt _ (by omega), List.getElem?_eq_getElem (by omega)]⟩
            obtain ⟨u2, hc2⟩ : ∃ u, w6.cell? ⟨w2.heap.size, k * 4 + 2, none⟩ = some u := ⟨_, by rw [hrow6.cellAt _ (by omega), List.getElem?_eq_getElem (by omega)]⟩
            obtain ⟨u3, hc3⟩ : ∃ u, w6.cell? ⟨w2.heap.size, k * 4 + 3, none⟩ = some u := ⟨_, by rw [hrow6.cellAt _ (by omega), List.getElem?_eq_getElem (by omega)]⟩
            have HON := Lib.hid (stored4 hrow6 (k * 4) (.int .i64 g.w.arr) (.int .i64 (g.w.start + upTo U x.al)) (.int .i64 x.size) (.int .i64 x.size))
            have HFIN := Lib.hid (fun (v0 v1 v2 v3 : Value) => show
              ((((w6.setCell ⟨w2.heap.size, k * 4, none⟩ v0).setCell ⟨w2.heap.size, k * 4 + 1, none⟩ v1).setCell ⟨w2.heap.size, k * 4 + 2, none⟩ v2).setCell ⟨w2.heap.size, k * 4 + 3, none⟩ v3).heap[w.heap.size]? = some (.cells #[.slice A2 m.length c2, .int .i64 g.w.arr, .int .i64 g.w.start, .int .i64 g.w.len, .int .i64 g.w.cap, .int .i64 (upTo U x.al + x.size), .slice B2 g.ms.length e2] 35) ∧
              ((((w6.setCell ⟨w2.heap.size, k * 4, none⟩ v0).setCell ⟨w2.heap.size, k * 4 + 1, none⟩ v1).setCell ⟨w2.heap.size, k * 4 + 2, none⟩ v2).setCell ⟨w2.heap.size, k * 4 + 3, none⟩ v3).heap[w.heap.size + 1]? = some (.cells #[.slice none 0 0, .int .i64 0, .int .i64 0, .int .i64 0, .int .i64 0, .int .i64 0, .slice none 0 0] 35) ∧
              OwnA ((((w6.setCell ⟨w2.heap.size, k * 4, none⟩ v0).setCell ⟨w2.heap.size, k * 4 + 1, none⟩ v1).setCell ⟨w2.heap.size, k * 4 + 2, none⟩ v2).setCell ⟨w2.heap.size, k * 4 + 3, none⟩ v3) w0.heap.size w2.heap.size (.slice A2 m.length c2) (.slice B2 g.ms.length e2) m g.ms ∧
              Below w.heap.size w ((((w6.setCell ⟨w2.heap.size, k * 4, none⟩ v0).setCell ⟨w2.heap.size, k * 4 + 1, none⟩ v1).setCell ⟨w2.heap.size, k * 4 + 2, none⟩ v2).setCell ⟨w2.heap.size, k * 4 + 3, none⟩ v3) from
              ⟨keep_set (keep_set (keep_set (keep_set hq6 (by omega)) (by omega)) (by omega)) (by omega), keep_set (keep_set (keep_set (keep_set hr6 (by omega)) (by omega)) (by omega)) (by omega),
                (((hoa6.setC (.inr (Nat.le_refl _))).setC (.inr (Nat.le_refl _))).setC (.inr (Nat.le_refl _))).setC (.inr (Nat.le_refl _)), Below.set4 hbw6 (by omega) _ _ _ _ _ _ _ _⟩)
            have HSN := Lib.hid (HIS.out hk1 hk2)
            obtain ⟨z0, z1, z2, z3⟩ := four_cells hx6
            have HW6 := Lib.hid hw6
            clear hb6 hx6 hrow6 hoa6 hq6 hra hr5 hr6 hbw6 hcl hk1 hk2 hs5 hq5 hw6 y0 y1 e0 e1
            go_upto_region 8 with fail
            rw [HW6.out]
            go_wp2_with fail
            go_roundw
            case rel => exact ⟨k + 1, _, by omega, by go_num, by simp only [World.size_setCell]; omega, HSN, by rw [HUT.out]; exact (HFIN.out _ _ _ _).1, (HFIN.out _ _ _ _).2.1, (HFIN.out _ _ _ _).2.2.1, HON.out, HWS.out, (HFIN.out _ _ _ _).2.2.2⟩
            case measure => simp [intOf]; omega
        · have he : k = qs.length := by omega
          have HV : Hid (giveAllR m g qs = (m, ⟨g.w, usedA g.us qs, g.ms⟩, winsA g.w g.us qs qs.length, true)) := Lib.hid (by rw [giveAllR, if_pos ⟨HOK.out, h6', by rw [← he]; exact HI.out⟩])
          have hqq := HQ.out
          rw [he, List.take_length] at hqq
          have HWF : Hid (WC cs (winsA g.w g.us qs qs.length) qs.length) := Lib.hid (by have := HWC.out; rwa [he] at this)
          clear he
          generalize usedA g.us qs = U at *
          obtain ⟨c0, d0, d1, d2, d3, d4, d5⟩ := ar_cells hqq
          obtain ⟨r0, r1, r2, r3, r4, r5, r6⟩ := ar_cells HRS.out
          obtain ⟨f0, f1, f2, f3, f4, f5, f6⟩ := ar_frozen HRS.out
          clear hqq
          go_wp2_with fail
          refine bodyPost_ret (v := .tuple #[.agg #[.slice A2 m.length c2, .int .i64 g.w.arr, .int .i64 g.w.start, .int .i64 g.w.len, .int .i64 g.w.cap, .int .i64 U, .slice B2 g.ms.length e2], .slice (some ⟨w2.heap.size, 0, none⟩) qs.length qs.length, .bool true]) (by simp [results, Try.results41, go_sem, r0, r1, r2, r3, r4, r5, r6]) rfl ⟨.slice A2 m.length c2, .slice B2 g.ms.length e2, .slice (some ⟨w2.heap.size, 0, none⟩) qs.length qs.length, w2.heap.size, by rw [HV.out], ?_, ?_, ?_, ?_, ?_⟩
          · omega
          · simp only [size_seven]; omega
          · rw [HV.out]
            exact (HOA.out.seven (.inl (by omega))).mono (by omega) (Nat.le_refl _)
          · rw [HV.out]
            have hro := own_past4 HRW.out (span_seven (q := w.heap.size + 1) (v0 := .slice A2 m.length c2) (v1 := .int .i64 g.w.arr) (v2 := .int .i64 g.w.start) (v3 := .int .i64 g.w.len) (v4 := .int .i64 g.w.cap) (v5 := .int .i64 U) (v6 := .slice B2 g.ms.length e2)) (fun b hb => .inr (by have hb2 : w2.heap.size = b := Option.some.inj hb; omega))
            exact ⟨cs, OwnS.new (by rw [winsA_len]; exact hro), by rw [winsA_len]; exact HWF.out⟩
          · (repeat (first | (with_reducible exact Below.refl _ _) | (with_reducible refine Below.drew ?_) | ((with_reducible refine Below.alloc ?_ ?hB _); case hB => (first | (with_reducible exact Nat.le_refl _) | omega | (simp; done) | (simp; omega))) | ((with_reducible refine Below.setCell ?_ ?hB _); case hB => (first | (with_reducible exact Nat.le_refl _) | omega | (simp; done) | (simp; omega))))); exact HBr.out
end Go.Proofs.Ytadmllfcnjekcaa
