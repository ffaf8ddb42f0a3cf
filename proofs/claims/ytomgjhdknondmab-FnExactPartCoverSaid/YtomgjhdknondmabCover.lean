/-
  PartCover of spec and impl.
-/
import Derived.Test.YtomgjhdknondmabCnt
import Derived.Test.YtomgjhdknondmabPair
import Derived.Great.BuildSlice
namespace Go.Proofs.Ytomgjhdknondmab
open Go.RowKit

/-- The runs among the first k places, flat. -/
def cov (cs : List Int) : Nat → List Int
  | 0 => []
  | k + 1 => if cs.getD k 0 = 0 then cov cs k else if 0 < k ∧ 0 < cs.getD (k - 1) 0 then (cov cs k).set ((cov cs k).length - 1) k else cov cs k ++ [(k : Int), (k : Int)]
theorem cov_succ (cs : List Int) (k : Nat) : cov cs (k + 1) = if cs.getD k 0 = 0 then cov cs k else if 0 < k ∧ 0 < cs.getD (k - 1) 0 then (cov cs k).set ((cov cs k).length - 1) k else cov cs k ++ [(k : Int), (k : Int)] := rfl
theorem cov_len (cs : List Int) : ∀ k, ∃ n, (cov cs k).length = n * 2 ∧ n ≤ k
  | 0 => ⟨0, rfl, Nat.le_refl _⟩
  | k + 1 => by
    obtain ⟨n, h, hn⟩ := cov_len cs k
    rw [cov_succ]
    split
    · exact ⟨n, h, by omega⟩
    · split
      · exact ⟨n, by rw [List.length_set]; exact h, by omega⟩
      · exact ⟨n + 1, by rw [List.length_append, h]; simp; omega, by omega⟩
theorem cov_pos (cs : List Int) (k : Nat) (h : cs.getD k 0 ≠ 0) : 2 ≤ (cov cs (k + 1)).length ∨ (0 < k ∧ 0 < cs.getD (k - 1) 0 ∧ (cov cs (k + 1)).length = (cov cs k).length) := by
  rw [cov_succ, if_neg h]
  split
  · rename_i hc
    right
    exact ⟨hc.1, hc.2, by rw [List.length_set]⟩
  · left
    rw [List.length_append]
    simp
theorem cov_two (cs : List Int) : ∀ k, 0 < cs.getD k 0 → 2 ≤ (cov cs (k + 1)).length
  | 0, h => by
    rcases cov_pos cs 0 (by omega) with h1 | h1
    · exact h1
    · exact absurd h1.1 (by omega)
  | k + 1, h => by
    rcases cov_pos cs (k + 1) (by omega) with h1 | ⟨_, h2, h3⟩
    · exact h1
    · rw [h3]
      exact cov_two cs k (by simpa using h2)
/-- How many runs. -/
def covN (cs : List Int) (k : Nat) : Nat := (cov cs k).length / 2
theorem covN_two (cs : List Int) (k : Nat) : (cov cs k).length = covN cs k * 2 := by
  obtain ⟨n, h, _⟩ := cov_len cs k
  unfold covN
  omega
theorem covN_le (cs : List Int) (k : Nat) : covN cs k ≤ k := by
  obtain ⟨n, h, hn⟩ := cov_len cs k
  unfold covN
  omega

theorem info_pair : (Try.prog.info? 105).map (fun i => (i.zero, i.size, i.bytes)) = some (some (.agg #[.int .i64 0, .int .i64 0]), 2, 16) := by kernel_rfl
/-- A slice of one pair is made. -/
theorem run_pair1 (w : World) (a b : Int) : (Instr.buildSlice 42 1 #[(0, .agg #[.int .i64 a, .int .i64 b])]).run Try.prog w = .ok (.slice (some ⟨w.heap.size, 0, none⟩) 1 1) (w.alloc (.cells #[.int .i64 a, .int .i64 b] 105)) := by
  have hi := info_pair
  cases hie : Try.prog.info? 105 with
  | none => simp [hie] at hi
  | some ie =>
    simp only [hie, Option.map_some, Option.some.injEq, Prod.mk.injEq] at hi
    obtain ⟨hz, hs, _⟩ := hi
    exact run_buildSlice w _ _ 1 _ _ ie _ Try.underlying42 hie hz (by rw [hs]; decide) (by rw [hs]; decide) (by rw [hs, show Array.range (1 * 2) = #[0, 1] by decide]; simp [Instr.fill, Value.cells])
theorem cell_two_new (w : World) (a b : Value) (t : TypeId) : ∀ j u, [a, b][j]? = some u → (w.alloc (.cells #[a, b] t)).cell? ((⟨w.heap.size, 0, none⟩ : Addr).add j) = some u := by
  intro j u hu
  match j, hu with
  | 0, hu => simp at hu; subst hu; simp [Addr.add]
  | 1, hu => simp at hu; subst hu; simp [Addr.add]

/-- What PartCover answers, flat. -/
def coverR (m : List (List Int)) (L : List Win) (ar : Int) : List Int × Bool :=
  if Watched m L ∧ ArrOK m ar then (cov (countsTo L ar (m.getD ar.toNat []).length) (m.getD ar.toNat []).length, true) else ([], false)
theorem coverR_counts (m : List (List Int)) (L : List Win) (ar : Int) : coverR m L ar = (cov (countsR m L ar).1 (countsR m L ar).1.length, (countsR m L ar).2) := by
  unfold coverR countsR
  split
  · simp [countsTo_len]
  · simp [cov]
theorem coverR_small (m : List (List Int)) (L : List Win) (ar : Int) : ∃ n, (coverR m L ar).1.length = n * 2 ∧ n ≤ 1048576 := by
  obtain ⟨n, h, hn⟩ := cov_len (countsR m L ar).1 (countsR m L ar).1.length
  have := countsR_small m L ar
  rw [coverR_counts]
  refine ⟨n, h, ?_⟩
  have h2 : (countsR m L ar).1.length ≤ 64 := by
    unfold countsR
    split
    · rename_i h
      have hn : ar.toNat < m.length := by have := h.2.1; have := h.2.2; omega
      have := (h.1.1.2 _ (List.getElem_mem hn)).2
      simp only [countsTo_len, getD_eq hn]
      omega
    · simp
  omega
theorem counts_nonneg (L : List Win) (ar : Int) (k : Nat) : ∀ z ∈ countsTo L ar k, 0 ≤ z := by
  intro z hz
  obtain ⟨j, _, rfl⟩ := List.mem_map.1 hz
  omega
theorem countsR_facts (m : List (List Int)) (L : List Win) (ar : Int) : (countsR m L ar).1.length ≤ 64 ∧ ∀ z ∈ (countsR m L ar).1, 0 ≤ z := by
  unfold countsR
  split
  · rename_i h
    have hn : ar.toNat < m.length := by have := h.2.1; have := h.2.2; omega
    have := (h.1.1.2 _ (List.getElem_mem hn)).2
    refine ⟨?_, counts_nonneg _ _ _⟩
    simp only [countsTo_len, getD_eq hn]
    omega
  · exact ⟨by simp, fun z hz => by simp at hz⟩

set_option maxRecDepth 100000 in
set_option maxHeartbeats 3200000 in
theorem implPartCover_calls (A : Option Addr) (c : Nat) (m : List (List Int)) (B : Option Addr) (k : Nat) (L : List Win) (ar : Int) (w : World) (hr : Rd2 w w.heap.size A m) (hn : m.length ≤ maxLen) (hx : RdW w w.heap.size B L) (hl : L.length ≤ maxLen) (hwa : ∀ x ∈ L, WArg x) :
    Calls Try.prog 27 #[.agg #[.slice A m.length c], .slice B L.length k, .int .i64 ar] w fun e w' => ∃ v n, e = .returned (.tuple #[v, .bool (coverR m L ar).2]) ∧ (coverR m L ar).1.length = n * 2 ∧ w'.ownsRow w.heap.size 105 2 v n (intV .i64 (coverR m L ar).1) ∧ Below w.heap.size w w' := by
  obtain ⟨i0, hi0, hz, hz1, hz2⟩ := info_parts info_pair
  obtain ⟨w0, hw0⟩ : ∃ w0, (w.alloc (.cells #[.slice A m.length c] 31)) = w0 := ⟨_, rfl⟩
  have hb0 : Below w.heap.size w w0 := by rw [← hw0]; exact (Below.refl _ _).alloc (Nat.le_refl _) _
  have HC := Lib.hid (implNoticedCounts_calls A c m B k L ar w0 ((hr.below hb0).more hb0.size) hn ((hx.below hb0).more hb0.size) hl hwa)
  have HB := Lib.hid hb0
  have HW := Lib.hid hw0
  have HV := Lib.hid (coverR_counts m L ar)
  obtain ⟨hsm, hnn⟩ := countsR_facts m L ar
  have HNN := Lib.hid hnn
  clear hr hx hb0 hw0 hnn
  rw [HV.out]
  obtain ⟨cs, hcs⟩ : ∃ cs, (countsR m L ar).1 = cs := ⟨_, rfl⟩
  obtain ⟨ok, hok⟩ : ∃ ok, (countsR m L ar).2 = ok := ⟨_, rfl⟩
  rw [hcs, hok] at HC
  rw [hcs] at HNN hsm
  rw [hcs, hok]
  clear hcs hok HV
  go_enter Try.func27, Try.ntmps27
  go_wp2_with fail
  rw [HW.out]
  refine HC.out.mono ?_
  rintro e w2 ⟨v2, rfl, ho2, hb2⟩
  obtain ⟨Av, cvv, rfl⟩ := own_form ho2
  have hb2' := HB.out.trans (hb2.mono HB.out.size)
  obtain ⟨w3, hw3⟩ : ∃ w3, w2.alloc (.cells #[] 105) = w3 := ⟨_, rfl⟩
  have hb3 : Below w2.heap.size w2 w3 := by rw [← hw3]; exact (Below.refl _ _).alloc (Nat.le_refl _) _
  have HBB := Lib.hid (hb2'.trans (hb3.mono hb2'.size))
  have HOO : Hid (w3.ownsRow w.heap.size 105 2 (.slice (some ⟨w2.heap.size, 0, none⟩) 0 0) 0 []) := Lib.hid (by rw [← hw3]; exact World.ownsRow_made (base := w.heap.size) (e := 105) (size := 2) w2 #[] 0 hb2'.size (Nat.zero_le _) rfl)
  have HCO := Lib.hid (own_below (own_mono0 ho2 HB.out.size) hb3)
  have HW3 := Lib.hid hw3
  clear ho2 hb2 hb3 hw3 hb2'
  go_upto_region 3 with fail
  rw [HW3.out]
  go_wp2_with fail
  go_loopw [10, 23] (fun v i wr => ∃ k : Nat, k ≤ cs.length ∧ i = .int .i64 k ∧ wr.ownsRow w.heap.size 3 1 (.slice Av cs.length cvv) cs.length (intV .i64 cs) ∧ wr.ownsRow w.heap.size 105 2 v (covN cs k) (intV .i64 (cov cs k)) ∧ Below w.heap.size w wr ∧ ∃ g cap, v = .slice (some ⟨g, 0, none⟩) (covN cs k) cap) (fun _ i _ => cs.length - (intOf i).toNat)
  case atStart => exact ⟨0, Nat.zero_le _, rfl, HCO.out, by simpa [cov, covN, intV] using HOO.out, HBB.out, by rw [show covN cs 0 = 0 by simp [covN, cov]]; exact ⟨_, _, rfl⟩⟩
  case round =>
    obtain ⟨k, hk, rfl, hcown, hown, hbr, gv, cv, rfl⟩ := hrel
    have HO := Lib.hid hown
    have HC1 := Lib.hid hcown
    have HBR := Lib.hid hbr
    have hbs := hbr.size
    have hcn := covN_le cs k
    have HC2 := Lib.hid (covN_two cs k)
    clear hown hbr hcown
    by_cases hlt : k < cs.length
    · obtain ⟨b, off, rfl, hbb, hc⟩ := (Rd.of_own HC1.out).int hlt
      have hnn := HNN.out _ (List.getElem_mem hlt)
      have HGD := Lib.hid (show cs.getD k 0 = cs[k] by rw [List.getD_eq_getElem?_getD, List.getElem?_eq_getElem hlt]; rfl)
      by_cases h0 : cs[k] = 0
      · have HE := Lib.hid (show cov cs (k + 1) = cov cs k by rw [cov_succ, HGD.out, if_pos h0])
        have HE2 := Lib.hid (show covN cs (k + 1) = covN cs k by unfold covN; rw [HE.out])
        rw [h0] at hc
        clear h0 hnn
        go_wp2_with fail
        go_roundw
        case rel => exact ⟨k + 1, by omega, by go_num, HC1.out, by rw [HE.out, HE2.out]; exact HO.out, HBR.out, by rw [HE2.out]; exact ⟨_, _, rfl⟩⟩
        case measure => simp [intOf]; omega
      · have h0b : (cs[k] == 0) = false := by simp [h0]
        have HK0 := Lib.hid h0
        have hrb := run_pair1
        by_cases hgo : 0 < k ∧ 0 < cs.getD (k - 1) 0
        · obtain ⟨j, rfl⟩ : ∃ j, k = j + 1 := ⟨k - 1, by omega⟩
          have hj := hgo.2
          rw [Nat.add_sub_cancel] at hj
          obtain ⟨b', off', he', hbb', hc'⟩ := (Rd.of_own HC1.out).int (i := j) (by omega)
          injection he' with he'
          injection he' with q1 q2
          subst q1; subst q2
          have HGJ := Lib.hid (show cs.getD j 0 = cs[j]'(by omega) by rw [List.getD_eq_getElem?_getD, List.getElem?_eq_getElem (by omega)]; rfl)
          rw [HGJ.out] at hj
          have h2 := cov_two cs j (by rw [HGJ.out]; exact hj)
          have HE := Lib.hid (show cov cs (j + 1 + 1) = (cov cs (j + 1)).set ((cov cs (j + 1)).length - 1) ((j + 1 : Nat) : Int) by rw [cov_succ, HGD.out, if_neg HK0.out, if_pos hgo])
          have HE2 := Lib.hid (show covN cs (j + 1 + 1) = covN cs (j + 1) by unfold covN; rw [HE.out, List.length_set])
          obtain ⟨q, hq⟩ : ∃ q, covN cs (j + 1) = q + 1 := ⟨covN cs (j + 1) - 1, by have := HC2.out; omega⟩
          have hl := HC2.out
          rw [hq] at HO HE2 hl
          rw [hq]
          have HST := Lib.hid (HO.out.stored (q * 2 + 1) (.int .i64 ((j + 1 : Nat) : Int)))
          have HIV := Lib.hid (show (intV .i64 (cov cs (j + 1))).set (q * 2 + 1) (.int .i64 ((j + 1 : Nat) : Int)) = intV .i64 (cov cs (j + 1 + 1)) by
            rw [HE.out, show (cov cs (j + 1)).length - 1 = q * 2 + 1 by omega]; unfold intV; rw [List.map_set])
          have hf := HO.out.frozenAt (q * 2 + 1)
          obtain ⟨u, hu⟩ : ∃ u, wr.cell? ⟨gv, q * 2 + 1, none⟩ = some u := ⟨_, by rw [HO.out.cellAt _ (by omega), List.getElem?_eq_getElem (by rw [intV_len]; omega)]⟩
          have HLT := Lib.hid (HO.out.lt gv rfl)
          have hj1 : ((j + 1 : Nat) : Int) - 1 = j := by omega
          have hq1 : ((q + 1 : Nat) : Int) - 1 = q := by omega
          have HNE := Lib.hid (own_ne HC1.out HO.out (by decide))
          have hq64 : q ≤ 64 := by omega
          clear h2 hgo h0 hl hnn hbb'
          generalize cs[j + 1] = z at *
          generalize cs[j] = z' at *
          go_wp2_with fail
          go_roundw
          case rel => exact ⟨j + 1 + 1, by omega, by go_num, HC1.out.kept HST.out.2 HNE.out, by rw [HE2.out, ← HIV.out]; exact HST.out.1, HBR.out.setCell (p := ⟨gv, q * 2 + 1, none⟩) HLT.out.1 _, by rw [HE2.out]; exact ⟨_, _, rfl⟩⟩
          case measure => simp [intOf]; omega
        · have HE := Lib.hid (show cov cs (k + 1) = cov cs k ++ [(k : Int), (k : Int)] by rw [cov_succ, HGD.out, if_neg HK0.out, if_neg hgo])
          have HE2 := Lib.hid (show covN cs (k + 1) = covN cs k + 1 by have := covN_two cs (k + 1); rw [HE.out, List.length_append, HC2.out] at this; simp at this; omega)
          have HLAW := Lib.hid (show intV .i64 (cov cs k) ++ [.int .i64 k, .int .i64 k] = intV .i64 (cov cs (k + 1)) by rw [HE.out]; simp [intV])
          rcases Nat.eq_zero_or_pos k with rfl | hk0
          · have e0 : covN cs 0 = 0 := by omega
            rw [e0] at HO HE2
            rw [e0]
            clear h0 hnn hgo hcn e0
            rw [Nat.add_zero] at hc
            generalize cs[0] = z at *
            go_wp2_with ((at_builtin; refine wpList_append_own _ rfl _ _ 42 rfl w.heap.size 105 i0 _ 2 16 Try.underlying42 hi0 hz hz1 hz2 rfl (by decide) _ _ _ rfl (HO.out.alloc _) ⟨wr.heap.size, 0, none⟩ 1 1 [.int .i64 (0 : Int), .int .i64 (0 : Int)] rfl rfl (cell_two_new _ _ _ _) (by simp [Value.oneCell']) (by simp only [maxLen]; omega) (by omega) (by simp; omega) ?_; intro v' w5 hown5 hgrow _))
            have HB5 : Hid (Below w.heap.size w w5) := below_own0 (HBR.out.alloc hbs _) (HO.out.alloc _) hgrow (by simp; omega)
            have HO5 : Hid (w5.ownsRow w.heap.size 105 2 v' (covN cs (0 + 1)) (intV .i64 (cov cs (0 + 1)))) := Lib.hid (by rw [HE2.out, ← HLAW.out]; exact hown5)
            have HC5 := Lib.hid ((HC1.out.alloc (.cells #[.int .i64 (0 : Int), .int .i64 (0 : Int)] 105)).kept hgrow (own_ne (HC1.out.alloc _) (HO.out.alloc (.cells #[.int .i64 (0 : Int), .int .i64 (0 : Int)] 105)) (by decide)))
            have HF5 := Lib.hid (own_some0 HO5.out (by rw [HE2.out]; omega))
            clear hown5 hgrow hrb
            go_roundw
            case rel => exact ⟨0 + 1, by omega, by go_num, HC5.out, HO5.out, HB5.out, HF5.out⟩
            case measure => simp [intOf]; omega
          · obtain ⟨j, rfl⟩ : ∃ j, k = j + 1 := ⟨k - 1, by omega⟩
            obtain ⟨b', off', he', hbb', hc'⟩ := (Rd.of_own HC1.out).int (i := j) (by omega)
            injection he' with he'
            injection he' with q1 q2
            subst q1; subst q2
            have hj0 : cs[j]'(by omega) = 0 := by
              have hnn' := HNN.out (cs[j]'(by omega)) (List.getElem_mem (by omega))
              have : ¬ 0 < cs.getD j 0 := fun h => hgo ⟨by omega, by rw [Nat.add_sub_cancel]; exact h⟩
              rw [List.getD_eq_getElem?_getD, List.getElem?_eq_getElem (by omega)] at this
              simp only [Option.getD_some] at this
              omega
            rw [hj0] at hc'
            have hj1 : ((j + 1 : Nat) : Int) - 1 = j := by omega
            clear h0 hnn hgo hj0 hbb'
            generalize cs[j + 1] = z at *
            go_wp2_with ((at_builtin; refine wpList_append_own _ rfl _ _ 42 rfl w.heap.size 105 i0 _ 2 16 Try.underlying42 hi0 hz hz1 hz2 rfl (by decide) _ _ _ rfl (HO.out.alloc _) ⟨wr.heap.size, 0, none⟩ 1 1 [.int .i64 (j + 1 : Nat), .int .i64 (j + 1 : Nat)] rfl rfl (cell_two_new _ _ _ _) (by simp [Value.oneCell']) (by simp only [maxLen]; omega) (by omega) (by simp; omega) ?_; intro v' w5 hown5 hgrow _))
            have HB5 : Hid (Below w.heap.size w w5) := below_own0 (HBR.out.alloc hbs _) (HO.out.alloc _) hgrow (by simp; omega)
            have HO5 : Hid (w5.ownsRow w.heap.size 105 2 v' (covN cs ((j + 1) + 1)) (intV .i64 (cov cs ((j + 1) + 1)))) := Lib.hid (by rw [HE2.out, ← HLAW.out]; exact hown5)
            have HC5 := Lib.hid ((HC1.out.alloc (.cells #[.int .i64 (j + 1 : Nat), .int .i64 (j + 1 : Nat)] 105)).kept hgrow (own_ne (HC1.out.alloc _) (HO.out.alloc (.cells #[.int .i64 (j + 1 : Nat), .int .i64 (j + 1 : Nat)] 105)) (by decide)))
            have HF5 := Lib.hid (own_some0 HO5.out (by rw [HE2.out]; omega))
            clear hown5 hgrow hrb
            go_roundw
            case rel => exact ⟨(j + 1) + 1, by omega, by go_num, HC5.out, HO5.out, HB5.out, HF5.out⟩
            case measure => simp [intOf]; omega
    · obtain rfl : k = cs.length := by omega
      go_wp2_with fail
      go_ret2
      exact ⟨_, covN cs cs.length, rfl, HC2.out, HO.out, HBR.out⟩
end Go.Proofs.Ytomgjhdknondmab
