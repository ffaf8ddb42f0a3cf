/-
  Drawing a window on a memory.
-/
import Derived.Test.YtmcabnbmjbepjaaDoorDrawM2
import Derived.Deep.DeepCutAuto
namespace Go.Proofs.YtmcabnbmjbepjaaDoor
open Go.RowKit

/-- A number that is drawn: small, or an odd one. -/
def Dn (z : Int) : Prop := -1 ≤ z ∧ z ≤ 4611686018427387904
structure DW (x : Win) : Prop where
  a : Dn x.arr
  s : Dn x.start
  l : Dn x.len
  c : Dn x.cap
theorem own_grownB {w w' : World} {B lo hi : Nat} {v : Value} {M : List (List Int)} (h : OwnM w lo hi v M) (hg : w.grownBy w' (some B)) (hB : B < lo) : OwnM w' lo hi v M :=
  h.span (l2 := B) (h2 := B + 1) (Span.of_grown hg (fun g e => by injection e with e; omega)) (.inr hB)
theorem set_at1 {w : World} {g : Nat} {u0 u1 u2 u3 v : Value} {t : TypeId} (h : w.heap[g]? = some (.cells #[u0, u1, u2, u3] t)) : (w.setCell ⟨g, 1, none⟩ v).heap[g]? = some (.cells #[u0, v, u2, u3] t) := by
  simpa using heap_set_same w g 1 _ t v h (by simp)
theorem set_at2 {w : World} {g : Nat} {u0 u1 u2 u3 v : Value} {t : TypeId} (h : w.heap[g]? = some (.cells #[u0, u1, u2, u3] t)) : (w.setCell ⟨g, 2, none⟩ v).heap[g]? = some (.cells #[u0, u1, v, u3] t) := by
  simpa using heap_set_same w g 2 _ t v h (by simp)
theorem set_at3 {w : World} {g : Nat} {u0 u1 u2 u3 v : Value} {t : TypeId} (h : w.heap[g]? = some (.cells #[u0, u1, u2, u3] t)) : (w.setCell ⟨g, 3, none⟩ v).heap[g]? = some (.cells #[u0, u1, u2, v] t) := by
  simpa using heap_set_same w g 3 _ t v h (by simp)
theorem grown_set (w : World) (g i : Nat) (u : Value) : w.grownBy (w.setCell ⟨g, i, none⟩ u) (some g) :=
  ⟨rfl, rfl, rfl, by simp [World.size_setCell], fun k _ hk => Below.heap_setCell _ _ _ _ (fun e => hk (by rw [e]))⟩
theorem four_frozen9 {w : World} {g : Nat} {u0 u1 u2 u3 : Value} {t : TypeId} (h : w.heap[g]? = some (.cells #[u0, u1, u2, u3] t)) :
    w.frozen? ⟨g, 0, none⟩ = false ∧ w.frozen? ⟨g, 1, none⟩ = false ∧ w.frozen? ⟨g, 2, none⟩ = false ∧ w.frozen? ⟨g, 3, none⟩ = false := by simp [World.frozen?, h]
/-- Behind the cursor's turns and new blocks all else is as it was. -/
structure Fr (w wx : World) (B : Nat) (A : Option Addr) (n cp m : Nat) (gr : Nat) : Prop where
  g : w.grownBy wx (some B)
  c : Cur wx B A n cp m
  r : wx.heap[gr]? = some (.cells #[.int .i64 0, .int .i64 0, .int .i64 0, .int .i64 0] 28)
theorem Fr.step {w wx wy : World} {B : Nat} {A : Option Addr} {n cp m m' gr : Nat} (h : Fr w wx B A n cp m gr) (hg : wx.grownBy wy (some B)) (hc : Cur wy B A n cp m') (hn : B ≠ gr) : Fr w wy B A n cp m' gr :=
  ⟨gcomp h.g hg (fun g e => .inl e), hc, block_grown hg h.r (fun e => by injection e with e; omega)⟩
theorem Fr.alloc {w wx : World} {B : Nat} {A : Option Addr} {n cp m gr : Nat} (h : Fr w wx B A n cp m gr) (o : Obj) : Fr w (wx.alloc o) B A n cp m gr :=
  ⟨gcomp h.g (grown_alloc wx o none) (fun g e => by cases e), h.c.kept ((Below.refl _ _).alloc (Nat.le_refl _) o), alloc_old _ h.r⟩
theorem Fr.set {w wx : World} {B : Nat} {A : Option Addr} {n cp m gr g i : Nat} (h : Fr w wx B A n cp m gr) (u : Value) (hg : w.heap.size ≤ g) (hB : B < w.heap.size) (hn : g ≠ gr) : Fr w (wx.setCell ⟨g, i, none⟩ u) B A n cp m gr :=
  ⟨gcomp h.g (grown_set wx g i u) (fun g' e => .inr (by injection e with e; omega)), h.c.grown (grown_set wx g i u) (fun e => by injection e with e; omega), block_grown (grown_set wx g i u) h.r (fun e => by injection e with e; omega)⟩
theorem Fr.more {w wx : World} {B : Nat} {A : Option Addr} {n cp m m' gr : Nat} (h : Fr w wx B A n cp m gr) (hm : m ≤ m') : Fr w wx B A n cp m' gr := ⟨h.g, h.c.more hm, h.r⟩
theorem Fr.drew {w wx : World} {B : Nat} {A : Option Addr} {n cp m gr : Nat} (h : Fr w wx B A n cp m gr) : Fr w wx.drew B A n cp m gr :=
  ⟨gcomp h.g (grown_of_below (Below.refl wx.heap.size wx).drew none) (fun g e => by cases e), h.c, h.r⟩
/-- What is written into the window that is answered. -/
theorem Fr.fin {w wx : World} {B : Nat} {A : Option Addr} {n cp m gr : Nat} (h : Fr w wx B A n cp m gr) (hg : w.heap.size ≤ gr) (hB : B < w.heap.size) (v0 v1 v2 v3 : Value) :
    Cur ((((wx.setCell ⟨gr, 0, none⟩ v0).setCell ⟨gr, 1, none⟩ v1).setCell ⟨gr, 2, none⟩ v2).setCell ⟨gr, 3, none⟩ v3) B A n cp m ∧ w.grownBy ((((wx.setCell ⟨gr, 0, none⟩ v0).setCell ⟨gr, 1, none⟩ v1).setCell ⟨gr, 2, none⟩ v2).setCell ⟨gr, 3, none⟩ v3) (some B) := by
  have hn : some B ≠ some gr := fun e => by injection e with e; omega
  exact ⟨(((h.c.grown (grown_set _ gr 0 v0) hn).grown (grown_set _ gr 1 v1) hn).grown (grown_set _ gr 2 v2) hn).grown (grown_set _ gr 3 v3) hn,
    gcomp (gcomp (gcomp (gcomp h.g (grown_set _ gr 0 v0) (fun g e => .inr (by injection e with e; omega))) (grown_set _ gr 1 v1) (fun g e => .inr (by injection e with e; omega))) (grown_set _ gr 2 v2) (fun g e => .inr (by injection e with e; omega))) (grown_set _ gr 3 v3) (fun g e => .inr (by injection e with e; omega))⟩

set_option maxRecDepth 100000 in
set_option maxHeartbeats 6400000 in
theorem window_calls (B n cp m lo hi c' : Nat) (A A' : Option Addr) (zs : List Int) (M : List (List Int)) (w : World) (hc : Cur w B A n cp m) (hr : Rd w B A (intV .u8 zs)) (hn : zs.length = n) (hm : n ≤ 65536) (hz : ∀ z ∈ zs, (Lit.int .u8 z).wf = true) (hlim : m ≤ 950000)
    (hM : OwnM w lo hi (.slice A' M.length c') M) (hB : B < lo) (hML : M.length ≤ 17) (hMR : ∀ r ∈ M, r.length ≤ 65) :
    Calls Tryd.prog 38 #[.pointer (some ⟨B, 0, none⟩), .agg #[.slice A' M.length c']] w fun e w' => ∃ x : Win, e = .returned (.agg #[.int .i64 x.arr, .int .i64 x.start, .int .i64 x.len, .int .i64 x.cap]) ∧ DW x ∧ Cur w' B A n cp (m + 40) ∧ w.grownBy w' (some B) := by
  have hlt0 := hc.lt
  have HL := Lib.hid (fun (W : World) ts m' (hc : Cur W B A n cp m') (hr : Rd W B A (intV .u8 zs)) h0 h1 h2 q h4 => among_lit B n cp m' A zs ts W hc hr hn hm hz h0 h1 h2 q h4)
  have HPK := Lib.hid (fun (W : World) m' q (hc : Cur W B A n cp m') (hr : Rd W B A (intV .u8 zs)) h1 h2 h3 => pick_calls B n cp m' A zs q W hc hr hn hm hz h1 h2 h3)
  have HON := Lib.hid (fun (W : World) m' q (hc : Cur W B A n cp m') (hr : Rd W B A (intV .u8 zs)) h1 h2 h3 => one_calls B n cp m' A zs q W hc hr hn hm hz h1 h2 h3)
  have HR := Lib.hid hr
  have HM := Lib.hid hM
  have HMR := Lib.hid hMR
  obtain ⟨hb0, g1, g2, g3⟩ := enter2 w (.cells #[.slice A' M.length c'] 26) (.cells #[.int .i64 0, .int .i64 0, .int .i64 0, .int .i64 0] 28)
  obtain ⟨w0, hw0⟩ : ∃ w0, (w.alloc (.cells #[.slice A' M.length c'] 26)).alloc (.cells #[.int .i64 0, .int .i64 0, .int .i64 0, .int .i64 0] 28) = w0 := ⟨_, rfl⟩
  rw [hw0] at hb0 g1 g2 g3
  have HRG := Lib.hid (fun (W : World) (h : w.grownBy W (some B)) => (HR.out.grown h (Nat.le_of_lt hlt0) (fun g e => by injection e with e; omega) : Rd W B A (intV .u8 zs)))
  have HF0 := Lib.hid (show Fr w w0 B A n cp m (w.heap.size + 1) from ⟨grown_of_below hb0 (some B), hc.kept hb0, g2⟩)
  have HMB := Lib.hid (fun (W : World) (h : w0.grownBy W (some B)) => block_grown h g1 (fun e => by injection e with e; omega))
  have HMW := Lib.hid (fun (W : World) (h : w0.grownBy W (some B)) => own_grownB (hM.below hb0) h hB)
  have HW := Lib.hid hw0
  have nR : B ≠ w.heap.size + 1 := by omega
  clear hz hn hc hr hM hMR hb0 g2 hw0
  have c1 := one_cell g1
  have k1 : (M.length : Int) ≤ 17 := by omega
  have HG3 := Lib.hid g3
  clear g1 g3
  by_cases h0 : M.length = 0
  · have hb : ((M.length : Int) == 0) = true := by simp [h0]
    clear h0
    go_enter Tryd.func38, Tryd.ntmps38
    go_upto_region 1 with fail
    rw [HW.out]
    have HA1 := Lib.hid (HL.out w0 [0, -1, 16] _ HF0.out.c (HRG.out w0 HF0.out.g) (by omega) (by decide) (by decide) 3 rfl)
    go_wp2_with fail
    refine HA1.out.mono ?_
    rintro e wA ⟨⟨tA, htA, rfl⟩, hcA, hgA⟩
    have HFA := Lib.hid (HF0.out.step hgA hcA nR)
    have HA2 := Lib.hid (HL.out wA [0, 1] _ HFA.out.c (HRG.out wA HFA.out.g) (by omega) (by decide) (by decide) 2 rfl)
    have hdA : Dn tA := by simp at htA; unfold Dn; omega
    clear hcA hgA htA
    go_wp2_with fail
    refine HA2.out.mono ?_
    rintro e wB ⟨⟨tB, htB, rfl⟩, hcB, hgB⟩
    have HFB := Lib.hid (HFA.out.step hgB hcB nR)
    have HA3 := Lib.hid (HL.out wB [1, 0, 2] _ HFB.out.c (HRG.out wB HFB.out.g) (by omega) (by decide) (by decide) 3 rfl)
    have hdB : Dn tB := by simp at htB; unfold Dn; omega
    clear hcB hgB htB
    go_wp2_with fail
    refine HA3.out.mono ?_
    rintro e wC ⟨⟨tC, htC, rfl⟩, hcC, hgC⟩
    have HFC := Lib.hid (HFB.out.step hgC hcC nR)
    have hdC : Dn tC := by simp at htC; unfold Dn; omega
    obtain ⟨r0, r1, r2, r3⟩ := four_cells HFC.out.r
    obtain ⟨f0, f1, f2, f3⟩ := four_frozen9 HFC.out.r
    have HD := Lib.hid (And.intro hdA (And.intro hdB hdC))
    clear hcC hgC htC hdA hdB hdC
    go_wp2_with fail
    refine bodyPost_ret (v := .agg #[.int .i64 tA, .int .i64 tB, .int .i64 1, .int .i64 tC]) (by simp [results, Tryd.results38, go_sem, r0, r1, r2, r3]) rfl ?_
    have hE := HFC.out.fin (by omega) hlt0 (.int .i64 tA) (.int .i64 tB) (.int .i64 1) (.int .i64 tC)
    exact ⟨⟨tA, tB, 1, tC⟩, rfl, ⟨HD.out.1, HD.out.2.1, by show Dn 1; unfold Dn; omega, HD.out.2.2⟩, hE.1.more (by omega), hE.2⟩
  · have hb : ((M.length : Int) == 0) = false := by simp [h0]
    have HON0 := Lib.hid (HON.out w0 m 40 HF0.out.c (HRG.out w0 HF0.out.g) (by omega) (by omega) (by omega))
    have hpos : 1 ≤ M.length := by omega
    clear h0
    go_enter Tryd.func38, Tryd.ntmps38
    go_upto_region 1 with fail
    rw [HW.out]
    go_wp2_with fail
    refine HON0.out.mono ?_
    rintro e w1 ⟨⟨b, rfl⟩, hc1, hg1⟩
    have HF1 := Lib.hid (HF0.out.step hg1 hc1 nR)
    have HG01 := Lib.hid hg1
    clear hc1
    cases b with
    | true =>
      clear c1 hg1
      have HA1 := Lib.hid (HL.out w1 [0, -1, 16] _ HF1.out.c (HRG.out w1 HF1.out.g) (by omega) (by decide) (by decide) 3 rfl)
      go_wp2_with fail
      refine HA1.out.mono ?_
      rintro e wA ⟨⟨tA, htA, rfl⟩, hcA, hgA⟩
      have HFA := Lib.hid (HF1.out.step hgA hcA nR)
      have HA2 := Lib.hid (HL.out wA [0, 1] _ HFA.out.c (HRG.out wA HFA.out.g) (by omega) (by decide) (by decide) 2 rfl)
      have hdA : Dn tA := by simp at htA; unfold Dn; omega
      clear hcA hgA htA
      go_wp2_with fail
      refine HA2.out.mono ?_
      rintro e wB ⟨⟨tB, htB, rfl⟩, hcB, hgB⟩
      have HFB := Lib.hid (HFA.out.step hgB hcB nR)
      have HA3 := Lib.hid (HL.out wB [1, 0, 2] _ HFB.out.c (HRG.out wB HFB.out.g) (by omega) (by decide) (by decide) 3 rfl)
      have hdB : Dn tB := by simp at htB; unfold Dn; omega
      clear hcB hgB htB
      go_wp2_with fail
      refine HA3.out.mono ?_
      rintro e wC ⟨⟨tC, htC, rfl⟩, hcC, hgC⟩
      have HFC := Lib.hid (HFB.out.step hgC hcC nR)
      have hdC : Dn tC := by simp at htC; unfold Dn; omega
      obtain ⟨r0, r1, r2, r3⟩ := four_cells HFC.out.r
      obtain ⟨f0, f1, f2, f3⟩ := four_frozen9 HFC.out.r
      have HD := Lib.hid (And.intro hdA (And.intro hdB hdC))
      clear hcC hgC htC hdA hdB hdC
      go_wp2_with fail
      refine bodyPost_ret (v := .agg #[.int .i64 tA, .int .i64 tB, .int .i64 1, .int .i64 tC]) (by simp [results, Tryd.results38, go_sem, r0, r1, r2, r3]) rfl ?_
      have hE := HFC.out.fin (by omega) hlt0 (.int .i64 tA) (.int .i64 tB) (.int .i64 1) (.int .i64 tC)
      exact ⟨⟨tA, tB, 1, tC⟩, rfl, ⟨HD.out.1, HD.out.2.1, by show Dn 1; unfold Dn; omega, HD.out.2.2⟩, hE.1.more (by omega), hE.2⟩
    | false =>
      clear c1 hg1
      have c1 := one_cell (HMB.out w1 HG01.out)
      obtain ⟨q, hq, hq1, hq2⟩ : ∃ q : Nat, (if (M.length : Int) < 3 then (M.length : Int) else 3) = (q : Int) ∧ 1 ≤ q ∧ q ≤ M.length := by
        split
        · exact ⟨M.length, rfl, hpos, Nat.le_refl _⟩
        · exact ⟨3, rfl, by omega, by omega⟩
      have HLS := Lib.hid (specLeast_calls M.length 3 w1)
      rw [hq] at HLS
      have HPA := Lib.hid (HPK.out w1 _ q HF1.out.c (HRG.out w1 HF1.out.g) (by omega) (by omega) (by omega))
      clear hq
      go_wp2_with fail
      refine HLS.out.mono ?_
      rintro e w1' ⟨rfl, rfl⟩
      go_wp2_with fail
      refine HPA.out.mono ?_
      rintro e w2 ⟨⟨a0, rfl, ha0, ha1⟩, hc2, hg2⟩
      obtain ⟨a, rfl⟩ : ∃ a : Nat, a0 = a := ⟨a0.toNat, by omega⟩
      have ha : a < M.length := by omega
      have HF2 := Lib.hid (HF1.out.step hg2 hc2 nR)
      have HG02 := Lib.hid (gcomp HG01.out hg2 (fun g e => .inl e))
      clear hc2 hg2 c1
      have c1 := one_cell (HMB.out w2 HG02.out)
      obtain ⟨bb, off, Ai, ci, rfl, hbb, hcl, hci, hcm, hri⟩ := (HMW.out w2 HG02.out).reads.at_ ha
      have hsz := HMR.out M[a] (List.getElem_mem ha)
      generalize M[a] = row at *
      obtain ⟨sz, hszE⟩ : ∃ sz, row.length = sz := ⟨_, rfl⟩
      rw [hszE] at hcl hci hsz
      clear hri hszE
      obtain ⟨q5, hq5, hq51, hq52⟩ : ∃ q5 : Nat, (if (sz : Int) < 9 then (sz : Int) else 9) = (q5 : Int) ∧ q5 ≤ 9 ∧ q5 ≤ sz := by
        split
        · exact ⟨sz, rfl, by omega, Nat.le_refl _⟩
        · exact ⟨9, rfl, by omega, by omega⟩
      have HLS2 := Lib.hid (specLeast_calls sz 9 w2)
      rw [hq5] at HLS2
      have HPB := Lib.hid (HPK.out w2 _ ((q5 : Int) + 1) HF2.out.c (HRG.out w2 HF2.out.g) (by omega) (by omega) (by omega))
      clear hq5
      go_wp2_with fail
      refine HLS2.out.mono ?_
      rintro e w2' ⟨rfl, rfl⟩
      go_wp2_with fail
      refine HPB.out.mono ?_
      rintro e w3 ⟨⟨st, rfl, hst0, hst1⟩, hc3, hg3⟩
      have HF3 := Lib.hid (HF2.out.step hg3 hc3 nR)
      clear hc3 hg3 c1 hcl
      obtain ⟨mx, hmx, hmx0, hmx1⟩ : ∃ mx : Int, (if 0 < (sz : Int) - st then (sz : Int) - st else 0) = mx ∧ 0 ≤ mx ∧ mx ≤ 65 := ⟨_, rfl, by split <;> omega, by split <;> omega⟩
      have HLS3 := Lib.hid (fun W => specMost_calls ((sz : Int) - st) 0 W)
      rw [hmx] at HLS3
      have HPC := Lib.hid (HPK.out w3 _ (mx + 1) HF3.out.c (HRG.out w3 HF3.out.g) (by omega) (by omega) (by omega))
      clear hmx
      go_wp2_with fail
      refine (HLS3.out w3).mono ?_
      rintro e w3' ⟨rfl, rfl⟩
      go_wp2_with fail
      refine HPC.out.mono ?_
      rintro e w4 ⟨⟨l0, rfl, hl0, hl1⟩, hc4, hg4⟩
      have HF4 := Lib.hid (HF3.out.step hg4 hc4 nR)
      clear hc4 hg4
      have HON4 := Lib.hid (HON.out w4 _ 2 HF4.out.c (HRG.out w4 HF4.out.g) (by omega) (by omega) (by omega))
      go_wp2_with fail
      refine HON4.out.mono ?_
      rintro e w5 ⟨⟨b, rfl⟩, hc5, hg5⟩
      have HF5 := Lib.hid (HF4.out.step hg5 hc5 nR)
      clear hc5 hg5
      go_upto_if 53 with fail
      go_cut [8] (fun s8 wx => ∃ l : Int, s8 = .int .i64 l ∧ 0 ≤ l ∧ l ≤ mx ∧ Hid (Fr w wx B A n cp (m + 12) (w.heap.size + 1)))
      case first =>
        cases b with
        | true =>
          have HPD := Lib.hid (HPK.out w5 _ 5 HF5.out.c (HRG.out w5 HF5.out.g) (by omega) (by omega) (by omega))
          go_wp2_with fail
          refine HPD.out.mono ?_
          rintro e w6 ⟨⟨p5, rfl, hp0, hp1⟩, hc6, hg6⟩
          have HF6 := Lib.hid (HF5.out.step hg6 hc6 nR)
          clear hc6 hg6
          have HLS4 := Lib.hid (specLeast_calls l0 p5 w6)
          obtain ⟨l9, hl9, hl90, hl91⟩ : ∃ l9 : Int, (if l0 < p5 then l0 else p5) = l9 ∧ 0 ≤ l9 ∧ l9 ≤ mx := ⟨_, rfl, by split <;> omega, by split <;> omega⟩
          rw [hl9] at HLS4
          clear hl9
          go_wp2_with fail
          refine HLS4.out.mono ?_
          rintro e w6' ⟨rfl, rfl⟩
          go_wp2_with fail
          go_meet
          exact ⟨l9, rfl, hl90, hl91, Lib.hid (HF6.out.more (by omega))⟩
        | false =>
          go_wp2_with fail
          go_meet
          exact ⟨l0, rfl, by omega, by omega, Lib.hid (HF5.out.more (by omega))⟩
      case rest =>
        obtain ⟨l, rfl, hl20, hl21, HF7⟩ := hcut
        obtain ⟨w7, hw7⟩ : ∃ w7, w7 = wc := ⟨_, rfl⟩
        subst hw7
        clear hl0 hl1
        obtain ⟨w9, hw9⟩ : ∃ w9, w7.alloc (.cells #[.int .i64 a, .int .i64 st, .int .i64 l, .int .i64 mx] 28) = w9 := ⟨_, rfl⟩
        have HB9 := Lib.hid (show w9.heap[w7.heap.size]? = some (.cells #[.int .i64 a, .int .i64 st, .int .i64 l, .int .i64 mx] 28) by rw [← hw9]; exact heap_alloc_new _ _)
        have HF9 := Lib.hid (show Fr w w9 B A n cp (m + 12) (w.heap.size + 1) by rw [← hw9]; exact HF7.out.alloc _)
        have h7s : w.heap.size + 1 < w7.heap.size := (Array.getElem?_eq_some_iff.1 HF7.out.r).1
        have HW9 := Lib.hid hw9
        clear hw9
        obtain ⟨g9, hg9⟩ : ∃ g9, w7.heap.size = g9 := ⟨_, rfl⟩
        have HG9 := Lib.hid hg9
        rw [hg9] at HB9 h7s
        have hn9 : B ≠ g9 := by omega
        clear hg9
        go_wp2_with fail
        refine (HLS3.out w7).mono ?_
        rintro e w7' ⟨rfl, rfl⟩
        go_upto_region 10 with fail
        rw [HW9.out, HG9.out]
        have HON9 := Lib.hid (HON.out w9 _ 3 HF9.out.c (HRG.out w9 HF9.out.g) (by omega) (by omega) (by omega))
        go_wp2_with fail
        refine HON9.out.mono ?_
        rintro e w10 ⟨⟨b, rfl⟩, hc10, hg10⟩
        have HF10 := Lib.hid (HF9.out.step hg10 hc10 nR)
        have HB10 := Lib.hid (block_grown hg10 HB9.out (fun e => by injection e with e; omega))
        clear hc10 hg10
        go_upto_if 67 with fail
        go_cut [] (fun wx => ∃ k : Int, -1 ≤ k ∧ k ≤ 200 ∧ Hid (wx.heap[g9]? = some (.cells #[.int .i64 a, .int .i64 st, .int .i64 l, .int .i64 k] 28)) ∧ Hid (Fr w wx B A n cp (m + 16) (w.heap.size + 1)))
        case first =>
          cases b with
          | true =>
            obtain ⟨d0, d1, d2, d3⟩ := four_cells HB10.out
            obtain ⟨f0, f1, f2, f3⟩ := four_frozen9 HB10.out
            have HPE : Hid (∀ q : Int, 1 ≤ q → q ≤ 100 → Calls Tryd.prog 24 #[.pointer (some ⟨B, 0, none⟩), .int .i64 q] w10.drew fun e w' => Drawn q e ∧ Cur w' B A n cp (m + 12 + 2 + 2) ∧ w10.drew.grownBy w' (some B)) := Lib.hid (fun q h1 h2 => HPK.out w10.drew (m + 12 + 2) q HF10.out.drew.c (HRG.out w10.drew HF10.out.drew.g) (by omega) h1 (by omega))
            have m1 : (-1 : Int) ≤ mx := by omega
            go_upto_region 11 with fail
            have e2 : w10.drew.cell? ⟨g9, 2, none⟩ = some (.int .i64 l) := d2
            have e3 : w10.drew.cell? ⟨g9, 3, none⟩ = some (.int .i64 mx) := d3
            have HN9 := Lib.hid hn9
            have HWR := Lib.hid (show IntKind.i64.wrap (IntKind.i64.wrap (mx - l) + 1) = mx - l + 1 by simp only [IntKind.wrap, IntKind.bits, IntKind.signed]; simp; omega)
            have HWR2 := Lib.hid (fun r5 (h0 : 0 ≤ r5) (h1 : r5 < mx - l + 1) => (show IntKind.i64.wrap (l + r5) = l + r5 by simp only [IntKind.wrap, IntKind.bits, IntKind.signed]; simp; omega))
            go_region_law ((go_simp; go_at_call 24; (try rw [HWR.out]); (with_reducible refine (HPE.out (mx - l + 1) (by omega) (by omega)).mono ?_); rintro e w11 ⟨⟨r5, rfl, hr50, hr51⟩, hc11, hg11⟩; have HB11 := Lib.hid (block_grown (w := w10.drew) hg11 HB10.out (fun e => HN9.out (by injection e))); have HF11 := Lib.hid (HF10.out.drew.step hg11 hc11 nR); have dd := four_cells HB11.out; obtain ⟨x0, x1, x2, x3⟩ := dd; have ff := four_frozen9 HB11.out; obtain ⟨y0, y1, y2, y3⟩ := ff; clear hc11 hg11))
            all_goals (go_wp2_with fail; (try rw [HWR2.out _ hr50 hr51]); go_meet; exact ⟨l + r5, by omega, by omega, Lib.hid (set_at3 HB11.out), Lib.hid ((HF11.out.set _ (by omega) hlt0 (by omega)).more (by omega))⟩)
          | false =>
            go_wp2_with fail
            go_meet
            exact ⟨mx, by omega, by omega, HB10, Lib.hid (HF10.out.more (by omega))⟩
        case rest =>
          obtain ⟨k, hk0, hk1, HB12, HF12⟩ := hcut
          obtain ⟨w12, hw12⟩ : ∃ w12, w12 = wc := ⟨_, rfl⟩
          subst hw12
          have HPF := Lib.hid (HPK.out w12 _ 60 HF12.out.c (HRG.out w12 HF12.out.g) (by omega) (by omega) (by omega))
          go_wp2_with fail
          refine HPF.out.mono ?_
          rintro e w13 ⟨⟨p, rfl, hp0', hp1'⟩, hc13, hg13⟩
          have HF13 := Lib.hid (HF12.out.step hg13 hc13 nR)
          have HB13 := Lib.hid (block_grown hg13 HB12.out (fun e => by injection e with e; omega))
          clear hc13 hg13
          by_cases hp0 : p = 0
          · subst hp0
            skip
            obtain ⟨d0, d1, d2, d3⟩ := four_cells HB13.out
            have HLT := Lib.hid (HL.out w13 [-1, sz, 4611686018427387904] _ HF13.out.c (HRG.out w13 HF13.out.g) (by omega) (by simp) (by simp) 3 rfl)
            go_wp2_with fail
            refine HLT.out.mono ?_
            rintro e w14 ⟨⟨t, ht, rfl⟩, hc14, hg14⟩
            have HF14 := Lib.hid (HF13.out.step hg14 hc14 nR)
            have HB14 := Lib.hid (block_grown hg14 HB13.out (fun e => by injection e with e; omega))
            have HDT := Lib.hid (show Dn t by simp at ht; unfold Dn; omega)
            clear hc14 hg14 ht d0 d1 d2 d3
            obtain ⟨d0, d1, d2, d3⟩ := four_cells HB14.out
            obtain ⟨f0, f1, f2, f3⟩ := four_frozen9 HB14.out
            go_upto_region 19 with fail
            obtain ⟨w15, hw15⟩ : ∃ w15, w14.setCell ⟨g9, 1, none⟩ (.int .i64 t) = w15 := ⟨_, rfl⟩
            rw [hw15]
            have HB15 := Lib.hid (set_at1 (v := .int .i64 t) HB14.out)
            have HF15 := Lib.hid (HF14.out.set (i := 1) (g := g9) (.int .i64 t) (by omega) hlt0 (by omega))
            rw [hw15] at HB15 HF15
            clear hw15 d0 d1 d2 d3 f0 f1 f2 f3
            obtain ⟨z0, z1, z2, z3⟩ := four_cells HB15.out
            obtain ⟨r0, r1, r2, r3⟩ := four_cells HF15.out.r
            obtain ⟨f0, f1, f2, f3⟩ := four_frozen9 HF15.out.r
            go_wp2_with fail
            refine bodyPost_ret (v := .agg #[.int .i64 a, .int .i64 t, .int .i64 l, .int .i64 k]) (by simp [results, Tryd.results38, go_sem, r0, r1, r2, r3]) rfl ?_
            have hE := HF15.out.fin (by omega) hlt0 (.int .i64 a) (.int .i64 t) (.int .i64 l) (.int .i64 k)
            exact ⟨⟨a, t, l, k⟩, rfl, ⟨by show Dn a; unfold Dn; omega, HDT.out, by show Dn l; unfold Dn; omega, by show Dn k; unfold Dn; omega⟩, hE.1.more (by omega), hE.2⟩
          by_cases hp1 : p = 1
          · subst hp1
            clear hp0
            obtain ⟨d0, d1, d2, d3⟩ := four_cells HB13.out
            have HLT := Lib.hid (HL.out w13 [-1, k + 1] _ HF13.out.c (HRG.out w13 HF13.out.g) (by omega) (by simp) (by simp) 2 rfl)
            go_wp2_with fail
            refine HLT.out.mono ?_
            rintro e w14 ⟨⟨t, ht, rfl⟩, hc14, hg14⟩
            have HF14 := Lib.hid (HF13.out.step hg14 hc14 nR)
            have HB14 := Lib.hid (block_grown hg14 HB13.out (fun e => by injection e with e; omega))
            have HDT := Lib.hid (show Dn t by simp at ht; unfold Dn; omega)
            clear hc14 hg14 ht d0 d1 d2 d3
            obtain ⟨d0, d1, d2, d3⟩ := four_cells HB14.out
            obtain ⟨f0, f1, f2, f3⟩ := four_frozen9 HB14.out
            go_upto_region 19 with fail
            obtain ⟨w15, hw15⟩ : ∃ w15, w14.setCell ⟨g9, 2, none⟩ (.int .i64 t) = w15 := ⟨_, rfl⟩
            rw [hw15]
            have HB15 := Lib.hid (set_at2 (v := .int .i64 t) HB14.out)
            have HF15 := Lib.hid (HF14.out.set (i := 2) (g := g9) (.int .i64 t) (by omega) hlt0 (by omega))
            rw [hw15] at HB15 HF15
            clear hw15 d0 d1 d2 d3 f0 f1 f2 f3
            obtain ⟨z0, z1, z2, z3⟩ := four_cells HB15.out
            obtain ⟨r0, r1, r2, r3⟩ := four_cells HF15.out.r
            obtain ⟨f0, f1, f2, f3⟩ := four_frozen9 HF15.out.r
            go_wp2_with fail
            refine bodyPost_ret (v := .agg #[.int .i64 a, .int .i64 st, .int .i64 t, .int .i64 k]) (by simp [results, Tryd.results38, go_sem, r0, r1, r2, r3]) rfl ?_
            have hE := HF15.out.fin (by omega) hlt0 (.int .i64 a) (.int .i64 st) (.int .i64 t) (.int .i64 k)
            exact ⟨⟨a, st, t, k⟩, rfl, ⟨by show Dn a; unfold Dn; omega, by show Dn st; unfold Dn; omega, HDT.out, by show Dn k; unfold Dn; omega⟩, hE.1.more (by omega), hE.2⟩
          by_cases hp2 : p = 2
          · subst hp2
            clear hp0 hp1
            obtain ⟨d0, d1, d2, d3⟩ := four_cells HB13.out
            have HLT := Lib.hid (HL.out w13 [k + 1, -1, 4611686018427387904] _ HF13.out.c (HRG.out w13 HF13.out.g) (by omega) (by simp) (by simp) 3 rfl)
            go_wp2_with fail
            refine HLT.out.mono ?_
            rintro e w14 ⟨⟨t, ht, rfl⟩, hc14, hg14⟩
            have HF14 := Lib.hid (HF13.out.step hg14 hc14 nR)
            have HB14 := Lib.hid (block_grown hg14 HB13.out (fun e => by injection e with e; omega))
            have HDT := Lib.hid (show Dn t by simp at ht; unfold Dn; omega)
            clear hc14 hg14 ht d0 d1 d2 d3
            obtain ⟨d0, d1, d2, d3⟩ := four_cells HB14.out
            obtain ⟨f0, f1, f2, f3⟩ := four_frozen9 HB14.out
            go_upto_region 19 with fail
            obtain ⟨w15, hw15⟩ : ∃ w15, w14.setCell ⟨g9, 3, none⟩ (.int .i64 t) = w15 := ⟨_, rfl⟩
            rw [hw15]
            have HB15 := Lib.hid (set_at3 (v := .int .i64 t) HB14.out)
            have HF15 := Lib.hid (HF14.out.set (i := 3) (g := g9) (.int .i64 t) (by omega) hlt0 (by omega))
            rw [hw15] at HB15 HF15
            clear hw15 d0 d1 d2 d3 f0 f1 f2 f3
            obtain ⟨z0, z1, z2, z3⟩ := four_cells HB15.out
            obtain ⟨r0, r1, r2, r3⟩ := four_cells HF15.out.r
            obtain ⟨f0, f1, f2, f3⟩ := four_frozen9 HF15.out.r
            go_wp2_with fail
            refine bodyPost_ret (v := .agg #[.int .i64 a, .int .i64 st, .int .i64 l, .int .i64 t]) (by simp [results, Tryd.results38, go_sem, r0, r1, r2, r3]) rfl ?_
            have hE := HF15.out.fin (by omega) hlt0 (.int .i64 a) (.int .i64 st) (.int .i64 l) (.int .i64 t)
            exact ⟨⟨a, st, l, t⟩, rfl, ⟨by show Dn a; unfold Dn; omega, by show Dn st; unfold Dn; omega, by show Dn l; unfold Dn; omega, HDT.out⟩, hE.1.more (by omega), hE.2⟩
          obtain ⟨d0, d1, d2, d3⟩ := four_cells HB13.out
          go_upto_region 19 with fail
          clear d0 d1 d2 d3
          obtain ⟨z0, z1, z2, z3⟩ := four_cells HB13.out
          obtain ⟨r0, r1, r2, r3⟩ := four_cells HF13.out.r
          obtain ⟨f0, f1, f2, f3⟩ := four_frozen9 HF13.out.r
          go_wp2_with fail
          refine bodyPost_ret (v := .agg #[.int .i64 a, .int .i64 st, .int .i64 l, .int .i64 k]) (by simp [results, Tryd.results38, go_sem, r0, r1, r2, r3]) rfl ?_
          have hE := HF13.out.fin (by omega) hlt0 (.int .i64 a) (.int .i64 st) (.int .i64 l) (.int .i64 k)
          exact ⟨⟨a, st, l, k⟩, rfl, ⟨by show Dn a; unfold Dn; omega, by show Dn st; unfold Dn; omega, by show Dn l; unfold Dn; omega, by show Dn k; unfold Dn; omega⟩, hE.1.more (by omega), hE.2⟩
end Go.Proofs.YtmcabnbmjbepjaaDoor
