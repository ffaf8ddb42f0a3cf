/-
  Drawing slices of windows: index, DrawSliceTwo, DrawSliceThree, DrawWholeWindow.
-/
import Derived.Test.YtmcabnbmjbepjaaDoorDrawW
namespace Go.Proofs.YtmcabnbmjbepjaaDoor
open Go.RowKit

set_option maxRecDepth 100000 in
theorem index_calls (B n cp m : Nat) (A : Option Addr) (zs : List Int) (x : Win) (w : World) (hx : DW x) (hc : Cur w B A n cp m) (hr : Rd w B A (intV .u8 zs)) (hn : zs.length = n) (hm : n ≤ 65536) (hz : ∀ z ∈ zs, (Lit.int .u8 z).wf = true) (hlim : m ≤ 950000) :
    Calls Tryd.prog 39 #[.pointer (some ⟨B, 0, none⟩), .agg #[.int .i64 x.arr, .int .i64 x.start, .int .i64 x.len, .int .i64 x.cap]] w fun e w' => ∃ i : Int, e = .returned (.int .i64 i) ∧ -1 ≤ i ∧ i ≤ 4611686018427387905 ∧ Cur w' B A n cp (m + 10) ∧ w.grownBy w' (some B) := by
  have hlt0 := hc.lt
  have HL := Lib.hid (fun (W : World) ts m' (hc : Cur W B A n cp m') (hr : Rd W B A (intV .u8 zs)) h0 h1 h2 q h4 => among_lit B n cp m' A zs ts W hc hr hn hm hz h0 h1 h2 q h4)
  have HPK := Lib.hid (fun (W : World) m' q (hc : Cur W B A n cp m') (hr : Rd W B A (intV .u8 zs)) h1 h2 h3 => pick_calls B n cp m' A zs q W hc hr hn hm hz h1 h2 h3)
  obtain ⟨w0, hw0⟩ : ∃ w0, w.alloc (.cells #[.int .i64 x.arr, .int .i64 x.start, .int .i64 x.len, .int .i64 x.cap] 28) = w0 := ⟨_, rfl⟩
  have hb0 : Below w.heap.size w w0 := by rw [← hw0]; exact (Below.refl _ _).alloc (Nat.le_refl _) _
  have hg0 : w0.heap[w.heap.size]? = some (.cells #[.int .i64 x.arr, .int .i64 x.start, .int .i64 x.len, .int .i64 x.cap] 28) := by rw [← hw0]; exact heap_alloc_new _ _
  have HG := Lib.hid (grown_of_below hb0 (some B))
  have HC := Lib.hid (hc.kept hb0)
  have HR := Lib.hid hr
  have HRG := Lib.hid (fun (W : World) (h : w.grownBy W (some B)) => (HR.out.grown h (Nat.le_of_lt hlt0) (fun g e => by injection e with e; omega) : Rd W B A (intV .u8 zs)))
  have HON := Lib.hid (one_calls B n cp m A zs 24 w0 HC.out (HRG.out w0 HG.out) hn hm hz (by omega) (by omega) (by omega))
  have HX := Lib.hid hx
  have HG0 := Lib.hid hg0
  have HW := Lib.hid hw0
  obtain ⟨l1, l2⟩ := hx.l
  obtain ⟨k1, k2⟩ := hx.c
  clear hz hn hc hr hb0 hg0 hw0 hx
  go_enter Tryd.func39, Tryd.ntmps39
  go_upto_region 1 with fail
  rw [HW.out]
  go_wp2_with fail
  refine HON.out.mono ?_
  rintro e w1 ⟨⟨b, rfl⟩, hc1, hg1⟩
  have HC1 := Lib.hid hc1
  have HG1 := Lib.hid (gcomp HG.out hg1 (fun g e => .inl e))
  obtain ⟨d0, d1, d2, d3⟩ := four_cells (block_grown hg1 HG0.out (fun e => by injection e with e; omega))
  clear hc1 hg1
  cases b with
  | true =>
    have HLT := Lib.hid (HL.out w1 [-1, x.len, x.cap, x.cap + 1, 4611686018427387904] _ HC1.out (HRG.out w1 HG1.out) (by omega) (by simp) (by simp) 5 rfl)
    go_wp2_with fail
    refine HLT.out.mono ?_
    rintro e w2 ⟨⟨t, ht, rfl⟩, hc2, hg2⟩
    have HE := Lib.hid (And.intro (hc2.more (show m + 2 + 2 ≤ m + 10 by omega)) (gcomp HG1.out hg2 (fun g e => .inl e)))
    have HT := Lib.hid (show -1 ≤ t ∧ t ≤ 4611686018427387905 by simp at ht; omega)
    clear hc2 hg2 ht
    go_wp2_with fail
    go_ret
    exact ⟨t, rfl, HT.out.1, HT.out.2, HE.out.1, HE.out.2⟩
  | false =>
    obtain ⟨a1, ha1, ha10⟩ : ∃ a1 : Int, (if x.len < 64 then x.len else 64) = a1 ∧ a1 ≤ 64 := ⟨_, rfl, by split <;> omega⟩
    obtain ⟨a2, ha2, ha20, ha21⟩ : ∃ a2 : Int, (if 1 < a1 then a1 else 1) = a2 ∧ 1 ≤ a2 ∧ a2 ≤ 64 := ⟨_, rfl, by split <;> omega, by split <;> omega⟩
    have HL1 := Lib.hid (specLeast_calls x.len 64 w1)
    rw [ha1] at HL1
    have HL2 := Lib.hid (specMost_calls a1 1 w1)
    rw [ha2] at HL2
    have HP := Lib.hid (HPK.out w1 _ a2 HC1.out (HRG.out w1 HG1.out) (by omega) (by omega) (by omega))
    clear ha1 ha2
    go_wp2_with fail
    refine HL1.out.mono ?_
    rintro e w1' ⟨rfl, rfl⟩
    go_wp2_with fail
    refine HL2.out.mono ?_
    rintro e w1' ⟨rfl, rfl⟩
    go_wp2_with fail
    refine HP.out.mono ?_
    rintro e w2 ⟨⟨r, rfl, hr0, hr1⟩, hc2, hg2⟩
    have HE := Lib.hid (And.intro (hc2.more (show m + 2 + 2 ≤ m + 10 by omega)) (gcomp HG1.out hg2 (fun g e => .inl e)))
    clear hc2 hg2
    go_wp2_with fail
    go_ret
    exact ⟨r, rfl, by omega, by omega, HE.out.1, HE.out.2⟩

theorem cur_new9 (w : World) (A : Option Addr) (n cp : Nat) : Cur (w.alloc (.cells #[.slice A n cp, .int .i64 0, .int .u64 0] 50)) w.heap.size A n cp 0 :=
  ⟨0, 0, Nat.le_refl _, by omega, by omega, heap_alloc_new w _⟩
/-- What the draws keep: the variables of their results, and the cursor. -/
structure Dr (w wx : World) (B : Nat) (A : Option Addr) (n cp m : Nat) : Prop where
  b : Below w.heap.size w wx
  c : Cur wx B A n cp m
  r0 : wx.heap[w.heap.size]? = some (.cells #[.slice none 0 0] 26)
theorem Dr.step {w wx wy : World} {B : Nat} {A : Option Addr} {n cp m m' : Nat} (h : Dr w wx B A n cp m) (hg : wx.grownBy wy (some B)) (hc : Cur wy B A n cp m') (hB : w.heap.size < B) : Dr w wy B A n cp m' :=
  ⟨h.b.grown hg h.b.size (fun g e => by injection e with e; omega), hc, block_grown hg h.r0 (fun e => by injection e with e; omega)⟩
theorem Dr.alloc {w wx : World} {B : Nat} {A : Option Addr} {n cp m : Nat} (h : Dr w wx B A n cp m) (o : Obj) : Dr w (wx.alloc o) B A n cp m :=
  ⟨h.b.alloc h.b.size o, h.c.kept ((Below.refl _ _).alloc (Nat.le_refl _) o), alloc_old _ h.r0⟩
/-- A drawn memory. -/
def MBy (M : List (List Int)) : Prop := M.length ≤ 17 ∧ ∀ r ∈ M, r.length ≤ 65 ∧ ∀ z ∈ r, IsBy z

set_option maxRecDepth 100000 in
set_option maxHeartbeats 1600000 in
theorem drawWhole_calls (n cp : Nat) (A : Option Addr) (zs : List Int) (w : World) (hr : Rd w w.heap.size A (intV .u8 zs)) (hn : zs.length = n) (hm : n ≤ 65536) (hz : ∀ z ∈ zs, (Lit.int .u8 z).wf = true) :
    Calls Tryd.prog 18 #[.slice A n cp] w fun e w' => ∃ (M : List (List Int)) (v : Value) (a : Int), e = .returned (.tuple #[.agg #[v], .int .i64 a]) ∧ MBy M ∧ OwnM w' w.heap.size w'.heap.size v M ∧ Below w.heap.size w w' := by
  obtain ⟨w0, hw0⟩ : ∃ w0, w.alloc (.cells #[.slice none 0 0] 26) = w0 := ⟨_, rfl⟩
  have hb0 : Below w.heap.size w w0 := by rw [← hw0]; exact (Below.refl _ _).alloc (Nat.le_refl _) _
  have gr0 : w0.heap[w.heap.size]? = some (.cells #[.slice none 0 0] 26) := by rw [← hw0]; exact heap_alloc_new _ _
  have hs0 : w0.heap.size = w.heap.size + 1 := by rw [← hw0]; simp
  obtain ⟨w1, hw1⟩ : ∃ w1, w0.alloc (.cells #[.slice A n cp, .int .i64 0, .int .u64 0] 50) = w1 := ⟨_, rfl⟩
  have hb1 : Below w0.heap.size w0 w1 := by rw [← hw1]; exact (Below.refl _ _).alloc (Nat.le_refl _) _
  have hc1 : Cur w1 w0.heap.size A n cp 0 := by rw [← hw1]; exact cur_new9 w0 A n cp
  have hs1 : w1.heap.size = w.heap.size + 2 := by rw [← hw1]; simp; omega
  have HD1 := Lib.hid (show Dr w w1 w0.heap.size A n cp 0 from ⟨hb0.trans (hb1.mono hb0.size), hc1, (hb1.block _ (Array.getElem?_eq_some_iff.1 gr0).1).trans gr0⟩)
  have HR1 := Lib.hid (((hr.below hb0).below (hb1.mono hb0.size)).more hb0.size)
  rw [hs0] at HD1 HR1
  have hB : w.heap.size < w.heap.size + 1 := Nat.lt_succ_self _
  obtain ⟨B, hBE⟩ : ∃ B, w.heap.size + 1 = B := ⟨_, rfl⟩
  have HBE := Lib.hid hBE
  rw [hBE] at HD1 HR1 hB
  have HMC := Lib.hid (memory_calls B n cp 0 A zs w1 HD1.out.c HR1.out hn hm hz (by omega))
  have HL := Lib.hid (fun (W : World) ts m' (hc : Cur W B A n cp m') (hr : Rd W B A (intV .u8 zs)) h0 h1 h2 q h4 => among_lit B n cp m' A zs ts W hc hr hn hm hz h0 h1 h2 q h4)
  have HW := Lib.hid (show (w.alloc (.cells #[.slice none 0 0] 26)).alloc (.cells #[.slice A n cp, .int .i64 0, .int .u64 0] 50) = w1 by rw [hw0, hw1])
  have HS1 := Lib.hid hs1
  clear hr hn hz hb0 gr0 hs0 hw0 hb1 hc1 hw1 hs1 hBE
  go_enter Tryd.func18, Tryd.ntmps18
  go_upto_region 2 with fail
  rw [HW.out, HBE.out]
  go_wp2_with fail
  refine HMC.out.mono ?_
  rintro e w2 ⟨M, v, rfl, hM1, hM2, ho2, hc2, hg2⟩
  have HD2 := Lib.hid (HD1.out.step hg2 hc2 hB)
  have HLT := Lib.hid (HL.out w2 [0, 1, 0, 2, -1, 15, 16, 4611686018427387904] _ hc2 (HR1.out.grown hg2 (by have := HS1.out; have := HBE.out; omega) (fun g e => by injection e with e; omega)) (by omega) (by decide) (by decide) 8 rfl)
  obtain ⟨A2, c2, rfl, hk2⟩ := ho2.form
  have HO2 := Lib.hid ho2
  have HMB := Lib.hid (show MBy M from ⟨hM1, hM2⟩)
  have hs2 := hg2.size
  clear ho2 hc2 hg2 hM1 hM2 hk2
  go_wp2_with fail
  refine HLT.out.mono ?_
  rintro e w3 ⟨⟨t, ht, rfl⟩, hc3, hg3⟩
  have HD3 := Lib.hid (HD2.out.step hg3 hc3 hB)
  have HO3 := Lib.hid (own_grownB HO2.out hg3 (by have := HS1.out; have := HBE.out; omega))
  have hs3 := hg3.size
  have r0 := one_cell HD3.out.r0
  have rf := one_frozen HD3.out.r0
  clear hc3 hg3 ht
  go_wp2_with fail
  refine bodyPost_ret (v := .tuple #[.agg #[.slice A2 M.length c2], .int .i64 t]) (by simp [results, Tryd.results18, go_sem, r0]) rfl ⟨M, _, t, rfl, HMB.out, ?_, by (repeat (first | (with_reducible exact Below.refl _ _) | (with_reducible refine Below.drew ?_) | ((with_reducible refine Below.alloc ?_ ?hB _); case hB => (first | (with_reducible exact Nat.le_refl _) | omega | (simp; done) | (simp; omega))) | ((with_reducible refine Below.setCell ?_ ?hB _); case hB => (first | (with_reducible exact Nat.le_refl _) | omega | (simp; done) | (simp; omega))))); exact HD3.out.b⟩
  rw [World.size_setCell]
  have hs1 := HS1.out
  exact (own_setCell HO3.out (.inl (by omega))).mono (by omega) (by omega)

/-- The same, with a window among the results. -/
structure Dr2 (w wx : World) (B : Nat) (A : Option Addr) (n cp m : Nat) : Prop where
  d : Dr w wx B A n cp m
  r1 : wx.heap[w.heap.size + 1]? = some (.cells #[.int .i64 0, .int .i64 0, .int .i64 0, .int .i64 0] 28)
theorem Dr2.step {w wx wy : World} {B : Nat} {A : Option Addr} {n cp m m' : Nat} (h : Dr2 w wx B A n cp m) (hg : wx.grownBy wy (some B)) (hc : Cur wy B A n cp m') (hB : w.heap.size + 1 < B) : Dr2 w wy B A n cp m' :=
  ⟨h.d.step hg hc (by omega), block_grown hg h.r1 (fun e => by injection e with e; omega)⟩
theorem Dr2.alloc {w wx : World} {B : Nat} {A : Option Addr} {n cp m : Nat} (h : Dr2 w wx B A n cp m) (o : Obj) : Dr2 w (wx.alloc o) B A n cp m := ⟨h.d.alloc o, alloc_old _ h.r1⟩

set_option maxRecDepth 100000 in
set_option maxHeartbeats 3200000 in
theorem drawTwo_calls (n cp : Nat) (A : Option Addr) (zs : List Int) (w : World) (hr : Rd w w.heap.size A (intV .u8 zs)) (hn : zs.length = n) (hm : n ≤ 65536) (hz : ∀ z ∈ zs, (Lit.int .u8 z).wf = true) :
    Calls Tryd.prog 23 #[.slice A n cp] w fun e w' => ∃ (M : List (List Int)) (v : Value) (x : Win) (i j : Int), e = .returned (.tuple #[.agg #[v], .agg #[.int .i64 x.arr, .int .i64 x.start, .int .i64 x.len, .int .i64 x.cap], .int .i64 i, .int .i64 j]) ∧ MBy M ∧ DW x ∧ OwnM w' w.heap.size w'.heap.size v M ∧ Below w.heap.size w w' := by
  obtain ⟨hb0, g1, g2, g3⟩ := enter2 w (.cells #[.slice none 0 0] 26) (.cells #[.int .i64 0, .int .i64 0, .int .i64 0, .int .i64 0] 28)
  obtain ⟨w0, hw0⟩ : ∃ w0, (w.alloc (.cells #[.slice none 0 0] 26)).alloc (.cells #[.int .i64 0, .int .i64 0, .int .i64 0, .int .i64 0] 28) = w0 := ⟨_, rfl⟩
  rw [hw0] at hb0 g1 g2 g3
  obtain ⟨w1, hw1⟩ : ∃ w1, w0.alloc (.cells #[.slice A n cp, .int .i64 0, .int .u64 0] 50) = w1 := ⟨_, rfl⟩
  have hb1 : Below w0.heap.size w0 w1 := by rw [← hw1]; exact (Below.refl _ _).alloc (Nat.le_refl _) _
  have hc1 : Cur w1 w0.heap.size A n cp 0 := by rw [← hw1]; exact cur_new9 w0 A n cp
  have hs1 : w1.heap.size = w.heap.size + 3 := by rw [← hw1]; simp; omega
  have HD1 := Lib.hid (show Dr2 w w1 w0.heap.size A n cp 0 from ⟨⟨hb0.trans (hb1.mono hb0.size), hc1, (hb1.block _ (Array.getElem?_eq_some_iff.1 g1).1).trans g1⟩, (hb1.block _ (Array.getElem?_eq_some_iff.1 g2).1).trans g2⟩)
  have HR1 := Lib.hid (((hr.below hb0).below (hb1.mono hb0.size)).more hb0.size)
  rw [g3] at HD1 HR1
  obtain ⟨B, hBE⟩ : ∃ B, w.heap.size + 2 = B := ⟨_, rfl⟩
  have hB : w.heap.size + 1 < B := by omega
  have HBE := Lib.hid hBE
  rw [hBE] at HD1 HR1
  have HMC := Lib.hid (memory_calls B n cp 0 A zs w1 HD1.out.d.c HR1.out hn hm hz (by omega))
  have HWC := Lib.hid (fun (W : World) (lo hi c' : Nat) (A' : Option Addr) (M : List (List Int)) hc hr hM hB h1 h2 => window_calls B n cp 3000 lo hi c' A A' zs M W hc hr hn hm hz (by omega) hM hB h1 h2)
  have HIC := Lib.hid (fun (W : World) (x : Win) m hx hc hr hl => index_calls B n cp m A zs x W hx hc hr hn hm hz hl)
  have HPK := Lib.hid (fun (W : World) m' q (hc : Cur W B A n cp m') (hr : Rd W B A (intV .u8 zs)) h1 h2 h3 => pick_calls B n cp m' A zs q W hc hr hn hm hz h1 h2 h3)
  have HW := Lib.hid (show ((w.alloc (.cells #[.slice none 0 0] 26)).alloc (.cells #[.int .i64 0, .int .i64 0, .int .i64 0, .int .i64 0] 28)).alloc (.cells #[.slice A n cp, .int .i64 0, .int .u64 0] 50) = w1 by rw [hw0, hw1])
  have HS1 := Lib.hid (show w1.heap.size = B + 1 by omega)
  have HRG := Lib.hid (fun (W : World) (h : w1.grownBy W (some B)) => (HR1.out.grown h (by have := HS1.out; omega) (fun g e => by injection e with e; omega) : Rd W B A (intV .u8 zs)))
  clear hr hn hz hb0 g1 g2 g3 hw0 hb1 hc1 hw1 hs1 hBE
  go_enter Tryd.func23, Tryd.ntmps23
  go_upto_region 2 with fail
  rw [HW.out, HBE.out]
  go_wp2_with fail
  refine HMC.out.mono ?_
  rintro e w2 ⟨M, v, rfl, hM1, hM2, ho2, hc2, hg2⟩
  have HD2 := Lib.hid (HD1.out.step hg2 hc2 hB)
  have HG2 := Lib.hid hg2
  obtain ⟨A2, c2, rfl, hk2⟩ := ho2.form
  have HO2 := Lib.hid ho2
  have HMB := Lib.hid (show MBy M from ⟨hM1, hM2⟩)
  obtain ⟨w3, hw3⟩ : ∃ w3, w2.alloc (.cells #[.slice A2 M.length c2] 26) = w3 := ⟨_, rfl⟩
  have hb3 : Below w2.heap.size w2 w3 := by rw [← hw3]; exact (Below.refl _ _).alloc (Nat.le_refl _) _
  have HX3 := Lib.hid (show w3.heap[w2.heap.size]? = some (.cells #[.slice A2 M.length c2] 26) by rw [← hw3]; exact heap_alloc_new _ _)
  have HD3 := Lib.hid (show Dr2 w w3 B A n cp (0 + 3000) by rw [← hw3]; exact HD2.out.alloc _)
  have HG3 := Lib.hid (gcomp HG2.out (grown_of_below hb3 none) (fun g e => by cases e))
  have HO3 := Lib.hid (HO2.out.below hb3)
  have HWW := Lib.hid (HWC.out w3 w1.heap.size w2.heap.size c2 A2 M HD3.out.d.c (HRG.out w3 HG3.out) HO3.out (by have := HS1.out; omega) hM1 (fun r hr => (hM2 r hr).1))
  have HW3 := Lib.hid hw3
  obtain ⟨g7, hg7⟩ : ∃ g7, w2.heap.size = g7 := ⟨_, rfl⟩
  have h7 : B < g7 := by have := hg2.size; have := HS1.out; omega
  have HG7 := Lib.hid hg7
  rw [hg7] at HX3
  clear ho2 hc2 hg2 hM1 hM2 hk2 hw3 hb3 hg7
  have c3 := one_cell HX3.out
  go_upto_region 3 with fail
  rw [HW3.out, HG7.out]
  go_wp2_with fail
  refine HWW.out.mono ?_
  rintro e w4 ⟨x, rfl, hx, hc4, hg4⟩
  have HD4 := Lib.hid (HD3.out.step hg4 hc4 hB)
  have HG4 := Lib.hid (gcomp HG3.out hg4 (fun g e => .inl e))
  have HX4 := Lib.hid (block_grown hg4 HX3.out (fun e => by injection e with e; omega))
  have HO4 := Lib.hid (own_grownB HO3.out hg4 (by have := HS1.out; omega))
  have h47 : g7 < w4.heap.size := (Array.getElem?_eq_some_iff.1 HX4.out).1
  have HDW := Lib.hid hx
  clear c3 hc4 hg4
  obtain ⟨w5, hw5⟩ : ∃ w5, w4.alloc (.cells #[.int .i64 x.arr, .int .i64 x.start, .int .i64 x.len, .int .i64 x.cap] 28) = w5 := ⟨_, rfl⟩
  have hb5 : Below w4.heap.size w4 w5 := by rw [← hw5]; exact (Below.refl _ _).alloc (Nat.le_refl _) _
  have HY5 := Lib.hid (show w5.heap[w4.heap.size]? = some (.cells #[.int .i64 x.arr, .int .i64 x.start, .int .i64 x.len, .int .i64 x.cap] 28) by rw [← hw5]; exact heap_alloc_new _ _)
  have HD5 := Lib.hid (show Dr2 w w5 B A n cp (3000 + 40) by rw [← hw5]; exact HD4.out.alloc _)
  have HG5 := Lib.hid (gcomp HG4.out (grown_of_below hb5 none) (fun g e => by cases e))
  have HX5 := Lib.hid ((hb5.block _ h47).trans HX4.out)
  have HO5 := Lib.hid (HO4.out.below hb5)
  have HII := Lib.hid (HIC.out w5 x _ hx HD5.out.d.c (HRG.out w5 HG5.out) (by omega))
  have HW5 := Lib.hid hw5
  obtain ⟨g8, hg8⟩ : ∃ g8, w4.heap.size = g8 := ⟨_, rfl⟩
  have HG8 := Lib.hid hg8
  rw [hg8] at HY5 h47
  obtain ⟨y0, y1, y2, y3⟩ := four_cells HY5.out
  clear hw5 hb5 hx hg8
  go_upto_region 4 with fail
  rw [HW5.out, HG8.out]
  go_wp2_with fail
  refine HII.out.mono ?_
  rintro e w6 ⟨i, rfl, hi0, hi1, hc6, hg6⟩
  have HD6 := Lib.hid (HD5.out.step hg6 hc6 hB)
  have HG6 := Lib.hid (gcomp HG5.out hg6 (fun g e => .inl e))
  have HX6 := Lib.hid (block_grown hg6 HX5.out (fun e => by injection e with e; omega))
  have HY6 := Lib.hid (block_grown hg6 HY5.out (fun e => by injection e with e; omega))
  have HO6 := Lib.hid (own_grownB HO5.out hg6 (by have := HS1.out; omega))
  clear hc6 hg6 y0 y1 y2 y3
  have HP6 : Hid (Calls Tryd.prog 24 #[.pointer (some ⟨B, 0, none⟩), .int .i64 6] w6.drew fun e w' => Drawn 6 e ∧ Cur w' B A n cp (3000 + 40 + 10 + 2) ∧ w6.drew.grownBy w' (some B)) := Lib.hid (HPK.out w6.drew _ 6 HD6.out.d.c (HRG.out w6.drew (gcomp HG6.out (grown_of_below (Below.refl w6.heap.size w6).drew none) (fun g e => by cases e))) (by omega) (by omega) (by omega))
  have HDD := Lib.hid (show Dr2 w w6.drew B A n cp (3000 + 40 + 10) from ⟨⟨HD6.out.d.b.drew, HD6.out.d.c, HD6.out.d.r0⟩, HD6.out.r1⟩)
  have HGD := Lib.hid (gcomp HG6.out (grown_of_below (Below.refl w6.heap.size w6).drew none) (fun g e => by cases e))
  have HN7 := Lib.hid (show (some B : Option Nat) ≠ some g7 from fun e => by injection e with e; omega)
  have HN8 := Lib.hid (show (some B : Option Nat) ≠ some g8 from fun e => by injection e with e; omega)
  have HBL := Lib.hid (show B < w1.heap.size by have := HS1.out; omega)
  have hn1 : w.heap.size ≠ g7 ∧ w.heap.size ≠ g8 ∧ w.heap.size + 1 ≠ g7 ∧ w.heap.size + 1 ≠ g8 := by omega
  go_upto_region 5 with fail
  have xa := one_cell (show w6.drew.heap[g7]? = _ from HX6.out)
  have hha := four_cells (show w6.drew.heap[g8]? = _ from HY6.out)
  obtain ⟨y0a, y1a, y2a, y3a⟩ := hha
  have r0a := one_cell HDD.out.d.r0
  have rfa := one_frozen HDD.out.d.r0
  have hqa := four_cells HDD.out.r1
  obtain ⟨q0a, q1a, q2a, q3a⟩ := hqa
  have hfa := four_frozen9 HDD.out.r1
  obtain ⟨f0a, f1a, f2a, f3a⟩ := hfa
  go_region_law (first | (go_simp; go_at_call 24; (with_reducible refine HP6.out.mono ?_); rintro e w7 ⟨⟨r6, rfl, hr60, hr61⟩, hc7, hg7'⟩; have HP7 := Lib.hid (HPK.out w7 _ 24 hc7 (HRG.out w7 (gcomp HGD.out hg7' (fun g e => .inl e))) (by omega) (by omega) (by omega)); have HD7 := Lib.hid (HDD.out.step hg7' hc7 hB); have HX7 := Lib.hid (block_grown (w := w6.drew) hg7' HX6.out HN7.out); have HY7 := Lib.hid (block_grown (w := w6.drew) hg7' HY6.out HN8.out); have HO7 := Lib.hid (own_grownB (w := w6.drew) HO6.out hg7' HBL.out); have xb := one_cell HX7.out; have hhb := four_cells HY7.out; obtain ⟨y0b, y1b, y2b, y3b⟩ := hhb; have r0b := one_cell HD7.out.d.r0; have rfb := one_frozen HD7.out.d.r0; have hqb := four_cells HD7.out.r1; obtain ⟨q0b, q1b, q2b, q3b⟩ := hqb; have hfb := four_frozen9 HD7.out.r1; obtain ⟨f0b, f1b, f2b, f3b⟩ := hfb; clear hc7 hg7') | (go_simp; go_at_call 24; (with_reducible refine HP7.out.mono ?_); rintro e w8 ⟨⟨r24, rfl, hr240, hr241⟩, hc8, hg8'⟩; have HD8 := Lib.hid (HD7.out.step hg8' hc8 hB); have HX8 := Lib.hid (block_grown hg8' HX7.out HN7.out); have HY8 := Lib.hid (block_grown hg8' HY7.out HN8.out); have HO8 := Lib.hid (own_grownB HO7.out hg8' HBL.out); have xc := one_cell HX8.out; have hhc := four_cells HY8.out; obtain ⟨y0c, y1c, y2c, y3c⟩ := hhc; have r0c := one_cell HD8.out.d.r0; have rfc := one_frozen HD8.out.d.r0; have hqc := four_cells HD8.out.r1; obtain ⟨q0c, q1c, q2c, q3c⟩ := hqc; have hfc := four_frozen9 HD8.out.r1; obtain ⟨f0c, f1c, f2c, f3c⟩ := hfc; clear hc8 hg8'))
  all_goals go_wp2_with fail
  all_goals (
    have h28 := (Array.getElem?_eq_some_iff.1 HX8.out).1
    have hs1 := HS1.out
    have hg7 := HG7.out
    have hbe := HBE.out
    refine bodyPost_ret (v := .tuple #[.agg #[.slice A2 M.length c2], .agg #[.int .i64 x.arr, .int .i64 x.start, .int .i64 x.len, .int .i64 x.cap], .int .i64 i, .int .i64 (IntKind.i64.wrap (IntKind.i64.wrap (i + r6) - IntKind.i64.wrap (r24.tdiv 23)))]) (by simp [results, Tryd.results23, go_sem, r0c, q0c, q1c, q2c, q3c]) rfl ⟨M, _, x, i, _, rfl, HMB.out, HDW.out, ?_, by (repeat (first | (with_reducible exact Below.refl _ _) | (with_reducible refine Below.drew ?_) | ((with_reducible refine Below.alloc ?_ ?hB _); case hB => (first | (with_reducible exact Nat.le_refl _) | omega | (simp; done) | (simp; omega))) | ((with_reducible refine Below.setCell ?_ ?hB _); case hB => (first | (with_reducible exact Nat.le_refl _) | omega | (simp; done) | (simp; omega))))); exact HD8.out.d.b⟩
    refine OwnM.mono (lo := w1.heap.size) (hi := w2.heap.size) ?_ (by omega) (by simp; omega)
    repeat (first | (with_reducible exact HO8.out) | (with_reducible refine own_setC ?_ (.inl (by omega)))))
end Go.Proofs.YtmcabnbmjbepjaaDoor
