/-
  Draws of rules.
-/
import Derived.Test.YtiimbojcnmbebabDrawM
import Derived.Test.YtiimbojcnmbebabGrA
import Derived.Test.YtiimbojcnmbebabGrQ
import Derived.Deep.RegionLaw
import Derived.Deep.DeepCutAuto
namespace Go.Proofs.Ytiimbojcnmbebab
open Go.RowKit

theorem grown_setG (w : World) (g i : Nat) (u : Value) : w.grownBy (w.setCell ⟨g, i, none⟩ u) (some g) :=
  ⟨rfl, rfl, rfl, by simp [World.size_setCell], fun k _ hk => Below.heap_setCell _ _ _ _ (fun e => hk (by rw [e]))⟩
theorem alloc_oldG {w : World} {g : Nat} {o : Obj} (x : Obj) (h : w.heap[g]? = some o) : (w.alloc x).heap[g]? = some o :=
  (((Below.refl w.heap.size w).alloc (Nat.le_refl _) x).block _ (Array.getElem?_eq_some_iff.1 h).1).trans h
theorem block_grownG {w w' : World} {row : Option Nat} {g : Nat} {o : Obj} (hg : w.grownBy w' row) (h : w.heap[g]? = some o) (hr : row ≠ some g) : w'.heap[g]? = some o :=
  (hg.block g (Array.getElem?_eq_some_iff.1 h).1 (fun e => hr e.symm)).trans h
/-- Grown steps of a cursor and of the call's own blocks, one behind the other. -/
theorem gcompG {w wx wy : World} {B : Nat} {row : Option Nat} (h : w.grownBy wx (some B)) (k : wx.grownBy wy row) (hr : ∀ g, row = some g → g = B ∨ w.heap.size ≤ g) : w.grownBy wy (some B) :=
  ⟨k.os.trans h.os, k.tape.trans h.tape, k.output.trans h.output, Nat.le_trans h.size k.size, fun j hj hne => (k.block j (Nat.lt_of_lt_of_le hj h.size) (fun e => by
    rcases hr j e.symm with h1 | h1
    · exact hne (by rw [h1])
    · omega)).trans (h.block j hj hne)⟩
/-- Behind the cursor's turns and new blocks all else is as it was; the answer's block is zero. -/
structure Fg (w wx : World) (B : Nat) (A : Option Addr) (n cp m : Nat) (gr : Nat) : Prop where
  g : w.grownBy wx (some B)
  c : Cur wx B A n cp m
  r : wx.heap[gr]? = some (.cells #[.int .i64 0, .int .i64 0, .int .i64 0] 25)
section
variable {w wx wy : World} {B : Nat} {A : Option Addr} {n cp m m' gr g i : Nat}
theorem Fg.step (h : Fg w wx B A n cp m gr) (hg : wx.grownBy wy (some B)) (hc : Cur wy B A n cp m') (hn : B ≠ gr) : Fg w wy B A n cp m' gr :=
  ⟨gcompG h.g hg (fun g e => .inl (by injection e with e; exact e.symm)), hc, block_grownG hg h.r (fun e => by injection e with e; omega)⟩
theorem Fg.alloc (h : Fg w wx B A n cp m gr) (o : Obj) : Fg w (wx.alloc o) B A n cp m gr :=
  ⟨gcompG h.g (grown_of_below ((Below.refl _ _).alloc (Nat.le_refl _) o) none) (fun g e => by cases e), h.c.kept ((Below.refl _ _).alloc (Nat.le_refl _) o), alloc_oldG _ h.r⟩
theorem Fg.set (h : Fg w wx B A n cp m gr) (u : Value) (hg : w.heap.size ≤ g) (hB : B < w.heap.size) (hn : g ≠ gr) : Fg w (wx.setCell ⟨g, i, none⟩ u) B A n cp m gr :=
  ⟨gcompG h.g (grown_setG wx g i u) (fun g' e => .inr (by injection e with e; omega)), h.c.grown (grown_setG wx g i u) (fun e => by injection e with e; omega), block_grownG (grown_setG wx g i u) h.r (fun e => by injection e with e; omega)⟩
theorem Fg.drew (h : Fg w wx B A n cp m gr) : Fg w wx.drew B A n cp m gr :=
  ⟨gcompG h.g (grown_of_below (Below.refl wx.heap.size wx).drew none) (fun g e => by cases e), h.c, h.r⟩
theorem Fg.fin (h : Fg w wx B A n cp m gr) (hg : w.heap.size ≤ gr) (hB : B < w.heap.size) (v0 v1 v2 : Value) :
    Cur (((wx.setCell ⟨gr, 0, none⟩ v0).setCell ⟨gr, 1, none⟩ v1).setCell ⟨gr, 2, none⟩ v2) B A n cp m ∧ w.grownBy (((wx.setCell ⟨gr, 0, none⟩ v0).setCell ⟨gr, 1, none⟩ v1).setCell ⟨gr, 2, none⟩ v2) (some B) := by
  have hn : some B ≠ some gr := fun e => by injection e with e; omega
  exact ⟨((h.c.grown (grown_setG _ gr 0 v0) hn).grown (grown_setG _ gr 1 v1) hn).grown (grown_setG _ gr 2 v2) hn,
    gcompG (gcompG (gcompG h.g (grown_setG _ gr 0 v0) (fun g e => .inr (by injection e with e; omega))) (grown_setG _ gr 1 v1) (fun g e => .inr (by injection e with e; omega))) (grown_setG _ gr 2 v2) (fun g e => .inr (by injection e with e; omega))⟩
end
/-- A rule of small numbers. -/
def SmG (g : GR) : Prop := (-1 ≤ g.num ∧ g.num ≤ 100) ∧ (-1 ≤ g.den ∧ g.den ≤ 100) ∧ (-1 ≤ g.add ∧ g.add ≤ 100)
theorem sm_wf {z : Int} (h1 : -1 ≤ z) (h2 : z ≤ 100) : (Lit.int .i64 z).wf = true := by
  simp [Lit.wf, IntKind.min, IntKind.max, IntKind.signed, IntKind.bits]; omega
theorem SmG.arg {g : GR} (h : SmG g) : GArg g := ⟨sm_wf h.1.1 h.1.2, sm_wf h.2.1.1 h.2.1.2, sm_wf h.2.2.1 h.2.2.2⟩
theorem set3_0 {w : World} {g : Nat} {u0 u1 u2 v : Value} {t : TypeId} (h : w.heap[g]? = some (.cells #[u0, u1, u2] t)) : (w.setCell ⟨g, 0, none⟩ v).heap[g]? = some (.cells #[v, u1, u2] t) := by
  simpa using heap_set_same w g 0 _ t v h (by simp)
theorem set3_1 {w : World} {g : Nat} {u0 u1 u2 v : Value} {t : TypeId} (h : w.heap[g]? = some (.cells #[u0, u1, u2] t)) : (w.setCell ⟨g, 1, none⟩ v).heap[g]? = some (.cells #[u0, v, u2] t) := by
  simpa using heap_set_same w g 1 _ t v h (by simp)
theorem set3_2 {w : World} {g : Nat} {u0 u1 u2 v : Value} {t : TypeId} (h : w.heap[g]? = some (.cells #[u0, u1, u2] t)) : (w.setCell ⟨g, 2, none⟩ v).heap[g]? = some (.cells #[u0, u1, v] t) := by
  simpa using heap_set_same w g 2 _ t v h (by simp)
theorem least_small (a b : Int) (W : World) : Calls Try.prog 67 #[.int .i64 a, .int .i64 b] W fun e w' => e = .returned (.int .i64 (min a b)) ∧ W = w' := by
  by_cases h : a < b
  · have hm : min a b = a := by omega
    go_enter Try.func67, Try.ntmps67
    go_wp2_with fail
    go_ret
    exact ⟨by rw [hm]; rfl, rfl⟩
  · have hm : min a b = b := by omega
    have h2 : b ≤ a := by omega
    clear h
    go_enter Try.func67, Try.ntmps67
    go_wp2_with fail
    go_ret
    exact ⟨by rw [hm]; rfl, rfl⟩
set_option maxRecDepth 100000 in
set_option maxHeartbeats 6400000 in
theorem growRule_calls (B n cp m : Nat) (A : Option Addr) (zs : List Int) (w : World) (hc : Cur w B A n cp m) (hr : Rd w B A (intV .u8 zs)) (hn : zs.length = n) (hm : n ≤ 65536) (hz : ∀ z ∈ zs, (Lit.int .u8 z).wf = true) (hlim : m ≤ 950000) :
    Calls Try.prog 38 #[.pointer (some ⟨B, 0, none⟩)] w fun e w' => ∃ g : GR, e = .returned (.agg #[.int .i64 g.num, .int .i64 g.den, .int .i64 g.add]) ∧ SmG g ∧ Cur w' B A n cp (m + 20) ∧ w.grownBy w' (some B) := by
  have hlt0 := hc.lt
  have HL := Lib.hid (fun (W : World) ts m' (hc : Cur W B A n cp m') (hr : Rd W B A (intV .u8 zs)) h0 h1 h2 q h4 => among_lit B n cp m' A zs ts W hc hr hn hm hz h0 h1 h2 q h4)
  have HPK := Lib.hid (fun (W : World) m' q (hc : Cur W B A n cp m') (hr : Rd W B A (intV .u8 zs)) h1 h2 h3 => pick_calls B n cp m' A zs q W hc hr hn hm hz h1 h2 h3)
  have HRG := Lib.hid (fun (W : World) (h : w.grownBy W (some B)) => (hr.grown h (Nat.le_of_lt hlt0) (fun g e => by injection e with e; omega) : Rd W B A (intV .u8 zs)))
  obtain ⟨w0, hw0⟩ : ∃ w0, w.alloc (.cells #[.int .i64 0, .int .i64 0, .int .i64 0] 25) = w0 := ⟨_, rfl⟩
  have hb0 : Below w.heap.size w w0 := by rw [← hw0]; exact (Below.refl _ _).alloc (Nat.le_refl _) _
  have HF0 : Hid (Fg w w0 B A n cp m w.heap.size) := Lib.hid ⟨grown_of_below hb0 (some B), hc.kept hb0, by rw [← hw0]; exact heap_alloc_new _ _⟩
  have HW := Lib.hid hw0
  have nR : B ≠ w.heap.size := by omega
  clear hz hn hc hr hb0 hw0
  go_enter Try.func38, Try.ntmps38
  go_upto_region 1 with fail
  rw [HW.out]
  have HP1 := Lib.hid (HPK.out w0 _ 4 HF0.out.c (HRG.out w0 HF0.out.g) (by omega) (by omega) (by omega))
  go_wp2_with fail
  refine HP1.out.mono ?_
  rintro e w1 ⟨⟨p, rfl, hp0, hp1⟩, hc1, hg1⟩
  have HF1 := Lib.hid (HF0.out.step hg1 hc1 nR)
  have HA1 := Lib.hid (HL.out w1 [0, 0, 1, 4, 64] _ HF1.out.c (HRG.out w1 HF1.out.g) (by omega) (by decide) (by decide) 5 rfl)
  clear hc1 hg1
  go_wp2_with fail
  refine HA1.out.mono ?_
  rintro e w2 ⟨⟨t, ht, rfl⟩, hc2, hg2⟩
  have HF2 := Lib.hid (HF1.out.step hg2 hc2 nR)
  have ht2 : 0 ≤ t ∧ t ≤ 64 := by simp at ht; omega
  obtain ⟨d, hd⟩ : ∃ d, 1 + p = d := ⟨_, rfl⟩
  have hd1 : IntKind.i64.wrap (1 + p) = d := by rw [← hd]; exact IntWalk.i64_in _ (by omega)
  have HQ3 : Hid ((w2.alloc (.cells #[.int .i64 0, .int .i64 d, .int .i64 t] 25)).heap[w2.heap.size]? = some (.cells #[.int .i64 0, .int .i64 d, .int .i64 t] 25)) := Lib.hid (heap_alloc_new _ _)
  have HF3 := Lib.hid (HF2.out.alloc (.cells #[.int .i64 0, .int .i64 d, .int .i64 t] 25))
  have hq2 : w.heap.size ≤ w2.heap.size := HF2.out.g.size
  have hq2' : w.heap.size < w2.heap.size := (Array.getElem?_eq_some_iff.1 HF2.out.r).1
  have hq3 : w2.heap.size ≠ w.heap.size := by omega
  have nQ : B ≠ w2.heap.size := by omega
  have nQ2 : some B ≠ some w2.heap.size := fun e => by injection e with e; omega
  have hd2 : 1 ≤ d ∧ d ≤ 4 := by omega
  obtain ⟨hd3, hd4⟩ := hd2
  clear hc2 hg2 ht
  go_upto_region 2 with fail
  first | rw [hd] | skip
  clear hd
  obtain ⟨w3, hw3⟩ : ∃ w3, w2.alloc (.cells #[.int .i64 0, .int .i64 d, .int .i64 t] 25) = w3 := ⟨_, rfl⟩
  rw [hw3] at HQ3 HF3
  rw [hw3]
  clear hw3 hd1
  have HP2 := Lib.hid (HPK.out w3.drew _ 5 HF3.out.drew.c (HRG.out w3.drew HF3.out.drew.g) (by omega) (by omega) (by omega))
  obtain ⟨b0, b1, b2⟩ := three_cells HQ3.out
  obtain ⟨e0, e1, e2⟩ := three_frozen HQ3.out
  go_cut [] (fun wx => ∃ q : Int, (0 ≤ q ∧ q ≤ 8) ∧ Fg w wx B A n cp (m + 2 + 2 + 2) w.heap.size ∧ wx.heap[w2.heap.size]? = some (.cells #[.int .i64 q, .int .i64 d, .int .i64 t] 25))
  case first =>
    go_region_law (first | ((try go_simp); go_at_call 66; (with_reducible refine HP2.out.mono ?_); rintro e w4 ⟨⟨p2, rfl, hp20, hp21⟩, hc4, hg4⟩; have HF4 := Lib.hid (HF3.out.drew.step hg4 hc4 nR); have HQ4 : Hid (w4.heap[w2.heap.size]? = some (.cells #[.int .i64 0, .int .i64 d, .int .i64 t] 25)) := Lib.hid (block_grownG hg4 HQ3.out nQ2); obtain ⟨x0, x1, x2⟩ := three_cells HQ4.out; obtain ⟨y0, y1, y2⟩ := three_frozen HQ4.out; have k9 : IntKind.i64.wrap (d + p2) = d + p2 := IntWalk.i64_in _ (by omega); clear hc4 hg4) | ((try go_simp); go_at_call 67; refine (least_small _ _ _).mono ?_; rintro e wz ⟨rfl, rfl⟩))
    all_goals (go_wp2_with fail)
    all_goals go_meet
    all_goals exact ⟨min (d + p2) 8, by omega, HF4.out.set _ hq2 hlt0 hq3, set3_0 HQ4.out⟩
  case rest =>
  obtain ⟨q, hq, hf5, hq5⟩ := hcut
  obtain ⟨w5, hw5⟩ : ∃ w5, w5 = wc := ⟨_, rfl⟩
  subst hw5
  have HF5 := Lib.hid hf5
  have HQ5 := Lib.hid hq5
  clear b0 b1 b2 e0 e1 e2 hf5 hq5
  have HP3 := Lib.hid (HPK.out w5 _ 50 HF5.out.c (HRG.out w5 HF5.out.g) (by omega) (by omega) (by omega))
  go_wp2_with fail
  refine HP3.out.mono ?_
  rintro e w6 ⟨⟨p3, rfl, hp30, hp31⟩, hc6, hg6⟩
  have HF6 := Lib.hid (HF5.out.step hg6 hc6 nR)
  have HQ6 := Lib.hid (block_grownG hg6 HQ5.out nQ2)
  obtain ⟨b0, b1, b2⟩ := three_cells HQ6.out
  clear hc6 hg6
  by_cases h0 : p3 = 0
  · subst h0
    have HA5 := Lib.hid (HL.out w6 [0, 9, -1] _ HF6.out.c (HRG.out w6 HF6.out.g) (by omega) (by simp) (by simp) 3 rfl)
    go_wp2_with fail
    refine HA5.out.mono ?_
    rintro e w7 ⟨⟨u, hu, rfl⟩, hc7, hg7⟩
    have hu2 : -1 ≤ u ∧ u ≤ 100 := by simp at hu; omega
    have HQ7 := Lib.hid (block_grownG hg7 HQ6.out nQ2)
    have HF7 := Lib.hid (HF6.out.step hg7 hc7 nR)
    obtain ⟨x0, x1, x2⟩ := three_cells HQ7.out
    obtain ⟨y0, y1, y2⟩ := three_frozen HQ7.out
    have HU := Lib.hid hu2
    have hqs := (Array.getElem?_eq_some_iff.1 HQ7.out).1
    clear hu hc7 hg7 hu2 b0 b1 b2
    obtain ⟨w8, hw8⟩ : ∃ w8, w7.setCell ⟨w2.heap.size, 1, none⟩ (.int .i64 u) = w8 := ⟨_, rfl⟩
    have HQ8 : Hid (w8.heap[w2.heap.size]? = some (.cells #[.int .i64 q, .int .i64 u, .int .i64 t] 25)) := Lib.hid (by rw [← hw8]; exact set3_1 HQ7.out)
    have HF8 : Hid (Fg w w8 B A n cp (m + 2 + 2 + 2 + 2 + 2) w.heap.size) := Lib.hid (by rw [← hw8]; exact HF7.out.set (.int .i64 u) hq2 hlt0 hq3)
    have HW8 := Lib.hid hw8
    clear hw8
    go_upto_region 10 with fail
    rw [HW8.out]
    clear x0 x1 x2 y0 y1 y2 hqs
    obtain ⟨x0, x1, x2⟩ := three_cells HQ8.out
    obtain ⟨r0, r1, r2⟩ := three_cells HF8.out.r
    obtain ⟨f0, f1, f2⟩ := three_frozen HF8.out.r
    have HSM : Hid (SmG ⟨q, u, t⟩) := Lib.hid ⟨⟨by simp only; omega, by simp only; omega⟩, ⟨HU.out.1, HU.out.2⟩, ⟨by simp only; omega, by simp only; omega⟩⟩
    go_wp2_with fail
    refine bodyPost_ret (v := .agg #[.int .i64 q, .int .i64 u, .int .i64 t]) (by simp [results, Try.results38, go_sem, r0, r1, r2]) rfl ?_
    have hE := HF8.out.fin (by omega) hlt0 (.int .i64 q) (.int .i64 u) (.int .i64 t)
    exact ⟨⟨q, u, t⟩, rfl, HSM.out, hE.1.more (by omega), hE.2⟩
  · have h0b : (p3 == 0) = false := by simp [h0]
    by_cases h1 : p3 = 1
    · subst h1
      clear h0 h0b
      have k8 : IntKind.i64.wrap (d - 1) = d - 1 := IntWalk.i64_in _ (by omega)
      have HA5 := Lib.hid (HL.out w6 [0, 9, d - 1] _ HF6.out.c (HRG.out w6 HF6.out.g) (by omega) (by simp) (by simp) 3 rfl)
      go_wp2_with fail
      refine HA5.out.mono ?_
      rintro e w7 ⟨⟨u, hu, rfl⟩, hc7, hg7⟩
      have hu2 : -1 ≤ u ∧ u ≤ 100 := by simp at hu; omega
      have HQ7 := Lib.hid (block_grownG hg7 HQ6.out nQ2)
      have HF7 := Lib.hid (HF6.out.step hg7 hc7 nR)
      obtain ⟨x0, x1, x2⟩ := three_cells HQ7.out
      obtain ⟨y0, y1, y2⟩ := three_frozen HQ7.out
      have HU := Lib.hid hu2
      have hqs := (Array.getElem?_eq_some_iff.1 HQ7.out).1
      clear hu hc7 hg7 hu2 b0 b1 b2
      obtain ⟨w8, hw8⟩ : ∃ w8, w7.setCell ⟨w2.heap.size, 0, none⟩ (.int .i64 u) = w8 := ⟨_, rfl⟩
      have HQ8 : Hid (w8.heap[w2.heap.size]? = some (.cells #[.int .i64 u, .int .i64 d, .int .i64 t] 25)) := Lib.hid (by rw [← hw8]; exact set3_0 HQ7.out)
      have HF8 : Hid (Fg w w8 B A n cp (m + 2 + 2 + 2 + 2 + 2) w.heap.size) := Lib.hid (by rw [← hw8]; exact HF7.out.set (.int .i64 u) hq2 hlt0 hq3)
      have HW8 := Lib.hid hw8
      clear hw8
      go_upto_region 10 with fail
      rw [HW8.out]
      clear x0 x1 x2 y0 y1 y2 hqs
      obtain ⟨x0, x1, x2⟩ := three_cells HQ8.out
      obtain ⟨r0, r1, r2⟩ := three_cells HF8.out.r
      obtain ⟨f0, f1, f2⟩ := three_frozen HF8.out.r
      have HSM : Hid (SmG ⟨u, d, t⟩) := Lib.hid ⟨⟨HU.out.1, HU.out.2⟩, ⟨by simp only; omega, by simp only; omega⟩, ⟨by simp only; omega, by simp only; omega⟩⟩
      go_wp2_with fail
      refine bodyPost_ret (v := .agg #[.int .i64 u, .int .i64 d, .int .i64 t]) (by simp [results, Try.results38, go_sem, r0, r1, r2]) rfl ?_
      have hE := HF8.out.fin (by omega) hlt0 (.int .i64 u) (.int .i64 d) (.int .i64 t)
      exact ⟨⟨u, d, t⟩, rfl, HSM.out, hE.1.more (by omega), hE.2⟩
    · have h1b : (p3 == 1) = false := by simp [h1]
      by_cases h2 : p3 = 2
      · subst h2
        clear h0 h0b h1 h1b
        have HA5 := Lib.hid (HL.out w6 [-1, 65] _ HF6.out.c (HRG.out w6 HF6.out.g) (by omega) (by simp) (by simp) 2 rfl)
        go_wp2_with fail
        refine HA5.out.mono ?_
        rintro e w7 ⟨⟨u, hu, rfl⟩, hc7, hg7⟩
        have hu2 : -1 ≤ u ∧ u ≤ 100 := by simp at hu; omega
        have HQ7 := Lib.hid (block_grownG hg7 HQ6.out nQ2)
        have HF7 := Lib.hid (HF6.out.step hg7 hc7 nR)
        obtain ⟨x0, x1, x2⟩ := three_cells HQ7.out
        obtain ⟨y0, y1, y2⟩ := three_frozen HQ7.out
        have HU := Lib.hid hu2
        have hqs := (Array.getElem?_eq_some_iff.1 HQ7.out).1
        clear hu hc7 hg7 hu2 b0 b1 b2
        obtain ⟨w8, hw8⟩ : ∃ w8, w7.setCell ⟨w2.heap.size, 2, none⟩ (.int .i64 u) = w8 := ⟨_, rfl⟩
        have HQ8 : Hid (w8.heap[w2.heap.size]? = some (.cells #[.int .i64 q, .int .i64 d, .int .i64 u] 25)) := Lib.hid (by rw [← hw8]; exact set3_2 HQ7.out)
        have HF8 : Hid (Fg w w8 B A n cp (m + 2 + 2 + 2 + 2 + 2) w.heap.size) := Lib.hid (by rw [← hw8]; exact HF7.out.set (.int .i64 u) hq2 hlt0 hq3)
        have HW8 := Lib.hid hw8
        clear hw8
        go_upto_region 10 with fail
        rw [HW8.out]
        clear x0 x1 x2 y0 y1 y2 hqs
        obtain ⟨x0, x1, x2⟩ := three_cells HQ8.out
        obtain ⟨r0, r1, r2⟩ := three_cells HF8.out.r
        obtain ⟨f0, f1, f2⟩ := three_frozen HF8.out.r
        have HSM : Hid (SmG ⟨q, d, u⟩) := Lib.hid ⟨⟨by simp only; omega, by simp only; omega⟩, ⟨by simp only; omega, by simp only; omega⟩, ⟨HU.out.1, HU.out.2⟩⟩
        go_wp2_with fail
        refine bodyPost_ret (v := .agg #[.int .i64 q, .int .i64 d, .int .i64 u]) (by simp [results, Try.results38, go_sem, r0, r1, r2]) rfl ?_
        have hE := HF8.out.fin (by omega) hlt0 (.int .i64 q) (.int .i64 d) (.int .i64 u)
        exact ⟨⟨q, d, u⟩, rfl, HSM.out, hE.1.more (by omega), hE.2⟩
      · have h2b : (p3 == 2) = false := by simp [h2]
        clear h0 h1 h2
        obtain ⟨r0, r1, r2⟩ := three_cells HF6.out.r
        obtain ⟨f0, f1, f2⟩ := three_frozen HF6.out.r
        have HSM : Hid (SmG ⟨q, d, t⟩) := Lib.hid ⟨⟨by simp only; omega, by simp only; omega⟩, ⟨by simp only; omega, by simp only; omega⟩, ⟨by simp only; omega, by simp only; omega⟩⟩
        go_wp2_with fail
        refine bodyPost_ret (v := .agg #[.int .i64 q, .int .i64 d, .int .i64 t]) (by simp [results, Try.results38, go_sem, r0, r1, r2]) rfl ?_
        have hE := HF6.out.fin (by omega) hlt0 (.int .i64 q) (.int .i64 d) (.int .i64 t)
        exact ⟨⟨q, d, t⟩, rfl, HSM.out, hE.1.more (by omega), hE.2⟩
end Go.Proofs.Ytiimbojcnmbebab
