/-
  Growth of the program: bytes one by one.
-/
import Derived.Test.YtiimbojcnmbebabGrV2
import Derived.Test.YtiimbojcnmbebabGrQ2
import Derived.Test.YtiimbojcnmbebabShelf
import Derived.Laws.CopyOwn
import Derived.Deep.RegionLaw
import Derived.Deep.RegionHeld3
namespace Go.Proofs.Ytiimbojcnmbebab
open Go.RowKit

theorem mul_one_calls (k : Nat) (hk : k ≤ 2000) (w : World) :
    Calls Try.prog 87 #[.int .u64 1, .int .u64 k] w fun e w' => e = .returned (.tuple #[.int .u64 0, .int .u64 k]) ∧ w' = w := by
  have h := Go.Proofs.Try.bits_Mul 1 k (by omega) (by omega) w
  rw [show 1 * k / 18446744073709551616 = 0 by omega, show 1 * k % 18446744073709551616 = k by omega] at h
  exact h
/-- A block of k ints, the first n of them 1. -/
def RP (wr : World) (gr k n : Nat) : Prop := ∃ cur : List Value, wr.heap[gr]? = some (.cells cur.toArray 3) ∧ cur.length = k ∧ ∀ j, j < n → cur[j]? = some (.int .i64 1)
theorem RP.next {k n m : Nat} {cur : List Value} (hl : cur.length = k) (hc : ∀ j, j < n → cur[j]? = some (.int .i64 1)) (hm : n + m ≤ k) :
    (splice cur n (List.replicate m (.int .i64 1))).length = k ∧ ∀ j, j < n + m → (splice cur n (List.replicate m (.int .i64 1)))[j]? = some (Value.int .i64 1) := by
  refine ⟨by rw [length_splice _ _ _ (by simp; omega), hl], fun j hj => ?_⟩
  unfold splice
  rcases Nat.lt_or_ge j n with h | h
  · rw [List.getElem?_append_left (by simp; omega), List.getElem?_take, if_pos h]; exact hc j h
  · rw [List.getElem?_append_right (by simp; omega), List.length_take, Nat.min_eq_left (by omega), List.getElem?_append_left (by simp; omega), List.getElem?_replicate, if_pos (by omega)]
theorem RP.cells {wr : World} {gr : Nat} {cur : List Value} {n m : Nat} (h : wr.heap[gr]? = some (.cells cur.toArray 3)) (hc : ∀ j, j < n → cur[j]? = some (.int .i64 1)) (hm : m ≤ n) :
    ∀ (j : Nat) (v : Value), (List.replicate m (Value.int .i64 1))[j]? = some v → wr.cell? ((⟨gr, 0, none⟩ : Addr).add j) = some v := by
  intro j v hv
  rw [List.getElem?_replicate] at hv
  split at hv
  · rename_i hj
    have := hc j (by omega)
    rw [← hv]
    by_cases h0 : j = 0
    · subst h0
      simp [Addr.add, World.cell?, h, this]
    · simp [Addr.add, World.cell?, h, this, h0]
  · cases hv
theorem one_rep (m : Nat) : ∀ v ∈ List.replicate m (Value.int .i64 1), v.oneCell' = true := by
  intro v hv
  rw [(List.mem_replicate.1 hv).2]; rfl
set_option maxRecDepth 20000 in
set_option maxHeartbeats 1600000 in
theorem repeat_calls (a k : Nat) (hk : k ≤ 2000) (w : World) (ha : w.heap[a]? = some (.cells #[.int .i64 1] 3)) :
    Calls Try.prog 72 #[.slice (some ⟨a, 0, none⟩) 1 1, .int .i64 k] w fun e w' => ∃ gr, e = .returned (.slice (some ⟨gr, 0, none⟩) k k) ∧ RP w' gr k k ∧ w.heap.size ≤ gr ∧ Below w.heap.size w w' := by
  obtain ⟨mk, hmk⟩ := make_ints k hk
  have hrun := fun W => (hmk W).1
  have hal := (Array.getElem?_eq_some_iff.1 ha).1
  have HM := Lib.hid (fun W => mul_one_calls k hk W)
  have hsz1 : (Try.prog.info? 3).map (·.size) = some 1 := by kernel_rfl
  have k1 : IntKind.u64.wrap (k : Int) = k := IntWalk.u64_in _ (by omega)
  have k2 : IntKind.i64.wrap (k : Int) = k := IntWalk.i64_in _ (by omega)
  have k3 : ¬ (9223372036854775807 : Int) < k := by omega
  obtain ⟨cur, hcur, hcl, hb1⟩ : ∃ cur : List Value, (mk w).heap[w.heap.size]? = some (.cells cur.toArray 3) ∧ cur.length = k ∧ Below w.heap.size w (mk w) := by
    obtain ⟨c, h1, h2⟩ := (hmk w).2.1
    exact ⟨c.toList, by simpa using h1, by simpa using h2, (hmk w).2.2⟩
  obtain ⟨w1, hw1⟩ : ∃ w1, mk w = w1 := ⟨_, rfl⟩
  rw [hw1] at hcur hb1
  have HC := Lib.hid hcur
  have HB1 := Lib.hid hb1
  have HW1 := Lib.hid hw1
  have hge : 0 ≤ (k : Int) := by omega
  have ha1 : w1.heap[a]? = some (.cells #[.int .i64 1] 3) := (hb1.block _ hal).trans ha
  obtain ⟨n0, hn0⟩ : ∃ n0, n0 = min 1 k := ⟨_, rfl⟩
  have hsrc0 : ∀ (j : Nat) (v : Value), (List.replicate n0 (Value.int .i64 1))[j]? = some v → w1.cell? ((⟨a, 0, none⟩ : Addr).add j) = some v := by
    intro j v hv
    rw [List.getElem?_replicate] at hv
    split at hv
    · rename_i hj
      have hj0 : j = 0 := by omega
      subst hj0
      rw [← hv]
      simp [Addr.add, World.cell?, ha1]
    · cases hv
  have HSRC := Lib.hid hsrc0
  clear hsrc0
  have HNX := Lib.hid (RP.next (n := 0) (m := n0) hcl (fun j hj => absurd hj (Nat.not_lt_zero _)) (by omega))
  have HN0 := Lib.hid hn0
  clear hcur hb1 hw1 ha1 hn0 ha
  go_enter Try.func72, Try.ntmps72
  go_wp2_with fail
  refine (HM.out _).mono ?_
  rintro e w2 ⟨rfl, hw2⟩
  rw [hw2]
  clear hw2
  go_upto_region 7 with fail
  rw [HW1.out]
  clear hrun hmk
  go_wp2_with ((refine wpList_copy_splice rfl _ _ 26 26 rfl 3 Try.underlying26 hsz1 _ _ k k 1 1 rfl rfl w.heap.size 0 cur 3 HC.out (List.replicate n0 (.int .i64 1)) (by rw [List.length_replicate]; have := HN0.out; simpa using this) (fun _ => ⟨rfl, _, rfl, HSRC.out⟩) (by rw [List.length_replicate]; have := HN0.out; omega) (one_rep n0) w.heap.size w HB1.out (Nat.le_refl _) ?_; intro w3 hg3 hb3; have HR3 : Hid (RP w3 w.heap.size k n0 ∧ Below w.heap.size w w3) := Lib.hid ⟨⟨_, hg3, HNX.out.1, fun j hj => HNX.out.2 j (by omega)⟩, hb3⟩; clear hg3 hb3; rw [List.length_replicate]))
  have hn1 : n0 ≤ k ∧ (0 < n0 ∨ k = 0) := by have := HN0.out; omega
  go_wp2_with fail
  go_loopw [8] (fun sl wr => ∃ n : Nat, n ≤ k ∧ (0 < n ∨ k = 0) ∧ sl = .int .i64 n ∧ Hid (RP wr w.heap.size k n ∧ Below w.heap.size w wr)) (fun sl _ => k - (intOf sl).toNat)
  case atStart => exact ⟨n0, hn1.1, hn1.2, by go_num, HR3⟩
  case round =>
    obtain ⟨n, hnk, hnp, rfl, HI⟩ := hrel
    by_cases hlt : n < k
    · obtain ⟨cu, h1, h2, h3⟩ := HI.out.1
      have hn1 : 0 < n := by omega
      obtain ⟨m, hm⟩ : ∃ m, m = min n (k - n) := ⟨_, rfl⟩
      have hm1 : m ≤ n ∧ n + m ≤ k ∧ 0 < m := by omega
      obtain ⟨hm2, hm3, hm4⟩ := hm1
      have HM1 := Lib.hid hm
      have HH := Lib.hid h1
      have HSR := Lib.hid (RP.cells h1 h3 hm2)
      have HNX2 := Lib.hid (RP.next h2 h3 hm3)
      have HL2 := Lib.hid h2
      clear h1 h2 h3 hm
      go_upto_region 9 with fail
      have kn : IntKind.i64.wrap ((n : Int) + (m : Int)) = n + m := IntWalk.i64_in _ (by omega)
      have HM3 := Lib.hid (show n + m ≤ k ∧ 0 < m by omega)
      go_region_law (refine step_copy_splice rfl (.tmp 41) (.tmp 44) 26 26 rfl 3 Try.underlying26 hsz1 (some ⟨w.heap.size, n, none⟩) (some ⟨w.heap.size, 0, none⟩) (k - n) (k - n) n k (by simp [Act.eval, Act.put]; try omega) (by simp [Act.eval, Act.put]; try omega) w.heap.size n cu 3 HH.out (List.replicate m (.int .i64 1)) (by rw [List.length_replicate]; exact HM1.out) (fun _ => ⟨rfl, _, rfl, HSR.out⟩) (by rw [List.length_replicate, HL2.out]; omega) (one_rep m) w.heap.size w HI.out.2.drew (Nat.le_refl _) ?_; intro w4 hg4 hb4; have HR4 : Hid (RP w4 w.heap.size k (n + m) ∧ Below w.heap.size w w4) := Lib.hid ⟨⟨_, hg4, HNX2.out.1, HNX2.out.2⟩, hb4⟩; clear hg4 hb4; rw [List.length_replicate])
      all_goals (go_wp2_with fail)
      all_goals go_roundw
      case' rel => exact ⟨n + m, HM3.out.1, .inl (by have := HM3.out; omega), by go_num, HR4⟩
      case' measure => have := HM3.out; simp [intOf]; omega
    · obtain rfl : n = k := by omega
      go_wp2_with fail
      go_ret
      exact ⟨_, rfl, HI.out.1, Nat.le_refl _, HI.out.2⟩
theorem RP.rd {w : World} {gr k : Nat} (h : RP w gr k k) : Rd w w.heap.size (some ⟨gr, 0, none⟩) (intV .i64 (List.replicate k 1)) := by
  obtain ⟨cur, h1, h2, h3⟩ := h
  refine .inr ⟨gr, 0, rfl, (Array.getElem?_eq_some_iff.1 h1).1, fun i u hu => ?_⟩
  rw [show intV .i64 (List.replicate k 1) = List.replicate k (Value.int .i64 1) by simp [intV], List.getElem?_replicate] at hu
  split at hu
  · rename_i hi
    rw [Nat.zero_add, ← hu]
    simp [World.cell?, h1, h3 i hi]
  · cases hu
/-- The runs of bytes one by one. -/
def singS (g : GR) (k : Int) : List RunG × Bool := if 0 ≤ k ∧ k ≤ 2000 then storesR g 0 (List.replicate k.toNat 1) else ([], false)
theorem singS_len (g : GR) (k : Int) : (singS g k).1.length ≤ 2000 := by
  unfold singS storesR
  split
  · rename_i hk
    cases h : runsG g 0 runG0 (List.replicate k.toNat 1) with
    | none => simp
    | some L =>
      have := runsG_len h
      rw [List.length_replicate] at this
      simp only
      split
      · simp only; omega
      · simp
  · simp
theorem singR_S (g : GR) (k : Int) : singR g k = ((singS g k).1.getLastD runG0, (singS g k).2) := by
  unfold singR singS singG storesR
  by_cases hk : 0 ≤ k ∧ k ≤ 2000
  · by_cases hg : g.OK
    · rw [if_pos ⟨hg, hk⟩, if_pos hk, allG_runs]
      cases h : runsG g 0 runG0 (List.replicate k.toNat 1) with
      | none => rfl
      | some L => simp [hg]
    · rw [if_neg (fun h => hg h.1), if_pos hk]
      cases h : runsG g 0 runG0 (List.replicate k.toNat 1) with
      | none => rfl
      | some L => simp [hg]
  · rw [if_neg (fun h => hk h.2), if_neg hk]
    rfl
theorem keep_newY {w5 w6 : World} {o : Obj} (hb : Below (w5.alloc o).drew.heap.size (w5.alloc o).drew w6) : Below w5.heap.size w5 w6 :=
  ((Below.refl _ _).alloc (Nat.le_refl _) o).drew.trans (hb.mono (by simp))
set_option maxRecDepth 20000 in
set_option maxHeartbeats 1600000 in
theorem implSingStores_calls (g : GR) (k : Int) (w : World) (hga : GArg g) (_hk : (Lit.int .i64 k).wf = true) :
    Calls Try.prog 45 #[.agg #[.int .i64 g.num, .int .i64 g.den, .int .i64 g.add], .int .i64 k] w
      fun e w' => ∃ gs c, e = .returned (.tuple #[.slice (some ⟨gs, 0, none⟩) (singS g k).1.length c, .bool (singS g k).2]) ∧ RdS w' gs (singS g k).1 ∧ w.heap.size ≤ gs ∧ Below w.heap.size w w' := by
  obtain ⟨w0, hw0, hb0, hg0⟩ := enterG g w
  have HA : Hid (∀ W, Below w0.heap.size w0 W → (fun W => W.cell? ⟨w.heap.size, 0, none⟩ = some (.int .i64 g.num) ∧ W.cell? ⟨w.heap.size, 1, none⟩ = some (.int .i64 g.den) ∧ W.cell? ⟨w.heap.size, 2, none⟩ = some (.int .i64 g.add)) W) := Lib.hid fun W hb => three_cells ((hb.block _ (Array.getElem?_eq_some_iff.1 hg0).1).trans hg0)
  have HW := Lib.hid hw0
  have HB1 := Lib.hid hb0
  have hs0 : w.heap.size < w0.heap.size := (Array.getElem?_eq_some_iff.1 hg0).1
  clear hw0 hb0 hg0
  by_cases hk : 0 ≤ k ∧ k ≤ 2000
  · obtain ⟨n, rfl⟩ : ∃ n : Nat, k = n := ⟨k.toNat, by omega⟩
    have hn : n ≤ 2000 := by omega
    have HN : Hid (singS g n = storesR g 0 (List.replicate n 1)) := Lib.hid (by unfold singS; rw [if_pos hk]; rfl)
    have HST : Hid (∀ (W : World) (gr : Nat), Below w0.heap.size w0 W → RP W gr n n → Calls Try.prog 69 #[.agg #[.int .i64 g.num, .int .i64 g.den, .int .i64 g.add], .func (.func 48) #[] #[], .slice (some ⟨gr, 0, none⟩) n n] W
        fun e w' => ∃ gs c, e = .returned (.tuple #[.slice (some ⟨gs, 0, none⟩) (storesR g 0 (List.replicate n 1)).1.length c, .bool (storesR g 0 (List.replicate n 1)).2]) ∧ RdS w' gs (storesR g 0 (List.replicate n 1)).1 ∧ W.heap.size ≤ gs ∧ Below W.heap.size W w') := Lib.hid (fun W gr h1 h2 => by
      have hq := implStores_calls g hga (some ⟨gr, 0, none⟩) n (List.replicate n 1) W h2.rd (by rw [List.length_replicate]; omega) (fun x hx => by rw [(List.mem_replicate.1 hx).2]; decide) (fun hg r kk n W _ hr hk hw => implAppend_calls g hg r kk hr hk n hw W)
      rw [List.length_replicate] at hq
      exact hq)
    have HRP := Lib.hid (fun (W : World) (a : Nat) (h : W.heap[a]? = some (.cells #[.int .i64 1] 3)) => repeat_calls a n hn W h)
    obtain ⟨k1, k2⟩ := hk
    go_enter Try.func45, Try.ntmps45
    go_upto_region 3 with fail
    rw [HW.out]
    obtain ⟨a0, a1, a2⟩ := HA.out w0.drew (Below.refl _ _).drew
    have h84 : (w0.alloc (.cells #[.int .i64 1] 3)).drew.heap[w0.heap.size]? = some (.cells #[.int .i64 1] 3) := heap_alloc_new w0 _
    go_region_held3 (fun W => W.cell? ⟨w.heap.size, 0, none⟩ = some (.int .i64 g.num) ∧ W.cell? ⟨w.heap.size, 1, none⟩ = some (.int .i64 g.den) ∧ W.cell? ⟨w.heap.size, 2, none⟩ = some (.int .i64 g.add))
      (first | (with_reducible exact ⟨a0, a1, a2⟩) | (exact HA.out _ hc3) | (exact HA.out _ hc2) | (exact HA.out _ (by (repeat (first | (with_reducible exact Below.refl _ _) | (with_reducible refine Below.drew ?_) | ((with_reducible refine Below.alloc ?_ ?hB _); case hB => (first | (with_reducible exact Nat.le_refl _) | omega | (simp; done) | (simp; omega))) | ((with_reducible refine Below.setCell ?_ ?hB _); case hB => (first | (with_reducible exact Nat.le_refl _) | omega | (simp; done) | (simp; omega))))))))
      (first | (go_at_call 72; (with_reducible refine (HRP.out (w0.alloc (.cells #[.int .i64 1] 3)).drew w0.heap.size h84).mono ?_); rintro e w2 ⟨gr, rfl, hr2, hgr, hb2⟩; have hc2 : Below w0.heap.size w0 w2 := keep_newY hb2) | (go_at_call 69; (with_reducible refine (HST.out w2 gr hc2 hr2).mono ?_); rintro e w3 ⟨gs, c, rfl, hr3, hgs, hb3⟩; have hc3 : Below w0.heap.size w0 w3 := hc2.trans (hb3.mono hc2.size)))
    all_goals (go_wp2_with fail)
    all_goals go_ret2
    all_goals exact ⟨gs, c, by rw [HN.out]; rfl, by rw [HN.out]; exact hr3, by have := hc2.size; omega, HB1.out.trans (hc3.mono HB1.out.size)⟩
  · have HN : Hid (singS g k = ([], false)) := Lib.hid (by unfold singS; exact if_neg hk)
    by_cases k1 : k < 0
    · clear hk
      go_enter Try.func45, Try.ntmps45
      go_upto_region 1 with fail
      rw [HW.out]
      go_wp2_with fail
      go_ret2
      first | (exact ⟨_, _, by rw [HN.out]; rfl, by rw [HN.out]; exact ⟨#[], heap_new_at (by first | (simp; done) | rfl), fun j hj => absurd hj (Nat.not_lt_zero _)⟩, by have := HB1.out.size; first | omega | (simp; omega), by have hB := HB1.out; have hs := hB.size; (repeat (first | (with_reducible exact Below.refl _ _) | (with_reducible refine Below.drew ?_) | ((with_reducible refine Below.alloc ?_ ?hB _); case hB => (first | (with_reducible exact Nat.le_refl _) | omega | (simp; done) | (simp; omega))) | ((with_reducible refine Below.setCell ?_ ?hB _); case hB => (first | (with_reducible exact Nat.le_refl _) | omega | (simp; done) | (simp; omega))))); exact hB⟩) | (exact ⟨_, ⟨_, by rw [HN.out]; rfl⟩, by rw [HN.out]; exact ⟨#[], heap_new_at (by first | (simp; done) | rfl), fun j hj => absurd hj (Nat.not_lt_zero _)⟩, by have := HB1.out.size; first | omega | (simp; omega), by have hB := HB1.out; have hs := hB.size; (repeat (first | (with_reducible exact Below.refl _ _) | (with_reducible refine Below.drew ?_) | ((with_reducible refine Below.alloc ?_ ?hB _); case hB => (first | (with_reducible exact Nat.le_refl _) | omega | (simp; done) | (simp; omega))) | ((with_reducible refine Below.setCell ?_ ?hB _); case hB => (first | (with_reducible exact Nat.le_refl _) | omega | (simp; done) | (simp; omega))))); exact hB⟩)
    · have k2 : 2000 < k := by omega
      clear hk
      go_enter Try.func45, Try.ntmps45
      go_upto_region 1 with fail
      rw [HW.out]
      go_wp2_with fail
      go_ret2
      first | (exact ⟨_, _, by rw [HN.out]; rfl, by rw [HN.out]; exact ⟨#[], heap_new_at (by first | (simp; done) | rfl), fun j hj => absurd hj (Nat.not_lt_zero _)⟩, by have := HB1.out.size; first | omega | (simp; omega), by have hB := HB1.out; have hs := hB.size; (repeat (first | (with_reducible exact Below.refl _ _) | (with_reducible refine Below.drew ?_) | ((with_reducible refine Below.alloc ?_ ?hB _); case hB => (first | (with_reducible exact Nat.le_refl _) | omega | (simp; done) | (simp; omega))) | ((with_reducible refine Below.setCell ?_ ?hB _); case hB => (first | (with_reducible exact Nat.le_refl _) | omega | (simp; done) | (simp; omega))))); exact hB⟩) | (exact ⟨_, ⟨_, by rw [HN.out]; rfl⟩, by rw [HN.out]; exact ⟨#[], heap_new_at (by first | (simp; done) | rfl), fun j hj => absurd hj (Nat.not_lt_zero _)⟩, by have := HB1.out.size; first | omega | (simp; omega), by have hB := HB1.out; have hs := hB.size; (repeat (first | (with_reducible exact Below.refl _ _) | (with_reducible refine Below.drew ?_) | ((with_reducible refine Below.alloc ?_ ?hB _); case hB => (first | (with_reducible exact Nat.le_refl _) | omega | (simp; done) | (simp; omega))) | ((with_reducible refine Below.setCell ?_ ?hB _); case hB => (first | (with_reducible exact Nat.le_refl _) | omega | (simp; done) | (simp; omega))))); exact hB⟩)
set_option maxRecDepth 20000 in
set_option maxHeartbeats 800000 in
theorem implSingleCost_calls (g : GR) (k : Int) (w : World) (hga : GArg g) (hk : (Lit.int .i64 k).wf = true) :
    Calls Try.prog 17 #[.agg #[.int .i64 g.num, .int .i64 g.den, .int .i64 g.add], .int .i64 k] w fun e w' => e = .returned (.tuple #[.int .i64 (singR g k).1.cost, .bool (singR g k).2]) ∧ Below w.heap.size w w' := by
  obtain ⟨w0, hw0, hb0, hg0⟩ := enterG g w
  obtain ⟨a0, a1, a2⟩ := three_cells hg0
  have HW := Lib.hid hw0
  have HB1 := Lib.hid hb0
  have HC := Lib.hid (implSingStores_calls g k w0 hga hk)
  have hLl := singS_len g k
  have HV := Lib.hid (singR_S g k)
  obtain ⟨L, hL⟩ : ∃ L, (singS g k).1 = L := ⟨_, rfl⟩
  obtain ⟨b, hbb⟩ : ∃ b, (singS g k).2 = b := ⟨_, rfl⟩
  rw [hL, hbb] at HC HV
  rw [hL] at hLl
  clear hw0 hb0 hg0 hL hbb
  go_enter Try.func17, Try.ntmps17
  go_wp2_with fail
  rw [HW.out]
  refine HC.out.mono ?_
  rintro e w1 ⟨gs, c, rfl, hr1, hgs, hb1⟩
  have HR1 := Lib.hid (And.intro hr1 (HB1.out.trans (hb1.mono HB1.out.size)))
  clear hb1 hr1 a0 a1 a2
  have HL := Lib.hid (implLast_calls gs c L w1 HR1.out.1 (by omega))
  obtain ⟨rl, hrl⟩ : ∃ rl, L.getLastD runG0 = rl := ⟨_, rfl⟩
  rw [hrl] at HL HV
  clear hrl
  have hfd : ∀ W : World, (Instr.field 75 (.agg #[.int .i64 rl.len, .int .i64 rl.cap, .int .i64 rl.moves, .int .i64 rl.cost]) 3).run Try.prog W = .ok (.int .i64 rl.cost) W := fun _ => by kernel_rfl
  go_wp2_with fail
  refine HL.out.mono ?_
  rintro e w2 ⟨rfl, hb2⟩
  have HB2 := Lib.hid (HR1.out.2.trans (hb2.mono HR1.out.2.size))
  clear hb2
  go_wp2_with fail
  go_ret2
  exact ⟨by rw [HV.out]; rfl, HB2.out⟩
set_option maxRecDepth 20000 in
set_option maxHeartbeats 800000 in
theorem implSingleMoves_calls (g : GR) (k : Int) (w : World) (hga : GArg g) (hk : (Lit.int .i64 k).wf = true) :
    Calls Try.prog 19 #[.agg #[.int .i64 g.num, .int .i64 g.den, .int .i64 g.add], .int .i64 k] w fun e w' => e = .returned (.tuple #[.int .i64 (singR g k).1.moves, .bool (singR g k).2]) ∧ Below w.heap.size w w' := by
  obtain ⟨w0, hw0, hb0, hg0⟩ := enterG g w
  obtain ⟨a0, a1, a2⟩ := three_cells hg0
  have HW := Lib.hid hw0
  have HB1 := Lib.hid hb0
  have HC := Lib.hid (implSingStores_calls g k w0 hga hk)
  have hLl := singS_len g k
  have HV := Lib.hid (singR_S g k)
  obtain ⟨L, hL⟩ : ∃ L, (singS g k).1 = L := ⟨_, rfl⟩
  obtain ⟨b, hbb⟩ : ∃ b, (singS g k).2 = b := ⟨_, rfl⟩
  rw [hL, hbb] at HC HV
  rw [hL] at hLl
  clear hw0 hb0 hg0 hL hbb
  go_enter Try.func19, Try.ntmps19
  go_wp2_with fail
  rw [HW.out]
  refine HC.out.mono ?_
  rintro e w1 ⟨gs, c, rfl, hr1, hgs, hb1⟩
  have HR1 := Lib.hid (And.intro hr1 (HB1.out.trans (hb1.mono HB1.out.size)))
  clear hb1 hr1 a0 a1 a2
  have HL := Lib.hid (implLast_calls gs c L w1 HR1.out.1 (by omega))
  obtain ⟨rl, hrl⟩ : ∃ rl, L.getLastD runG0 = rl := ⟨_, rfl⟩
  rw [hrl] at HL HV
  clear hrl
  have hfd : ∀ W : World, (Instr.field 75 (.agg #[.int .i64 rl.len, .int .i64 rl.cap, .int .i64 rl.moves, .int .i64 rl.cost]) 2).run Try.prog W = .ok (.int .i64 rl.moves) W := fun _ => by kernel_rfl
  go_wp2_with fail
  refine HL.out.mono ?_
  rintro e w2 ⟨rfl, hb2⟩
  have HB2 := Lib.hid (HR1.out.2.trans (hb2.mono HR1.out.2.size))
  clear hb2
  go_wp2_with fail
  go_ret2
  exact ⟨by rw [HV.out]; rfl, HB2.out⟩
end Go.Proofs.Ytiimbojcnmbebab
