/-
  Growth of the program: CapsOf, MovesOf, CostOf, WorstWaste.
-/
import Derived.Test.YtiimbojcnmbebabGrV
namespace Go.Proofs.Ytiimbojcnmbebab
open Go.RowKit

theorem own_monoG {w : World} {b1 b0 n : Nat} {e : TypeId} {v : Value} {xs : List Value} (h : w.ownsRow b1 e 1 v n xs) (hb : b0 ≤ b1) : w.ownsRow b0 e 1 v n xs := by
  refine ⟨h.1, ?_⟩
  rcases h.2 with h0 | ⟨g', cap, cur, r0, hb1, r⟩
  · exact .inl h0
  · exact .inr ⟨g', cap, cur, r0, Nat.le_trans hb hb1, r⟩
theorem capsR_S (g : GR) (s : Int) (xs : List Int) : capsR g s xs = ((listS g s xs).1.map RunG.cap, (listS g s xs).2) := by
  unfold capsR
  rcases listS_all g s xs with ⟨h1, h2⟩ | ⟨L, _, _, _, h1, h2⟩
  · rw [h1, h2]; rfl
  · rw [h1, h2]
theorem numR_S (f : RunG → Int) (hf : f runG0 = 0) (g : GR) (s : Int) (xs : List Int) : numR f g s xs = (f ((listS g s xs).1.getLastD runG0), (listS g s xs).2) := by
  unfold numR
  rcases listS_all g s xs with ⟨h1, h2⟩ | ⟨L, _, _, _, h1, h2⟩
  · rw [h1, h2]; simp [List.getLastD, hf]
  · rw [h1, h2]
theorem wasteR_S (g : GR) (s : Int) (xs : List Int) : numR RunG.waste g s xs = (wasteOf 0 (listS g s xs).1, (listS g s xs).2) := by
  unfold numR
  rcases listS_all g s xs with ⟨h1, h2⟩ | ⟨L, h0, _, _, h1, h2⟩
  · rw [h1, h2]; rfl
  · rw [h1, h2]
    have := runsG_waste h0
    simp only [this]
    rfl
theorem listS_len (g : GR) (s : Int) (xs : List Int) : (listS g s xs).1.length ≤ 40 := by
  rcases listS_all g s xs with ⟨h1, h2⟩ | ⟨L, h0, _, h3, h1, h2⟩
  · rw [h1]; simp
  · rw [h1]; have := runsG_len h0; simp only; omega
theorem capsR_small (g : GR) (s : Int) (xs : List Int) : (capsR g s xs).1.length ≤ 40 := by
  rw [capsR_S]; simpa using listS_len g s xs
theorem listS_ok (g : GR) {s : Int} (hs : 0 ≤ s) (xs : List Int) (r : RunG) (hr : r ∈ (listS g s xs).1) : RunOK r 40 := by
  rcases listS_all g s xs with ⟨h1, h2⟩ | ⟨L, h0, hg, h3, h1, h2⟩
  · rw [h1] at hr; cases hr
  · rw [h1] at hr
    obtain ⟨l0, lc, c1, m0, m1, q0, q1, w0, w1⟩ := (runsG_ok hg hs runG0_ok h0).2 r hr
    exact ⟨l0, lc, c1, m0, by omega, q0, by omega, w0, w1⟩
set_option maxRecDepth 20000 in
set_option maxHeartbeats 800000 in
theorem implCapsOf_calls (g : GR) (C : Option Addr) (cn : Nat) (xs : List Int) (w : World) (hga : GArg g) (hx : Rd w w.heap.size C (intV .i64 xs)) (hn : xs.length ≤ maxLen) (hwf : ∀ x ∈ xs, (Lit.int .i64 x).wf = true) :
    Calls Try.prog 7 #[.agg #[.int .i64 g.num, .int .i64 g.den, .int .i64 g.add], .slice C xs.length cn] w fun e w' => ∃ v, e = .returned (.tuple #[v, .bool (capsR g 0 xs).2]) ∧ w'.ownsRow w.heap.size 3 1 v (capsR g 0 xs).1.length (intV .i64 (capsR g 0 xs).1) ∧ Below w.heap.size w w' := by
  obtain ⟨w0, hw0, hb0, hg0⟩ := enterG g w
  obtain ⟨a0, a1, a2⟩ := three_cells hg0
  have HW := Lib.hid hw0
  have HB1 := Lib.hid hb0
  have HC := Lib.hid (implAppStores_calls g hga C cn xs w0 ((hx.below hb0).more hb0.size) hn hwf)
  have hLl := listS_len g 0 xs
  have HOKS := Lib.hid (fun r hr => listS_ok g (Int.le_refl 0) xs r hr)
  have HV := Lib.hid (capsR_S g 0 xs)
  obtain ⟨L, hL⟩ : ∃ L, (listS g 0 xs).1 = L := ⟨_, rfl⟩
  obtain ⟨b, hbb⟩ : ∃ b, (listS g 0 xs).2 = b := ⟨_, rfl⟩
  rw [hL, hbb] at HC HV
  rw [hL] at hLl HOKS
  clear hw0 hb0 hg0 hx hwf hL hbb
  go_enter Try.func7, Try.ntmps7
  go_wp2_with fail
  rw [HW.out]
  refine HC.out.mono ?_
  rintro e w1 ⟨gs, c, rfl, hr1, hgs, hb1⟩
  have HR1 := Lib.hid (And.intro hr1 (HB1.out.trans (hb1.mono HB1.out.size)))
  clear hb1 hr1 a0 a1 a2
  have HL := Lib.hid (implCapsIn_calls gs c L w1 HR1.out.1 (by omega))
  go_wp2_with fail
  refine HL.out.mono ?_
  rintro e w2 ⟨gc, rfl, ho2, hb2⟩
  have HB2 := Lib.hid (And.intro (own_monoG ho2 HR1.out.2.size) (HR1.out.2.trans (hb2.mono HR1.out.2.size)))
  clear hb2 ho2
  go_wp2_with fail
  go_ret2
  exact ⟨_, by rw [HV.out]; rfl, by rw [HV.out]; simpa using HB2.out.1, HB2.out.2⟩
set_option maxRecDepth 20000 in
set_option maxHeartbeats 800000 in
theorem implMovesOf_calls (g : GR) (C : Option Addr) (cn : Nat) (xs : List Int) (w : World) (hga : GArg g) (hx : Rd w w.heap.size C (intV .i64 xs)) (hn : xs.length ≤ maxLen) (hwf : ∀ x ∈ xs, (Lit.int .i64 x).wf = true) :
    Calls Try.prog 10 #[.agg #[.int .i64 g.num, .int .i64 g.den, .int .i64 g.add], .slice C xs.length cn] w fun e w' => e = .returned (.tuple #[.int .i64 (numR RunG.moves g 0 xs).1, .bool (numR RunG.moves g 0 xs).2]) ∧ Below w.heap.size w w' := by
  obtain ⟨w0, hw0, hb0, hg0⟩ := enterG g w
  obtain ⟨a0, a1, a2⟩ := three_cells hg0
  have HW := Lib.hid hw0
  have HB1 := Lib.hid hb0
  have HC := Lib.hid (implAppStores_calls g hga C cn xs w0 ((hx.below hb0).more hb0.size) hn hwf)
  have hLl := listS_len g 0 xs
  have HOKS := Lib.hid (fun r hr => listS_ok g (Int.le_refl 0) xs r hr)
  have HV := Lib.hid (numR_S RunG.moves rfl g 0 xs)
  obtain ⟨L, hL⟩ : ∃ L, (listS g 0 xs).1 = L := ⟨_, rfl⟩
  obtain ⟨b, hbb⟩ : ∃ b, (listS g 0 xs).2 = b := ⟨_, rfl⟩
  rw [hL, hbb] at HC HV
  rw [hL] at hLl HOKS
  clear hw0 hb0 hg0 hx hwf hL hbb
  go_enter Try.func10, Try.ntmps10
  go_wp2_with fail
  rw [HW.out]
  refine HC.out.mono ?_
  rintro e w1 ⟨gs, c, rfl, hr1, hgs, hb1⟩
  have HR1 := Lib.hid (And.intro hr1 (HB1.out.trans (hb1.mono HB1.out.size)))
  clear hb1 hr1 a0 a1 a2
  have HL := Lib.hid (implLast_calls gs c L w1 HR1.out.1 (by omega))
  obtain ⟨rl, hrl⟩ : ∃ rl, L.getLastD runG0 = rl := ⟨_, rfl⟩
  rw [hrl] at HL HV
  clear hrl
  have hfd : ∀ W : World, (Instr.field 75 (.agg #[.int .i64 rl.len, .int .i64 rl.cap, .int .i64 rl.moves, .int .i64 rl.cost]) 2).run Try.prog W = .ok (.int .i64 rl.moves) W := fun _ => by kernel_rfl
  go_wp2_with fail
  refine HL.out.mono ?_
  rintro e w2 ⟨rfl, hb2⟩
  have HB2 := Lib.hid (HR1.out.2.trans (hb2.mono HR1.out.2.size))
  clear hb2
  go_wp2_with fail
  go_ret2
  exact ⟨by rw [HV.out]; rfl, HB2.out⟩
set_option maxRecDepth 20000 in
set_option maxHeartbeats 800000 in
theorem implCostOf_calls (g : GR) (C : Option Addr) (cn : Nat) (xs : List Int) (w : World) (hga : GArg g) (hx : Rd w w.heap.size C (intV .i64 xs)) (hn : xs.length ≤ maxLen) (hwf : ∀ x ∈ xs, (Lit.int .i64 x).wf = true) :
    Calls Try.prog 12 #[.agg #[.int .i64 g.num, .int .i64 g.den, .int .i64 g.add], .slice C xs.length cn] w fun e w' => e = .returned (.tuple #[.int .i64 (numR RunG.cost g 0 xs).1, .bool (numR RunG.cost g 0 xs).2]) ∧ Below w.heap.size w w' := by
  obtain ⟨w0, hw0, hb0, hg0⟩ := enterG g w
  obtain ⟨a0, a1, a2⟩ := three_cells hg0
  have HW := Lib.hid hw0
  have HB1 := Lib.hid hb0
  have HC := Lib.hid (implAppStores_calls g hga C cn xs w0 ((hx.below hb0).more hb0.size) hn hwf)
  have hLl := listS_len g 0 xs
  have HOKS := Lib.hid (fun r hr => listS_ok g (Int.le_refl 0) xs r hr)
  have HV := Lib.hid (numR_S RunG.cost rfl g 0 xs)
  obtain ⟨L, hL⟩ : ∃ L, (listS g 0 xs).1 = L := ⟨_, rfl⟩
  obtain ⟨b, hbb⟩ : ∃ b, (listS g 0 xs).2 = b := ⟨_, rfl⟩
  rw [hL, hbb] at HC HV
  rw [hL] at hLl HOKS
  clear hw0 hb0 hg0 hx hwf hL hbb
  go_enter Try.func12, Try.ntmps12
  go_wp2_with fail
  rw [HW.out]
  refine HC.out.mono ?_
  rintro e w1 ⟨gs, c, rfl, hr1, hgs, hb1⟩
  have HR1 := Lib.hid (And.intro hr1 (HB1.out.trans (hb1.mono HB1.out.size)))
  clear hb1 hr1 a0 a1 a2
  have HL := Lib.hid (implLast_calls gs c L w1 HR1.out.1 (by omega))
  obtain ⟨rl, hrl⟩ : ∃ rl, L.getLastD runG0 = rl := ⟨_, rfl⟩
  rw [hrl] at HL HV
  clear hrl
  have hfd : ∀ W : World, (Instr.field 75 (.agg #[.int .i64 rl.len, .int .i64 rl.cap, .int .i64 rl.moves, .int .i64 rl.cost]) 3).run Try.prog W = .ok (.int .i64 rl.cost) W := fun _ => by kernel_rfl
  go_wp2_with fail
  refine HL.out.mono ?_
  rintro e w2 ⟨rfl, hb2⟩
  have HB2 := Lib.hid (HR1.out.2.trans (hb2.mono HR1.out.2.size))
  clear hb2
  go_wp2_with fail
  go_ret2
  exact ⟨by rw [HV.out]; rfl, HB2.out⟩
set_option maxRecDepth 20000 in
set_option maxHeartbeats 800000 in
theorem implWorstWaste_calls (g : GR) (C : Option Addr) (cn : Nat) (xs : List Int) (w : World) (hga : GArg g) (hx : Rd w w.heap.size C (intV .i64 xs)) (hn : xs.length ≤ maxLen) (hwf : ∀ x ∈ xs, (Lit.int .i64 x).wf = true) :
    Calls Try.prog 14 #[.agg #[.int .i64 g.num, .int .i64 g.den, .int .i64 g.add], .slice C xs.length cn] w fun e w' => e = .returned (.tuple #[.int .i64 (numR RunG.waste g 0 xs).1, .bool (numR RunG.waste g 0 xs).2]) ∧ Below w.heap.size w w' := by
  obtain ⟨w0, hw0, hb0, hg0⟩ := enterG g w
  obtain ⟨a0, a1, a2⟩ := three_cells hg0
  have HW := Lib.hid hw0
  have HB1 := Lib.hid hb0
  have HC := Lib.hid (implAppStores_calls g hga C cn xs w0 ((hx.below hb0).more hb0.size) hn hwf)
  have hLl := listS_len g 0 xs
  have HOKS := Lib.hid (fun r hr => listS_ok g (Int.le_refl 0) xs r hr)
  have HV := Lib.hid (wasteR_S g 0 xs)
  obtain ⟨L, hL⟩ : ∃ L, (listS g 0 xs).1 = L := ⟨_, rfl⟩
  obtain ⟨b, hbb⟩ : ∃ b, (listS g 0 xs).2 = b := ⟨_, rfl⟩
  rw [hL, hbb] at HC HV
  rw [hL] at hLl HOKS
  clear hw0 hb0 hg0 hx hwf hL hbb
  go_enter Try.func14, Try.ntmps14
  go_wp2_with fail
  rw [HW.out]
  refine HC.out.mono ?_
  rintro e w1 ⟨gs, c, rfl, hr1, hgs, hb1⟩
  have HR1 := Lib.hid (And.intro hr1 (HB1.out.trans (hb1.mono HB1.out.size)))
  clear hb1 hr1 a0 a1 a2
  go_wp2_with fail
  go_loopw [8, 19] (fun sv sl wr => ∃ i : Nat, i ≤ L.length ∧ sl = .int .i64 i ∧ sv = .int .i64 (wasteOf 0 (L.take i)) ∧ Hid (RdS wr gs L ∧ Below w.heap.size w wr)) (fun _ sl _ => L.length - (intOf sl).toNat)
  case atStart => exact ⟨0, Nat.zero_le _, rfl, rfl, HR1⟩
  case round =>
    obtain ⟨i, hi, rfl, rfl, HI⟩ := hrel
    by_cases hlt : i < L.length
    · obtain ⟨b0, b1, b2, b3⟩ := HI.out.1.at_ hlt
      have hgs := HI.out.1.lt
      have HWS : Hid (wasteOf 0 (L.take (i + 1)) = max (wasteOf 0 (L.take i)) (L[i].cap - L[i].len)) := Lib.hid (by rw [List.take_succ_eq_append_getElem hlt, wasteOf_snoc])
      obtain ⟨l0, lc, c1, _⟩ := HOKS.out _ (List.getElem_mem hlt)
      have k1 : IntKind.i64.wrap (L[i].cap - L[i].len) = L[i].cap - L[i].len := IntWalk.i64_in _ (by omega)
      obtain ⟨r, hr⟩ : ∃ r, L[i] = r := ⟨_, rfl⟩
      rw [hr] at b0 b1 b2 b3 HWS k1 l0 lc c1
      obtain ⟨a, ha⟩ : ∃ a, wasteOf 0 (L.take i) = a := ⟨_, rfl⟩
      rw [ha] at HWS
      rw [ha]
      clear hr ha
      go_wp2_with fail
      all_goals go_roundw
      case' rel => exact ⟨i + 1, by omega, by go_num, by rw [HWS.out]; congr 1; omega, Lib.hid ⟨HI.out.1.below (by (repeat (first | (with_reducible exact Below.refl _ _) | (with_reducible refine Below.drew ?_) | ((with_reducible refine Below.alloc ?_ ?hB _); case hB => (first | (with_reducible exact Nat.le_refl _) | omega | (simp; done) | (simp; omega))) | ((with_reducible refine Below.setCell ?_ ?hB _); case hB => (first | (with_reducible exact Nat.le_refl _) | omega | (simp; done) | (simp; omega)))))), by have hB := HI.out.2; have hs := hB.size; (repeat (first | (with_reducible exact Below.refl _ _) | (with_reducible refine Below.drew ?_) | ((with_reducible refine Below.alloc ?_ ?hB _); case hB => (first | (with_reducible exact Nat.le_refl _) | omega | (simp; done) | (simp; omega))) | ((with_reducible refine Below.setCell ?_ ?hB _); case hB => (first | (with_reducible exact Nat.le_refl _) | omega | (simp; done) | (simp; omega))))); exact hB⟩⟩
      case' measure => simp [intOf]; omega
    · obtain rfl : i = L.length := by omega
      have HV2 := Lib.hid (show wasteOf 0 (L.take L.length) = wasteOf 0 L by rw [List.take_length])
      rw [HV2.out]
      go_wp2_with fail
      go_ret2
      exact ⟨by rw [HV.out]; rfl, HI.out.2⟩
end Go.Proofs.Ytiimbojcnmbebab
