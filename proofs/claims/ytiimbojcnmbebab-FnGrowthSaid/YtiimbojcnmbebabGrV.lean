/-
  Growth of the program: the stores of a list of appends, their caps, the last one.
-/
import Derived.Test.YtiimbojcnmbebabGrU
namespace Go.Proofs.Ytiimbojcnmbebab
open Go.RowKit

set_option maxHeartbeats 800000 in
theorem implAppStores_calls (g : GR) (hga : GArg g) (C : Option Addr) (cn : Nat) (xs : List Int) (w : World) (hx : Rd w w.heap.size C (intV .i64 xs)) (hn : xs.length ≤ maxLen) (hwf : ∀ x ∈ xs, (Lit.int .i64 x).wf = true) :
    Calls Try.prog 40 #[.agg #[.int .i64 g.num, .int .i64 g.den, .int .i64 g.add], .slice C xs.length cn] w
      fun e w' => ∃ gs c, e = .returned (.tuple #[.slice (some ⟨gs, 0, none⟩) (listS g 0 xs).1.length c, .bool (listS g 0 xs).2]) ∧ RdS w' gs (listS g 0 xs).1 ∧ w.heap.size ≤ gs ∧ Below w.heap.size w w' := by
  unfold maxLen at hn
  obtain ⟨w0, hw0, hb0, hg0⟩ := enterG g w
  obtain ⟨a0, a1, a2⟩ := three_cells hg0
  have HW := Lib.hid hw0
  have HB1 := Lib.hid hb0
  have HX := Lib.hid hx
  have HWF := Lib.hid hwf
  have hs0 : w.heap.size < w0.heap.size := (Array.getElem?_eq_some_iff.1 hg0).1
  clear hw0 hb0 hg0 hx hwf
  by_cases h40 : xs.length ≤ 40
  · have HN : Hid (listS g 0 xs = storesR g 0 xs) := Lib.hid (if_pos h40)
    have HC := Lib.hid (implStores_calls g hga C cn xs w0 ((HX.out.below HB1.out).more HB1.out.size) (by omega) HWF.out (fun hg r kk n W _ hr hk hw => implAppend_calls g hg r kk hr hk n hw W))
    go_enter Try.func40, Try.ntmps40
    go_wp2_with fail
    rw [HW.out]
    refine HC.out.mono ?_
    rintro e w1 ⟨gs, c, rfl, hr1, hgs, hb1⟩
    have HR1 := Lib.hid (And.intro hr1 (HB1.out.trans (hb1.mono HB1.out.size)))
    clear hb1 hr1
    go_wp2_with fail
    go_ret2
    exact ⟨gs, c, by rw [HN.out]; rfl, by rw [HN.out]; exact HR1.out.1, by omega, HR1.out.2⟩
  · have HN : Hid (listS g 0 xs = ([], false)) := Lib.hid (if_neg h40)
    have h41 : 40 < xs.length := by omega
    clear h40
    go_enter Try.func40, Try.ntmps40
    go_upto_region 1 with fail
    rw [HW.out]
    go_wp2_with fail
    go_ret2
    exact ⟨_, _, by rw [HN.out]; rfl, by rw [HN.out]; exact ⟨#[], heap_new_at (by first | (simp; done) | rfl), fun j hj => absurd hj (Nat.not_lt_zero _)⟩, by have := HB1.out.size; first | omega | (simp; omega), by have hB := HB1.out; have hs := hB.size; (repeat (first | (with_reducible exact Below.refl _ _) | (with_reducible refine Below.drew ?_) | ((with_reducible refine Below.alloc ?_ ?hB _); case hB => (first | (with_reducible exact Nat.le_refl _) | omega | (simp; done) | (simp; omega))) | ((with_reducible refine Below.setCell ?_ ?hB _); case hB => (first | (with_reducible exact Nat.le_refl _) | omega | (simp; done) | (simp; omega))))); exact hB⟩
theorem info_intV : (Try.prog.info? 3).map (fun i => (i.zero, i.size, i.bytes)) = some (some (.int .i64 0), 1, 8) := by kernel_rfl
theorem make_ints (n : Nat) (hn : n ≤ 2000) : ∃ mk : World → World, ∀ W, (Instr.makeSlice 26 (.int .i64 n) (.int .i64 n)).run Try.prog W = .ok (.slice (some ⟨W.heap.size, 0, none⟩) n n) (mk W) ∧ (∃ cur : Array Value, (mk W).heap[W.heap.size]? = some (.cells cur 3) ∧ cur.size = n) ∧ Below W.heap.size W (mk W) := by
  obtain ⟨i1, hi1, hy0, hy1, hy2⟩ := info_parts info_intV
  suffices h : ∀ W, ∃ w4 : World, (Instr.makeSlice 26 (.int .i64 n) (.int .i64 n)).run Try.prog W = .ok (.slice (some ⟨W.heap.size, 0, none⟩) n n) w4 ∧ (∃ cur : Array Value, w4.heap[W.heap.size]? = some (.cells cur 3) ∧ cur.size = n) ∧ Below W.heap.size W w4 by
    exact ⟨fun W => Classical.choose (h W), fun W => Classical.choose_spec (h W)⟩
  intro W
  obtain ⟨w4, hrun, hown, hg⟩ := run_make_full (P := Try.prog) W W.heap.size 26 3 i1 _ 1 Try.underlying26 hi1 hy0 hy1 .i64 .i64 n (by rw [hy2]; omega) (by simp only [maxLen]; omega) (Nat.le_refl _)
  refine ⟨w4, hrun, ?_, (Below.refl _ _).grown hg (Nat.le_refl _) (by simp)⟩
  rcases hown.2 with ⟨h', _⟩ | ⟨g', cap', cur, h', hb, hg, hnc, hcm, hcs, htake⟩
  · simp at h'
  · simp only [Value.slice.injEq, Option.some.injEq, Addr.mk.injEq, and_true, true_and] at h'
    obtain ⟨rfl, rfl⟩ := h'
    exact ⟨cur, hg, by omega⟩
/-- A block of ints, the first i of them written. -/
def CapsIn (wr : World) (gc : Nat) (L : List RunG) (i : Nat) : Prop := ∃ cur : Array Value, wr.heap[gc]? = some (.cells cur 3) ∧ cur.size = L.length ∧ ∀ j (h : j < L.length), j < i → cur[j]? = some (.int .i64 L[j].cap)
theorem CapsIn.lt {wr : World} {gc : Nat} {L : List RunG} {i : Nat} (h : CapsIn wr gc L i) : gc < wr.heap.size := by
  obtain ⟨cur, h1, _⟩ := h
  exact (Array.getElem?_eq_some_iff.1 h1).1
theorem CapsIn.ex {wr : World} {gc : Nat} {L : List RunG} {i : Nat} (h : CapsIn wr gc L i) (hi : i < L.length) (o : Obj) : (wr.alloc o).frozen? ⟨gc, i, none⟩ = false ∧ ∃ u, (wr.alloc o).cell? ⟨gc, i, none⟩ = some u := by
  obtain ⟨cur, h1, h2, _⟩ := h
  have h3 := alloc_old o h1
  exact ⟨by simp [World.frozen?, h3], cur[i]'(by omega), by simp [World.cell?, h3]⟩
theorem CapsIn.next {wr : World} {gc : Nat} {L : List RunG} {i : Nat} (h : CapsIn wr gc L i) (hi : i < L.length) (o : Obj) : CapsIn ((wr.setCell ⟨gc, i, none⟩ (.int .i64 L[i].cap)).alloc o) gc L (i + 1) := by
  obtain ⟨cur, h1, h2, h3⟩ := h
  refine ⟨_, alloc_old o (heap_setCell_same _ _ _ _ _ _ h1), by simpa using h2, fun j hj hji => ?_⟩
  rcases Nat.lt_or_ge j i with h4 | h4
  · rw [Array.getElem?_setIfInBounds_ne (by omega)]; exact h3 j hj h4
  · obtain rfl : j = i := by omega
    rw [Array.getElem?_setIfInBounds_self_of_lt (by omega)]
theorem CapsIn.own {wr : World} {gc b0 : Nat} {L : List RunG} (h : CapsIn wr gc L L.length) (hb : b0 ≤ gc) (hL : L.length ≤ 2000) : wr.ownsRow b0 3 1 (.slice (some ⟨gc, 0, none⟩) L.length L.length) L.length (intV .i64 (L.map RunG.cap)) := by
  obtain ⟨cur, h1, h2, h3⟩ := h
  refine ⟨by simp [intV], .inr ⟨gc, L.length, cur, rfl, hb, h1, Nat.le_refl _, by simp only [maxLen]; omega, by omega, ?_⟩⟩
  apply List.ext_getElem?
  intro j
  rw [List.getElem?_take]
  by_cases hj : j < L.length
  · rw [if_pos (by omega)]
    have := h3 j hj hj
    simp [intV, hj, this]
  · rw [if_neg (by omega)]
    exact (List.getElem?_eq_none (by simp [intV]; omega)).symm
set_option maxHeartbeats 800000 in
theorem implCapsIn_calls (gs c : Nat) (L : List RunG) (w : World) (hr : RdS w gs L) (hL : L.length ≤ 2000) :
    Calls Try.prog 41 #[.slice (some ⟨gs, 0, none⟩) L.length c] w
      fun e w' => ∃ gc, e = .returned (.slice (some ⟨gc, 0, none⟩) L.length L.length) ∧ w'.ownsRow w.heap.size 3 1 (.slice (some ⟨gc, 0, none⟩) L.length L.length) L.length (intV .i64 (L.map RunG.cap)) ∧ Below w.heap.size w w' := by
  obtain ⟨mk, hmk⟩ := make_ints L.length hL
  have hrun := fun W => (hmk W).1
  have HR := Lib.hid hr
  have HK : Hid (CapsIn (mk w) w.heap.size L 0 ∧ Below w.heap.size w (mk w)) := Lib.hid (by
    obtain ⟨cur, h1, h2⟩ := (hmk w).2.1
    exact ⟨⟨cur, h1, h2, fun j _ hj => absurd hj (Nat.not_lt_zero _)⟩, (hmk w).2.2⟩)
  clear hr
  go_enter Try.func41, Try.ntmps41
  go_upto_region 2 with fail
  clear hrun hmk
  go_wp2_with fail
  go_loopw [11] (fun sl wr => ∃ i : Nat, i ≤ L.length ∧ sl = .int .i64 i ∧ Hid (CapsIn wr w.heap.size L i ∧ Below w.heap.size w wr)) (fun sl _ => L.length - (intOf sl).toNat)
  case atStart => exact ⟨0, Nat.zero_le _, rfl, HK⟩
  case round =>
    obtain ⟨i, hi, rfl, HI⟩ := hrel
    by_cases hlt : i < L.length
    · obtain ⟨b0, b1, b2, b3⟩ := (HR.out.below HI.out.2).at_ hlt
      have hgs := (HR.out.below HI.out.2).lt
      have hgc := HI.out.1.lt
      have HN := Lib.hid (fun o => HI.out.1.next hlt o)
      have HSM := fun o => (HI.out.1.ex hlt o).1
      obtain ⟨u, HSU⟩ := (HI.out.1.ex hlt (.cells #[.int .i64 L[i].len, .int .i64 L[i].cap, .int .i64 L[i].moves, .int .i64 L[i].cost] 75)).2
      go_wp2_with fail
      go_roundw
      case rel => exact ⟨i + 1, by omega, by go_num, Lib.hid ⟨HN.out _, by have hB := HI.out.2; have hs := hB.size; (repeat (first | (with_reducible exact Below.refl _ _) | (with_reducible refine Below.drew ?_) | ((with_reducible refine Below.alloc ?_ ?hB _); case hB => (first | (with_reducible exact Nat.le_refl _) | omega | (simp; done) | (simp; omega))) | ((with_reducible refine Below.setCell ?_ ?hB _); case hB => (first | (with_reducible exact Nat.le_refl _) | omega | (simp; done) | (simp; omega))))); exact hB⟩⟩
      case measure => simp [intOf]; omega
    · obtain rfl : i = L.length := by omega
      go_wp2_with fail
      go_ret
      exact ⟨_, rfl, HI.out.1.own (Nat.le_refl _) hL, HI.out.2⟩
theorem last_get {L : List RunG} {n : Nat} (h : L.length = n + 1) : L.getLastD runG0 = L[n]'(by omega) := by
  rw [List.getLastD_eq_getLast?, List.getLast?_eq_getElem?]
  simp [h]
set_option maxHeartbeats 800000 in
theorem implLast_calls (gs c : Nat) (L : List RunG) (w : World) (hr : RdS w gs L) (hL : L.length ≤ 2000) :
    Calls Try.prog 43 #[.slice (some ⟨gs, 0, none⟩) L.length c] w
      fun e w' => e = .returned (.agg #[.int .i64 (L.getLastD runG0).len, .int .i64 (L.getLastD runG0).cap, .int .i64 (L.getLastD runG0).moves, .int .i64 (L.getLastD runG0).cost]) ∧ Below w.heap.size w w' := by
  have hgs := hr.lt
  rcases Nat.eq_zero_or_pos L.length with h0 | h0
  · obtain rfl : L = [] := List.eq_nil_of_length_eq_zero h0
    clear hr h0 hL
    rw [List.length_nil]
    go_enter Try.func43, Try.ntmps43
    go_wp2_with fail
    refine bodyPost_ret (v := .agg #[.int .i64 0, .int .i64 0, .int .i64 0, .int .i64 0]) (by simp [results, Try.results43, go_sem]) rfl ⟨rfl, ?_⟩
    (repeat (first | (with_reducible exact Below.refl _ _) | (with_reducible refine Below.drew ?_) | ((with_reducible refine Below.alloc ?_ ?hB _); case hB => (first | (with_reducible exact Nat.le_refl _) | omega | (simp; done) | (simp; omega))) | ((with_reducible refine Below.setCell ?_ ?hB _); case hB => (first | (with_reducible exact Nat.le_refl _) | omega | (simp; done) | (simp; omega)))))
  · obtain ⟨n, hn⟩ : ∃ n, L.length = n + 1 := ⟨L.length - 1, by omega⟩
    obtain ⟨b0, b1, b2, b3⟩ := hr.at_ (j := n) (by omega)
    have hl := last_get hn
    obtain ⟨r, hrr⟩ : ∃ r, L[n]'(by omega) = r := ⟨_, rfl⟩
    rw [hrr] at b0 b1 b2 b3 hl
    rw [hl, hn]
    have k1 : IntKind.i64.wrap ((n : Int) + 1 - 1) = n := by rw [IntWalk.i64_in _ (by omega)]; omega
    have k2 : ((n : Int) + 1 - 1) = n := by omega
    have k3 : ¬ ((n : Int) + 1 = 0) := by omega
    clear hr hrr hl h0
    go_enter Try.func43, Try.ntmps43
    go_wp2_with fail
    refine bodyPost_ret (v := .agg #[.int .i64 r.len, .int .i64 r.cap, .int .i64 r.moves, .int .i64 r.cost]) (by simp [results, Try.results43, go_sem]) rfl ⟨rfl, ?_⟩
    (repeat (first | (with_reducible exact Below.refl _ _) | (with_reducible refine Below.drew ?_) | ((with_reducible refine Below.alloc ?_ ?hB _); case hB => (first | (with_reducible exact Nat.le_refl _) | omega | (simp; done) | (simp; omega))) | ((with_reducible refine Below.setCell ?_ ?hB _); case hB => (first | (with_reducible exact Nat.le_refl _) | omega | (simp; done) | (simp; omega)))))
end Go.Proofs.Ytiimbojcnmbebab
