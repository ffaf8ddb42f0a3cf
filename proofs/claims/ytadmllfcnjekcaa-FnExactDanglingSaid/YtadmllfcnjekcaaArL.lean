/-
  The first multiple, and what is left: l8First of spec, left of impl, LeftIn of both.
-/
import Derived.Test.YtadmllfcnjekcaaArS
import Derived.Test.YtadmllfcnjekcaaHr
import Derived.Deep.RegionHeld3
import Derived.Deep.DeepCutAuto
namespace Go.Proofs.Ytadmllfcnjekcaa
open Go.RowKit

theorem upTo_tdiv {u d : Int} (h0 : 0 ≤ u) (h1 : 1 ≤ d) (h2 : u ≤ 1000) (h3 : d ≤ 16) : 0 ≤ Int.tdiv (u + d - 1) d ∧ Int.tdiv (u + d - 1) d ≤ 2000 ∧ 0 ≤ upTo u d ∧ upTo u d ≤ 2000 := by
  have h := upTo_range h0 h1
  unfold upTo at *
  have e : 0 ≤ Int.tdiv (u + d - 1) d := Int.tdiv_nonneg (by omega) (by omega)
  have e2 : Int.tdiv (u + d - 1) d * 1 ≤ Int.tdiv (u + d - 1) d * d := Int.mul_le_mul_of_nonneg_left h1 e
  omega
theorem specFirst_calls (u d : Int) (w : World) (h0 : 0 ≤ u) (h1 : 1 ≤ d) (h2 : u ≤ 1000) (h3 : d ≤ 16) :
    Calls Try.prog 92 #[.int .i64 u, .int .i64 d] w fun e w' => e = .returned (.int .i64 (upTo u d)) ∧ w' = w := by
  obtain ⟨e0, e1, e2, e3⟩ := upTo_tdiv h0 h1 h2 h3
  unfold upTo at *
  have hne : ¬ d = 0 := by omega
  have k0 : IntKind.i64.wrap (u + d) = u + d := IntWalk.i64_in _ (by omega)
  have k1 : IntKind.i64.wrap (u + d - 1) = u + d - 1 := IntWalk.i64_in _ (by omega)
  have k2 : IntKind.i64.wrap (Int.tdiv (u + d - 1) d) = Int.tdiv (u + d - 1) d := IntWalk.i64_in _ (by omega)
  have k3 : IntKind.i64.wrap (Int.tdiv (u + d - 1) d * d) = Int.tdiv (u + d - 1) d * d := IntWalk.i64_in _ (by omega)
  go_enter Try.func92, Try.ntmps92
  go_wp2_with fail
  go_ret
  exact ⟨rfl, rfl⟩

/-- What is left of an arena that is valid. -/
def leftV (a : An) (d : Int) : Int × Bool := if 1 ≤ d ∧ d ≤ 16 ∧ upTo a.us d ≤ a.w.len then (a.w.len - upTo a.us d, true) else (0, false)
theorem leftR_ok {m : List (List Int)} {a : An} (h : ArOK m a) (d : Int) : leftR m a d = leftV a d := by
  unfold leftR leftV
  by_cases h2 : 1 ≤ d ∧ d ≤ 16 ∧ upTo a.us d ≤ a.w.len
  · rw [if_pos ⟨h, h2⟩, if_pos h2]
  · rw [if_neg (fun k => h2 k.2), if_neg h2]
theorem ArOK.bounds {m : List (List Int)} {a : An} (h : ArOK m a) : 0 ≤ a.us ∧ a.us ≤ 64 ∧ 0 ≤ a.w.len ∧ a.w.len ≤ 64 ∧ a.us ≤ a.w.len := by
  obtain ⟨h1, h2, h3, _⟩ := h
  obtain ⟨n, s, l, c, e, hn, h4, h5, h6, h7, h8⟩ := h1.nat
  rw [e] at h3 ⊢
  dsimp only at *
  omega
set_option maxRecDepth 100000 in
set_option maxHeartbeats 1600000 in
/-- left: of the arena in block q. -/
theorem leftIn_calls (q : Nat) (v u : Value) (a : An) (d : Int) (t : TypeId) (w : World) (hq : w.heap[q]? = some (.cells #[v, .int .i64 a.w.arr, .int .i64 a.w.start, .int .i64 a.w.len, .int .i64 a.w.cap, .int .i64 a.us, u] t)) (hu : 0 ≤ a.us ∧ a.us ≤ 64 ∧ 0 ≤ a.w.len ∧ a.w.len ≤ 64) :
    Calls Try.prog 102 #[.pointer (some ⟨q, 0, none⟩), .int .i64 d] w fun e w' => e = .returned (.tuple #[.int .i64 (leftV a d).1, .bool (leftV a d).2]) ∧ w' = w := by
  obtain ⟨hu0, hu1, hu2, hu3⟩ := hu
  obtain ⟨c0, c1, c2, c3, c4, c5, c6⟩ := ar_cells hq
  clear hq
  by_cases h1 : 1 ≤ d
  · by_cases h2 : d ≤ 16
    · obtain ⟨e0, e1, e2, e3⟩ := upTo_tdiv hu0 h1 (by omega) h2
      by_cases h3 : upTo a.us d ≤ a.w.len
      · have HV : Hid (leftV a d = (a.w.len - upTo a.us d, true)) := Lib.hid (by rw [leftV, if_pos ⟨h1, h2, h3⟩])
        unfold upTo at *
        have hne : ¬ d = 0 := by omega
        have k0 : IntKind.i64.wrap (a.us + d) = a.us + d := IntWalk.i64_in _ (by omega)
        have k1 : IntKind.i64.wrap (a.us + d - 1) = a.us + d - 1 := IntWalk.i64_in _ (by omega)
        have k2 : IntKind.i64.wrap (Int.tdiv (a.us + d - 1) d) = Int.tdiv (a.us + d - 1) d := IntWalk.i64_in _ (by omega)
        have k3 : IntKind.i64.wrap (Int.tdiv (a.us + d - 1) d * d) = Int.tdiv (a.us + d - 1) d * d := IntWalk.i64_in _ (by omega)
        go_enter Try.func102, Try.ntmps102
        go_wp2_with fail
        refine bodyPost_ret (v := .tuple #[.int .i64 (a.w.len - Int.tdiv (a.us + d - 1) d * d), .bool true]) (by simp [results, Try.results102, go_sem]) rfl ⟨by rw [HV.out], rfl⟩
      · have HV : Hid (leftV a d = (0, false)) := Lib.hid (by rw [leftV, if_neg (fun h => h3 h.2.2)])
        unfold upTo at *
        have hne : ¬ d = 0 := by omega
        have k0 : IntKind.i64.wrap (a.us + d) = a.us + d := IntWalk.i64_in _ (by omega)
        have k1 : IntKind.i64.wrap (a.us + d - 1) = a.us + d - 1 := IntWalk.i64_in _ (by omega)
        have k2 : IntKind.i64.wrap (Int.tdiv (a.us + d - 1) d) = Int.tdiv (a.us + d - 1) d := IntWalk.i64_in _ (by omega)
        have k3 : IntKind.i64.wrap (Int.tdiv (a.us + d - 1) d * d) = Int.tdiv (a.us + d - 1) d * d := IntWalk.i64_in _ (by omega)
        go_enter Try.func102, Try.ntmps102
        go_wp2_with fail
        refine bodyPost_ret (v := .tuple #[.int .i64 0, .bool false]) (by simp [results, Try.results102, go_sem]) rfl ⟨by rw [HV.out], rfl⟩
    · have HV : Hid (leftV a d = (0, false)) := Lib.hid (by rw [leftV, if_neg (fun h => h2 h.2.1)])
      go_enter Try.func102, Try.ntmps102
      go_wp2_with fail
      refine bodyPost_ret (v := .tuple #[.int .i64 0, .bool false]) (by simp [results, Try.results102, go_sem]) rfl ⟨by rw [HV.out], rfl⟩
  · have HV : Hid (leftV a d = (0, false)) := Lib.hid (by rw [leftV, if_neg (fun h => h1 h.1)])
    go_enter Try.func102, Try.ntmps102
    go_wp2_with fail
    refine bodyPost_ret (v := .tuple #[.int .i64 0, .bool false]) (by simp [results, Try.results102, go_sem]) rfl ⟨by rw [HV.out], rfl⟩

set_option maxRecDepth 100000 in
set_option maxHeartbeats 1600000 in
theorem implLeftIn_calls (A B : Option Addr) (cm d : Nat) (m : List (List Int)) (g : An) (i : Int) (w : World) (hr : RdA w w.heap.size A B m g.ms) (hn : m.length ≤ maxLen) (hkl : g.ms.length ≤ maxLen) (hx : AArgW g) :
    Calls Try.prog 52 #[.agg #[.slice A m.length cm, .int .i64 g.w.arr, .int .i64 g.w.start, .int .i64 g.w.len, .int .i64 g.w.cap, .int .i64 g.us, .slice B g.ms.length d], .int .i64 i] w fun e w' => e = .returned (.tuple #[.int .i64 (leftR m g i).1, .bool (leftR m g i).2]) ∧ Below w.heap.size w w' := by
  obtain ⟨w0, hw0, hb0, hz0, hg0⟩ := enterA A B m.length cm g.ms.length d g w
  have HC := Lib.hid (implIsArena_calls A B cm d m g w0 (hr.on hb0) hn hkl hx)
  have HB := Lib.hid hb0
  have HW := Lib.hid hw0
  have HG := Lib.hid hg0
  obtain ⟨c1, d0, d1, d2, d3, d4, d5⟩ := ar_cells hg0
  clear hr hb0 hg0 hw0 hz0
  go_enter Try.func52, Try.ntmps52
  go_wp2_with fail
  rw [HW.out]
  refine HC.out.mono ?_
  rintro e w2 ⟨rfl, hb2⟩
  have HB2 := Lib.hid (HB.out.trans (hb2.mono HB.out.size))
  have hg2 := (hb2.block _ (Array.getElem?_eq_some_iff.1 HG.out).1).trans HG.out
  clear hb2 d0 d1 d2 d3 d4 d5 c1
  by_cases hok : ArOK m g
  · have hd : isArenaR m g = true := decide_eq_true hok
    obtain ⟨b0, b1, b2, b3, _⟩ := hok.bounds
    have HL := Lib.hid (leftIn_calls w.heap.size (.slice A m.length cm) (.slice B g.ms.length d) g i _ w2 hg2 ⟨b0, b1, b2, b3⟩)
    rw [← leftR_ok hok i] at HL
    clear hg2 hok b0 b1 b2 b3
    go_wp2_with fail
    refine HL.out.mono ?_
    rintro e w3 ⟨rfl, rfl⟩
    go_wp2_with fail
    refine bodyPost_ret (v := .tuple #[.int .i64 (leftR m g i).1, .bool (leftR m g i).2]) (by simp [results, Try.results52, go_sem]) rfl ⟨rfl, HB2.out⟩
  · have hd : isArenaR m g = false := decide_eq_false hok
    have HV : Hid (leftR m g i = (0, false)) := Lib.hid (by rw [leftR, if_neg (fun h => hok h.1)])
    clear hok hg2
    go_wp2_with fail
    refine bodyPost_ret (v := .tuple #[.int .i64 0, .bool false]) (by simp [results, Try.results52, go_sem]) rfl ⟨by rw [HV.out], HB2.out⟩

set_option maxRecDepth 100000 in
set_option maxHeartbeats 1600000 in
theorem specLeftIn_calls (A B : Option Addr) (cm d : Nat) (m : List (List Int)) (g : An) (i : Int) (w : World) (hr : RdA w w.heap.size A B m g.ms) (hn : m.length ≤ maxLen) (hkl : g.ms.length ≤ maxLen) :
    Calls Try.prog 51 #[.agg #[.slice A m.length cm, .int .i64 g.w.arr, .int .i64 g.w.start, .int .i64 g.w.len, .int .i64 g.w.cap, .int .i64 g.us, .slice B g.ms.length d], .int .i64 i] w fun e w' => e = .returned (.tuple #[.int .i64 (leftR m g i).1, .bool (leftR m g i).2]) ∧ Below w.heap.size w w' := by
  obtain ⟨w0, hw0, hb0, hz0, hg0⟩ := enterA A B m.length cm g.ms.length d g w
  have HC := Lib.hid (fun W (hb : Below w0.heap.size w0 W) => specArena_calls A B cm d m g W (hr.on (hb0.trans (hb.mono hb0.size))) hn hkl)
  have HB := Lib.hid hb0
  have HW := Lib.hid hw0
  have HG := Lib.hid hg0
  have HQ : Hid (∀ W, Below w0.heap.size w0 W → W.cell? ⟨w.heap.size, 0, none⟩ = some (.slice A m.length cm) ∧ W.cell? ⟨w.heap.size, 1, none⟩ = some (.int .i64 g.w.arr) ∧ W.cell? ⟨w.heap.size, 2, none⟩ = some (.int .i64 g.w.start) ∧ W.cell? ⟨w.heap.size, 3, none⟩ = some (.int .i64 g.w.len) ∧ W.cell? ⟨w.heap.size, 4, none⟩ = some (.int .i64 g.w.cap) ∧ W.cell? ⟨w.heap.size, 5, none⟩ = some (.int .i64 g.us) ∧ W.cell? ⟨w.heap.size, 6, none⟩ = some (.slice B g.ms.length d)) :=
    Lib.hid fun W hb => ar_cells ((hb.block _ (Array.getElem?_eq_some_iff.1 hg0).1).trans hg0)
  have hc0 : Below w0.heap.size w0 w0.drew := (Below.refl _ _).drew
  obtain ⟨c1, d0, d1, d2, d3, d4, d5⟩ := HQ.out w0.drew hc0
  have HI := Lib.hid (fun W => specInQ_calls i 1 16 W)
  clear hr hb0 hg0 hz0
  by_cases hok : ArOK m g
  · have hd : decide (ArOK m g) = true := decide_eq_true hok
    obtain ⟨b0, b1, b2, b3, _⟩ := hok.bounds
    by_cases hi : 1 ≤ i ∧ i ≤ 16
    · rw [show decide ((1 : Int) ≤ i ∧ i ≤ 16) = true from decide_eq_true hi] at HI
      have HF := Lib.hid (fun W => specFirst_calls g.us i W b0 hi.1 (by omega) hi.2)
      have hf := upTo_range b0 hi.1
      by_cases h3 : upTo g.us i ≤ g.w.len
      · have HV : Hid (leftR m g i = (g.w.len - upTo g.us i, true)) := Lib.hid (by rw [leftR, if_pos ⟨hok, hi.1, hi.2, h3⟩])
        have hgt : decide (g.w.len < upTo g.us i) = false := decide_eq_false (by omega)
        generalize upTo g.us i = f at *
        have k0 : IntKind.i64.wrap (g.w.len - f) = g.w.len - f := IntWalk.i64_in _ (by omega)
        clear hok hi hw0
        go_enter Try.func51, Try.ntmps51
        go_upto_region 1 with fail
        rw [HW.out]
        go_region_held3 (fun W => W.cell? ⟨w.heap.size, 0, none⟩ = some (.slice A m.length cm) ∧ W.cell? ⟨w.heap.size, 1, none⟩ = some (.int .i64 g.w.arr) ∧ W.cell? ⟨w.heap.size, 2, none⟩ = some (.int .i64 g.w.start) ∧ W.cell? ⟨w.heap.size, 3, none⟩ = some (.int .i64 g.w.len) ∧ W.cell? ⟨w.heap.size, 4, none⟩ = some (.int .i64 g.w.cap) ∧ W.cell? ⟨w.heap.size, 5, none⟩ = some (.int .i64 g.us) ∧ W.cell? ⟨w.heap.size, 6, none⟩ = some (.slice B g.ms.length d))
          (first | (with_reducible exact ⟨c1, d0, d1, d2, d3, d4, d5⟩) | exact HQ.out _ (hc0.trans hb2) | fail)
          (first | (go_at_call 79; refine (HC.out _ hc0).mono ?_; rintro e w2 ⟨rfl, hb2⟩) | (go_at_call 101; refine (HI.out _).mono ?_; rintro e w3 ⟨rfl, rfl⟩) | (go_at_call 92; refine (HF.out _).mono ?_; rintro e w4 ⟨rfl, rfl⟩))
        have hc4 : Below w0.heap.size w0 w4 := hc0.trans hb2
        clear c1 d0 d1 d2 d3 d4 d5
        have hc5 : Below w0.heap.size w0 w4.drew := hc4.drew
        obtain ⟨c1, d0, d1, d2, d3, d4, d5⟩ := HQ.out w4.drew hc5
        go_wp2_with fail
        go_region_held3 (fun W => W.cell? ⟨w.heap.size, 0, none⟩ = some (.slice A m.length cm) ∧ W.cell? ⟨w.heap.size, 1, none⟩ = some (.int .i64 g.w.arr) ∧ W.cell? ⟨w.heap.size, 2, none⟩ = some (.int .i64 g.w.start) ∧ W.cell? ⟨w.heap.size, 3, none⟩ = some (.int .i64 g.w.len) ∧ W.cell? ⟨w.heap.size, 4, none⟩ = some (.int .i64 g.w.cap) ∧ W.cell? ⟨w.heap.size, 5, none⟩ = some (.int .i64 g.us) ∧ W.cell? ⟨w.heap.size, 6, none⟩ = some (.slice B g.ms.length d))
          (first | (with_reducible exact ⟨c1, d0, d1, d2, d3, d4, d5⟩) | fail)
          ((go_at_call 92; refine (HF.out _).mono ?_; rintro e w6 ⟨rfl, rfl⟩))
        go_wp2_with fail
        refine bodyPost_ret (v := .tuple #[.int .i64 (g.w.len - f), .bool true]) (by simp [results, Try.results51, go_sem]) rfl ⟨by rw [HV.out], HB.out.trans (hc5.mono HB.out.size)⟩
      · have HV : Hid (leftR m g i = (0, false)) := Lib.hid (by rw [leftR, if_neg (fun h => h3 h.2.2.2)])
        have hgt : decide (g.w.len < upTo g.us i) = true := decide_eq_true (by omega)
        generalize upTo g.us i = f at *
        clear hok hi hw0
        go_enter Try.func51, Try.ntmps51
        go_upto_region 1 with fail
        rw [HW.out]
        go_region_held3 (fun W => W.cell? ⟨w.heap.size, 0, none⟩ = some (.slice A m.length cm) ∧ W.cell? ⟨w.heap.size, 1, none⟩ = some (.int .i64 g.w.arr) ∧ W.cell? ⟨w.heap.size, 2, none⟩ = some (.int .i64 g.w.start) ∧ W.cell? ⟨w.heap.size, 3, none⟩ = some (.int .i64 g.w.len) ∧ W.cell? ⟨w.heap.size, 4, none⟩ = some (.int .i64 g.w.cap) ∧ W.cell? ⟨w.heap.size, 5, none⟩ = some (.int .i64 g.us) ∧ W.cell? ⟨w.heap.size, 6, none⟩ = some (.slice B g.ms.length d))
          (first | (with_reducible exact ⟨c1, d0, d1, d2, d3, d4, d5⟩) | exact HQ.out _ (hc0.trans hb2) | fail)
          (first | (go_at_call 79; refine (HC.out _ hc0).mono ?_; rintro e w2 ⟨rfl, hb2⟩) | (go_at_call 101; refine (HI.out _).mono ?_; rintro e w3 ⟨rfl, rfl⟩) | (go_at_call 92; refine (HF.out _).mono ?_; rintro e w4 ⟨rfl, rfl⟩))
        have hc4 : Below w0.heap.size w0 w4 := hc0.trans hb2
        go_wp2_with fail
        refine bodyPost_ret (v := .tuple #[.int .i64 0, .bool false]) (by simp [results, Try.results51, go_sem]) rfl ⟨by rw [HV.out], HB.out.trans (hc4.mono HB.out.size)⟩
    · rw [show decide ((1 : Int) ≤ i ∧ i ≤ 16) = false from decide_eq_false hi] at HI
      have HV : Hid (leftR m g i = (0, false)) := Lib.hid (by rw [leftR, if_neg (fun h => hi ⟨h.2.1, h.2.2.1⟩)])
      clear hok hi hw0
      go_enter Try.func51, Try.ntmps51
      go_upto_region 1 with fail
      rw [HW.out]
      refine wp_region_held_drew (S := (fun W => W.cell? ⟨w.heap.size, 0, none⟩ = some (.slice A m.length cm) ∧ W.cell? ⟨w.heap.size, 1, none⟩ = some (.int .i64 g.w.arr) ∧ W.cell? ⟨w.heap.size, 2, none⟩ = some (.int .i64 g.w.start) ∧ W.cell? ⟨w.heap.size, 3, none⟩ = some (.int .i64 g.w.len) ∧ W.cell? ⟨w.heap.size, 4, none⟩ = some (.int .i64 g.w.cap) ∧ W.cell? ⟨w.heap.size, 5, none⟩ = some (.int .i64 g.us) ∧ W.cell? ⟨w.heap.size, 6, none⟩ = some (.slice B g.ms.length d))) (by kernel_rfl) ?_ (fun hHeld => ?_)
      · (first | (with_reducible exact ⟨c1, d0, d1, d2, d3, d4, d5⟩) | exact HQ.out _ (hc0.trans hb2))
      refine takeD (i := 0) (d := 6) (v := ?_) rfl rfl (by kernel_rfl) (by kernel_rfl) (by kernel_rfl) (fun _ _ _ h => h) (by rfl) ?_ (by assumption) ?_
      rotate_left
      · (intro w hSw; (try dsimp only at hSw); go_simp; (try (with_reducible rfl)))
      simp only [Act.put, List.setIfInBounds_toArray, List.set_cons_zero, List.set_cons_succ]
      refine wpAnyH_ready (rs := [1]) (by kernel_rfl) (by simp) ?_
      refine AllReadyH.cons rfl (fun K hK => ?_) AllReadyH.nil
      go_simp
      (go_at_call 79; refine (HC.out _ hc0).mono ?_; rintro e w2 ⟨rfl, hb2⟩)
      refine hK.out _ _ ?_ (fun hHeld => ?_)
      · (first | (with_reducible exact ⟨c1, d0, d1, d2, d3, d4, d5⟩) | exact HQ.out _ (hc0.trans hb2))
      clear hK K
      try simp only [Act.put, List.setIfInBounds_toArray, List.set_cons_zero, List.set_cons_succ]
      refine takeD (i := 2) (d := 8) (v := ?_) rfl rfl (by kernel_rfl) (by kernel_rfl) (by kernel_rfl) (fun _ _ _ h => h) (by rfl) ?_ (by assumption) ?_
      rotate_left
      · (intro w hSw; (try dsimp only at hSw); go_simp; (try (with_reducible rfl)))
      simp only [Act.put, List.setIfInBounds_toArray, List.set_cons_zero, List.set_cons_succ]
      refine takeD (i := 3) (d := 9) (v := ?_) rfl rfl (by kernel_rfl) (by kernel_rfl) (by kernel_rfl) (fun _ _ _ h => h) (by rfl) ?_ (by assumption) ?_
      rotate_left
      · (intro w hSw; (try dsimp only at hSw); go_simp; (try (with_reducible rfl)))
      simp only [Act.put, List.setIfInBounds_toArray, List.set_cons_zero, List.set_cons_succ]
      refine takeD (i := 4) (d := 10) (v := ?_) rfl rfl (by kernel_rfl) (by kernel_rfl) (by kernel_rfl) (fun _ _ _ h => h) (by rfl) ?_ (by assumption) ?_
      rotate_left
      · (intro w hSw; (try dsimp only at hSw); go_simp; (try (with_reducible rfl)))
      simp only [Act.put, List.setIfInBounds_toArray, List.set_cons_zero, List.set_cons_succ]
      refine wpAnyH_ready (rs := [5]) (by kernel_rfl) (by simp) ?_
      refine AllReadyH.cons rfl (fun K hK => ?_) AllReadyH.nil
      go_simp
      (go_at_call 101; refine (HI.out _).mono ?_; rintro e w3 ⟨rfl, rfl⟩)
      refine hK.out _ _ ?_ (fun hHeld => ?_)
      · (first | (with_reducible exact ⟨c1, d0, d1, d2, d3, d4, d5⟩) | exact HQ.out _ (hc0.trans hb2))
      clear hK K
      try simp only [Act.put, List.setIfInBounds_toArray, List.set_cons_zero, List.set_cons_succ]
      refine takeD (i := 6) (d := 12) (v := ?_) rfl rfl (by kernel_rfl) (by kernel_rfl) (by kernel_rfl) (fun _ _ _ h => h) (by rfl) ?_ (by assumption) ?_
      rotate_left
      · (intro w hSw; (try dsimp only at hSw); go_simp; (try (with_reducible rfl)))
      simp only [Act.put, List.setIfInBounds_toArray, List.set_cons_zero, List.set_cons_succ]
      refine takeD (i := 7) (d := 13) (v := ?_) rfl rfl (by kernel_rfl) (by kernel_rfl) (by kernel_rfl) (fun _ _ _ h => h) (by rfl) ?_ (by assumption) ?_
      rotate_left
      · (intro w hSw; (try dsimp only at hSw); go_simp; (try (with_reducible rfl)))
      simp only [Act.put, List.setIfInBounds_toArray, List.set_cons_zero, List.set_cons_succ]
      refine takeD (i := 8) (d := 14) (v := ?_) rfl rfl (by kernel_rfl) (by kernel_rfl) (by kernel_rfl) (fun _ _ _ h => h) (by rfl) ?_ (by assumption) ?_
      rotate_left
      · (intro w hSw; (try dsimp only at hSw); go_simp; (try (with_reducible rfl)))
      simp only [Act.put, List.setIfInBounds_toArray, List.set_cons_zero, List.set_cons_succ]
      refine skipD (i := 9) (d := 15) rfl rfl (by kernel_rfl) (by kernel_rfl) (by kernel_rfl) (fun _ _ _ h => h) (by rfl) (by assumption) ?_
      simp only [Act.put, List.setIfInBounds_toArray, List.set_cons_succ]
      refine skipD (i := 10) (d := 16) rfl rfl (by kernel_rfl) (by kernel_rfl) (by kernel_rfl) (fun _ _ _ h => h) (by rfl) (by assumption) ?_
      simp only [Act.put, List.setIfInBounds_toArray, List.set_cons_succ]
      refine skipD (i := 11) (d := 17) rfl rfl (by kernel_rfl) (by kernel_rfl) (by kernel_rfl) (fun _ _ _ h => h) (by rfl) (by assumption) ?_
      simp only [Act.put, List.setIfInBounds_toArray, List.set_cons_succ]
      refine skipD (i := 12) (d := 18) rfl rfl (by kernel_rfl) (by kernel_rfl) (by kernel_rfl) (fun _ _ _ h => h) (by rfl) (by assumption) ?_
      simp only [Act.put, List.setIfInBounds_toArray, List.set_cons_succ]
      refine skipD (i := 13) (d := 19) rfl rfl (by kernel_rfl) (by kernel_rfl) (by kernel_rfl) (fun _ _ _ h => h) (by rfl) (by assumption) ?_
      simp only [Act.put, List.setIfInBounds_toArray, List.set_cons_succ]
      refine skipD (i := 14) (d := 20) rfl rfl (by kernel_rfl) (by kernel_rfl) (by kernel_rfl) (fun _ _ _ h => h) (by rfl) (by assumption) ?_
      simp only [Act.put, List.setIfInBounds_toArray, List.set_cons_succ]
      refine skipD (i := 15) (d := 21) rfl rfl (by kernel_rfl) (by kernel_rfl) (by kernel_rfl) (fun _ _ _ h => h) (by rfl) (by assumption) ?_
      simp only [Act.put, List.setIfInBounds_toArray, List.set_cons_succ]
      refine skipD (i := 16) (d := 22) rfl rfl (by kernel_rfl) (by kernel_rfl) (by kernel_rfl) (fun _ _ _ h => h) (by rfl) (by assumption) ?_
      simp only [Act.put, List.setIfInBounds_toArray, List.set_cons_succ]
      refine takeD (i := 17) (d := 23) (v := ?_) rfl rfl (by kernel_rfl) (by kernel_rfl) (by kernel_rfl) (fun _ _ _ h => h) (by rfl) ?_ (by assumption) ?_
      rotate_left
      · (intro w hSw; (try dsimp only at hSw); go_simp; (try (with_reducible rfl)))
      simp only [Act.put, List.setIfInBounds_toArray, List.set_cons_zero, List.set_cons_succ]
      refine wpAnyH_done (by kernel_rfl) ?_ _
      have hc4 : Below w0.heap.size w0 w3 := hc0.trans hb2
      go_wp2_with fail
      refine bodyPost_ret (v := .tuple #[.int .i64 0, .bool false]) (by simp [results, Try.results51, go_sem]) rfl ⟨by rw [HV.out], HB.out.trans (hc4.mono HB.out.size)⟩
  · have hd : decide (ArOK m g) = false := decide_eq_false hok
    have HV : Hid (leftR m g i = (0, false)) := Lib.hid (by rw [leftR, if_neg (fun h => hok h.1)])
    clear hok hw0 HI
    go_enter Try.func51, Try.ntmps51
    go_upto_region 1 with fail
    rw [HW.out]
    refine wp_region_held_drew (S := (fun W => W.cell? ⟨w.heap.size, 0, none⟩ = some (.slice A m.length cm) ∧ W.cell? ⟨w.heap.size, 1, none⟩ = some (.int .i64 g.w.arr) ∧ W.cell? ⟨w.heap.size, 2, none⟩ = some (.int .i64 g.w.start) ∧ W.cell? ⟨w.heap.size, 3, none⟩ = some (.int .i64 g.w.len) ∧ W.cell? ⟨w.heap.size, 4, none⟩ = some (.int .i64 g.w.cap) ∧ W.cell? ⟨w.heap.size, 5, none⟩ = some (.int .i64 g.us) ∧ W.cell? ⟨w.heap.size, 6, none⟩ = some (.slice B g.ms.length d))) (by kernel_rfl) ?_ (fun hHeld => ?_)
    · (first | (with_reducible exact ⟨c1, d0, d1, d2, d3, d4, d5⟩) | exact HQ.out _ (hc0.trans hb2))
    refine takeD (i := 0) (d := 6) (v := ?_) rfl rfl (by kernel_rfl) (by kernel_rfl) (by kernel_rfl) (fun _ _ _ h => h) (by rfl) ?_ (by assumption) ?_
    rotate_left
    · (intro w hSw; (try dsimp only at hSw); go_simp; (try (with_reducible rfl)))
    simp only [Act.put, List.setIfInBounds_toArray, List.set_cons_zero, List.set_cons_succ]
    refine wpAnyH_ready (rs := [1]) (by kernel_rfl) (by simp) ?_
    refine AllReadyH.cons rfl (fun K hK => ?_) AllReadyH.nil
    go_simp
    (go_at_call 79; refine (HC.out _ hc0).mono ?_; rintro e w2 ⟨rfl, hb2⟩)
    refine hK.out _ _ ?_ (fun hHeld => ?_)
    · (first | (with_reducible exact ⟨c1, d0, d1, d2, d3, d4, d5⟩) | exact HQ.out _ (hc0.trans hb2))
    clear hK K
    try simp only [Act.put, List.setIfInBounds_toArray, List.set_cons_zero, List.set_cons_succ]
    refine takeD (i := 2) (d := 8) (v := ?_) rfl rfl (by kernel_rfl) (by kernel_rfl) (by kernel_rfl) (fun _ _ _ h => h) (by rfl) ?_ (by assumption) ?_
    rotate_left
    · (intro w hSw; (try dsimp only at hSw); go_simp; (try (with_reducible rfl)))
    simp only [Act.put, List.setIfInBounds_toArray, List.set_cons_zero, List.set_cons_succ]
    refine takeD (i := 3) (d := 9) (v := ?_) rfl rfl (by kernel_rfl) (by kernel_rfl) (by kernel_rfl) (fun _ _ _ h => h) (by rfl) ?_ (by assumption) ?_
    rotate_left
    · (intro w hSw; (try dsimp only at hSw); go_simp; (try (with_reducible rfl)))
    simp only [Act.put, List.setIfInBounds_toArray, List.set_cons_zero, List.set_cons_succ]
    refine skipD (i := 4) (d := 10) rfl rfl (by kernel_rfl) (by kernel_rfl) (by kernel_rfl) (fun _ _ _ h => h) (by rfl) (by assumption) ?_
    simp only [Act.put, List.setIfInBounds_toArray, List.set_cons_succ]
    refine skipD (i := 5) (d := 11) rfl rfl (by kernel_rfl) (by kernel_rfl) (by kernel_rfl) (fun _ _ _ h => h) (by rfl) (by assumption) ?_
    simp only [Act.put, List.setIfInBounds_toArray, List.set_cons_succ]
    refine skipD (i := 6) (d := 12) rfl rfl (by kernel_rfl) (by kernel_rfl) (by kernel_rfl) (fun _ _ _ h => h) (by rfl) (by assumption) ?_
    simp only [Act.put, List.setIfInBounds_toArray, List.set_cons_succ]
    refine takeD (i := 7) (d := 13) (v := ?_) rfl rfl (by kernel_rfl) (by kernel_rfl) (by kernel_rfl) (fun _ _ _ h => h) (by rfl) ?_ (by assumption) ?_
    rotate_left
    · (intro w hSw; (try dsimp only at hSw); go_simp; (try (with_reducible rfl)))
    simp only [Act.put, List.setIfInBounds_toArray, List.set_cons_zero, List.set_cons_succ]
    refine takeD (i := 8) (d := 14) (v := ?_) rfl rfl (by kernel_rfl) (by kernel_rfl) (by kernel_rfl) (fun _ _ _ h => h) (by rfl) ?_ (by assumption) ?_
    rotate_left
    · (intro w hSw; (try dsimp only at hSw); go_simp; (try (with_reducible rfl)))
    simp only [Act.put, List.setIfInBounds_toArray, List.set_cons_zero, List.set_cons_succ]
    refine skipD (i := 9) (d := 15) rfl rfl (by kernel_rfl) (by kernel_rfl) (by kernel_rfl) (fun _ _ _ h => h) (by rfl) (by assumption) ?_
    simp only [Act.put, List.setIfInBounds_toArray, List.set_cons_succ]
    refine skipD (i := 10) (d := 16) rfl rfl (by kernel_rfl) (by kernel_rfl) (by kernel_rfl) (fun _ _ _ h => h) (by rfl) (by assumption) ?_
    simp only [Act.put, List.setIfInBounds_toArray, List.set_cons_succ]
    refine skipD (i := 11) (d := 17) rfl rfl (by kernel_rfl) (by kernel_rfl) (by kernel_rfl) (fun _ _ _ h => h) (by rfl) (by assumption) ?_
    simp only [Act.put, List.setIfInBounds_toArray, List.set_cons_succ]
    refine skipD (i := 12) (d := 18) rfl rfl (by kernel_rfl) (by kernel_rfl) (by kernel_rfl) (fun _ _ _ h => h) (by rfl) (by assumption) ?_
    simp only [Act.put, List.setIfInBounds_toArray, List.set_cons_succ]
    refine skipD (i := 13) (d := 19) rfl rfl (by kernel_rfl) (by kernel_rfl) (by kernel_rfl) (fun _ _ _ h => h) (by rfl) (by assumption) ?_
    simp only [Act.put, List.setIfInBounds_toArray, List.set_cons_succ]
    refine skipD (i := 14) (d := 20) rfl rfl (by kernel_rfl) (by kernel_rfl) (by kernel_rfl) (fun _ _ _ h => h) (by rfl) (by assumption) ?_
    simp only [Act.put, List.setIfInBounds_toArray, List.set_cons_succ]
    refine skipD (i := 15) (d := 21) rfl rfl (by kernel_rfl) (by kernel_rfl) (by kernel_rfl) (fun _ _ _ h => h) (by rfl) (by assumption) ?_
    simp only [Act.put, List.setIfInBounds_toArray, List.set_cons_succ]
    refine skipD (i := 16) (d := 22) rfl rfl (by kernel_rfl) (by kernel_rfl) (by kernel_rfl) (fun _ _ _ h => h) (by rfl) (by assumption) ?_
    simp only [Act.put, List.setIfInBounds_toArray, List.set_cons_succ]
    refine takeD (i := 17) (d := 23) (v := ?_) rfl rfl (by kernel_rfl) (by kernel_rfl) (by kernel_rfl) (fun _ _ _ h => h) (by rfl) ?_ (by assumption) ?_
    rotate_left
    · (intro w hSw; (try dsimp only at hSw); go_simp; (try (with_reducible rfl)))
    simp only [Act.put, List.setIfInBounds_toArray, List.set_cons_zero, List.set_cons_succ]
    refine wpAnyH_done (by kernel_rfl) ?_ _
    have hc4 : Below w0.heap.size w0 w2 := hc0.trans hb2
    go_wp2_with fail
    refine bodyPost_ret (v := .tuple #[.int .i64 0, .bool false]) (by simp [results, Try.results51, go_sem]) rfl ⟨by rw [HV.out], HB.out.trans (hc4.mono HB.out.size)⟩
end Go.Proofs.Ytadmllfcnjekcaa
