/-
  ResetArena of spec and impl.
-/
import Derived.Test.YtadmllfcnjekcaaArK
namespace Go.Proofs.Ytadmllfcnjekcaa
open Go.RowKit

theorem resetArR_small (m : List (List Int)) (a : An) : Small (resetArR m a).1 ∧ (resetArR m a).2.1.ms.length ≤ 2097152 := by
  unfold resetArR
  split
  · rename_i h
    refine ⟨⟨h.1.1.1.1, fun r hr => (h.1.1.1.2 r hr).2⟩, ?_⟩
    have := h.1.2.2.2.1
    simp
    omega
  · exact ⟨⟨by simp, fun r hr => by simp at hr⟩, by simp [zeroAn]⟩
theorem Rd.takeI {w : World} {B0 k : Nat} {A : Option Addr} {zs : List Int} (h : Rd w B0 A (intV .i64 zs)) : Rd w B0 A (intV .i64 (zs.take k)) := by
  rcases h with h | ⟨b, off, e, hb, hc⟩
  · exact .inl (by simp [intV] at h; simp [intV, h])
  · refine .inr ⟨b, off, e, hb, fun i u hu => hc i u ?_⟩
    simp only [intV, List.getElem?_map, List.getElem?_take] at hu ⊢
    split at hu
    · exact hu
    · simp at hu
theorem OwnA.drew {w : World} {lo hi : Nat} {v u : Value} {m : List (List Int)} {mk : List Int} (h : OwnA w lo hi v u m mk) : OwnA w.drew lo hi v u m mk := h
theorem OwnA.capd {w : World} {lo hi d : Nat} {v : Value} {B : Option Addr} {m : List (List Int)} {mk : List Int} (h : OwnA w lo hi v (.slice B mk.length d) m mk) : mk.length ≤ d := by
  obtain ⟨mid, _, _, _, h1⟩ := h
  have h2 := h1.1
  rw [intV_len] at h2
  exact own_cap h2
theorem row_prefix {w : World} {base g c n k : Nat} {e : TypeId} {xs : List Value} (h : w.ownsRow base e 1 (.slice (some ⟨g, 0, none⟩) n c) n xs) (hk : k ≤ n) : w.ownsRow base e 1 (.slice (some ⟨g, 0, none⟩) k c) k (xs.take k) := by
  have hl := h.1
  rcases h.2 with ⟨hv, _⟩ | ⟨g2, cap, cur, hv, hbg, hg, h1, h2, h3, h4⟩
  · cases hv
  · injection hv with hA _ hC
    injection hA with hA
    injection hA with hA
    subst hA; subst hC
    refine ⟨by rw [List.length_take]; omega, .inr ⟨g, c, cur, rfl, hbg, hg, by omega, h2, h3, ?_⟩⟩
    rw [← h4, List.take_take]
    congr 1
    omega

set_option maxRecDepth 100000 in
set_option maxHeartbeats 3200000 in
theorem specResetArena_calls (A B : Option Addr) (cm d : Nat) (m : List (List Int)) (g : An) (w : World) (hkd : g.ms.length ≤ d) (hr : RdA w w.heap.size A B m g.ms) (hn : m.length ≤ maxLen) (hkl : g.ms.length ≤ maxLen) :
    Calls Try.prog 49 #[.agg #[.slice A m.length cm, .int .i64 g.w.arr, .int .i64 g.w.start, .int .i64 g.w.len, .int .i64 g.w.cap, .int .i64 g.us, .slice B g.ms.length d]] w fun e w' => ∃ v u, e = .returned (.tuple #[.agg #[v, .int .i64 (resetArR m g).2.1.w.arr, .int .i64 (resetArR m g).2.1.w.start, .int .i64 (resetArR m g).2.1.w.len, .int .i64 (resetArR m g).2.1.w.cap, .int .i64 (resetArR m g).2.1.us, u], .bool (resetArR m g).2.2]) ∧ OwnA w' w.heap.size w'.heap.size v u (resetArR m g).1 (resetArR m g).2.1.ms ∧ Below w.heap.size w w' := by
  obtain ⟨w0, hw0, hb0, hz0, haa⟩ := enterAA A B m.length cm d g w
  have HC := Lib.hid (specArena_calls A B cm d m g w0 (hr.on hb0) hn hkl)
  have HR := Lib.hid hr
  have HB := Lib.hid hb0
  have HW := Lib.hid hw0
  have HAA := Lib.hid haa
  obtain ⟨c0, d0, d1, d2, d3, d4, d5⟩ := ar_cells haa.par
  clear hr hb0 hw0 haa
  go_enter Try.func49, Try.ntmps49
  go_wp2_with fail
  rw [HW.out]
  refine HC.out.mono ?_
  rintro e w2 ⟨rfl, hb2⟩
  have HB2 := Lib.hid (HB.out.trans (hb2.mono HB.out.size))
  have HA2 := Lib.hid (HAA.out.below hb2)
  have hs2 := hb2.size
  clear hb2 c0 d0 d1 d2 d3 d4 d5
  by_cases hok : ArOK m g
  · have hd : decide (ArOK m g) = true := decide_eq_true hok
    by_cases h8 : g.ms.length = 0
    · have HV : Hid (resetArR m g = ([], zeroAn, false)) := Lib.hid (by rw [resetArR, if_neg (fun h => h.2 h8)])
      have h8' : ((g.ms.length : Int) == 0) = true := by simp [h8]
      clear h8 hok
      obtain ⟨r0, r1, r2, r3, r4, r5, r6⟩ := ar_cells HA2.out.res
      obtain ⟨f0, f1, f2, f3, f4, f5, f6⟩ := ar_frozen HA2.out.res
      go_wp2_with fail
      refine bodyPost_ret (v := .tuple #[.agg #[.slice none 0 0, .int .i64 0, .int .i64 0, .int .i64 0, .int .i64 0, .int .i64 0, .slice none 0 0], .bool false]) (by simp [results, Try.results49, go_sem, r0, r1, r2, r3, r4, r5, r6]) rfl ⟨.slice none 0 0, .slice none 0 0, by rw [HV.out]; rfl, by rw [HV.out]; exact OwnA.none_ _ (by simp only [size_seven]; have := HB2.out.size; omega), by (repeat (first | (with_reducible exact Below.refl _ _) | (with_reducible refine Below.drew ?_) | ((with_reducible refine Below.alloc ?_ ?hB _); case hB => (first | (with_reducible exact Nat.le_refl _) | omega | (simp; done) | (simp; omega))) | ((with_reducible refine Below.setCell ?_ ?hB _); case hB => (first | (with_reducible exact Nat.le_refl _) | omega | (simp; done) | (simp; omega))))); exact HB2.out⟩
    · have HV : Hid (resetArR m g = (m, ⟨g.w, g.ms.getD (g.ms.length - 1) 0, g.ms.take (g.ms.length - 1)⟩, true)) := Lib.hid (by rw [resetArR, if_pos ⟨hok, h8⟩])
      have h8' : ((g.ms.length : Int) == 0) = false := beq_false_of_ne (by omega)
      have hl8 : g.ms.length ≤ 8 := hok.2.2.2.1
      have hlt2 : g.ms.length - 1 < g.ms.length := by omega
      have hkn : ((g.ms.length : Int) - 1).toNat = g.ms.length - 1 := by omega
      have hkp : 0 ≤ (g.ms.length : Int) - 1 := by omega
      have hkq : (g.ms.length : Int) - 1 < g.ms.length := by omega
      have hkc : (g.ms.length : Int) - 1 ≤ d := by omega
      have hk1 : 1 ≤ (g.ms.length : Int) := by omega
      have hkw : IntKind.i64.wrap ((g.ms.length : Int) - 1) = (g.ms.length : Int) - 1 := IntWalk.i64_in _ (by omega)
      obtain ⟨b, off, rfl, hbb, hc⟩ := (HR.out.on HB2.out).2.int hlt2
      have HGE := Lib.hid (show g.ms.getD (g.ms.length - 1) 0 = g.ms[g.ms.length - 1] by rw [List.getD_eq_getElem?_getD, List.getElem?_eq_getElem hlt2]; rfl)
      rw [HGE.out] at HV
      have HO := Lib.hid (fun z (W : World) (hb : Below w2.heap.size w2 W) => ownArena_calls A (some ⟨b, off, none⟩) cm d m g z W (HR.out.on (HB2.out.trans (hb.mono HB2.out.size))) hok.1.1 (by omega))
      have HI := Lib.hid (fun (W : World) (hb : Below w2.heap.size w2 W) => ownInts_calls (some ⟨b, off, none⟩) d (g.ms.take (g.ms.length - 1)) W (HR.out.on (HB2.out.trans (hb.mono HB2.out.size))).2.takeI (by rw [List.length_take]; omega))
      have hlt : (g.ms.take (g.ms.length - 1)).length = g.ms.length - 1 := by rw [List.length_take]; omega
      rw [hlt] at HI
      have HL := Lib.hid (fun (W : World) (hb : Below w2.heap.size w2 W) => show W.cell? ⟨w.heap.size, 0, none⟩ = some (.slice A m.length cm) ∧ W.cell? ⟨w.heap.size, 1, none⟩ = some (.int .i64 g.w.arr) ∧ W.cell? ⟨w.heap.size, 2, none⟩ = some (.int .i64 g.w.start) ∧ W.cell? ⟨w.heap.size, 3, none⟩ = some (.int .i64 g.w.len) ∧ W.cell? ⟨w.heap.size, 4, none⟩ = some (.int .i64 g.w.cap) ∧ W.cell? ⟨w.heap.size, 5, none⟩ = some (.int .i64 g.us) ∧ W.cell? ⟨w.heap.size, 6, none⟩ = some (.slice (some ⟨b, off, none⟩) g.ms.length d) ∧ W.cell? ⟨b, off + (g.ms.length - 1), none⟩ = some (.int .i64 g.ms[g.ms.length - 1]) from by
        obtain ⟨c0, d0, d1, d2, d3, d4, d5⟩ := ar_cells (HA2.out.below hb).par
        exact ⟨c0, d0, d1, d2, d3, d4, d5, (hb.cell (cell_lt hc)).trans hc⟩)
      have hc0 : Below w2.heap.size w2 w2.drew := (Below.refl _ _).drew
      have hs0 := hc0.size
      have HLT := Lib.hid hlt
      generalize g.ms[g.ms.length - 1] = z at *
      obtain ⟨c0, d0, d1, d2, d3, d4, d5, d6⟩ := HL.out w2.drew hc0
      clear h8 hok hlt hc
      go_upto_region 4 with fail
      go_cut [5] (fun s5 wx => ∃ (q5 lo hi : Nat) (v u : Value), s5 = .pointer (some ⟨q5, 0, none⟩) ∧ ABox wx w2.heap.size q5 lo hi v u m ⟨g.w, z, g.ms⟩ g.ms ∧ Below w2.heap.size w2 wx)
      case first =>
        go_region_held3 (fun W => W.cell? ⟨w.heap.size, 0, none⟩ = some (.slice A m.length cm) ∧ W.cell? ⟨w.heap.size, 1, none⟩ = some (.int .i64 g.w.arr) ∧ W.cell? ⟨w.heap.size, 2, none⟩ = some (.int .i64 g.w.start) ∧ W.cell? ⟨w.heap.size, 3, none⟩ = some (.int .i64 g.w.len) ∧ W.cell? ⟨w.heap.size, 4, none⟩ = some (.int .i64 g.w.cap) ∧ W.cell? ⟨w.heap.size, 5, none⟩ = some (.int .i64 g.us) ∧ W.cell? ⟨w.heap.size, 6, none⟩ = some (.slice (some ⟨b, off, none⟩) g.ms.length d) ∧ W.cell? ⟨b, off + (g.ms.length - 1), none⟩ = some (.int .i64 z))
          (first | (with_reducible exact ⟨c0, d0, d1, d2, d3, d4, d5, d6⟩) | exact HL.out _ (by (repeat (first | (with_reducible exact Below.refl _ _) | (with_reducible refine Below.drew ?_) | ((with_reducible refine Below.alloc ?_ ?hB _); case hB => (first | (with_reducible exact Nat.le_refl _) | omega | (simp; done) | (simp; omega))) | ((with_reducible refine Below.setCell ?_ ?hB _); case hB => (first | (with_reducible exact Nat.le_refl _) | omega | (simp; done) | (simp; omega))))); (first | done | exact hc3)) | exact HL.out _ (by (repeat (first | (with_reducible exact Below.refl _ _) | (with_reducible refine Below.drew ?_) | ((with_reducible refine Below.alloc ?_ ?hB _); case hB => (first | (with_reducible exact Nat.le_refl _) | omega | (simp; done) | (simp; omega))) | ((with_reducible refine Below.setCell ?_ ?hB _); case hB => (first | (with_reducible exact Nat.le_refl _) | omega | (simp; done) | (simp; omega))))); (first | done | exact hc0)) | fail)
          (first | (go_at_call 93; refine (HO.out z _ (by (repeat (first | (with_reducible exact Below.refl _ _) | (with_reducible refine Below.drew ?_) | ((with_reducible refine Below.alloc ?_ ?hB _); case hB => (first | (with_reducible exact Nat.le_refl _) | omega | (simp; done) | (simp; omega))) | ((with_reducible refine Below.setCell ?_ ?hB _); case hB => (first | (with_reducible exact Nat.le_refl _) | omega | (simp; done) | (simp; omega))))); (first | done | exact hc0))).mono ?_; rintro e w3 ⟨v, u, rfl, ho, hb3⟩; obtain ⟨Av, cv, Bu, du, rfl, rfl, hcv⟩ := ho.form; have hc3 : Below w2.heap.size w2 w3 := below_step (by (repeat (first | (with_reducible exact Below.refl _ _) | (with_reducible refine Below.drew ?_) | ((with_reducible refine Below.alloc ?_ ?hB _); case hB => (first | (with_reducible exact Nat.le_refl _) | omega | (simp; done) | (simp; omega))) | ((with_reducible refine Below.setCell ?_ ?hB _); case hB => (first | (with_reducible exact Nat.le_refl _) | omega | (simp; done) | (simp; omega))))); (first | done | exact hc0)) hb3; have hs3 := hc3.size; have hs3' := hb3.size; (first | (with_reducible have hz := Lib.hid (show w3.heap[w2.heap.size]? = some (.cells #[.slice none 0 0, .int .i64 0, .int .i64 0, .int .i64 0, .int .i64 0, .int .i64 0, .slice none 0 0] 35) from box_new_d hb3)) | skip); (try (have hX := ar_cells hz.out; obtain ⟨k0, k1, k2, k3, k4, k5, k6⟩ := hX)); (try (have hY := ar_frozen hz.out; obtain ⟨e0, e1, e2, e3, e4, e5, e6⟩ := hY))))
        all_goals (go_wp2_with fail)
        all_goals go_meet
        all_goals (first | (have hzz := hz.out; exact ⟨w2.heap.size, _, w3.heap.size, _, _, rfl, ABox.mk' (q := ⟨g.w, z, g.ms⟩) (by with_reducible exact ar_set hzz) (OwnA.seven ho (.inl (by simp))) (Nat.le_refl _) (by simp) (by simp only [size_seven]; exact Nat.le_refl _) (by simp only [size_seven]; exact hs3') (.inl (by simp)), by (repeat (first | (with_reducible exact Below.refl _ _) | (with_reducible refine Below.drew ?_) | ((with_reducible refine Below.alloc ?_ ?hB _); case hB => (first | (with_reducible exact Nat.le_refl _) | omega | (simp; done) | (simp; omega))) | ((with_reducible refine Below.setCell ?_ ?hB _); case hB => (first | (with_reducible exact Nat.le_refl _) | omega | (simp; done) | (simp; omega))))); (first | done | exact hc3)⟩) | exact ⟨w3.heap.size, _, w3.heap.size, _, _, rfl, ABox.mk' (q := ⟨g.w, z, g.ms⟩) (by with_reducible exact heap_alloc_new _ _) (ho.below (by (repeat (first | (with_reducible exact Below.refl _ _) | (with_reducible refine Below.drew ?_) | ((with_reducible refine Below.alloc ?_ ?hB _); case hB => (first | (with_reducible exact Nat.le_refl _) | omega | (simp; done) | (simp; omega))) | ((with_reducible refine Below.setCell ?_ ?hB _); case hB => (first | (with_reducible exact Nat.le_refl _) | omega | (simp; done) | (simp; omega))))))) hc3.size (Nat.le_refl _) (by simp) (by simp; omega) (.inr (Nat.le_refl _)), by (repeat (first | (with_reducible exact Below.refl _ _) | (with_reducible refine Below.drew ?_) | ((with_reducible refine Below.alloc ?_ ?hB _); case hB => (first | (with_reducible exact Nat.le_refl _) | omega | (simp; done) | (simp; omega))) | ((with_reducible refine Below.setCell ?_ ?hB _); case hB => (first | (with_reducible exact Nat.le_refl _) | omega | (simp; done) | (simp; omega))))); (first | done | exact hc3)⟩)
      case rest =>
        obtain ⟨q5, lo, hi, v, u, rfl, hx, hb4⟩ := hcut
        obtain ⟨w4, hw4⟩ : ∃ w4, w4 = wc := ⟨_, rfl⟩
        subst hw4
        obtain ⟨Av, cv, Bu, du, rfl, rfl, hcv⟩ := hx.own.form
        have HX := Lib.hid hx
        have HB4 := Lib.hid hb4
        have hg4 := hx.gW
        have hbg := hx.bg
        have HR4 := Lib.hid (HA2.out.below hb4).res
        clear hx hb4 c0 d0 d1 d2 d3 d4 d5 d6
        obtain ⟨c0, d0, d1, d2, d3, d4, d5, d6⟩ := HL.out w4 HB4.out
        obtain ⟨x0, x1, x2, x3, x4, x5, x6⟩ := HX.out.cells
        go_wp2_with fail
        refine (HI.out w4 HB4.out).mono ?_
        rintro e w5 ⟨u5, rfl, hu5, hb5⟩
        obtain ⟨B5, e5, rfl⟩ := own_form hu5
        have HX5 := Lib.hid (HX.out.below hb5)
        have HB5 := Lib.hid (HB4.out.trans (hb5.mono HB4.out.size))
        have HR5 := Lib.hid ((hb5.block _ (Array.getElem?_eq_some_iff.1 HR4.out).1).trans HR4.out)
        have HU5 := Lib.hid hu5
        have hs5 := hb5.size
        have hlo := HX.out.loW
        have hhi := HX.out.hiW
        have hout := HX.out.out
        have hblo := HX.out.blo
        clear hb5 hu5 c0 d0 d1 d2 d3 d4 d5 d6 x0 x1 x2 x3 x4 x5 x6
        obtain ⟨x0, x1, x2, x3, x4, x5, x6⟩ := ar_cells HX5.out.box
        obtain ⟨y0, y1, y2, y3, y4, y5, y6⟩ := ar_frozen HX5.out.box
        obtain ⟨r0, r1, r2, r3, r4, r5, r6⟩ := ar_cells HR5.out
        obtain ⟨f0, f1, f2, f3, f4, f5, f6⟩ := ar_frozen HR5.out
        have hl2 := HB2.out.size
        go_wp2_with fail
        refine bodyPost_ret (v := .tuple #[.agg #[.slice Av m.length cv, .int .i64 g.w.arr, .int .i64 g.w.start, .int .i64 g.w.len, .int .i64 g.w.cap, .int .i64 z, .slice B5 (g.ms.length - 1) e5], .bool true]) (by simp [results, Try.results49, go_sem, r0, r1, r2, r3, r4, r5, r6]) rfl ⟨.slice Av m.length cv, .slice B5 (g.ms.length - 1) e5, by rw [HV.out], ?_, by (repeat (first | (with_reducible exact Below.refl _ _) | (with_reducible refine Below.drew ?_) | ((with_reducible refine Below.alloc ?_ ?hB _); case hB => (first | (with_reducible exact Nat.le_refl _) | omega | (simp; done) | (simp; omega))) | ((with_reducible refine Below.setCell ?_ ?hB _); case hB => (first | (with_reducible exact Nat.le_refl _) | omega | (simp; done) | (simp; omega))))); exact HB2.out.trans (HB5.out.mono HB2.out.size)⟩
        rw [HV.out]
        obtain ⟨mid, hm1, hm2, hom, _⟩ := HX5.out.own
        have hsp : Span q5 (q5 + 1) w5 (w5.setCell ⟨q5, 6, none⟩ (.slice B5 (g.ms.length - 1) e5)) := span_set (Span.refl _ _ _) (Nat.le_refl _) (by omega)
        have hfin : OwnA (w5.setCell ⟨q5, 6, none⟩ (.slice B5 (g.ms.length - 1) e5)) lo (w5.setCell ⟨q5, 6, none⟩ (.slice B5 (g.ms.length - 1) e5)).heap.size (.slice Av m.length cv) (.slice B5 (g.ms.length - 1) e5) m (g.ms.take (g.ms.length - 1)) :=
          ⟨w4.heap.size, hlo, by rw [World.size_setCell]; exact hs5, (hom.span hsp (by omega)).mono (Nat.le_refl _) (by omega), OwnR.new (by rw [intV_len, HLT.out]; exact own_past HU5.out hsp (row_ne HU5.out HX5.out.box (by decide)))⟩
        exact (hfin.seven (.inl (by omega))).mono (by omega) (by simp only [World.size_setCell]; exact Nat.le_refl _)
  · have hd : decide (ArOK m g) = false := decide_eq_false hok
    have HV : Hid (resetArR m g = ([], zeroAn, false)) := Lib.hid (by rw [resetArR, if_neg (fun h => hok h.1)])
    clear hok
    obtain ⟨r0, r1, r2, r3, r4, r5, r6⟩ := ar_cells HA2.out.res
    obtain ⟨f0, f1, f2, f3, f4, f5, f6⟩ := ar_frozen HA2.out.res
    go_wp2_with fail
    refine bodyPost_ret (v := .tuple #[.agg #[.slice none 0 0, .int .i64 0, .int .i64 0, .int .i64 0, .int .i64 0, .int .i64 0, .slice none 0 0], .bool false]) (by simp [results, Try.results49, go_sem, r0, r1, r2, r3, r4, r5, r6]) rfl ⟨.slice none 0 0, .slice none 0 0, by rw [HV.out]; rfl, by rw [HV.out]; exact OwnA.none_ _ (by simp only [size_seven]; have := HB2.out.size; omega), by (repeat (first | (with_reducible exact Below.refl _ _) | (with_reducible refine Below.drew ?_) | ((with_reducible refine Below.alloc ?_ ?hB _); case hB => (first | (with_reducible exact Nat.le_refl _) | omega | (simp; done) | (simp; omega))) | ((with_reducible refine Below.setCell ?_ ?hB _); case hB => (first | (with_reducible exact Nat.le_refl _) | omega | (simp; done) | (simp; omega))))); exact HB2.out⟩

set_option maxRecDepth 100000 in
set_option maxHeartbeats 3200000 in
theorem implResetArena_calls (A B : Option Addr) (cm d : Nat) (m : List (List Int)) (g : An) (w : World) (_hkd : g.ms.length ≤ d) (hr : RdA w w.heap.size A B m g.ms) (hn : m.length ≤ maxLen) (hkl : g.ms.length ≤ maxLen) (hx : AArgW g) :
    Calls Try.prog 50 #[.agg #[.slice A m.length cm, .int .i64 g.w.arr, .int .i64 g.w.start, .int .i64 g.w.len, .int .i64 g.w.cap, .int .i64 g.us, .slice B g.ms.length d]] w fun e w' => ∃ v u, e = .returned (.tuple #[.agg #[v, .int .i64 (resetArR m g).2.1.w.arr, .int .i64 (resetArR m g).2.1.w.start, .int .i64 (resetArR m g).2.1.w.len, .int .i64 (resetArR m g).2.1.w.cap, .int .i64 (resetArR m g).2.1.us, u], .bool (resetArR m g).2.2]) ∧ OwnA w' w.heap.size w'.heap.size v u (resetArR m g).1 (resetArR m g).2.1.ms ∧ Below w.heap.size w w' := by
  obtain ⟨w0, hw0, hb0, hz0, haa⟩ := enterAA A B m.length cm d g w
  have HC := Lib.hid (openA_calls w.heap.size A B cm d m g w0 haa.par (hr.on hb0) hn hkl hx)
  have HB := Lib.hid hb0
  have HW := Lib.hid hw0
  have HAA := Lib.hid haa
  have hkw : IntKind.i64.wrap ((g.ms.length : Int) - 1) = (g.ms.length : Int) - 1 := IntWalk.i64_in _ (by unfold maxLen at hkl; omega)
  obtain ⟨c0, d0, d1, d2, d3, d4, d5⟩ := ar_cells haa.par
  clear hr hb0 hw0 haa
  go_enter Try.func50, Try.ntmps50
  go_wp2_with fail
  rw [HW.out]
  refine HC.out.mono ?_
  rintro e w2 (⟨hok, rfl, hb2⟩ | ⟨hok, rfl, hsp, A2, c2, B2, e2, hq2, ho2⟩)
  · have HV : Hid (resetArR m g = ([], zeroAn, false)) := Lib.hid (by rw [resetArR, if_neg (fun h => hok h.1)])
    have HB2 := Lib.hid (HB.out.trans (hb2.mono HB.out.size))
    have HA2 := Lib.hid (HAA.out.below hb2)
    clear hok hb2
    obtain ⟨r0, r1, r2, r3, r4, r5, r6⟩ := ar_cells HA2.out.res
    obtain ⟨f0, f1, f2, f3, f4, f5, f6⟩ := ar_frozen HA2.out.res
    go_wp2_with fail
    refine bodyPost_ret (v := .tuple #[.agg #[.slice none 0 0, .int .i64 0, .int .i64 0, .int .i64 0, .int .i64 0, .int .i64 0, .slice none 0 0], .bool false]) (by simp [results, Try.results50, go_sem, r0, r1, r2, r3, r4, r5, r6]) rfl ⟨.slice none 0 0, .slice none 0 0, by rw [HV.out]; rfl, by rw [HV.out]; exact OwnA.none_ _ (by simp only [size_seven]; have := HB2.out.size; omega), by (repeat (first | (with_reducible exact Below.refl _ _) | (with_reducible refine Below.drew ?_) | ((with_reducible refine Below.alloc ?_ ?hB _); case hB => (first | (with_reducible exact Nat.le_refl _) | omega | (simp; done) | (simp; omega))) | ((with_reducible refine Below.setCell ?_ ?hB _); case hB => (first | (with_reducible exact Nat.le_refl _) | omega | (simp; done) | (simp; omega))))); exact HB2.out⟩
  · have HB2 := Lib.hid (HB.out.trans ((hsp.below (by omega)).mono (Nat.le_refl _)))
    have HR2 := Lib.hid ((hsp.block _ (Array.getElem?_eq_some_iff.1 HAA.out.res).1 (.inr (Nat.le_refl _))).trans HAA.out.res)
    have HQ2 := Lib.hid hq2
    have hs2 := hsp.size
    have HO2 := Lib.hid ho2
    clear c0 d0 d1 d2 d3 d4 d5
    obtain ⟨c0, d0, d1, d2, d3, d4, d5⟩ := ar_cells hq2
    obtain ⟨r0, r1, r2, r3, r4, r5, r6⟩ := ar_cells HR2.out
    obtain ⟨f0, f1, f2, f3, f4, f5, f6⟩ := ar_frozen HR2.out
    by_cases h8 : g.ms.length = 0
    · have HV : Hid (resetArR m g = ([], zeroAn, false)) := Lib.hid (by rw [resetArR, if_neg (fun h => h.2 h8)])
      have h8' : decide ((g.ms.length : Int) - 1 < 0) = true := decide_eq_true (by omega)
      have h9' : (g.ms.length : Int) - 1 < 0 := by omega
      clear h8 hok hsp hq2 ho2
      go_wp2_with fail
      refine bodyPost_ret (v := .tuple #[.agg #[.slice none 0 0, .int .i64 0, .int .i64 0, .int .i64 0, .int .i64 0, .int .i64 0, .slice none 0 0], .bool false]) (by simp [results, Try.results50, go_sem, r0, r1, r2, r3, r4, r5, r6]) rfl ⟨.slice none 0 0, .slice none 0 0, by rw [HV.out]; rfl, by rw [HV.out]; exact OwnA.none_ _ (by simp only [size_seven]; have := HB2.out.size; omega), by (repeat (first | (with_reducible exact Below.refl _ _) | (with_reducible refine Below.drew ?_) | ((with_reducible refine Below.alloc ?_ ?hB _); case hB => (first | (with_reducible exact Nat.le_refl _) | omega | (simp; done) | (simp; omega))) | ((with_reducible refine Below.setCell ?_ ?hB _); case hB => (first | (with_reducible exact Nat.le_refl _) | omega | (simp; done) | (simp; omega))))); exact HB2.out⟩
    · have HV : Hid (resetArR m g = (m, ⟨g.w, g.ms.getD (g.ms.length - 1) 0, g.ms.take (g.ms.length - 1)⟩, true)) := Lib.hid (by rw [resetArR, if_pos ⟨hok, h8⟩])
      have h9' : ¬ (g.ms.length : Int) - 1 < 0 := by omega
      have hl8 : g.ms.length ≤ 8 := hok.2.2.2.1
      have hlt2 : g.ms.length - 1 < g.ms.length := by omega
      have hkn : ((g.ms.length : Int) - 1).toNat = g.ms.length - 1 := by omega
      have hkp : 0 ≤ (g.ms.length : Int) - 1 := by omega
      have hkq : (g.ms.length : Int) - 1 < g.ms.length := by omega
      obtain ⟨mid, hm1, hm2, hom, hor⟩ := ho2
      have hor1 := hor.1
      rw [intV_len] at hor1
      have hcap := own_cap hor1
      have hkc : (g.ms.length : Int) - 1 ≤ e2 := by omega
      obtain ⟨b, off, rfl, hbb, hc⟩ := (ownI_rd hor).int hlt2
      have HGE := Lib.hid (show g.ms.getD (g.ms.length - 1) 0 = g.ms[g.ms.length - 1] by rw [List.getD_eq_getElem?_getD, List.getElem?_eq_getElem hlt2]; rfl)
      rw [HGE.out] at HV
      obtain ⟨g0, hg0, hoff⟩ : ∃ g0, b = g0 ∧ off = 0 := by
        rcases hor1.2 with ⟨hv, h0⟩ | ⟨g', cap, cur, hv, _⟩
        · omega
        · injection hv with hA
          injection hA with hA
          injection hA with h1 h2
          exact ⟨_, rfl, h2⟩
      subst hg0 hoff
      rw [Nat.zero_add] at hc
      have hk1 : 1 ≤ (g.ms.length : Int) := by omega
      have HPR := Lib.hid (row_prefix hor1 (k := g.ms.length - 1) (by omega))
      have HLT := Lib.hid (show b < w2.heap.size from hor.2 b rfl)
      have HOM := Lib.hid hom
      obtain ⟨x0, x1, x2, x3, x4, x5, x6⟩ := ar_frozen hq2
      generalize g.ms[g.ms.length - 1] = z at *
      clear h8 hok hsp hq2 hom hor hor1
      go_wp2_with fail
      go_region
      all_goals (go_wp2_with fail)
      refine bodyPost_ret (v := .tuple #[.agg #[.slice A2 m.length c2, .int .i64 g.w.arr, .int .i64 g.w.start, .int .i64 g.w.len, .int .i64 g.w.cap, .int .i64 z, .slice (some ⟨b, 0, none⟩) (g.ms.length - 1) e2], .bool true]) (by simp [results, Try.results50, go_sem, r0, r1, r2, r3, r4, r5, r6]) rfl ⟨.slice A2 m.length c2, .slice (some ⟨b, 0, none⟩) (g.ms.length - 1) e2, by rw [HV.out], ?_, by (repeat (first | (with_reducible exact Below.refl _ _) | (with_reducible refine Below.drew ?_) | ((with_reducible refine Below.alloc ?_ ?hB _); case hB => (first | (with_reducible exact Nat.le_refl _) | omega | (simp; done) | (simp; omega))) | ((with_reducible refine Below.setCell ?_ ?hB _); case hB => (first | (with_reducible exact Nat.le_refl _) | omega | (simp; done) | (simp; omega))))); exact HB2.out⟩
      rw [HV.out]
      have ht : (intV .i64 g.ms).take (g.ms.length - 1) = intV .i64 (g.ms.take (g.ms.length - 1)) := by simp [intV, List.map_take]
      have hfin : OwnA w2 w0.heap.size w2.heap.size (.slice A2 m.length c2) (.slice (some ⟨b, 0, none⟩) (g.ms.length - 1) e2) m (g.ms.take (g.ms.length - 1)) :=
        ⟨mid, hm1, hm2, HOM.out, by rw [intV_len, List.length_take, Nat.min_eq_left (by omega), ← ht]; exact HPR.out, fun b' hb' => by have hb2 : b = b' := Option.some.inj hb'; have := HLT.out; omega⟩
      have hf2 := ((hfin.setC (g := w.heap.size) (i := 5) (x := .int .i64 z) (.inl (by omega))).setC (g := w.heap.size) (i := 6) (x := .slice (some ⟨b, 0, none⟩) (g.ms.length - 1) e2) (.inl (by omega))).seven (g := w.heap.size + 1) (v0 := .slice A2 m.length c2) (v1 := .int .i64 g.w.arr) (v2 := .int .i64 g.w.start) (v3 := .int .i64 g.w.len) (v4 := .int .i64 g.w.cap) (v5 := .int .i64 z) (v6 := .slice (some ⟨b, 0, none⟩) (g.ms.length - 1) e2) (.inl (by omega))
      exact hf2.drew.mono (by omega) (by simp)
end Go.Proofs.Ytadmllfcnjekcaa
