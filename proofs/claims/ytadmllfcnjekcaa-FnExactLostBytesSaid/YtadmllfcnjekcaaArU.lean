/-
  Giving, as mathematics; give of impl.
-/
import Derived.Test.YtadmllfcnjekcaaArL
import Derived.Test.YtadmllfcnjekcaaAk
import Derived.Test.YtadmllfcnjekcaaWin2
namespace Go.Proofs.Ytadmllfcnjekcaa
open Go.RowKit

/-- What is used behind giving a list. -/
def usedA (u : Int) (qs : List Ak) : Int := qs.foldl (fun u q => upTo u q.al + q.size) u
theorem usedA_nil (u : Int) : usedA u [] = u := rfl
theorem usedA_snoc (u : Int) (qs : List Ak) (q : Ak) : usedA u (qs ++ [q]) = upTo (usedA u qs) q.al + q.size := by simp [usedA]
theorem usedA_take (u : Int) (qs : List Ak) {i : Nat} (h : i < qs.length) : usedA u (qs.take (i + 1)) = upTo (usedA u (qs.take i)) qs[i].al + qs[i].size := by
  rw [List.take_succ_eq_append_getElem h, usedA_snoc]
/-- The first n of a list can be given. -/
def OkAt (l u : Int) (qs : List Ak) (n : Nat) : Prop := ∀ i, i < n → AskOK (qs.getD i default).size (qs.getD i default).al ∧ Fits l (usedA u (qs.take i)) (qs.getD i default).size (qs.getD i default).al
instance (l u : Int) (qs : List Ak) (n : Nat) : Decidable (OkAt l u qs n) := by unfold OkAt; exact inferInstance
theorem getD_ak {qs : List Ak} {i : Nat} (h : i < qs.length) : qs.getD i default = qs[i] := by rw [List.getD_eq_getElem?_getD, List.getElem?_eq_getElem h]; rfl
theorem OkAt.zero (l u : Int) (qs : List Ak) : OkAt l u qs 0 := fun i h => by omega
theorem OkAt.snoc {l u : Int} {qs : List Ak} {n : Nat} (h : OkAt l u qs n) (hn : n < qs.length) (h1 : AskOK qs[n].size qs[n].al) (h2 : Fits l (usedA u (qs.take n)) qs[n].size qs[n].al) : OkAt l u qs (n + 1) := fun i hi => by
  rcases Nat.lt_succ_iff_lt_or_eq.1 hi with h3 | rfl
  · exact h i h3
  · rw [getD_ak hn]; exact ⟨h1, h2⟩
theorem OkAt.at_ {l u : Int} {qs : List Ak} {n i : Nat} (h : OkAt l u qs n) (hi : i < n) (hn : i < qs.length) : AskOK qs[i].size qs[i].al ∧ Fits l (usedA u (qs.take i)) qs[i].size qs[i].al := by
  have h1 := h i hi
  rw [getD_ak hn] at h1
  exact h1
theorem OkAt.used {l u : Int} {qs : List Ak} {n : Nat} (h : OkAt l u qs n) (hn : n ≤ qs.length) (h0 : 0 ≤ u) (h1 : u ≤ l) : 0 ≤ usedA u (qs.take n) ∧ usedA u (qs.take n) ≤ l := by
  induction n with
  | zero => rw [List.take_zero, usedA_nil]; exact ⟨h0, h1⟩
  | succ k ih =>
    have h2 := ih (fun i hi => h i (by omega)) (by omega)
    obtain ⟨⟨a1, a2, a3⟩, f1, f2⟩ := h.at_ (i := k) (by omega) (by omega)
    rw [usedA_take u qs (by omega)]
    have h3 := upTo_range h2.1 a2
    omega
/-- The window with number i that is given. -/
def winA (w : Win) (u : Int) (qs : List Ak) (i : Nat) : Win := ⟨w.arr, w.start + upTo (usedA u (qs.take i)) (qs.getD i default).al, (qs.getD i default).size, (qs.getD i default).size⟩
def winsA (w : Win) (u : Int) (qs : List Ak) (n : Nat) : List Win := (List.range n).map (winA w u qs)
theorem winsA_len (w : Win) (u : Int) (qs : List Ak) (n : Nat) : (winsA w u qs n).length = n := by simp [winsA]
theorem winsA_succ (w : Win) (u : Int) (qs : List Ak) (n : Nat) : winsA w u qs (n + 1) = winsA w u qs n ++ [winA w u qs n] := by simp [winsA, List.range_succ]
def GiveOK (m : List (List Int)) (a : An) (qs : List Ak) : Prop := ArOK m a ∧ qs.length ≤ 6 ∧ OkAt a.w.len a.us qs qs.length
instance (m : List (List Int)) (a : An) (qs : List Ak) : Decidable (GiveOK m a qs) := by unfold GiveOK; exact inferInstance
def giveAllR (m : List (List Int)) (a : An) (qs : List Ak) : List (List Int) × An × List Win × Bool :=
  if GiveOK m a qs then (m, ⟨a.w, usedA a.us qs, a.ms⟩, winsA a.w a.us qs qs.length, true) else ([], zeroAn, [], false)
def sumA (qs : List Ak) : Int := qs.foldl (fun u q => u + q.size) 0
def lostR (m : List (List Int)) (a : An) (qs : List Ak) : Int × Bool := if GiveOK m a qs then (usedA a.us qs - a.us - sumA qs, true) else (0, false)

/-- What give does with the arena in block q. -/
def GaveIn (A B : Option Addr) (cm d : Nat) (m : List (List Int)) (g : An) (x : Ak) (q : Nat) (w : World) (e : Ending) (w' : World) : Prop :=
  (¬ (AskOK x.size x.al ∧ Fits g.w.len g.us x.size x.al) ∧ e = .returned (.tuple #[.agg #[.int .i64 0, .int .i64 0, .int .i64 0, .int .i64 0], .bool false]) ∧ Below w.heap.size w w') ∨
  (AskOK x.size x.al ∧ Fits g.w.len g.us x.size x.al ∧ e = .returned (.tuple #[.agg #[.int .i64 g.w.arr, .int .i64 (g.w.start + upTo g.us x.al), .int .i64 x.size, .int .i64 x.size], .bool true]) ∧ Span q (q + 1) w w' ∧
    w'.heap[q]? = some (.cells #[.slice A m.length cm, .int .i64 g.w.arr, .int .i64 g.w.start, .int .i64 g.w.len, .int .i64 g.w.cap, .int .i64 (upTo g.us x.al + x.size), .slice B g.ms.length d] 35))
theorem five_set {w : World} {q : Nat} {u0 u1 u2 u3 u4 u5 u6 v5 : Value} {t : TypeId} (h : w.heap[q]? = some (.cells #[u0, u1, u2, u3, u4, u5, u6] t)) : (w.setCell ⟨q, 5, none⟩ v5).heap[q]? = some (.cells #[u0, u1, u2, u3, u4, v5, u6] t) := by
  have h1 := ar_put (i := 5) (v := v5) h
  simpa using h1
theorem sliceV_new {m : List (List Int)} {x : Win} {f s : Int} (h : WinOK m x) (h0 : 0 ≤ f) (h1 : 0 ≤ s) (h2 : f + s ≤ x.cap) : sliceV m x f (f + s) (f + s) = .tuple #[.agg #[.int .i64 x.arr, .int .i64 (x.start + f), .int .i64 s, .int .i64 s], .bool true] := by
  rw [sliceV, if_pos ⟨h, h0, by omega, Int.le_refl _, h2⟩, show f + s - f = s by omega]

/-- A block that the call has made is changed. -/
theorem span_out {w wx : World} {lo hi q i : Nat} {v : Value} (h : Span lo hi w wx) (hq : w.heap.size ≤ q) : Span lo hi w (wx.setCell ⟨q, i, none⟩ v) :=
  ⟨h.os, h.tape, h.output, by rw [World.size_setCell]; exact h.size, fun k hk ho => (Below.heap_setCell _ _ _ _ (show k ≠ q by omega)).trans (h.block k hk ho)⟩
set_option maxRecDepth 100000 in
set_option maxHeartbeats 3200000 in
theorem giveIn_calls (q : Nat) (A B : Option Addr) (cm d : Nat) (m : List (List Int)) (g : An) (x : Ak) (w : World) (hq : w.heap[q]? = some (.cells #[.slice A m.length cm, .int .i64 g.w.arr, .int .i64 g.w.start, .int .i64 g.w.len, .int .i64 g.w.cap, .int .i64 g.us, .slice B g.ms.length d] 35)) (hr : ∀ W, Span q (q + 1) w W → Rd2 W W.heap.size A m) (hn : m.length ≤ maxLen) (hxw : WArg g.w) (hok : WinOK m g.w) (hu : 0 ≤ g.us ∧ g.us ≤ g.w.len) (_hx : KArg x) :
    Calls Try.prog 98 #[.pointer (some ⟨q, 0, none⟩), .agg #[.int .i64 x.size, .int .i64 x.al]] w fun e w' => GaveIn A B cm d m g x q w e w' := by
  have hbd : 0 ≤ g.w.len ∧ g.w.len ≤ 64 ∧ g.w.len ≤ g.w.cap ∧ 0 ≤ g.w.start ∧ g.w.start ≤ 64 ∧ g.w.cap ≤ 64 := by
    obtain ⟨n0, s0, l0, c0, e0, hnl, hlc, hsc, h1r, h64, h16⟩ := hok.nat
    rw [e0]
    dsimp only
    omega
  obtain ⟨hb1, hb2, hb3, hb4, hb5, hb6⟩ := hbd
  obtain ⟨hu0, hu1⟩ := hu
  have hqs := (Array.getElem?_eq_some_iff.1 hq).1
  obtain ⟨hb0, g1, g2, hz⟩ := enter2 w (.cells #[.int .i64 x.size, .int .i64 x.al] 52) (.cells #[.int .i64 0, .int .i64 0, .int .i64 0, .int .i64 0] 33)
  obtain ⟨w0, hw0⟩ : ∃ w0, (w.alloc (.cells #[.int .i64 x.size, .int .i64 x.al] 52)).alloc (.cells #[.int .i64 0, .int .i64 0, .int .i64 0, .int .i64 0] 33) = w0 := ⟨_, rfl⟩
  rw [hw0] at hb0 g1 g2 hz
  have hq0 := (hb0.block _ hqs).trans hq
  have HL := Lib.hid (fun W => leftIn_calls q (.slice A m.length cm) (.slice B g.ms.length d) g x.al 35 W)
  have HB := Lib.hid hb0
  have HW := Lib.hid hw0
  have HQ0 := Lib.hid hq0
  have HG := Lib.hid (And.intro g1 g2)
  have hbL : 0 ≤ g.us ∧ g.us ≤ 64 ∧ 0 ≤ g.w.len ∧ g.w.len ≤ 64 := by omega
  obtain ⟨x0, x1⟩ := two_cells g1
  obtain ⟨r0, r1, r2, r3⟩ := four_cells g2
  obtain ⟨f0, f1, f2, f3⟩ := four_frozen g2
  clear hb0 hw0 g1 g2 hq
  go_enter Try.func98, Try.ntmps98
  go_wp2_with fail
  rw [HW.out]
  refine (HL.out w0 hq0 hbL).mono ?_
  rintro e w2 ⟨rfl, rfl⟩
  clear hq0
  by_cases hal : 1 ≤ x.al ∧ x.al ≤ 16 ∧ upTo g.us x.al ≤ g.w.len
  · have HLV := Lib.hid (show leftV g x.al = (g.w.len - upTo g.us x.al, true) by rw [leftV, if_pos hal])
    rw [HLV.out]
    obtain ⟨ha1, ha2, ha3⟩ := hal
    obtain ⟨t0, t1⟩ := upTo_range hu0 ha1
    by_cases hs0 : 0 ≤ x.size
    · by_cases hs1 : x.size ≤ g.w.len - upTo g.us x.al
      · have HOK := Lib.hid (show AskOK x.size x.al ∧ Fits g.w.len g.us x.size x.al from ⟨⟨hs0, ha1, ha2⟩, ha3, hs1⟩)
        generalize hFe : upTo g.us x.al = F at *
        have HFE := Lib.hid hFe
        clear hFe
        have hF : 0 ≤ F := by omega
        obtain ⟨c0, d0, d1, d2, d3, d4, d5⟩ := ar_cells HQ0.out
        obtain ⟨k0, k1', k2', k3', k4', k5', k6'⟩ := ar_frozen HQ0.out
        have j0 : IntKind.i64.wrap (g.w.len - (g.w.len - F)) = F := by rw [IntWalk.i64_in _ (by omega)]; omega
        have j1 : IntKind.i64.wrap F = F := IntWalk.i64_in _ (by omega)
        have j2 : IntKind.i64.wrap (F + x.size) = F + x.size := IntWalk.i64_in _ (by omega)
        have j3 : g.w.len - (g.w.len - F) = F := by omega
        obtain ⟨w3, hw3⟩ : ∃ w3, w2.setCell ⟨q, 5, none⟩ (.int .i64 (F + x.size)) = w3 := ⟨_, rfl⟩
        have hs3 : Span q (q + 1) w2 w3 := by rw [← hw3]; exact span_set (Span.refl _ _ _) (Nat.le_refl _) (by omega)
        have h3 : w3.heap[q]? = some (.cells #[.slice A m.length cm, .int .i64 g.w.arr, .int .i64 g.w.start, .int .i64 g.w.len, .int .i64 g.w.cap, .int .i64 (F + x.size), .slice B g.ms.length d] 35) := by rw [← hw3]; exact five_set HQ0.out
        have hsw : Span q (q + 1) w w3 := (Span.of_below HB.out).trans hs3
        have HR3 := Lib.hid ((hs3.block _ (Array.getElem?_eq_some_iff.1 HG.out.2).1 (.inr (by omega))).trans HG.out.2)
        have HS : Hid (Calls Try.prog 112 #[.agg #[.slice A m.length cm], .agg #[.int .i64 g.w.arr, .int .i64 g.w.start, .int .i64 g.w.len, .int .i64 g.w.cap], .int .i64 F, .int .i64 (F + x.size), .int .i64 (F + x.size)] w3.drew fun e w' => e = .returned (.tuple #[.agg #[.int .i64 g.w.arr, .int .i64 (g.w.start + F), .int .i64 x.size, .int .i64 x.size], .bool true]) ∧ Below w3.heap.size w3.drew w') := Lib.hid (by
          have h := implSliceThree_calls A cm m g.w F (F + x.size) (F + x.size) w3.drew (show Rd2 w3 w3.heap.size A m from hr w3 hsw) hn hxw
          rw [sliceV_new hok hF hs0 (by omega)] at h
          exact h)
        have HL3 := Lib.hid (fun (W : World) (hb : W.heap[q]? = some (.cells #[.slice A m.length cm, .int .i64 g.w.arr, .int .i64 g.w.start, .int .i64 g.w.len, .int .i64 g.w.cap, .int .i64 (F + x.size), .slice B g.ms.length d] 35)) => ar_cells hb)
        have HW3 := Lib.hid hw3
        have HQ3 := Lib.hid h3
        have HSW := Lib.hid hsw
        have hz3 : w3.heap.size = w.heap.size + 2 := by rw [← hw3, World.size_setCell]; exact hz
        clear hw3 hs3 h3 hsw hr hok
        go_upto_region 6 with fail
        rw [HW3.out]
        clear c0 d0 d1 d2 d3 d4 d5 x0 x1 r0 r1 r2 r3 f0 f1 f2 f3
        obtain ⟨c0, d0, d1, d2, d3, d4, d5⟩ := HL3.out w3.drew HQ3.out
        go_region_held3 (fun W => W.cell? ⟨q, 0, none⟩ = some (.slice A m.length cm) ∧ W.cell? ⟨q, 1, none⟩ = some (.int .i64 g.w.arr) ∧ W.cell? ⟨q, 2, none⟩ = some (.int .i64 g.w.start) ∧ W.cell? ⟨q, 3, none⟩ = some (.int .i64 g.w.len) ∧ W.cell? ⟨q, 4, none⟩ = some (.int .i64 g.w.cap) ∧ W.cell? ⟨q, 5, none⟩ = some (.int .i64 (F + x.size)) ∧ W.cell? ⟨q, 6, none⟩ = some (.slice B g.ms.length d))
          (first | (with_reducible exact ⟨c0, d0, d1, d2, d3, d4, d5⟩) | (with_reducible exact HL3.out _ hp4) | (with_reducible exact HL3.out _ (keep_set4 hp4 (by omega))) | fail)
          ((go_at_call 112; (with_reducible refine HS.out.mono ?_); rintro e w4 ⟨rfl, hb4⟩; have hc4 : Below w3.heap.size w3 w4 := ⟨hb4.os, hb4.tape, hb4.output, hb4.size, hb4.block⟩; have hp4 := (hc4.block _ (Array.getElem?_eq_some_iff.1 HQ3.out).1).trans HQ3.out; obtain ⟨r0, r1, r2, r3⟩ := four_cells ((hc4.block _ (Array.getElem?_eq_some_iff.1 HR3.out).1).trans HR3.out); obtain ⟨f0, f1, f2, f3⟩ := four_frozen ((hc4.block _ (Array.getElem?_eq_some_iff.1 HR3.out).1).trans HR3.out)))
        go_wp2_with fail
        refine bodyPost_ret (v := .tuple #[.agg #[.int .i64 g.w.arr, .int .i64 (g.w.start + F), .int .i64 x.size, .int .i64 x.size], .bool true]) (by simp [results, Try.results98, go_sem, r0, r1, r2, r3]) rfl (.inr ⟨HOK.out.1, HOK.out.2, by rw [HFE.out], ?_, ?_⟩)
        · exact span_out (span_out (span_out (span_out (HSW.out.trans (Span.of_below hc4)) (by omega)) (by omega)) (by omega)) (by omega)
        · rw [HFE.out]; exact keep_set4 hp4 (by omega)
      · have HN := Lib.hid (show ¬ (AskOK x.size x.al ∧ Fits g.w.len g.us x.size x.al) from fun h => hs1 h.2.2)
        generalize upTo g.us x.al = F at *
        go_wp2_with fail
        refine bodyPost_ret (v := .tuple #[.agg #[.int .i64 0, .int .i64 0, .int .i64 0, .int .i64 0], .bool false]) (by simp [results, Try.results98, go_sem, r0, r1, r2, r3]) rfl (.inl ⟨HN.out, rfl, by (repeat (first | (with_reducible exact Below.refl _ _) | (with_reducible refine Below.drew ?_) | ((with_reducible refine Below.alloc ?_ ?hB _); case hB => (first | (with_reducible exact Nat.le_refl _) | omega | (simp; done) | (simp; omega))) | ((with_reducible refine Below.setCell ?_ ?hB _); case hB => (first | (with_reducible exact Nat.le_refl _) | omega | (simp; done) | (simp; omega))))); exact HB.out⟩)
    · have HN := Lib.hid (show ¬ (AskOK x.size x.al ∧ Fits g.w.len g.us x.size x.al) from fun h => hs0 h.1.1)
      generalize upTo g.us x.al = F at *
      go_wp2_with fail
      refine bodyPost_ret (v := .tuple #[.agg #[.int .i64 0, .int .i64 0, .int .i64 0, .int .i64 0], .bool false]) (by simp [results, Try.results98, go_sem, r0, r1, r2, r3]) rfl (.inl ⟨HN.out, rfl, by (repeat (first | (with_reducible exact Below.refl _ _) | (with_reducible refine Below.drew ?_) | ((with_reducible refine Below.alloc ?_ ?hB _); case hB => (first | (with_reducible exact Nat.le_refl _) | omega | (simp; done) | (simp; omega))) | ((with_reducible refine Below.setCell ?_ ?hB _); case hB => (first | (with_reducible exact Nat.le_refl _) | omega | (simp; done) | (simp; omega))))); exact HB.out⟩)
  · have HLV := Lib.hid (show leftV g x.al = (0, false) by rw [leftV, if_neg hal])
    have HN := Lib.hid (show ¬ (AskOK x.size x.al ∧ Fits g.w.len g.us x.size x.al) from fun h => hal ⟨h.1.2.1, h.1.2.2, h.2.1⟩)
    rw [HLV.out]
    clear hal
    go_wp2_with fail
    refine bodyPost_ret (v := .tuple #[.agg #[.int .i64 0, .int .i64 0, .int .i64 0, .int .i64 0], .bool false]) (by simp [results, Try.results98, go_sem, r0, r1, r2, r3]) rfl (.inl ⟨HN.out, rfl, by (repeat (first | (with_reducible exact Below.refl _ _) | (with_reducible refine Below.drew ?_) | ((with_reducible refine Below.alloc ?_ ?hB _); case hB => (first | (with_reducible exact Nat.le_refl _) | omega | (simp; done) | (simp; omega))) | ((with_reducible refine Below.setCell ?_ ?hB _); case hB => (first | (with_reducible exact Nat.le_refl _) | omega | (simp; done) | (simp; omega))))); exact HB.out⟩)
end Go.Proofs.Ytadmllfcnjekcaa
