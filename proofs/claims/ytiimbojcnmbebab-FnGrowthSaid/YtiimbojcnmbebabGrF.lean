/-
  Growth of spec: all changes of a list.
-/
import Derived.Test.YtiimbojcnmbebabGrT
import Derived.Test.YtiimbojcnmbebabGrL
import Derived.Laws.OwnMore
import Derived.Laws.AppendOwnNone
import Derived.StillTailTactics
import Derived.Deep.RegionLaw
import Derived.Deep.RegionHeld3
import Derived.Deep.DeepCutAuto
namespace Go.Proofs.Ytiimbojcnmbebab
open Go.RowKit

theorem info_intG : (Try.prog.info? 3).map (fun i => (i.zero, i.size, i.bytes)) = some (some (.int .i64 0), 1, 8) := by kernel_rfl
theorem one_intsG (zs : List Int) : ∀ u ∈ intV .i64 zs, u.oneCell' = true := by
  intro u hu
  obtain ⟨z, _, rfl⟩ := List.mem_map.1 hu
  rfl
theorem below_ownG {w w1 w2 : World} {base : Nat} {e : TypeId} {sz : Nat} {v : Value} {n : Nat} {xs : List Value} (hb : Below base w w1) (ho : w1.ownsRow base e sz v n xs) (hg : w1.grownBy w2 v.ownBlock) (hB : base ≤ w1.heap.size) : Below base w w2 :=
  hb.grown hg hB (fun g e => (ho.lt g e).1)
theorem own_someG {w : World} {base : Nat} {e : TypeId} {v : Value} {n : Nat} {xs : List Value} (h : w.ownsRow base e 1 v n xs) (h0 : 0 < n) : ∃ g c, v = .slice (some ⟨g, 0, none⟩) n c := by
  rcases h.2 with ⟨_, hn⟩ | ⟨g, cap, cur, hv, _⟩
  · omega
  · exact ⟨g, cap, hv⟩
theorem cell_allocG {w : World} {p : Addr} {u : Value} (hb : p.block < w.heap.size) (h : w.cell? p = some u) (o : Obj) : (w.alloc o).cell? p = some u := (World.cell?_alloc_lt w o p hb).trans h
set_option maxRecDepth 100000 in
theorem specOwnG_calls (lo : Nat) (C : Option Addr) (cn : Nat) (zs : List Int) (w : World) (ho : w.ownsRow lo 3 1 (.slice C zs.length cn) zs.length (intV .i64 zs)) (hn : zs.length ≤ 1000000) :
    Calls Try.prog 71 #[.slice C zs.length cn] w fun e w' => ∃ g c, e = .returned (.slice (some ⟨g, 0, none⟩) zs.length c) ∧ w'.ownsRow w.heap.size 3 1 (.slice (some ⟨g, 0, none⟩) zs.length c) zs.length (intV .i64 zs) ∧ Below w.heap.size w w' := by
  obtain ⟨i0, hi0, hz, hz1, hz2⟩ := info_parts info_intG
  have HO := Lib.hid (World.ownsRow_made (base := w.heap.size) (e := 3) (size := 1) w #[] 0 (Nat.le_refl _) (Nat.zero_le _) rfl)
  rcases ho.2 with ⟨hv, h0⟩ | ⟨g, cap, cur, hv, hbg, hg, h1, h2, h3, h4⟩
  · injection hv with hA hL hC
    subst hA; subst hC
    obtain rfl : zs = [] := List.eq_nil_of_length_eq_zero h0
    clear ho
    go_enter Try.func71, Try.ntmps71
    go_wp2_with ((at_builtin; refine wpList_append_own_none _ rfl _ _ 26 rfl w.heap.size 3 i0 1 Try.underlying26 hi0 _ _ _ rfl HO.out rfl ?_))
    go_ret
    exact ⟨_, _, rfl, HO.out, (Below.refl _ _).alloc (Nat.le_refl _) _⟩
  · injection hv with hA hL hC
    subst hA; subst hC
    have hrd := Rd.of_own ho
    have HN : Hid (∀ (j : Nat) (u : Value), (intV .i64 zs)[j]? = some u → (w.alloc (.cells #[] 3)).cell? ((⟨g, 0, none⟩ : Addr).add j) = some u) := Lib.hid fun j u hu => by
      have hj : j < (intV .i64 zs).length := (List.getElem?_eq_some_iff.1 hu).1
      obtain ⟨b, off, e, hb, hc⟩ := hrd.at_ hj
      injection e with e
      injection e with e1 e2
      subst e1; subst e2
      rw [List.getElem?_eq_getElem hj] at hu
      injection hu with hu
      rw [← hu, ← cell_allocG hb hc (.cells #[] 3)]
      simp [Addr.add]
      by_cases h0 : j = 0 <;> simp [h0]
    have H1 := Lib.hid (one_intsG zs)
    clear ho hrd
    go_enter Try.func71, Try.ntmps71
    go_wp2_with ((at_builtin; refine wpList_append_own _ rfl _ _ 26 rfl w.heap.size 3 i0 _ 1 8 Try.underlying26 hi0 hz hz1 hz2 rfl (by decide) _ _ _ rfl HO.out ⟨g, 0, none⟩ zs.length cn (intV .i64 zs) rfl (by rw [intV_len, Nat.mul_one]) HN.out H1.out (by simp only [maxLen]; omega) (by omega) (by simp) ?_; intro v' w5 hown5 hgrow hnil))
    rw [Nat.zero_add, List.nil_append] at hown5
    have hne : v' ≠ .slice none 0 0 := fun h => by have := (hnil.1 h).1; cases this
    obtain ⟨g5, c5, rfl⟩ : ∃ g c, v' = .slice (some ⟨g, 0, none⟩) zs.length c := by
      rcases hown5.2 with ⟨h, _⟩ | ⟨g5, cap5, cur5, h, _⟩
      · exact absurd h hne
      · exact ⟨g5, cap5, h⟩
    have HR := Lib.hid (And.intro hown5 (show Below w.heap.size w w5 from below_ownG ((Below.refl _ _).alloc (Nat.le_refl _) _) HO.out hgrow (by simp)))
    clear hown5 hgrow hnil hne
    go_wp2_with fail
    go_ret
    exact ⟨_, _, rfl, HR.out.1, HR.out.2⟩

/-- An append to a row of the call's own, as one step of a region that draws its order. -/
theorem step_append_ownG {P : Program} {ops : Array Oper} {o : Oper} {a : Act} {w : World} {K : Act → World → Prop} {Q : Exit → Act → World → Prop} {E : Prop}
    (hg : o.guard = none) (s x : Operand) (t : TypeId) (hop : o.op = Op.call { callee := Callee.builtin Builtin.append, args := #[s, x], argTypes := #[t, t] })
    (base : Nat) (e : TypeId) (i : TypeInfo) (z : Value) (size bytes : Nat) (h1 : P.underlying t = some (.slice e)) (h2 : P.info? e = some i) (h3 : i.zero = some z) (h4 : i.size = size) (h5 : i.bytes = bytes) (h6 : z.cells.size = size) (h7 : 0 < size)
    (v : Value) (n : Nat) (xs : List Value) (hs : a.eval s = v) (hown : w.ownsRow base e size v n xs)
    (ad : Addr) (m c : Nat) (news : List Value) (hx : a.eval x = .slice (some ad) m c) (hn : news.length = m * size) (hc : ∀ j u, news[j]? = some u → w.cell? (ad.add j) = some u) (h1c : ∀ u ∈ news, u.oneCell' = true)
    (b1 : n + m ≤ maxLen) (b2 : (n + m) * bytes ≤ 140737488355328) (b3 : base ≤ w.heap.size)
    (hK : ∀ v' w', w'.ownsRow base e size v' (n + m) (xs ++ news) → w.grownBy w' v.ownBlock → K (a.put o.dst v') w') :
    if Region.wanted o (yielded ops a.tmps) = true then Oper.wp P o a w K Q else E := by
  have hw : Region.wanted o (yielded ops a.tmps) = true := by simp [Region.wanted, hg]
  rw [if_pos hw]
  obtain ⟨v', w', hrun, r1, r2, _⟩ := run_append_own (P := P) w base t o.type e i z size bytes h1 h2 h3 h4 h5 h6 h7 v n xs hown ad m c news hn hc h1c b1 b2 b3
  unfold Oper.wp
  simp [execOp, hop, resolve, invoke, builtin, hs, hx, hrun, Result.andThen]
  exact hK v' w' r1 r2
/-- The state of the loop: the rule, an answer that is zero as yet, the run, its caps a row of the call's own. -/
structure SF (w wr : World) (g : GR) (q : Nat) (C : Option Addr) (cn : Nat) (r : RunG) (cs : List Int) : Prop where
  b : Below w.heap.size w wr
  g : wr.heap[w.heap.size]? = some (.cells #[.int .i64 g.num, .int .i64 g.den, .int .i64 g.add] 25)
  z : wr.heap[w.heap.size + 1]? = some (.cells #[.slice none 0 0, .int .i64 0, .int .i64 0, .int .i64 0, .int .i64 0, .int .i64 0] 71)
  r : wr.heap[q]? = some (.cells #[.slice C cs.length cn, .int .i64 r.moves, .int .i64 r.cost, .int .i64 r.waste, .int .i64 r.len, .int .i64 r.cap] 71)
  o : ∃ lo hi, OwnR wr lo hi 3 (.slice C cs.length cn) (intV .i64 cs) ∧ w.heap.size + 1 < lo ∧ (hi ≤ q ∨ q < lo)
  q : w.heap.size + 1 < q
section
variable {w wr wx : World} {g : GR} {q : Nat} {C : Option Addr} {cn : Nat} {r r' : RunG} {cs : List Int}
theorem SF.below (h : SF w wr g q C cn r cs) (hb : Below wr.heap.size wr wx) : SF w wx g q C cn r cs := by
  obtain ⟨lo, hi, h1, h2, h3⟩ := h.o
  exact ⟨h.b.trans (hb.mono h.b.size), (hb.block _ (Array.getElem?_eq_some_iff.1 h.g).1).trans h.g, (hb.block _ (Array.getElem?_eq_some_iff.1 h.z).1).trans h.z, (hb.block _ (Array.getElem?_eq_some_iff.1 h.r).1).trans h.r, ⟨lo, hi, h1.below hb, h2, h3⟩, h.q⟩
theorem one_span {o : Nat} {v : Value} : Span q (q + 1) wr (wr.setCell ⟨q, o, none⟩ v) := ⟨rfl, rfl, rfl, by simp [World.setCell], fun k _ ho => Below.heap_setCell _ _ _ _ (show k ≠ q by omega)⟩
theorem six_span {v0 v1 v2 v3 v4 v5 : Value} : Span q (q + 1) wr ((((((wr.setCell ⟨q, 0, none⟩ v0).setCell ⟨q, 1, none⟩ v1).setCell ⟨q, 2, none⟩ v2).setCell ⟨q, 3, none⟩ v3).setCell ⟨q, 4, none⟩ v4).setCell ⟨q, 5, none⟩ v5) :=
  ((((one_span.trans one_span).trans one_span).trans one_span).trans one_span).trans one_span
theorem SF.set (h : SF w wr g q C cn r cs) : SF w ((((((wr.setCell ⟨q, 0, none⟩ (.slice C cs.length cn)).setCell ⟨q, 1, none⟩ (.int .i64 r'.moves)).setCell ⟨q, 2, none⟩ (.int .i64 r'.cost)).setCell ⟨q, 3, none⟩ (.int .i64 r'.waste)).setCell ⟨q, 4, none⟩ (.int .i64 r'.len)).setCell ⟨q, 5, none⟩ (.int .i64 r'.cap)) g q C cn r' cs := by
  obtain ⟨lo, hi, h1, h2, h3⟩ := h.o
  have hq := h.q
  refine ⟨?_, ?_, ?_, six_set h.r, ⟨lo, hi, h1.span six_span (by first | omega | (rcases h3 with h3 | h3 <;> omega)), h2, h3⟩, h.q⟩
  · refine Below.setCell (Below.setCell (Below.setCell (Below.setCell (Below.setCell (Below.setCell h.b ?_ _) ?_ _) ?_ _) ?_ _) ?_ _) ?_ _ <;> (show w.heap.size ≤ q; omega)
  · rw [six_other (by omega)]; exact h.g
  · rw [six_other (by omega)]; exact h.z
theorem SF.app {B g8 c8 : Nat} {c : Int} (h : SF w wr g q C cn r cs) (hb : Below wr.heap.size wr wx) (ho : wx.ownsRow B 3 1 (.slice (some ⟨g8, 0, none⟩) (cs.length + 1) c8) (cs.length + 1) (intV .i64 cs ++ [.int .i64 c])) (hB : wr.heap.size ≤ B) :
    SF w (wx.setCell ⟨q, 0, none⟩ (.slice (some ⟨g8, 0, none⟩) (cs.length + 1) c8)) g q (some ⟨g8, 0, none⟩) c8 r (cs ++ [c]) := by
  have h2 := h.below hb
  have hq := h.q
  have hqr := (Array.getElem?_eq_some_iff.1 h.r).1
  have hl : (cs ++ [c]).length = cs.length + 1 := by simp
  have hi : intV .i64 (cs ++ [c]) = intV .i64 cs ++ [.int .i64 c] := by simp [intV]
  refine ⟨h2.b.setCell (by show w.heap.size ≤ q; omega) _, ?_, ?_, ?_, ⟨B, wx.heap.size, ?_, by omega, .inr (by omega)⟩, hq⟩
  · rw [Below.heap_setCell _ _ _ _ (show w.heap.size ≠ q by omega)]; exact h2.g
  · rw [Below.heap_setCell _ _ _ _ (show w.heap.size + 1 ≠ q by omega)]; exact h2.z
  · rw [hl]; simpa using heap_set_same wx q 0 _ 71 (.slice (some ⟨g8, 0, none⟩) (cs.length + 1) c8) h2.r (by simp)
  · rw [hl, hi]
    have hn : OwnR wx B wx.heap.size 3 (.slice (some ⟨g8, 0, none⟩) (cs.length + 1) c8) (intV .i64 cs ++ [.int .i64 c]) := OwnR.new (by simpa [intV_len] using ho)
    exact hn.span (l2 := q) (h2 := q + 1) ⟨rfl, rfl, rfl, by simp [World.setCell], fun k _ ho => Below.heap_setCell _ _ _ _ (show k ≠ q by omega)⟩ (.inr (by omega))
end
theorem keep_newG {w5 w6 : World} {o : Obj} (hb : Below (w5.alloc o).drew.heap.size (w5.alloc o).drew w6) : w6.heap[w5.heap.size]? = some o :=
  (hb.block _ (by simp)).trans (heap_alloc_new w5 o)
theorem one_newG {w6 : World} {q : Nat} {c : Int} {t : TypeId} (h : w6.heap[q]? = some (.cells #[.int .i64 c] t)) : ∀ (j : Nat) (u : Value), ([.int .i64 c] : List Value)[j]? = some u → w6.cell? ((⟨q, 0, none⟩ : Addr).add j) = some u := by
  intro j u hu
  cases j with
  | zero => simp at hu; simp [Addr.add, World.cell?, h, hu]
  | succ j => simp at hu
theorem below_newG {w5 w6 : World} {o : Obj} (hb : Below (w5.alloc o).drew.heap.size (w5.alloc o).drew w6) : Below w5.heap.size w5 w6 :=
  ((Below.refl _ _).alloc (Nat.le_refl _) o).drew.trans (hb.mono (by simp))
theorem below_drwG {w5 w6 : World} (hb : Below w5.drew.heap.size w5.drew w6) : Below w5.heap.size w5 w6 := (Below.refl w5.heap.size w5).drew.trans (hb.mono (by simp))
theorem own_monoF {w : World} {b1 b0 n : Nat} {e : TypeId} {v : Value} {xs : List Value} (h : w.ownsRow b1 e 1 v n xs) (hb : b0 ≤ b1) : w.ownsRow b0 e 1 v n xs := by
  refine ⟨h.1, ?_⟩
  rcases h.2 with h0 | ⟨g', cap, cur, r0, hb1, r⟩
  · exact .inl h0
  · exact .inr ⟨g', cap, cur, r0, Nat.le_trans hb hb1, r⟩
theorem SF.fin {w wr : World} {g : GR} {q : Nat} {C : Option Addr} {cn : Nat} {r : RunG} {cs : List Int} {v0 v1 v2 v3 v4 v5 : Value} (h : SF w wr g q C cn r cs) :
    ((((((wr.setCell ⟨w.heap.size + 1, 0, none⟩ v0).setCell ⟨w.heap.size + 1, 1, none⟩ v1).setCell ⟨w.heap.size + 1, 2, none⟩ v2).setCell ⟨w.heap.size + 1, 3, none⟩ v3).setCell ⟨w.heap.size + 1, 4, none⟩ v4).setCell ⟨w.heap.size + 1, 5, none⟩ v5).ownsRow w.heap.size 3 1 (.slice C cs.length cn) cs.length (intV .i64 cs) := by
  obtain ⟨lo, hi, h1, h2, h3⟩ := h.o
  have h4 := (h1.span (six_span (q := w.heap.size + 1) (v0 := v0) (v1 := v1) (v2 := v2) (v3 := v3) (v4 := v4) (v5 := v5)) (.inr (by omega))).1
  rw [intV_len] at h4
  exact own_monoF h4 (by omega)
/-- What all changes bring, as spec tells it. -/
def allR (g : GR) (s : Int) (xs : List Int) : RunG × List Int × Bool := match listG g s xs with
  | some p => (p.1, p.2, true)
  | none => (runG0, [], false)
theorem allR_some {g : GR} {s : Int} {xs : List Int} {r : RunG} {cs : List Int} (hg : g.OK) (hl : xs.length ≤ 40) (h : allG g s runG0 xs = some (r, cs)) : allR g s xs = (r, cs, true) := by
  unfold allR listG; rw [if_pos ⟨hg, hl⟩, h]
theorem allR_none {g : GR} {s : Int} {xs : List Int} (h : allG g s runG0 xs = none) : allR g s xs = (runG0, [], false) := by
  unfold allR listG; split <;> rename_i hh
  · split at hh
    · rw [h] at hh; cases hh
    · cases hh
  · rfl
theorem allR_bad {g : GR} {s : Int} {xs : List Int} (h : ¬ (g.OK ∧ xs.length ≤ 40)) : allR g s xs = (runG0, [], false) := by
  unfold allR listG; rw [if_neg h]
set_option maxRecDepth 100000 in
set_option maxHeartbeats 3200000 in
theorem specAll_calls (g : GR) (s : Int) (hs : s = 0 ∨ shrinkOK s) (A : Option Addr) (an : Nat) (xs : List Int) (w : World) (hx : Rd w w.heap.size A (intV .i64 xs)) (hn : xs.length ≤ maxLen) (hwf : ∀ x ∈ xs, (Lit.int .i64 x).wf = true) :
    Calls Try.prog 42 #[.agg #[.int .i64 g.num, .int .i64 g.den, .int .i64 g.add], .int .i64 s, .slice A xs.length an] w
      fun e w' => ∃ C cn, e = .returned (.tuple #[.agg #[.slice C (allR g s xs).2.1.length cn, .int .i64 (allR g s xs).1.moves, .int .i64 (allR g s xs).1.cost, .int .i64 (allR g s xs).1.waste, .int .i64 (allR g s xs).1.len, .int .i64 (allR g s xs).1.cap], .bool (allR g s xs).2.2]) ∧ w'.ownsRow w.heap.size 3 1 (.slice C (allR g s xs).2.1.length cn) (allR g s xs).2.1.length (intV .i64 (allR g s xs).2.1) ∧ Below w.heap.size w w' := by
  unfold maxLen at hn
  have hs0 : 0 ≤ s := by rcases hs with rfl | ⟨h, _⟩ <;> omega
  obtain ⟨hb, g1, g2, g3, gz⟩ := enter3 w (.cells #[.int .i64 g.num, .int .i64 g.den, .int .i64 g.add] 25) (.cells #[.slice none 0 0, .int .i64 0, .int .i64 0, .int .i64 0, .int .i64 0, .int .i64 0] 71) (.cells #[] 3)
  obtain ⟨w0, hw0⟩ : ∃ w0, ((w.alloc (.cells #[.int .i64 g.num, .int .i64 g.den, .int .i64 g.add] 25)).alloc (.cells #[.slice none 0 0, .int .i64 0, .int .i64 0, .int .i64 0, .int .i64 0, .int .i64 0] 71)).alloc (.cells #[] 3) = w0 := ⟨_, rfl⟩
  rw [hw0] at hb g1 g2 g3 gz
  obtain ⟨w1, hw1⟩ : ∃ w1, w0.alloc (.cells #[.slice (some ⟨w.heap.size + 1 + 1, 0, none⟩) 0 0, .int .i64 0, .int .i64 0, .int .i64 0, .int .i64 0, .int .i64 0] 71) = w1 := ⟨_, rfl⟩
  obtain ⟨q, hq⟩ : ∃ q, w.heap.size + 1 + 1 + 1 = q := ⟨_, rfl⟩
  have HS : Hid (SF w w1 g q (some ⟨w.heap.size + 1 + 1, 0, none⟩) 0 runG0 []) := Lib.hid (by
    have hb1 : Below w0.heap.size w0 w1 := by rw [← hw1]; exact (Below.refl _ _).alloc (Nat.le_refl _) _
    refine ⟨hb.trans (hb1.mono hb.size), (hb1.block _ (Array.getElem?_eq_some_iff.1 g1).1).trans g1, (hb1.block _ (Array.getElem?_eq_some_iff.1 g2).1).trans g2, by rw [← hw1, show q = w0.heap.size by omega]; exact heap_alloc_new _ _, ⟨w.heap.size + 1 + 1, w.heap.size + 1 + 1 + 1, ⟨⟨by simp [intV], .inr ⟨w.heap.size + 1 + 1, 0, #[], rfl, Nat.le_refl _, (hb1.block _ (Array.getElem?_eq_some_iff.1 g3).1).trans g3, Nat.le_refl _, Nat.zero_le _, rfl, rfl⟩⟩, fun k hk => ?_⟩, by omega, .inl (by omega)⟩, by omega⟩
    have : k = w.heap.size + 1 + 1 := by simpa [Value.ownBlock, eq_comm] using hk
    omega)
  have HU := Lib.hid (specRule_calls g w1)
  have HW := Lib.hid hw0
  have HW1 := Lib.hid hw1
  have HX := Lib.hid hx
  have HWF := Lib.hid hwf
  have HQ := Lib.hid hq
  obtain ⟨a0, a1, a2⟩ := three_cells HS.out.g
  obtain ⟨i0, hi0, hz, hz1, hz2⟩ := info_parts info_intG
  clear hw0 hw1 hb g1 g2 g3 gz hx hwf hq
  by_cases hg : g.OK
  · rw [decide_eq_true hg] at HU
    by_cases h40 : xs.length ≤ 40
    · go_enter Try.func42, Try.ntmps42
      go_upto_region 2 with fail
      rw [HW.out, HW1.out, HQ.out]
      go_wp2_with fail
      refine HU.out.mono ?_
      rintro e w2 ⟨rfl, hb2⟩
      have HS2 := Lib.hid (HS.out.below hb2)
      clear hb2 a0 a1 a2
      go_wp2_with fail
      go_loopw [9] (fun sl wr => ∃ (i : Nat) (r : RunG) (cs : List Int) (C : Option Addr) (cn : Nat), i ≤ xs.length ∧ sl = .int .i64 i ∧ allG g s runG0 (xs.take i) = some (r, cs) ∧ Hid (SF w wr g q C cn r cs)) (fun sl _ => xs.length - (intOf sl).toNat)
      case atStart => exact ⟨0, runG0, [], _, _, Nat.zero_le _, rfl, rfl, HS2⟩
      case round =>
        obtain ⟨i, r, cs, C, cn, hi, rfl, ha, HR⟩ := hrel
        have HA := Lib.hid ha
        have hok := (allG_ok hg hs0 runG0_ok ha).1
        have hcl := (allG_ok hg hs0 runG0_ok ha).2.1
        rw [List.length_take, Nat.min_eq_left hi] at hok hcl
        have HCL := Lib.hid hcl
        clear hcl
        have hq := HR.out.q
        have hqr := (Array.getElem?_eq_some_iff.1 HR.out.r).1
        obtain ⟨a0, a1, a2⟩ := three_cells HR.out.g
        obtain ⟨b0, b1, b2, b3, b4, b5⟩ := six_cells HR.out.r
        obtain ⟨f0, f1, f2, f3, f4, f5⟩ := six_frozen HR.out.r
        obtain ⟨r0, r1, r2, r3, r4, r5⟩ := six_cells HR.out.z
        obtain ⟨e0, e1, e2, e3, e4, e5⟩ := six_frozen HR.out.z
        clear ha
        by_cases hlt : i < xs.length
        · obtain ⟨bx, ox, rfl, hbx, hcx⟩ := (HX.out.below HR.out.b).int hlt
          have hbxw : bx < wr.heap.size := Nat.lt_of_lt_of_le hbx HR.out.b.size
          have hxw := HWF.out _ (List.getElem_mem hlt)
          have HD := Lib.hid (fun W => specDo_calls g hg s hs r _ hok (by omega) xs[i] hxw C cs.length cn W)
          have HT := Lib.hid (allG_take (g := g) (s := s) hlt runG0)
          rw [HA.out] at HT
          simp only [Option.bind_some] at HT
          obtain ⟨x, hxx⟩ : ∃ x, xs[i] = x := ⟨_, rfl⟩
          rw [hxx] at hcx HD HT
          clear hxx hxw hok
          go_upto_region 7 with fail
          have HK : Hid (∀ W, Below wr.heap.size wr W → (fun W => (W.cell? ⟨w.heap.size, 0, none⟩ = some (.int .i64 g.num) ∧ W.cell? ⟨w.heap.size, 1, none⟩ = some (.int .i64 g.den) ∧ W.cell? ⟨w.heap.size, 2, none⟩ = some (.int .i64 g.add)) ∧ (W.cell? ⟨q, 0, none⟩ = some (.slice C cs.length cn) ∧ W.cell? ⟨q, 1, none⟩ = some (.int .i64 r.moves) ∧ W.cell? ⟨q, 2, none⟩ = some (.int .i64 r.cost) ∧ W.cell? ⟨q, 3, none⟩ = some (.int .i64 r.waste) ∧ W.cell? ⟨q, 4, none⟩ = some (.int .i64 r.len) ∧ W.cell? ⟨q, 5, none⟩ = some (.int .i64 r.cap)) ∧ W.cell? ⟨bx, ox + i, none⟩ = some (.int .i64 x)) W) := Lib.hid (fun W hb => ⟨three_cells (HR.out.below hb).g, six_cells (HR.out.below hb).r, (hb.cell hbxw).trans hcx⟩)
          clear a0 a1 a2 hcx
          clear b0 b1 b2 b3 b4 b5 f0 f1 f2 f3 f4 f5 r0 r1 r2 r3 r4 r5 e0 e1 e2 e3 e4 e5
          obtain ⟨⟨a0, a1, a2⟩, ⟨b0, b1, b2, b3, b4, b5⟩, hcx⟩ := HK.out wr.drew (Below.refl _ _).drew
          go_cut [10, 11] (fun s10 s11 wx => ∃ (g10 : Nat) (r' : RunG) (b : Bool), s10 = .pointer (some ⟨g10, 0, none⟩) ∧ wx.heap[g10]? = some (.cells #[.slice C cs.length cn, .int .i64 r'.moves, .int .i64 r'.cost, .int .i64 r'.waste, .int .i64 r'.len, .int .i64 r'.cap] 71) ∧ wr.heap.size ≤ g10 ∧ s11 = .bool b ∧ doG g s r x = (if b then some r' else none) ∧ Below wr.heap.size wr wx)
          case first =>
            go_region_held3 (fun W => (W.cell? ⟨w.heap.size, 0, none⟩ = some (.int .i64 g.num) ∧ W.cell? ⟨w.heap.size, 1, none⟩ = some (.int .i64 g.den) ∧ W.cell? ⟨w.heap.size, 2, none⟩ = some (.int .i64 g.add)) ∧ (W.cell? ⟨q, 0, none⟩ = some (.slice C cs.length cn) ∧ W.cell? ⟨q, 1, none⟩ = some (.int .i64 r.moves) ∧ W.cell? ⟨q, 2, none⟩ = some (.int .i64 r.cost) ∧ W.cell? ⟨q, 3, none⟩ = some (.int .i64 r.waste) ∧ W.cell? ⟨q, 4, none⟩ = some (.int .i64 r.len) ∧ W.cell? ⟨q, 5, none⟩ = some (.int .i64 r.cap)) ∧ W.cell? ⟨bx, ox + i, none⟩ = some (.int .i64 x))
              (first | (with_reducible exact ⟨⟨a0, a1, a2⟩, ⟨b0, b1, b2, b3, b4, b5⟩, hcx⟩) | (exact HK.out _ (by (repeat (first | (with_reducible exact Below.refl _ _) | (with_reducible refine Below.drew ?_) | ((with_reducible refine Below.alloc ?_ ?hB _); case hB => (first | (with_reducible exact Nat.le_refl _) | omega | (simp; done) | (simp; omega))) | ((with_reducible refine Below.setCell ?_ ?hB _); case hB => (first | (with_reducible exact Nat.le_refl _) | omega | (simp; done) | (simp; omega))))); (first | done | exact hc5))) | fail)
              (first | (go_at_call 70; (with_reducible refine (HD.out wr.drew).mono ?_); rintro e w5 ⟨⟨r', b, rfl, hd⟩, hb5⟩; have hc5 : Below wr.heap.size wr w5 := below_drwG hb5; have q5 := hc5.size; clear hb5; have HDD := Lib.hid hd; clear hd) | (go_at_call 70; (with_reducible refine (HD.out (wr.alloc (.cells #[.slice none 0 0, .int .i64 0, .int .i64 0, .int .i64 0, .int .i64 0, .int .i64 0] 71)).drew).mono ?_); rintro e w5 ⟨⟨r', b, rfl, hd⟩, hb5⟩; have hc5 : Below wr.heap.size wr w5 := below_newG hb5; have q5 := hc5.size; have z10 := keep_newG hb5; obtain ⟨y0, y1, y2, y3, y4, y5⟩ := six_cells z10; obtain ⟨x0, x1, x2, x3, x4, x5⟩ := six_frozen z10; clear hb5; have HDD := Lib.hid hd; clear hd))
            all_goals (go_wp2_with fail)
            all_goals go_meet
            all_goals exact ⟨_, r', b, rfl, (by first | (with_reducible exact heap_alloc_new _ _) | exact six_set z10), (by first | omega | (simp; omega)), rfl, HDD.out, by (repeat (first | (with_reducible exact Below.refl _ _) | (with_reducible refine Below.drew ?_) | ((with_reducible refine Below.alloc ?_ ?hB _); case hB => (first | (with_reducible exact Nat.le_refl _) | omega | (simp; done) | (simp; omega))) | ((with_reducible refine Below.setCell ?_ ?hB _); case hB => (first | (with_reducible exact Nat.le_refl _) | omega | (simp; done) | (simp; omega))))); exact hc5⟩
          case rest =>
          obtain ⟨g10, r', b, rfl, hg4, hg10, rfl, hd, hb4⟩ := hcut
          obtain ⟨w4, hw4⟩ : ∃ w4, w4 = wc := ⟨_, rfl⟩
          subst hw4
          have HDD := Lib.hid hd
          have HR4 := Lib.hid (HR.out.below hb4)
          clear a0 a1 a2 b0 b1 b2 b3 b4 b5 hcx hd hb4
          obtain ⟨b0, b1, b2, b3, b4, b5⟩ := six_cells HR4.out.r
          obtain ⟨f0, f1, f2, f3, f4, f5⟩ := six_frozen HR4.out.r
          obtain ⟨r0, r1, r2, r3, r4, r5⟩ := six_cells HR4.out.z
          obtain ⟨e0, e1, e2, e3, e4, e5⟩ := six_frozen HR4.out.z
          obtain ⟨c0, c1, c2, c3, c4, c5⟩ := six_cells hg4
          have hq4 := (Array.getElem?_eq_some_iff.1 hg4).1
          clear hg4
          cases b
          · have HN : Hid (allR g s xs = (runG0, [], false)) := Lib.hid (allR_none (allG_stop (i := i + 1) _ (by rw [HT.out, HDD.out]; rfl)))
            clear b0 b1 b2 b3 b4 b5 f0 f1 f2 f3 f4 f5 r0 r1 r2 r3 r4 r5 e0 e1 e2 e3 e4 e5
            have HR5 := Lib.hid (HR4.out.below ((Below.refl _ _).alloc (Nat.le_refl _) (.cells #[] 3)))
            obtain ⟨b0, b1, b2, b3, b4, b5⟩ := six_cells HR5.out.r
            obtain ⟨f0, f1, f2, f3, f4, f5⟩ := six_frozen HR5.out.r
            obtain ⟨r0, r1, r2, r3, r4, r5⟩ := six_cells HR5.out.z
            obtain ⟨e0, e1, e2, e3, e4, e5⟩ := six_frozen HR5.out.z
            go_wp2_with fail
            refine bodyPost_ret (v := .tuple #[.agg #[.slice (some ⟨w4.heap.size, 0, none⟩) 0 0, .int .i64 0, .int .i64 0, .int .i64 0, .int .i64 0, .int .i64 0], .bool false]) (by simp [results, Try.results42, go_sem, r0, r1, r2, r3, r4, r5]) rfl ⟨some ⟨w4.heap.size, 0, none⟩, 0, by rw [HN.out]; rfl, ?_, ?_⟩
            · rw [HN.out]
              refine own_monoF (b1 := w.heap.size + 2) ?_ (by omega)
              repeat refine ownsRow_setCell_below ?_ (by show w.heap.size + 1 < w.heap.size + 2; omega) _
              exact World.ownsRow_made (base := w.heap.size + 2) (e := 3) (size := 1) w4 #[] 0 (by have := HR4.out.b.size; have := HR4.out.q; have := (Array.getElem?_eq_some_iff.1 HR4.out.r).1; omega) (Nat.zero_le _) rfl
            · have hB3 := HR4.out.b
              have hs3 := hB3.size
              (repeat (first | (with_reducible exact Below.refl _ _) | (with_reducible refine Below.drew ?_) | ((with_reducible refine Below.alloc ?_ ?hB _); case hB => (first | (with_reducible exact Nat.le_refl _) | omega | (simp; done) | (simp; omega))) | ((with_reducible refine Below.setCell ?_ ?hB _); case hB => (first | (with_reducible exact Nat.le_refl _) | omega | (simp; done) | (simp; omega)))))
              exact hB3
          · have HN : Hid (allG g s runG0 (xs.take (i + 1)) = some (r', cs ++ [r'.cap])) := Lib.hid (by rw [HT.out, HDD.out]; rfl)
            go_upto_region 11 with fail
            obtain ⟨w5, hw5⟩ : ∃ w5, ((((((w4.setCell ⟨q, 0, none⟩ (.slice C cs.length cn)).setCell ⟨q, 1, none⟩ (.int .i64 r'.moves)).setCell ⟨q, 2, none⟩ (.int .i64 r'.cost)).setCell ⟨q, 3, none⟩ (.int .i64 r'.waste)).setCell ⟨q, 4, none⟩ (.int .i64 r'.len)).setCell ⟨q, 5, none⟩ (.int .i64 r'.cap)) = w5 := ⟨_, rfl⟩
            have HR5 : Hid (SF w w5 g q C cn r' cs) := Lib.hid (by rw [← hw5]; exact HR4.out.set)
            rw [hw5]
            clear b0 b1 b2 b3 b4 b5 f0 f1 f2 f3 f4 f5 r0 r1 r2 r3 r4 r5 e0 e1 e2 e3 e4 e5
            clear c0 c1 c2 c3 c4 c5 hw5
            have hcs : cs.length ≤ 40 := by have := HCL.out; omega
            have HK5 : Hid (∀ W, Below w5.heap.size w5 W → (fun W => W.cell? ⟨q, 0, none⟩ = some (.slice C cs.length cn) ∧ W.cell? ⟨q, 5, none⟩ = some (.int .i64 r'.cap)) W) := Lib.hid (fun W hb => ⟨(six_cells (HR5.out.below hb).r).1, (six_cells (HR5.out.below hb).r).2.2.2.2.2⟩)
            have HOW : Hid (∀ W, Below w5.heap.size w5 W → Calls Try.prog 71 #[.slice C cs.length cn] W fun e w' => ∃ g c, e = .returned (.slice (some ⟨g, 0, none⟩) cs.length c) ∧ w'.ownsRow W.heap.size 3 1 (.slice (some ⟨g, 0, none⟩) cs.length c) cs.length (intV .i64 cs) ∧ Below W.heap.size W w') := Lib.hid (fun W hb => by
              obtain ⟨lo, hi, h1, _, _⟩ := HR5.out.o
              have h2 := (h1.below hb).1
              rw [intV_len] at h2
              exact specOwnG_calls lo C cn cs W h2 (by omega))
            obtain ⟨b0, b5⟩ := HK5.out w5.drew (Below.refl _ _).drew
            have q5 := (Array.getElem?_eq_some_iff.1 HR5.out.r).1
            obtain ⟨b0a, b5a⟩ := HK5.out (w5.alloc (.cells #[.int .i64 r'.cap] 3)).drew ((Below.refl _ _).alloc (Nat.le_refl _) _).drew
            go_region_law (first | ((try go_simp); go_at_call 71; (with_reducible refine (HOW.out w5.drew (Below.refl _ _).drew).mono ?_); rintro e w6 ⟨g6, c6, rfl, ho6, hb6⟩; have hc6 : Below w5.heap.size w5 w6 := below_drwG hb6; have q6 := hc6.size; have hO6 : w6.ownsRow w5.heap.size 3 1 (.slice (some ⟨g6, 0, none⟩) cs.length c6) cs.length (intV .i64 cs) := own_monoF ho6 (by simp); have y5 := (HK5.out w6 hc6).2; clear hb6 ho6) | ((try go_simp); go_at_call 71; (with_reducible refine (HOW.out (w5.alloc (.cells #[.int .i64 r'.cap] 3)).drew ((Below.refl _ _).alloc (Nat.le_refl _) _).drew).mono ?_); rintro e w6 ⟨g6, c6, rfl, ho6, hb6⟩; have hc6 : Below w5.heap.size w5 w6 := below_newG hb6; have q6 := hc6.size; have z6 := keep_newG hb6; have hO6 : w6.ownsRow w5.heap.size 3 1 (.slice (some ⟨g6, 0, none⟩) cs.length c6) cs.length (intV .i64 cs) := own_monoF ho6 (by simp); have y5 := (HK5.out w6 hc6).2; clear hb6 ho6) | (refine step_append_ownG rfl (.tmp 47) (.tmp 50) 26 rfl w5.heap.size 3 i0 _ 1 8 Try.underlying26 hi0 hz hz1 hz2 rfl (by decide) (.slice (some ⟨g6, 0, none⟩) cs.length c6) cs.length (intV .i64 cs) (by simp [Act.eval]) (hO6.alloc _) ⟨w6.heap.size, 0, none⟩ 1 1 [.int .i64 r'.cap] (by simp [Act.eval]) rfl (one_newG (heap_alloc_new _ _)) (by simp [Value.oneCell']) (by simp only [maxLen]; omega) (by omega) (by simp; omega) ?_; intro v' w8 hown8 hgrow8; obtain ⟨g8, c8, rfl⟩ := own_someG hown8 (Nat.succ_pos _); have hc8 : Below w5.heap.size w5 w8 := below_ownG (hc6.alloc hc6.size _) (hO6.alloc _) hgrow8 (by simp; omega); have hc6 := hc8; obtain ⟨y0, y1, y2, y3, y4, y5⟩ := six_cells (HR5.out.below hc8).r; obtain ⟨x0, x1, x2, x3, x4, x5⟩ := six_frozen (HR5.out.below hc8).r; have HO8 := Lib.hid hown8; clear hown8 hgrow8) | (refine step_append_ownG rfl (.tmp 47) (.tmp 50) 26 rfl w5.heap.size 3 i0 _ 1 8 Try.underlying26 hi0 hz hz1 hz2 rfl (by decide) (.slice (some ⟨g6, 0, none⟩) cs.length c6) cs.length (intV .i64 cs) (by simp [Act.eval]) hO6 ⟨w5.heap.size, 0, none⟩ 1 1 [.int .i64 r'.cap] (by simp [Act.eval]) rfl (one_newG z6) (by simp [Value.oneCell']) (by simp only [maxLen]; omega) (by omega) hc6.size ?_; intro v' w8 hown8 hgrow8; obtain ⟨g8, c8, rfl⟩ := own_someG hown8 (Nat.succ_pos _); have hc8 : Below w5.heap.size w5 w8 := below_ownG hc6 hO6 hgrow8 hc6.size; have hc6 := hc8; obtain ⟨y0, y1, y2, y3, y4, y5⟩ := six_cells (HR5.out.below hc8).r; obtain ⟨x0, x1, x2, x3, x4, x5⟩ := six_frozen (HR5.out.below hc8).r; have HO8 := Lib.hid hown8; clear hown8 hgrow8))
            all_goals (go_wp2_with fail)
            all_goals
              go_roundw
              case rel => exact ⟨i + 1, r', cs ++ [r'.cap], _, _, by omega, by go_num, HN.out, Lib.hid (HR5.out.app hc8 HO8.out (Nat.le_refl _))⟩
              case measure => simp [intOf]; omega
        · obtain rfl : i = xs.length := by omega
          have haa := HA.out
          rw [List.take_length] at haa
          have HN : Hid (allR g s xs = (r, cs, true)) := Lib.hid (allR_some hg h40 haa)
          clear haa hok
          go_wp2_with fail
          refine bodyPost_ret (v := .tuple #[.agg #[.slice C cs.length cn, .int .i64 r.moves, .int .i64 r.cost, .int .i64 r.waste, .int .i64 r.len, .int .i64 r.cap], .bool true]) (by simp [results, Try.results42, go_sem, r0, r1, r2, r3, r4, r5]) rfl ⟨C, cn, by rw [HN.out], ?_, ?_⟩
          · rw [HN.out]; exact HR.out.fin
          · have hB3 := HR.out.b
            (repeat (first | (with_reducible exact Below.refl _ _) | (with_reducible refine Below.drew ?_) | ((with_reducible refine Below.alloc ?_ ?hB _); case hB => (first | (with_reducible exact Nat.le_refl _) | omega | (simp; done) | (simp; omega))) | ((with_reducible refine Below.setCell ?_ ?hB _); case hB => (first | (with_reducible exact Nat.le_refl _) | omega | (simp; done) | (simp; omega)))))
            exact hB3
    · have HN : Hid (allR g s xs = (runG0, [], false)) := Lib.hid (allR_bad (fun h => h40 h.2))
      have h41 : 40 < xs.length := by omega
      clear h40
      go_enter Try.func42, Try.ntmps42
      go_upto_region 2 with fail
      rw [HW.out, HW1.out, HQ.out]
      go_wp2_with fail
      refine HU.out.mono ?_
      rintro e w2 ⟨rfl, hb2⟩
      have HS2 := Lib.hid (HS.out.below hb2)
      clear hb2 a0 a1 a2
      obtain ⟨b0, b1, b2, b3, b4, b5⟩ := six_cells HS2.out.r
      obtain ⟨f0, f1, f2, f3, f4, f5⟩ := six_frozen HS2.out.r
      obtain ⟨r0, r1, r2, r3, r4, r5⟩ := six_cells HS2.out.z
      obtain ⟨e0, e1, e2, e3, e4, e5⟩ := six_frozen HS2.out.z
      go_wp2_with fail
      refine bodyPost_ret (v := .tuple #[.agg #[.slice (some ⟨w.heap.size + 1 + 1, 0, none⟩) 0 0, .int .i64 0, .int .i64 0, .int .i64 0, .int .i64 0, .int .i64 0], .bool false]) (by simp [results, Try.results42, go_sem, r0, r1, r2, r3, r4, r5, runG0]) rfl ⟨some ⟨w.heap.size + 1 + 1, 0, none⟩, 0, by rw [HN.out]; rfl, ?_, ?_⟩
      · rw [HN.out]; exact HS2.out.fin
      · have hB3 := HS2.out.b
        (repeat (first | (with_reducible exact Below.refl _ _) | (with_reducible refine Below.drew ?_) | ((with_reducible refine Below.alloc ?_ ?hB _); case hB => (first | (with_reducible exact Nat.le_refl _) | omega | (simp; done) | (simp; omega))) | ((with_reducible refine Below.setCell ?_ ?hB _); case hB => (first | (with_reducible exact Nat.le_refl _) | omega | (simp; done) | (simp; omega)))))
        exact hB3
  · rw [decide_eq_false hg] at HU
    have HN : Hid (allR g s xs = (runG0, [], false)) := Lib.hid (allR_bad (fun h => hg h.1))
    go_enter Try.func42, Try.ntmps42
    go_upto_region 2 with fail
    rw [HW.out, HW1.out, HQ.out]
    go_wp2_with fail
    refine HU.out.mono ?_
    rintro e w2 ⟨rfl, hb2⟩
    have HS2 := Lib.hid (HS.out.below hb2)
    clear hb2 a0 a1 a2
    obtain ⟨b0, b1, b2, b3, b4, b5⟩ := six_cells HS2.out.r
    obtain ⟨f0, f1, f2, f3, f4, f5⟩ := six_frozen HS2.out.r
    obtain ⟨r0, r1, r2, r3, r4, r5⟩ := six_cells HS2.out.z
    obtain ⟨e0, e1, e2, e3, e4, e5⟩ := six_frozen HS2.out.z
    go_wp2_with fail
    refine bodyPost_ret (v := .tuple #[.agg #[.slice (some ⟨w.heap.size + 1 + 1, 0, none⟩) 0 0, .int .i64 0, .int .i64 0, .int .i64 0, .int .i64 0, .int .i64 0], .bool false]) (by simp [results, Try.results42, go_sem, r0, r1, r2, r3, r4, r5, runG0]) rfl ⟨some ⟨w.heap.size + 1 + 1, 0, none⟩, 0, by rw [HN.out]; rfl, ?_, ?_⟩
    · rw [HN.out]; exact HS2.out.fin
    · have hB3 := HS2.out.b
      (repeat (first | (with_reducible exact Below.refl _ _) | (with_reducible refine Below.drew ?_) | ((with_reducible refine Below.alloc ?_ ?hB _); case hB => (first | (with_reducible exact Nat.le_refl _) | omega | (simp; done) | (simp; omega))) | ((with_reducible refine Below.setCell ?_ ?hB _); case hB => (first | (with_reducible exact Nat.le_refl _) | omega | (simp; done) | (simp; omega)))))
      exact hB3
end Go.Proofs.Ytiimbojcnmbebab
