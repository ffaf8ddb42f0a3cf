/-
  Parts added to a list: addTo of impl's strands, ropeOf.
-/
import Derived.Test.YtomebbapjolnlaaRpU
import Derived.Test.YtomebbapjolnlaaBytes0
import Derived.Deep.DeepCutAuto
namespace Go.Proofs.Ytomebbapjolnlaa
open Go.RowKit

theorem info_winE : (Try.prog.info? 90).map (fun i => (i.zero, i.size, i.bytes)) = some (some (.agg #[.int .i64 0, .int .i64 0, .int .i64 0, .int .i64 0]), 4, 32) := by kernel_rfl
def cells4 (x : Win) : List Value := [.int .i64 x.arr, .int .i64 x.start, .int .i64 x.len, .int .i64 x.cap]
theorem cell_four_new (w : World) (a b c d : Value) (t : TypeId) : ∀ j u, [a, b, c, d][j]? = some u → (w.alloc (.cells #[a, b, c, d] t)).cell? ((⟨w.heap.size, 0, none⟩ : Addr).add j) = some u := by
  intro j u hu
  match j, hu with
  | 0, hu => simp at hu; subst hu; simp [Addr.add]
  | 1, hu => simp at hu; subst hu; simp [Addr.add]
  | 2, hu => simp at hu; subst hu; simp [Addr.add]
  | 3, hu => simp at hu; subst hu; simp [Addr.add]
theorem WC.snoc {cs : List Value} {xs : List Win} (h : WC cs xs xs.length) (hl : cs.length = xs.length * 4) (x : Win) : WC (cs ++ cells4 x) (xs ++ [x]) (xs ++ [x]).length := fun i y hi hy => by
  rw [List.length_append, List.length_singleton] at hi
  rcases Nat.lt_or_ge i xs.length with hlt | hge
  · rw [List.getElem?_append_left hlt] at hy
    obtain ⟨h0, h1, h2, h3⟩ := h i y hlt hy
    refine ⟨?_, ?_, ?_, ?_⟩
    · rw [List.getElem?_append_left (by omega)]; exact h0
    · rw [List.getElem?_append_left (by omega)]; exact h1
    · rw [List.getElem?_append_left (by omega)]; exact h2
    · rw [List.getElem?_append_left (by omega)]; exact h3
  · obtain rfl : i = xs.length := by omega
    rw [List.getElem?_append_right (Nat.le_refl _), Nat.sub_self] at hy
    simp only [List.getElem?_cons_zero, Option.some.injEq] at hy
    subst hy
    refine ⟨?_, ?_, ?_, ?_⟩
    · rw [List.getElem?_append_right (by omega), hl, Nat.sub_self]; rfl
    · rw [List.getElem?_append_right (by omega), hl, Nat.add_sub_cancel_left]; rfl
    · rw [List.getElem?_append_right (by omega), hl, Nat.add_sub_cancel_left]; rfl
    · rw [List.getElem?_append_right (by omega), hl, Nat.add_sub_cancel_left]; rfl
theorem ownW_nil (w : World) (lo hi : Nat) : OwnW w lo hi (.slice none 0 0) [] :=
  ⟨[], ⟨⟨by simp, .inl ⟨rfl, rfl⟩⟩, fun g h => by simp [Value.ownBlock] at h⟩, fun i x h => by simp at h⟩

set_option maxRecDepth 100000 in
theorem winAddTo_calls (x : Win) (lo : Nat) (P : Value) (Lp : List Win) (w : World) (ho : OwnW w lo w.heap.size P Lp) (hlo : lo ≤ w.heap.size) (hn : Lp.length ≤ 1000) :
    Calls Try.prog 149 #[.agg #[.int .i64 x.arr, .int .i64 x.start, .int .i64 x.len, .int .i64 x.cap], P] w fun e w' => ∃ v', e = .returned v' ∧ OwnW w' lo w'.heap.size v' (Lp ++ [x]) ∧ Below lo w w' := by
  obtain ⟨i0, hi0, hz, hz1, hz2⟩ := info_parts info_winE
  obtain ⟨w1, hw1⟩ : ∃ w1, w.alloc (.cells #[.int .i64 x.arr, .int .i64 x.start, .int .i64 x.len, .int .i64 x.cap] 90) = w1 := ⟨_, rfl⟩
  have hb1 : Below w.heap.size w w1 := by rw [← hw1]; exact (Below.refl _ _).alloc (Nat.le_refl _) _
  have hg1 : w1.heap[w.heap.size]? = some (.cells #[.int .i64 x.arr, .int .i64 x.start, .int .i64 x.len, .int .i64 x.cap] 90) := by rw [← hw1]; exact heap_alloc_new _ _
  obtain ⟨cs, ho1, hwc⟩ := ho
  have hlen := ho1.1.1
  have hown1 := (ho1.below hb1).1
  have HO := Lib.hid hown1
  have HWC := Lib.hid (hwc.snoc hlen x)
  have HW := Lib.hid hw1
  have HB := Lib.hid (hb1.mono hlo)
  have hlo1 : lo ≤ w1.heap.size := Nat.le_trans hlo hb1.size
  obtain ⟨c0, c1, c2, c3⟩ := four_cells hg1
  have hrb := run_win1
  clear ho1 hwc hown1 hw1 hb1 hg1 hlen
  go_enter Try.func149, Try.ntmps149
  go_upto_region 1 with fail
  rw [HW.out]
  go_wp2_with ((at_builtin; refine wpList_append_own _ rfl _ _ 34 rfl lo 90 i0 _ 4 32 Try.underlying34 hi0 hz hz1 hz2 rfl (by decide) _ _ _ rfl (HO.out.alloc _) ⟨w1.heap.size, 0, none⟩ 1 1 [.int .i64 x.arr, .int .i64 x.start, .int .i64 x.len, .int .i64 x.cap] rfl rfl (cell_four_new _ _ _ _ _ _) (by simp [Value.oneCell']) (by simp only [maxLen]; omega) (by omega) (by simp; omega) ?_; intro v' w5 hown5 hgrow _))
  have HB5 : Hid (Below lo w w5) := Lib.hid (below_own0 (HB.out.alloc hlo1 _) (HO.out.alloc _) hgrow (by simp; omega))
  have HO5 := Lib.hid hown5
  clear hown5 hgrow hrb
  go_ret
  refine ⟨_, rfl, ⟨_, OwnS.new ?_, HWC.out⟩, HB5.out⟩
  rw [List.length_append]
  exact HO5.out

set_option maxRecDepth 100000 in
theorem braidAddTo_of (A : Option Addr) (c : Nat) (vs : List Value) (Ls : List (List Win)) (lo : Nat) (P : Value) (Lp : List Win) (w : World) (hlen : Ls.length = vs.length) (hf : vs.length ≤ 12) (hr : Rd w lo A vs) (ho : OwnW w lo w.heap.size P Lp) (hlo : lo ≤ w.heap.size) (hn : Lp.length + Ls.flatten.length ≤ 1000)
    (hel : ∀ (i : Nat) (u : Value) (Q : List Win), vs[i]? = some u → Ls[i]? = some Q → (∃ x, u = winI x ∧ Q = [x]) ∨ ∃ (A' : Option Addr) (n' c' : Nat), u = brI A' n' c' ∧ ∀ W P' Lp', Below lo w W → OwnW W lo W.heap.size P' Lp' → Lp'.length + Q.length ≤ 1000 → Calls Try.prog 117 #[.slice A' n' c', P'] W fun e w' => ∃ v', e = .returned v' ∧ OwnW w' lo w'.heap.size v' (Lp' ++ Q) ∧ Below lo W w') :
    Calls Try.prog 117 #[.slice A vs.length c, P] w fun e w' => ∃ v', e = .returned v' ∧ OwnW w' lo w'.heap.size v' (Lp ++ Ls.flatten) ∧ Below lo w w' := by
  have HR := Lib.hid hr
  have HE := Lib.hid hel
  have HL := Lib.hid hlen
  have HO := Lib.hid ho
  clear hr hel hlen ho
  go_enter Try.func117, Try.ntmps117
  go_wp2_with fail
  go_loopw [1, 9] (fun p i wr => ∃ j : Nat, j ≤ vs.length ∧ i = .int .i64 j ∧ OwnW wr lo wr.heap.size p (Lp ++ (Ls.take j).flatten) ∧ Below lo w wr) (fun _ i _ => vs.length - (intOf i).toNat)
  case atStart => exact ⟨0, Nat.zero_le _, rfl, by simpa using HO.out, Below.refl _ _⟩
  case round =>
    obtain ⟨j, hj, rfl, hown, hbr⟩ := hrel
    obtain ⟨Ap, cp, hform⟩ := hown.form
    have HBR := Lib.hid hbr
    have HOW := Lib.hid hown
    have hbs := Nat.le_trans hlo hbr.size
    clear hbr hown
    subst hform
    by_cases hlt : j < vs.length
    · have hlq : j < Ls.length := by rw [HL.out]; exact hlt
      obtain ⟨b, off, rfl, hbb, hc⟩ := (HR.out.below HBR.out).at_ hlt
      have HS := Lib.hid (flat_take hlq)
      have hl1 := flat_take_len Ls (j + 1)
      rw [HS.out, List.length_append] at hl1
      have hel := HE.out j vs[j] Ls[j] (List.getElem?_eq_getElem hlt) (List.getElem?_eq_getElem hlq)
      have hls : (Lp ++ (Ls.take j).flatten).length + Ls[j].length ≤ 1000 := by rw [List.length_append]; omega
      generalize Ls[j] = Q at *
      generalize vs[j] = u at *
      obtain ⟨Lq, hLq⟩ : ∃ Lq, Lp ++ (Ls.take j).flatten = Lq := ⟨_, rfl⟩
      have HLQ := Lib.hid (show Lp ++ (Ls.take (j + 1)).flatten = Lq ++ Q by rw [HS.out, ← List.append_assoc, hLq])
      rw [hLq] at HOW hls ⊢
      clear hLq hl1
      rcases hel with ⟨x, rfl, rfl⟩ | ⟨A', n', c', rfl, hcall⟩
      · have HC := Lib.hid (winAddTo_calls x lo _ Lq wr HOW.out hbs (by omega))
        have hm : ∀ w : World, (method 269 90 (.agg #[.int .i64 x.arr, .int .i64 x.start, .int .i64 x.len, .int .i64 x.cap]) "loop.example/g01179/impl.addTo").run Try.prog w = .ok (149, .agg #[.int .i64 x.arr, .int .i64 x.start, .int .i64 x.len, .int .i64 x.cap]) w := fun _ => by kernel_rfl
        unfold winI at hc
        go_wp2_with fail
        refine HC.out.mono ?_
        rintro e w2 ⟨v2, rfl, ho2, hb2⟩
        have HB2 := Lib.hid (HBR.out.trans hb2)
        have HO2 := Lib.hid ho2
        clear hb2 hm hc ho2
        go_wp2_with fail
        go_roundw
        case rel => exact ⟨j + 1, by omega, by go_num, by rw [HLQ.out]; exact HO2.out, HB2.out⟩
        case measure => simp [intOf]; omega
      · have HC := Lib.hid (hcall wr _ Lq HBR.out HOW.out hls)
        have hm : ∀ w : World, (method 269 112 (.slice A' n' c') "loop.example/g01179/impl.addTo").run Try.prog w = .ok (117, .slice A' n' c') w := fun _ => by kernel_rfl
        clear hcall
        unfold brI at hc
        go_wp2_with fail
        refine HC.out.mono ?_
        rintro e w2 ⟨v2, rfl, ho2, hb2⟩
        have HB2 := Lib.hid (HBR.out.trans hb2)
        have HO2 := Lib.hid ho2
        clear hb2 hm hc ho2
        go_wp2_with fail
        go_roundw
        case rel => exact ⟨j + 1, by omega, by go_num, by rw [HLQ.out]; exact HO2.out, HB2.out⟩
        case measure => simp [intOf]; omega
    · obtain rfl : j = vs.length := by omega
      have HF := Lib.hid (show Ls.take vs.length = Ls by rw [← HL.out, List.take_length])
      rw [HF.out] at HOW
      go_wp2_with fail
      go_ret
      exact ⟨_, rfl, by rw [HF.out]; exact HOW.out, HBR.out⟩

theorem braidAddTo_calls : ∀ (d : Nat) (A : Option Addr) (c : Nat) (vs : List Value) (Ls : List (List Win)) (lo : Nat) (P : Value) (Lp : List Win) (w : World), Br w lo d A vs Ls → OwnW w lo w.heap.size P Lp → lo ≤ w.heap.size → Lp.length + Ls.flatten.length ≤ 1000 →
    Calls Try.prog 117 #[.slice A vs.length c, P] w fun e w' => ∃ v', e = .returned v' ∧ OwnW w' lo w'.heap.size v' (Lp ++ Ls.flatten) ∧ Below lo w w' := by
  intro d
  induction d with
  | zero =>
    intro A c vs Ls lo P Lp w h ho hlo hn
    exact braidAddTo_of A c vs Ls lo P Lp w h.len h.few h.rd ho hlo hn fun i u Q hu hQ => .inl (h.el i u Q hu hQ)
  | succ d ih =>
    intro A c vs Ls lo P Lp w h ho hlo hn
    refine braidAddTo_of A c vs Ls lo P Lp w h.len h.few h.rd ho hlo hn fun i u Q hu hQ => ?_
    rcases h.el i u Q hu hQ with h0 | ⟨A', c', vs', Ls', e1, e2, e3, e4, e5, e6, e7⟩
    · exact .inl h0
    · refine .inr ⟨A', vs'.length, c', e1, fun W P' Lp' hb ho' hn' => ?_⟩
      rw [e7]
      exact ih A' c' vs' Ls' lo P' Lp' W ((Br.mk e2 e3 e5 e6 : Br w lo d A' vs' Ls').below hb) ho' (Nat.le_trans hlo hb.size) (by rw [← e7]; exact hn')
end Go.Proofs.Ytomebbapjolnlaa
