/-
  MostApart of spec.
-/
import Derived.Test.YtomgjhdknondmabApM
import Derived.Deep.LoopGhost
import Derived.Laws.AppendOwnNone
namespace Go.Proofs.Ytomgjhdknondmab
open Go.RowKit

theorem Rd.int2 {w : World} {B : Nat} {A : Option Addr} {k : IntKind} {zs : List Int} (h : Rd w B A (intV k zs)) {i j : Nat} (hi : i < zs.length) (hj : j < zs.length) :
    ∃ b off, A = some ⟨b, off, none⟩ ∧ b < B ∧ w.cell? ⟨b, off + i, none⟩ = some (.int k zs[i]) ∧ w.cell? ⟨b, off + j, none⟩ = some (.int k zs[j]) := by
  obtain ⟨b, off, e, hb, h1⟩ := h.int hi
  obtain ⟨b2, off2, e2, _, h2⟩ := h.int hj
  rw [e] at e2
  injection e2 with e2
  injection e2 with e3 e4
  subst e3; subst e4
  exact ⟨b, off, e, hb, h1, h2⟩
theorem RdW.at2 {w : World} {B : Nat} {A : Option Addr} {L : List Win} (h : RdW w B A L) {i j : Nat} (hi : i < L.length) (hj : j < L.length) :
    ∃ b off, A = some ⟨b, off, none⟩ ∧ b < B ∧ (w.cell? ⟨b, off + i * 4, none⟩ = some (.int .i64 L[i].arr) ∧ w.cell? ⟨b, off + i * 4 + 1, none⟩ = some (.int .i64 L[i].start) ∧ w.cell? ⟨b, off + i * 4 + 2, none⟩ = some (.int .i64 L[i].len) ∧ w.cell? ⟨b, off + i * 4 + 3, none⟩ = some (.int .i64 L[i].cap)) ∧
      (w.cell? ⟨b, off + j * 4, none⟩ = some (.int .i64 L[j].arr) ∧ w.cell? ⟨b, off + j * 4 + 1, none⟩ = some (.int .i64 L[j].start) ∧ w.cell? ⟨b, off + j * 4 + 2, none⟩ = some (.int .i64 L[j].len) ∧ w.cell? ⟨b, off + j * 4 + 3, none⟩ = some (.int .i64 L[j].cap)) := by
  obtain ⟨b, off, e, hb, h0, h1, h2, h3⟩ := h.at_ hi
  obtain ⟨b2, off2, e2, _, g0, g1, g2, g3⟩ := h.at_ hj
  rw [e] at e2
  injection e2 with e2
  injection e2 with e3 e4
  subst e3; subst e4
  exact ⟨b, off, e, hb, ⟨h0, h1, h2, h3⟩, ⟨g0, g1, g2, g3⟩⟩
theorem one_ints (zs : List Int) : ∀ u ∈ intV .i64 zs, u.oneCell' = true := by
  intro u hu
  obtain ⟨z, _, rfl⟩ := List.mem_map.1 hu
  rfl
theorem all_snoc {P : Nat → Prop} {n : Nat} (h : ∀ q, q < n → P q) (hn : P n) : ∀ q, q < n + 1 → P q := fun q hq => by
  rcases Nat.lt_or_ge q n with h1 | h1
  · exact h q h1
  · obtain rfl : q = n := by omega
    exact hn

set_option maxRecDepth 100000 in
theorem specOwnI_calls (lo : Nat) (C : Option Addr) (cn : Nat) (zs : List Int) (w : World) (ho : w.ownsRow lo 3 1 (.slice C zs.length cn) zs.length (intV .i64 zs)) (hn : zs.length ≤ 1000000) :
    Calls Try.prog 138 #[.slice C zs.length cn] w fun e w' => ∃ g c, e = .returned (.slice (some ⟨g, 0, none⟩) zs.length c) ∧ w'.ownsRow w.heap.size 3 1 (.slice (some ⟨g, 0, none⟩) zs.length c) zs.length (intV .i64 zs) ∧ Below w.heap.size w w' := by
  obtain ⟨i0, hi0, hz, hz1, hz2⟩ := info_parts info_int
  have HO := Lib.hid (World.ownsRow_made (base := w.heap.size) (e := 3) (size := 1) w #[] 0 (Nat.le_refl _) (Nat.zero_le _) rfl)
  rcases ho.2 with ⟨hv, h0⟩ | ⟨g, cap, cur, hv, hbg, hg, h1, h2, h3, h4⟩
  · injection hv with hA hL hC
    subst hA; subst hC
    obtain rfl : zs = [] := List.eq_nil_of_length_eq_zero h0
    clear ho
    go_enter Try.func138, Try.ntmps138
    go_wp2_with ((at_builtin; refine wpList_append_own_none _ rfl _ _ 28 rfl w.heap.size 3 i0 1 Try.underlying28 hi0 _ _ _ rfl HO.out rfl ?_))
    go_ret
    exact ⟨_, _, rfl, HO.out, (Below.refl _ _).alloc (Nat.le_refl _) _⟩
  · injection hv with hA hL hC
    subst hA; subst hC
    have hrd := Rd.of_own ho
    have HN : Hid (∀ (j : Nat) (u : Value), (intV .i64 zs)[j]? = some u → (w.alloc (.cells #[] 3)).cell? ((⟨g, 0, none⟩ : Addr).add j) = some u) := Lib.hid fun j u hu => by
      have hj : j < (intV .i64 zs).length := (List.getElem?_eq_some_iff.1 hu).1
      obtain ⟨b, off, e, hb, hc⟩ := hrd.at_ hj
      injection e with e
      injection e with e1 e2
      subst e1; subst e2
      rw [List.getElem?_eq_getElem hj] at hu
      injection hu with hu
      rw [← hu, ← cell_alloc hc (.cells #[] 3)]
      simp [Addr.add]
      by_cases h0 : j = 0 <;> simp [h0]
    have H1 := Lib.hid (one_ints zs)
    clear ho hrd
    go_enter Try.func138, Try.ntmps138
    go_wp2_with ((at_builtin; refine wpList_append_own _ rfl _ _ 28 rfl w.heap.size 3 i0 _ 1 8 Try.underlying28 hi0 hz hz1 hz2 rfl (by decide) _ _ _ rfl HO.out ⟨g, 0, none⟩ zs.length cn (intV .i64 zs) rfl (by rw [intV_len, Nat.mul_one]) HN.out H1.out (by simp only [maxLen]; omega) (by omega) (by simp) ?_; intro v' w5 hown5 hgrow hnil))
    rw [Nat.zero_add, List.nil_append] at hown5
    have hne : v' ≠ .slice none 0 0 := fun h => by have := (hnil.1 h).1; cases this
    obtain ⟨g5, c5, rfl⟩ : ∃ g c, v' = .slice (some ⟨g, 0, none⟩) zs.length c := by
      rcases hown5.2 with ⟨h, _⟩ | ⟨g5, cap5, cur5, h, _⟩
      · exact absurd h hne
      · exact ⟨g5, cap5, h⟩
    have HR := Lib.hid (And.intro hown5 (show Below w.heap.size w w5 from below_own0 ((Below.refl _ _).alloc (Nat.le_refl _) _) HO.out hgrow (by simp)))
    clear hown5 hgrow hnil hne
    go_wp2_with fail
    go_ret
    exact ⟨_, _, rfl, HR.out.1, HR.out.2⟩

set_option maxRecDepth 100000 in
set_option maxHeartbeats 1600000 in
theorem specApartL_calls (B : Option Addr) (ck : Nat) (L : List Win) (C : Option Addr) (cn : Nat) (nums : List Nat) (w : World) (hx : RdW w w.heap.size B L) (ht : ∀ x ∈ L, Tame x) (hl : L.length ≤ 12) (hn : ∀ k ∈ nums, k < L.length) (hlen : nums.length ≤ 64) (hr : Rd w w.heap.size C (intV .i64 (ints nums))) :
    Calls Try.prog 139 #[.slice B L.length ck, .slice C nums.length cn] w fun e w' => ∃ r : Bool, e = .returned (.bool r) ∧ (r = true ↔ apartP L nums) ∧ Below w.heap.size w w' := by
  have HX := Lib.hid hx
  have HR := Lib.hid hr
  have HT := Lib.hid ht
  have HN := Lib.hid hn
  clear hx hr ht hn
  go_enter Try.func139, Try.ntmps139
  go_wp2_with fail
  go_loopg [5] nums.length (fun g i wx => ∃ p : Nat, p + g = nums.length ∧ i = .int .i64 p ∧ Hid (∀ p', p' < p → ∀ q, q < p' → shareN L (nums.getD p' 0) (nums.getD q 0) = false) ∧ Below w.heap.size w wx)
  case atStart => exact ⟨0, by omega, rfl, Lib.hid (fun p' h => by omega), Below.refl _ _⟩
  case round =>
    obtain ⟨p, hpg, rfl, HI, hb⟩ := hrel
    have HB := Lib.hid hb
    clear hb
    cases gk with
    | zero =>
      obtain rfl : p = nums.length := by omega
      go_wp2_with fail
      go_ret
      exact ⟨true, rfl, ⟨fun _ => HI.out, fun _ => rfl⟩, HB.out⟩
    | succ g =>
      have hlt : p < nums.length := by omega
      obtain ⟨wo, hwo⟩ : ∃ wo, wo = wr := ⟨_, rfl⟩
      subst hwo
      go_wp2_with fail
      go_loopg [6] p (fun g2 j wy => ∃ q : Nat, q + g2 = p ∧ j = .int .i64 q ∧ Hid (∀ q', q' < q → shareN L (nums.getD p 0) (nums.getD q' 0) = false) ∧ Below w.heap.size w wy)
      case atStart => exact ⟨0, by omega, rfl, Lib.hid (fun q h => by omega), HB.out⟩
      case round =>
        obtain ⟨q, hqg, rfl, HJ, hb⟩ := hrel
        have HB2 := Lib.hid hb
        cases gk with
        | zero =>
          obtain rfl : q = p := by omega
          clear hb
          go_wp2_with fail
          go_roundg g
          case measure => omega
          case rel => exact ⟨q + 1, by omega, by go_num, Lib.hid (all_snoc HI.out HJ.out), HB2.out⟩
        | succ g2 =>
          have hqp : q < p := by omega
          have hq : q < nums.length := by omega
          have hP := HN.out _ (getD_mem hlt)
          have hQ := HN.out _ (getD_mem hq)
          obtain ⟨bn, on, rfl, hbn, n1, n2⟩ := (HR.out.below hb).int2 (i := p) (j := q) (by rw [ints_len]; exact hlt) (by rw [ints_len]; exact hq)
          rw [ints_get hlt] at n1
          rw [ints_get hq] at n2
          have HSH := Lib.hid (show ∀ h1 h2, shareN L (nums.getD p 0) (nums.getD q 0) = decide (0 < ovl (L[nums.getD p 0]'h1) (L[nums.getD q 0]'h2)) from fun h1 h2 => by rw [shareN, winAt_eq h1, winAt_eq h2])
          have HJS := Lib.hid (fun h => all_snoc (n := q) HJ.out h)
          have HAS : Hid (shareN L (nums.getD p 0) (nums.getD q 0) = true → ¬ apartP L nums) := Lib.hid fun h h2 => by
            have := h2 p hlt q hqp
            rw [h] at this
            cases this
          obtain ⟨sh, hsh⟩ : ∃ sh, shareN L (nums.getD p 0) (nums.getD q 0) = sh := ⟨_, rfl⟩
          rw [hsh] at HSH HJS HAS
          generalize nums.getD p 0 = P at *
          generalize nums.getD q 0 = Q at *
          obtain ⟨b, off, rfl, hbb, ⟨e0, e1, e2, e3⟩, ⟨g0, g1, g2', g3⟩⟩ := (HX.out.below hb).at2 hP hQ
          have HOV := Lib.hid (fun W => specOvl_calls L[P] L[Q] W (HT.out _ (List.getElem_mem hP)) (HT.out _ (List.getElem_mem hQ)))
          have HSV := Lib.hid (HSH.out hP hQ)
          generalize ovl L[P] L[Q] = o at *
          generalize L[P] = x at *
          generalize L[Q] = y at *
          clear hsh HSH hb
          have HA := Lib.hid (fun W (h : Below wr.heap.size wr W) => show W.cell? ⟨bn, on + p, none⟩ = some (.int .i64 P) ∧ W.cell? ⟨bn, on + q, none⟩ = some (.int .i64 Q) ∧ W.cell? ⟨b, off + P * 4, none⟩ = some (.int .i64 x.arr) ∧ W.cell? ⟨b, off + P * 4 + 1, none⟩ = some (.int .i64 x.start) ∧ W.cell? ⟨b, off + P * 4 + 2, none⟩ = some (.int .i64 x.len) ∧ W.cell? ⟨b, off + P * 4 + 3, none⟩ = some (.int .i64 x.cap) ∧ W.cell? ⟨b, off + Q * 4, none⟩ = some (.int .i64 y.arr) ∧ W.cell? ⟨b, off + Q * 4 + 1, none⟩ = some (.int .i64 y.start) ∧ W.cell? ⟨b, off + Q * 4 + 2, none⟩ = some (.int .i64 y.len) ∧ W.cell? ⟨b, off + Q * 4 + 3, none⟩ = some (.int .i64 y.cap)
            from ⟨(h.cell (cell_lt n1)).trans n1, (h.cell (cell_lt n2)).trans n2, (h.cell (cell_lt e0)).trans e0, (h.cell (cell_lt e1)).trans e1, (h.cell (cell_lt e2)).trans e2, (h.cell (cell_lt e3)).trans e3, (h.cell (cell_lt g0)).trans g0, (h.cell (cell_lt g1)).trans g1, (h.cell (cell_lt g2')).trans g2', (h.cell (cell_lt g3)).trans g3⟩)
          by_cases ho : 0 < o
          · go_wp2_with fail
            go_region_held3 (fun W => W.cell? ⟨bn, on + p, none⟩ = some (.int .i64 P) ∧ W.cell? ⟨bn, on + q, none⟩ = some (.int .i64 Q) ∧ W.cell? ⟨b, off + P * 4, none⟩ = some (.int .i64 x.arr) ∧ W.cell? ⟨b, off + P * 4 + 1, none⟩ = some (.int .i64 x.start) ∧ W.cell? ⟨b, off + P * 4 + 2, none⟩ = some (.int .i64 x.len) ∧ W.cell? ⟨b, off + P * 4 + 3, none⟩ = some (.int .i64 x.cap) ∧ W.cell? ⟨b, off + Q * 4, none⟩ = some (.int .i64 y.arr) ∧ W.cell? ⟨b, off + Q * 4 + 1, none⟩ = some (.int .i64 y.start) ∧ W.cell? ⟨b, off + Q * 4 + 2, none⟩ = some (.int .i64 y.len) ∧ W.cell? ⟨b, off + Q * 4 + 3, none⟩ = some (.int .i64 y.cap))
              (first | exact ⟨n1, n2, e0, e1, e2, e3, g0, g1, g2', g3⟩ | exact HA.out _ hc5)
              ((go_at_call 120; refine (HOV.out _).mono ?_; rintro e w5 ⟨rfl, hb5⟩; have hc5 : Below wr.heap.size wr w5 := ⟨hb5.os, hb5.tape, hb5.output, hb5.size, hb5.block⟩))
            have HB5 := Lib.hid (HB2.out.trans (hc5.mono HB2.out.size))
            have HF := Lib.hid (HAS.out (by rw [HSV.out]; exact decide_eq_true (by omega)))
            clear hb5 hc5
            go_wp2_with fail
            go_ret
            exact ⟨false, rfl, ⟨fun h => Bool.noConfusion h, fun h => absurd h HF.out⟩, HB5.out⟩
          · go_wp2_with fail
            go_region_held3 (fun W => W.cell? ⟨bn, on + p, none⟩ = some (.int .i64 P) ∧ W.cell? ⟨bn, on + q, none⟩ = some (.int .i64 Q) ∧ W.cell? ⟨b, off + P * 4, none⟩ = some (.int .i64 x.arr) ∧ W.cell? ⟨b, off + P * 4 + 1, none⟩ = some (.int .i64 x.start) ∧ W.cell? ⟨b, off + P * 4 + 2, none⟩ = some (.int .i64 x.len) ∧ W.cell? ⟨b, off + P * 4 + 3, none⟩ = some (.int .i64 x.cap) ∧ W.cell? ⟨b, off + Q * 4, none⟩ = some (.int .i64 y.arr) ∧ W.cell? ⟨b, off + Q * 4 + 1, none⟩ = some (.int .i64 y.start) ∧ W.cell? ⟨b, off + Q * 4 + 2, none⟩ = some (.int .i64 y.len) ∧ W.cell? ⟨b, off + Q * 4 + 3, none⟩ = some (.int .i64 y.cap))
              (first | exact ⟨n1, n2, e0, e1, e2, e3, g0, g1, g2', g3⟩ | exact HA.out _ hc5)
              ((go_at_call 120; refine (HOV.out _).mono ?_; rintro e w5 ⟨rfl, hb5⟩; have hc5 : Below wr.heap.size wr w5 := ⟨hb5.os, hb5.tape, hb5.output, hb5.size, hb5.block⟩))
            have HB5 := Lib.hid (HB2.out.trans (hc5.mono HB2.out.size))
            have HF := Lib.hid (HJS.out (by rw [HSV.out]; exact decide_eq_false (by omega)))
            clear hb5 hc5
            go_wp2_with fail
            go_roundg g2
            case measure => omega
            case rel => exact ⟨q + 1, by omega, by go_num, Lib.hid HF.out, HB5.out⟩
end Go.Proofs.Ytomgjhdknondmab
