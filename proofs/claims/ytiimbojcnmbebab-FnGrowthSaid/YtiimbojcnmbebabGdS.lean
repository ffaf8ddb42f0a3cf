/-
  Draws of lists of appends.
-/
import Derived.Test.YtiimbojcnmbebabGdR
import Derived.Laws.OwnMore
namespace Go.Proofs.Ytiimbojcnmbebab
open Go.RowKit

theorem info_intD : (Try.prog.info? 3).map (fun i => (i.zero, i.size, i.bytes)) = some (some (.int .i64 0), 1, 8) := by kernel_rfl
def Wf (z : Int) : Prop := (Lit.int .i64 z).wf = true
theorem wf_of {z : Int} (h1 : -9223372036854775808 ≤ z) (h2 : z ≤ 9223372036854775807) : Wf z := by
  unfold Wf
  simp [Lit.wf, IntKind.min, IntKind.max, IntKind.signed, IntKind.bits]; omega
theorem own_someD {w : World} {base : Nat} {e : TypeId} {v : Value} {n : Nat} {xs : List Value} (h : w.ownsRow base e 1 v n xs) (h0 : 0 < n) : ∃ g c, v = .slice (some ⟨g, 0, none⟩) n c := by
  rcases h.2 with ⟨_, hn⟩ | ⟨g, cap, cur, hv, _⟩
  · omega
  · exact ⟨g, cap, hv⟩
theorem ne_own {gv B n c : Nat} (h : gv ≠ B) : (Value.slice (some ⟨gv, 0, none⟩) n c).ownBlock ≠ some B := by
  simp only [Value.ownBlock]
  intro e
  exact h (by simpa using e)
theorem intV_set (xs : List Int) (i : Nat) (z : Int) : (intV .i64 xs).set i (.int .i64 z) = intV .i64 (xs.set i z) := by
  simp [intV, List.map_set]
set_option maxRecDepth 100000 in
set_option maxHeartbeats 3200000 in
theorem appends_calls (B n cp m : Nat) (A : Option Addr) (zs : List Int) (w : World) (hc : Cur w B A n cp m) (hr : Rd w B A (intV .u8 zs)) (hn : zs.length = n) (hm : n ≤ 65536) (hz : ∀ z ∈ zs, (Lit.int .u8 z).wf = true) (hlim : m ≤ 950000) :
    Calls Try.prog 39 #[.pointer (some ⟨B, 0, none⟩)] w fun e w' => ∃ (xs : List Int) (g c : Nat), e = .returned (.slice (some ⟨g, 0, none⟩) xs.length c) ∧ xs.length ≤ 41 ∧ (∀ x ∈ xs, Wf x) ∧ w'.ownsRow w.heap.size 3 1 (.slice (some ⟨g, 0, none⟩) xs.length c) xs.length (intV .i64 xs) ∧ Cur w' B A n cp (m + 100) ∧ w.grownBy w' (some B) := by
  obtain ⟨i1, hi1, hy0, hy1, hy2⟩ := info_parts info_intD
  have hlt0 := hc.lt
  have HL := Lib.hid (fun (W : World) ts m' (hc : Cur W B A n cp m') (hr : Rd W B A (intV .u8 zs)) h0 h1 h2 q h4 => among_lit B n cp m' A zs ts W hc hr hn hm hz h0 h1 h2 q h4)
  have HPK := Lib.hid (fun (W : World) m' q (hc : Cur W B A n cp m') (hr : Rd W B A (intV .u8 zs)) h1 h2 h3 => pick_calls B n cp m' A zs q W hc hr hn hm hz h1 h2 h3)
  have HON := Lib.hid (fun (W : World) m' q (hc : Cur W B A n cp m') (hr : Rd W B A (intV .u8 zs)) h1 h2 h3 => one_calls B n cp m' A zs q W hc hr hn hm hz h1 h2 h3)
  have HRG := Lib.hid (fun (W : World) (h : w.grownBy W (some B)) => (hr.grown h (Nat.le_of_lt hlt0) (fun g e => by injection e with e; omega) : Rd W B A (intV .u8 zs)))
  have HO := Lib.hid (World.ownsRow_made (base := w.heap.size) (e := 3) (size := 1) w #[] 0 (Nat.le_refl _) (Nat.zero_le _) rfl)
  obtain ⟨w1, hw1⟩ : ∃ w1, w.alloc (.cells #[] 3) = w1 := ⟨_, rfl⟩
  have hb1 : Below w.heap.size w w1 := by rw [← hw1]; exact (Below.refl _ _).alloc (Nat.le_refl _) _
  rw [hw1] at HO
  have HB1 := Lib.hid (grown_of_below hb1 (some B))
  have HC1 := Lib.hid (hc.kept hb1)
  have HW := Lib.hid hw1
  have hs1 := hb1.size
  clear hz hn hc hr hw1 hb1
  go_enter Try.func39, Try.ntmps39
  go_upto_region 2 with fail
  rw [HW.out]
  have HA1 := Lib.hid (HL.out w1 [4, 6, 3, 10, 0, 1, 40, 41] _ HC1.out (HRG.out w1 HB1.out) (by omega) (by decide) (by decide) 8 rfl)
  go_wp2_with fail
  refine HA1.out.mono ?_
  rintro e w2 ⟨⟨t, ht, rfl⟩, hc2, hg2⟩
  obtain ⟨k, rfl⟩ : ∃ k : Nat, t = k := ⟨t.toNat, by simp at ht; omega⟩
  have hk : k ≤ 41 := by simp at ht; omega
  have HG2 := Lib.hid (HB1.out.trans hg2)
  have HC2 := Lib.hid hc2
  have hgv0 : B ≠ w.heap.size := by omega
  have HO2 := Lib.hid (HO.out.kept hg2 (.inr (ne_own (by omega))))
  clear ht hc2 hg2
  go_wp2_with fail
  go_loopg [3, 4] k (fun g v i wx => ∃ (bs : List Int) (gv c : Nat), bs.length + g = k ∧ i = .int .i64 g ∧ v = .slice (some ⟨gv, 0, none⟩) bs.length c ∧ Hid (∀ z ∈ bs, Wf z) ∧ wx.ownsRow w.heap.size 3 1 (.slice (some ⟨gv, 0, none⟩) bs.length c) bs.length (intV .i64 bs) ∧ Cur wx B A n cp (m + 2 + 2 * bs.length) ∧ w.grownBy wx (some B))
  case atStart => exact ⟨[], _, _, by simp, rfl, rfl, Lib.hid (fun z hz => by cases hz), HO2.out, HC2.out, HG2.out⟩
  case round =>
    obtain ⟨bs, gv, c, hjg, rfl, rfl, HZ, ho, hcu, hg⟩ := hrel
    have HO1 := Lib.hid ho
    have HCU := Lib.hid hcu
    have HG := Lib.hid hg
    have hgs := hg.size
    have hgv := (ho.lt gv rfl).1
    clear ho hcu hg
    cases gk with
    | zero =>
      have hz0 : ((0 : Nat) : Int) = 0 := rfl
      rw [hz0]
      clear hz0
      have hbk : bs.length ≤ 41 := by omega
      clear hjg
      by_cases hb0 : bs.length = 0
      · have hbs : bs = [] := List.eq_nil_of_length_eq_zero hb0
        subst hbs
        clear hb0 hbk
        rw [List.length_nil]
        go_wp2_with fail
        go_ret
        exact ⟨[], gv, c, rfl, by simp, HZ.out, HO1.out, HCU.out.more (by first | omega | (simp; done) | (simp; omega)), HG.out⟩
      · have hpos : 0 < bs.length := by omega
        clear hb0
        have HO3 := Lib.hid (HON.out wr _ 20 HCU.out (HRG.out wr HG.out) (by omega) (by omega) (by omega))
        go_wp2_with fail
        with_reducible refine HO3.out.mono ?_
        rintro e w3 ⟨⟨b, rfl⟩, hc3, hg3⟩
        have HC3 := Lib.hid hc3
        have HG3 := Lib.hid (HG.out.trans hg3)
        have HOR3 := Lib.hid (HO1.out.kept hg3 (.inr (ne_own (by omega))))
        clear hc3 hg3
        cases b with
        | false =>
          go_wp2_with fail
          go_ret
          exact ⟨bs, gv, c, rfl, by omega, HZ.out, HOR3.out, HC3.out.more (by omega), HG3.out⟩
        | true =>
          have HP4 := Lib.hid (HPK.out w3 _ bs.length HC3.out (HRG.out w3 HG3.out) (by omega) (by omega) (by omega))
          go_wp2_with fail
          with_reducible refine HP4.out.mono ?_
          rintro e w4 ⟨⟨q, rfl, hq0, hq1⟩, hc4, hg4⟩
          obtain ⟨j, rfl⟩ : ∃ j : Nat, q = j := ⟨q.toNat, by omega⟩
          have hj : j < bs.length := by omega
          have HG4 := Lib.hid (HG3.out.trans hg4)
          have HC4 := Lib.hid hc4
          have HOR4 := Lib.hid (HOR3.out.kept hg4 (.inr (ne_own (by omega))))
          have HA5 := Lib.hid (HL.out w4 [-1, 1000000, 1000001, 500000, 4611686018427387904] _ HC4.out (HRG.out w4 HG4.out) (by omega) (by decide) (by decide) 5 rfl)
          clear hc4 hg4 hq0 hq1
          go_wp2_with fail
          refine HA5.out.mono ?_
          rintro e w5 ⟨⟨u, hu, rfl⟩, hc5, hg5⟩
          have hu2 : Wf u := by simp at hu; exact wf_of (by omega) (by omega)
          have HU := Lib.hid hu2
          have HG5 := Lib.hid (HG4.out.trans hg5)
          have HC5 := Lib.hid hc5
          have hOR5 := HOR4.out.kept hg5 (.inr (ne_own (by omega)))
          have HOR5 := Lib.hid hOR5
          have hf5 := hOR5.frozenAt j
          have hx5 : w5.cell? ⟨gv, j, none⟩ = some ((intV .i64 bs)[j]'(by rw [intV_len]; exact hj)) := by
            rw [hOR5.cellAt j (by omega), List.getElem?_eq_getElem]
          obtain ⟨old, hold⟩ : ∃ old, (intV .i64 bs)[j]'(by rw [intV_len]; exact hj) = old := ⟨_, rfl⟩
          rw [hold] at hx5
          have HST := Lib.hid (hOR5.stored j (.int .i64 u))
          clear hu hc5 hg5 hu2 hOR5 hold
          go_wp2_with fail
          go_ret
          refine ⟨bs.set j u, gv, c, by rw [List.length_set]; rfl, by rw [List.length_set]; omega, ?_, ?_, ?_, ?_⟩
          · intro x hx
            rcases List.mem_or_eq_of_mem_set hx with hx | hx
            · exact HZ.out x hx
            · rw [hx]; exact HU.out
          · rw [List.length_set, ← intV_set]; exact HST.out.1
          · exact (HC5.out.grown HST.out.2 (fun e => by injection e with e; omega)).more (by omega)
          · exact gcompG HG5.out HST.out.2 (fun g' e => .inr (by injection e with e; omega))
    | succ g =>
      have HA3 := Lib.hid (HL.out wr [1, 2, 1, 5, 0, 20, 64] _ HCU.out (HRG.out wr HG.out) (by omega) (by decide) (by decide) 7 rfl)
      have hgp : (0 : Int) < ((g + 1 : Nat) : Int) := by omega
      go_wp2_with fail
      refine HA3.out.mono ?_
      rintro e w3 ⟨⟨t, ht, rfl⟩, hc3, hg3⟩
      have HC3 := Lib.hid hc3
      have HG3 := Lib.hid (HG.out.trans hg3)
      have hs3 := hg3.size
      have HO3 := Lib.hid (HO1.out.kept hg3 (.inr (ne_own (by omega))))
      have hwt : Wf t := by simp at ht; exact wf_of (by omega) (by omega)
      have HWT := Lib.hid hwt
      clear hc3 hg3 ht hwt
      go_wp2_with ((at_builtin; refine wpList_append_own _ rfl _ _ 26 rfl w.heap.size 3 i1 _ 1 8 Try.underlying26 hi1 hy0 hy1 hy2 rfl (by decide) _ _ _ rfl (HO3.out.alloc _) ⟨w3.heap.size, 0, none⟩ 1 1 [.int .i64 t] rfl rfl (cell_one_new _ _ _) (by simp [Value.oneCell']) (by simp only [maxLen]; omega) (by omega) (by simp; omega) ?_; intro v' w5 hown5 hgrow hnil5; obtain ⟨g5, c5, rfl⟩ := own_someD hown5 (Nat.succ_pos _)))
      have hl5 : (bs ++ [t]).length = bs.length + 1 := by simp
      have HO5 := Lib.hid (show w5.ownsRow w.heap.size 3 1 (.slice (some ⟨g5, 0, none⟩) (bs ++ [t]).length c5) (bs ++ [t]).length (intV .i64 (bs ++ [t])) by rw [hl5]; simpa [intV] using hown5)
      have hg5 : w3.grownBy w5 (some gv) := ⟨hgrow.os, hgrow.tape, hgrow.output, by have := hgrow.size; simp at this; omega, fun q hq hn => (hgrow.block q (by simp; omega) hn).trans (((Below.refl w3.heap.size w3).alloc (Nat.le_refl _) _).block q hq)⟩
      have HC5 := Lib.hid (HC3.out.grown hg5 (by have := HC3.out.lt; simp; omega))
      have HG5 : Hid (w.grownBy w5 (some B)) := Lib.hid (gcompG HG3.out hg5 (fun g' e => .inr (by injection e with e; omega)))
      have HZ5 := Lib.hid (show ∀ z ∈ bs ++ [t], Wf z from fun z hz => by
        rcases List.mem_append.1 hz with hz | hz
        · exact HZ.out z hz
        · rw [List.mem_singleton.1 hz]; exact HWT.out)
      clear hown5 hgrow hnil5 hg5
      go_roundg g
      case measure => omega
      case rel => exact ⟨bs ++ [t], g5, c5, by omega, by go_num, by rw [hl5], HZ5, HO5.out, HC5.out.more (by omega), HG5.out⟩
end Go.Proofs.Ytiimbojcnmbebab
