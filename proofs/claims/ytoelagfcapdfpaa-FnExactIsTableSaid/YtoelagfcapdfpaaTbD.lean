/-
  Tables as mathematics; the model's test of a table.
-/
import Derived.Test.YtoelagfcapdfpaaTbC
import Derived.Test.YtoelagfcapdfpaaHr
namespace Go.Proofs.Ytoelagfcapdfpaa
open Go.RowKit Go.ChangeShapes Go.WideShapes Go.Joins Go.Deep

/-- The first k entries are what those of a table are. -/
def Pre (m : List (List Int)) (L : List En) (k : Nat) : Prop := ∀ i, i < k → WinOK m (L.getD i default).w ∧ (0 < i → lessK (L.getD (i - 1) default).key (L.getD i default).key = true)
instance (m : List (List Int)) (L : List En) (k : Nat) : Decidable (Pre m L k) := inferInstanceAs (Decidable (∀ i, i < k → _))
/-- A table on a memory. -/
def TabOK (m : List (List Int)) (L : List En) : Prop := MemOK m ∧ L.length ≤ 12 ∧ Pre m L L.length
instance (m : List (List Int)) (L : List En) : Decidable (TabOK m L) := inferInstanceAs (Decidable (_ ∧ _ ∧ _))
theorem Pre.zero (m : List (List Int)) (L : List En) : Pre m L 0 := fun i h => by omega
theorem Pre.step {m : List (List Int)} {L : List En} {k : Nat} (h : Pre m L k) (h1 : WinOK m (L.getD k default).w) (h2 : 0 < k → lessK (L.getD (k - 1) default).key (L.getD k default).key = true) : Pre m L (k + 1) := fun i hi => by
  rcases Nat.lt_or_ge i k with hlt | hge
  · exact h i hlt
  · obtain rfl : i = k := by omega
    exact ⟨h1, h2⟩
theorem getD_at {L : List En} {k : Nat} (h : k < L.length) : L.getD k default = L[k] := by rw [List.getD_eq_getElem?_getD, List.getElem?_eq_getElem h, Option.getD_some]
/-- A memory and a list of entries' address, as arguments, boxed where they are. -/
theorem enterMem (A : Option Addr) (n c : Nat) (w : World) : ∃ w0, w.alloc (.cells #[.slice A n c] 31) = w0 ∧ Below w.heap.size w w0 ∧ w0.heap.size = w.heap.size + 1 ∧ w0.heap[w.heap.size]? = some (.cells #[.slice A n c] 31) :=
  ⟨_, rfl, (Below.refl _ _).alloc (Nat.le_refl _) _, by simp, heap_alloc_new _ _⟩

set_option maxRecDepth 100000 in
set_option maxHeartbeats 1600000 in
theorem specTable_calls (A : Option Addr) (cm : Nat) (m : List (List Int)) (B : Option Addr) (kc : Nat) (L : List En) (w : World) (hr : Rd2 w w.heap.size A m) (hn : m.length ≤ maxLen) (hx : RdE w w.heap.size B L) (hl : L.length ≤ maxLen) (ha : ∀ x ∈ L, EArg x) :
    Calls Try.prog 79 #[.agg #[.slice A m.length cm], .slice B L.length kc] w fun e w' => e = .returned (.bool (decide (TabOK m L))) ∧ Below w.heap.size w w' := by
  unfold maxLen at hl
  obtain ⟨w0, hw0, hb0, hz0, hg0⟩ := enterMem A m.length cm w
  have HCW := Lib.hid (fun (x : Win) W (hb : Below w.heap.size w W) => specWindow_calls A cm m x W ((hr.below hb).more hb.size) hn)
  have HCM := Lib.hid (fun W (hb : Below w.heap.size w W) => specMemory_calls A cm m W ((hr.below hb).more hb.size) hn)
  have HX := Lib.hid hx
  have HEA := Lib.hid ha
  have HB0 := Lib.hid hb0
  have HW := Lib.hid hw0
  have HG := Lib.hid hg0
  have HCELL : Hid (∀ W, Below w0.heap.size w0 W → W.cell? ⟨w.heap.size, 0, none⟩ = some (.slice A m.length cm)) := Lib.hid fun W hb => one_cell ((hb.block _ (Array.getElem?_eq_some_iff.1 hg0).1).trans hg0)
  clear hr hx ha hb0 hw0 hz0 hg0 hn
  go_enter Try.func79, Try.ntmps79
  go_upto_region 1 with fail
  rw [HW.out]
  go_wp2_with fail
  go_loopw [5] (fun t wr => ∃ k : Nat, k ≤ L.length ∧ k ≤ 13 ∧ t = .int .i64 k ∧ Pre m L k ∧ Below w0.heap.size w0 wr) (fun t _ => L.length - (intOf t).toNat)
  case atStart => exact ⟨0, Nat.zero_le _, by omega, rfl, Pre.zero _ _, Below.refl _ _⟩
  case round =>
    obtain ⟨k, hk, h13, rfl, hp, hb⟩ := hrel
    have HP := Lib.hid hp
    have HB := Lib.hid hb
    have HBW := Lib.hid (HB0.out.trans (hb.mono HB0.out.size))
    by_cases hgo : k < L.length ∧ k ≤ 12
    · obtain ⟨hlt, hk12⟩ := hgo
      obtain ⟨b, off, rfl, hbb, hkl, hrg⟩ := (HX.out.below HBW.out).at_ hlt
      have hxL := HEA.out L[k] (List.getElem_mem hlt)
      have HGD := Lib.hid (getD_at hlt)
      have hbw : b < wr.heap.size := Nat.lt_of_lt_of_le hbb HBW.out.size
      clear hp hb
      obtain ⟨x, hxe⟩ : ∃ x, L[k] = x := ⟨_, rfl⟩
      rw [hxe] at hkl hrg hxL HGD
      clear hxe
      have HSX := Lib.hid (size_key hkl)
      have HR := Lib.hid hrg
      have HK := Lib.hid hkl
      have HXA := Lib.hid hxL
      have hk12' : (k : Int) ≤ 12 := by omega
      have HC := Lib.hid (fun W (hb : Below wr.heap.size wr W) => HCW.out x.w W (HBW.out.trans (hb.mono HBW.out.size)))
      unfold Win.val at HC
      clear hkl hrg hxL
      have hc0 : Below wr.heap.size wr wr.drew := (Below.refl _ _).drew
      have hc00 := Below.refl wr.heap.size wr
      have HQ1 : Hid (∀ W, Below wr.heap.size wr W → W.cell? ⟨w.heap.size, 0, none⟩ = some (.slice A m.length cm) ∧ W.cell? ⟨b, off + k * 20 + 16, none⟩ = some (.int .i64 x.w.arr) ∧ W.cell? ⟨b, off + k * 20 + 16 + 1, none⟩ = some (.int .i64 x.w.start) ∧ W.cell? ⟨b, off + k * 20 + 16 + 2, none⟩ = some (.int .i64 x.w.len) ∧ W.cell? ⟨b, off + k * 20 + 16 + 3, none⟩ = some (.int .i64 x.w.cap)) := Lib.hid fun W h => by
        obtain ⟨e0, e1, e2, e3⟩ := range_win (w := W) HK.out (fun j v hv => (h.cell hbw).trans (HR.out j v hv))
        exact ⟨HCELL.out W (HB.out.trans (h.mono HB.out.size)), e0, e1, e2, e3⟩
      by_cases hwin : WinOK m x.w
      · rw [show decide (WinOK m x.w) = true from decide_eq_true hwin] at HC
        have HWN := Lib.hid hwin
        clear hwin
        rcases Nat.eq_zero_or_pos k with hz | hpos
        · have HQ := HQ1
          have hkz : ¬ 0 < k := by omega
          have hkd : decide (0 < k) = false := decide_eq_false hkz
          have HZK := Lib.hid hz
          clear hc00 hz
          go_wp2_with fail
          refine wp_region_held_drew (S := (fun W => W.cell? ⟨w.heap.size, 0, none⟩ = some (.slice A m.length cm) ∧ W.cell? ⟨b, off + k * 20 + 16, none⟩ = some (.int .i64 x.w.arr) ∧ W.cell? ⟨b, off + k * 20 + 16 + 1, none⟩ = some (.int .i64 x.w.start) ∧ W.cell? ⟨b, off + k * 20 + 16 + 2, none⟩ = some (.int .i64 x.w.len) ∧ W.cell? ⟨b, off + k * 20 + 16 + 3, none⟩ = some (.int .i64 x.w.cap))) (by kernel_rfl) ?_ (fun hHeld => ?_)
          · (first | (with_reducible exact HQ.out _ hc0) | exact HQ.out _ hc2)
          refine takeD (i := 0) (d := 16) (v := ?_) rfl rfl (by kernel_rfl) (by kernel_rfl) (by kernel_rfl) (fun _ _ _ h => h) (by rfl) ?_ (by assumption) ?_
          rotate_left
          · (intro w hSw; (try dsimp only at hSw); go_simp; (try (with_reducible rfl)))
          simp only [Act.put, List.setIfInBounds_toArray, List.set_cons_zero, List.set_cons_succ]
          refine takeD (i := 1) (d := 17) (v := ?_) rfl rfl (by kernel_rfl) (by kernel_rfl) (by kernel_rfl) (fun _ _ _ h => h) (by rfl) ?_ (by assumption) ?_
          rotate_left
          · (intro w hSw; (try dsimp only at hSw); go_simp; (try (with_reducible rfl)))
          simp only [Act.put, List.setIfInBounds_toArray, List.set_cons_zero, List.set_cons_succ]
          refine takeD (i := 2) (d := 18) (v := ?_) rfl rfl (by kernel_rfl) (by kernel_rfl) (by kernel_rfl) (fun _ _ _ h => h) (by rfl) ?_ (by assumption) ?_
          rotate_left
          · (intro w hSw; (try dsimp only at hSw); go_simp; (try (with_reducible rfl)))
          simp only [Act.put, List.setIfInBounds_toArray, List.set_cons_zero, List.set_cons_succ]
          refine takeD (i := 3) (d := 19) (v := ?_) rfl rfl (by kernel_rfl) (by kernel_rfl) (by kernel_rfl) (fun _ _ _ h => h) (by rfl) ?_ (by assumption) ?_
          rotate_left
          · (intro w hSw; (try dsimp only at hSw); go_simp; (try (with_reducible rfl)))
          simp only [Act.put, List.setIfInBounds_toArray, List.set_cons_zero, List.set_cons_succ]
          refine takeD (i := 4) (d := 20) (v := ?_) rfl rfl (by kernel_rfl) (by kernel_rfl) (by kernel_rfl) (fun _ _ _ h => h) (by rfl) ?_ (by assumption) ?_
          rotate_left
          · (intro w hSw; (try dsimp only at hSw); go_simp; (try (with_reducible rfl)))
          simp only [Act.put, List.setIfInBounds_toArray, List.set_cons_zero, List.set_cons_succ]
          refine takeD (i := 5) (d := 21) (v := ?_) rfl rfl (by kernel_rfl) (by kernel_rfl) (by kernel_rfl) (fun _ _ _ h => h) (by rfl) ?_ (by assumption) ?_
          rotate_left
          · (intro w hSw; (try dsimp only at hSw); go_simp; (try (with_reducible rfl)))
          simp only [Act.put, List.setIfInBounds_toArray, List.set_cons_zero, List.set_cons_succ]
          refine wpAnyH_ready (rs := [6]) (by kernel_rfl) (by simp) ?_
          refine AllReadyH.cons rfl (fun K hK => ?_) AllReadyH.nil
          (try go_simp)
          (go_at_call 86; refine (HC.out _ hc0).mono ?_; rintro e w2 ⟨rfl, hb2⟩; have hc2 := hc0.trans (hb2.mono hc0.size))
          refine hK.out _ _ ?_ (fun hHeld => ?_)
          · (first | (with_reducible exact HQ.out _ hc0) | exact HQ.out _ hc2)
          clear hK K
          try simp only [Act.put, List.setIfInBounds_toArray, List.set_cons_zero, List.set_cons_succ]
          refine takeD (i := 7) (d := 23) (v := ?_) rfl rfl (by kernel_rfl) (by kernel_rfl) (by kernel_rfl) (fun _ _ _ h => h) (by rfl) ?_ (by assumption) ?_
          rotate_left
          · (intro w hSw; (try dsimp only at hSw); go_simp; (try (with_reducible rfl)))
          simp only [Act.put, List.setIfInBounds_toArray, List.set_cons_zero, List.set_cons_succ]
          refine takeD (i := 8) (d := 24) (v := ?_) rfl rfl (by kernel_rfl) (by kernel_rfl) (by kernel_rfl) (fun _ _ _ h => h) (by rfl) ?_ (by assumption) ?_
          rotate_left
          · (intro w hSw; (try dsimp only at hSw); go_simp; (try (with_reducible rfl)))
          simp only [Act.put, List.setIfInBounds_toArray, List.set_cons_zero, List.set_cons_succ]
          refine takeD (i := 9) (d := 25) (v := ?_) rfl rfl (by kernel_rfl) (by kernel_rfl) (by kernel_rfl) (fun _ _ _ h => h) (by rfl) ?_ (by assumption) ?_
          rotate_left
          · (intro w hSw; (try dsimp only at hSw); go_simp; (try (with_reducible rfl)))
          simp only [Act.put, List.setIfInBounds_toArray, List.set_cons_zero, List.set_cons_succ]
          refine takeD (i := 10) (d := 26) (v := ?_) rfl rfl (by kernel_rfl) (by kernel_rfl) (by kernel_rfl) (fun _ _ _ h => h) (by rfl) ?_ (by assumption) ?_
          rotate_left
          · (intro w hSw; (try dsimp only at hSw); go_simp; (try (with_reducible rfl)))
          simp only [Act.put, List.setIfInBounds_toArray, List.set_cons_zero, List.set_cons_succ]
          refine takeD (i := 11) (d := 27) (v := ?_) rfl rfl (by kernel_rfl) (by kernel_rfl) (by kernel_rfl) (fun _ _ _ h => h) (by rfl) ?_ (by assumption) ?_
          rotate_left
          · (intro w hSw; (try dsimp only at hSw); go_simp; (try (with_reducible rfl)))
          simp only [Act.put, List.setIfInBounds_toArray, List.set_cons_zero, List.set_cons_succ]
          refine skipD (i := 12) (d := 28) rfl rfl (by kernel_rfl) (by kernel_rfl) (by kernel_rfl) (fun _ _ _ h => h) (by rfl) (by assumption) ?_
          simp only [Act.put, List.setIfInBounds_toArray, List.set_cons_succ]
          refine skipD (i := 13) (d := 29) rfl rfl (by kernel_rfl) (by kernel_rfl) (by kernel_rfl) (fun _ _ _ h => h) (by rfl) (by assumption) ?_
          simp only [Act.put, List.setIfInBounds_toArray, List.set_cons_succ]
          refine skipD (i := 14) (d := 30) rfl rfl (by kernel_rfl) (by kernel_rfl) (by kernel_rfl) (fun _ _ _ h => h) (by rfl) (by assumption) ?_
          simp only [Act.put, List.setIfInBounds_toArray, List.set_cons_succ]
          refine skipD (i := 15) (d := 31) rfl rfl (by kernel_rfl) (by kernel_rfl) (by kernel_rfl) (fun _ _ _ h => h) (by rfl) (by assumption) ?_
          simp only [Act.put, List.setIfInBounds_toArray, List.set_cons_succ]
          refine skipD (i := 16) (d := 32) rfl rfl (by kernel_rfl) (by kernel_rfl) (by kernel_rfl) (fun _ _ _ h => h) (by rfl) (by assumption) ?_
          simp only [Act.put, List.setIfInBounds_toArray, List.set_cons_succ]
          refine skipD (i := 17) (d := 33) rfl rfl (by kernel_rfl) (by kernel_rfl) (by kernel_rfl) (fun _ _ _ h => h) (by rfl) (by assumption) ?_
          simp only [Act.put, List.setIfInBounds_toArray, List.set_cons_succ]
          refine skipD (i := 18) (d := 34) rfl rfl (by kernel_rfl) (by kernel_rfl) (by kernel_rfl) (fun _ _ _ h => h) (by rfl) (by assumption) ?_
          simp only [Act.put, List.setIfInBounds_toArray, List.set_cons_succ]
          refine skipD (i := 19) (d := 35) rfl rfl (by kernel_rfl) (by kernel_rfl) (by kernel_rfl) (fun _ _ _ h => h) (by rfl) (by assumption) ?_
          simp only [Act.put, List.setIfInBounds_toArray, List.set_cons_succ]
          refine skipD (i := 20) (d := 36) rfl rfl (by kernel_rfl) (by kernel_rfl) (by kernel_rfl) (fun _ _ _ h => h) (by rfl) (by assumption) ?_
          simp only [Act.put, List.setIfInBounds_toArray, List.set_cons_succ]
          refine skipD (i := 21) (d := 37) rfl rfl (by kernel_rfl) (by kernel_rfl) (by kernel_rfl) (fun _ _ _ h => h) (by rfl) (by assumption) ?_
          simp only [Act.put, List.setIfInBounds_toArray, List.set_cons_succ]
          refine skipD (i := 22) (d := 38) rfl rfl (by kernel_rfl) (by kernel_rfl) (by kernel_rfl) (fun _ _ _ h => h) (by rfl) (by assumption) ?_
          simp only [Act.put, List.setIfInBounds_toArray, List.set_cons_succ]
          refine skipD (i := 23) (d := 39) rfl rfl (by kernel_rfl) (by kernel_rfl) (by kernel_rfl) (fun _ _ _ h => h) (by rfl) (by assumption) ?_
          simp only [Act.put, List.setIfInBounds_toArray, List.set_cons_succ]
          refine skipD (i := 24) (d := 40) rfl rfl (by kernel_rfl) (by kernel_rfl) (by kernel_rfl) (fun _ _ _ h => h) (by rfl) (by assumption) ?_
          simp only [Act.put, List.setIfInBounds_toArray, List.set_cons_succ]
          refine takeD (i := 25) (d := 41) (v := ?_) rfl rfl (by kernel_rfl) (by kernel_rfl) (by kernel_rfl) (fun _ _ _ h => h) (by rfl) ?_ (by assumption) ?_
          rotate_left
          · (intro w hSw; (try dsimp only at hSw); go_simp; (try (with_reducible rfl)))
          simp only [Act.put, List.setIfInBounds_toArray, List.set_cons_zero, List.set_cons_succ]
          refine takeD (i := 26) (d := 42) (v := ?_) rfl rfl (by kernel_rfl) (by kernel_rfl) (by kernel_rfl) (fun _ _ _ h => h) (by rfl) ?_ (by assumption) ?_
          rotate_left
          · (intro w hSw; (try dsimp only at hSw); go_simp; (try (with_reducible rfl)))
          simp only [Act.put, List.setIfInBounds_toArray, List.set_cons_zero, List.set_cons_succ]
          refine wpAnyH_done (by kernel_rfl) ?_ _
          have HB2 := Lib.hid (HB.out.trans (hc2.mono HB.out.size))
          clear hb2 hc2 hc0 hHeld
          go_wp2_with fail
          go_roundw
          case rel => exact ⟨k + 1, by omega, by omega, by go_num, HP.out.step (by rw [HGD.out]; exact HWN.out) (fun h => absurd HZK.out (by omega)), HB2.out⟩
          case measure => simp [intOf]; omega
        · obtain ⟨j, hjk⟩ : ∃ j, k = j + 1 := ⟨k - 1, by omega⟩
          have hjl : j < L.length := by omega
          obtain ⟨b', off', hbo, _, hyl, hrgy⟩ := (HX.out.below HBW.out).at_ hjl
          injection hbo with hbo
          injection hbo with e1 e2
          subst e1; subst e2
          have HGY := Lib.hid (show L.getD (k - 1) default = L[j] by rw [show k - 1 = j by omega]; exact getD_at hjl)
          have hyA := HEA.out L[j] (List.getElem_mem hjl)
          obtain ⟨y, hye⟩ : ∃ y, L[j] = y := ⟨_, rfl⟩
          rw [hye] at hyl hrgy hyA HGY
          clear hye
          have HSY := Lib.hid (size_key hyl)
          have HRY := Lib.hid hrgy
          have HLK := Lib.hid (fun W => specLessKey_calls y.key x.key W hyA.1 HXA.out.1)
          have HQ : Hid (∀ W, Below wr.heap.size wr W → W.cell? ⟨w.heap.size, 0, none⟩ = some (.slice A m.length cm) ∧ W.cell? ⟨b, off + k * 20 + 16, none⟩ = some (.int .i64 x.w.arr) ∧ W.cell? ⟨b, off + k * 20 + 16 + 1, none⟩ = some (.int .i64 x.w.start) ∧ W.cell? ⟨b, off + k * 20 + 16 + 2, none⟩ = some (.int .i64 x.w.len) ∧ W.cell? ⟨b, off + k * 20 + 16 + 3, none⟩ = some (.int .i64 x.w.cap) ∧ W.rangeAt b (off + k * 20) (intV .u8 x.key) ∧ W.rangeAt b (off + j * 20) (intV .u8 y.key)) := Lib.hid fun W h => by
            obtain ⟨q0, q1, q2, q3, q4⟩ := HQ1.out W h
            exact ⟨q0, q1, q2, q3, q4, fun i v hv => (h.cell hbw).trans (range_key HR.out i v hv), fun i v hv => (h.cell hbw).trans (range_key HRY.out i v hv)⟩
          obtain ⟨p, hpp⟩ : ∃ p, lessK y.key x.key = p := ⟨_, rfl⟩
          rw [hpp] at HLK
          have HPP := Lib.hid hpp
          have hkj : (k : Int) - 1 = j := by omega
          have hwj : IntKind.i64.wrap (j : Int) = (j : Int) := IntWalk.i64_in _ (by omega)
          have hjl2 : (j : Int) < L.length := by omega
          have hj0 : (0 : Int) ≤ j := by omega
          have hkd : decide (0 < k) = true := decide_eq_true hpos
          have HJK := Lib.hid hjk
          clear hyl hrgy hyA hpp hjk hc00
          go_wp2_with fail
          refine wp_region_held_drew (S := (fun W => W.cell? ⟨w.heap.size, 0, none⟩ = some (.slice A m.length cm) ∧ W.cell? ⟨b, off + k * 20 + 16, none⟩ = some (.int .i64 x.w.arr) ∧ W.cell? ⟨b, off + k * 20 + 16 + 1, none⟩ = some (.int .i64 x.w.start) ∧ W.cell? ⟨b, off + k * 20 + 16 + 2, none⟩ = some (.int .i64 x.w.len) ∧ W.cell? ⟨b, off + k * 20 + 16 + 3, none⟩ = some (.int .i64 x.w.cap) ∧ W.rangeAt b (off + k * 20) (intV .u8 x.key) ∧ W.rangeAt b (off + j * 20) (intV .u8 y.key))) (by kernel_rfl) ?_ (fun hHeld => ?_)
          · (first | (with_reducible exact HQ.out _ hc0) | (with_reducible exact HQ.out _ hc2) | exact HQ.out _ hc3)
          refine takeD (i := 0) (d := 16) (v := ?_) rfl rfl (by kernel_rfl) (by kernel_rfl) (by kernel_rfl) (fun _ _ _ h => h) (by rfl) ?_ (by assumption) ?_
          rotate_left
          · (intro w hSw; (try dsimp only at hSw); go_simp; (try (with_reducible rfl)))
          simp only [Act.put, List.setIfInBounds_toArray, List.set_cons_zero, List.set_cons_succ]
          refine takeD (i := 1) (d := 17) (v := ?_) rfl rfl (by kernel_rfl) (by kernel_rfl) (by kernel_rfl) (fun _ _ _ h => h) (by rfl) ?_ (by assumption) ?_
          rotate_left
          · (intro w hSw; (try dsimp only at hSw); go_simp; (try (with_reducible rfl)))
          simp only [Act.put, List.setIfInBounds_toArray, List.set_cons_zero, List.set_cons_succ]
          refine takeD (i := 2) (d := 18) (v := ?_) rfl rfl (by kernel_rfl) (by kernel_rfl) (by kernel_rfl) (fun _ _ _ h => h) (by rfl) ?_ (by assumption) ?_
          rotate_left
          · (intro w hSw; (try dsimp only at hSw); go_simp; (try (with_reducible rfl)))
          simp only [Act.put, List.setIfInBounds_toArray, List.set_cons_zero, List.set_cons_succ]
          refine takeD (i := 3) (d := 19) (v := ?_) rfl rfl (by kernel_rfl) (by kernel_rfl) (by kernel_rfl) (fun _ _ _ h => h) (by rfl) ?_ (by assumption) ?_
          rotate_left
          · (intro w hSw; (try dsimp only at hSw); go_simp; (try (with_reducible rfl)))
          simp only [Act.put, List.setIfInBounds_toArray, List.set_cons_zero, List.set_cons_succ]
          refine takeD (i := 4) (d := 20) (v := ?_) rfl rfl (by kernel_rfl) (by kernel_rfl) (by kernel_rfl) (fun _ _ _ h => h) (by rfl) ?_ (by assumption) ?_
          rotate_left
          · (intro w hSw; (try dsimp only at hSw); go_simp; (try (with_reducible rfl)))
          simp only [Act.put, List.setIfInBounds_toArray, List.set_cons_zero, List.set_cons_succ]
          refine takeD (i := 5) (d := 21) (v := ?_) rfl rfl (by kernel_rfl) (by kernel_rfl) (by kernel_rfl) (fun _ _ _ h => h) (by rfl) ?_ (by assumption) ?_
          rotate_left
          · (intro w hSw; (try dsimp only at hSw); go_simp; (try (with_reducible rfl)))
          simp only [Act.put, List.setIfInBounds_toArray, List.set_cons_zero, List.set_cons_succ]
          refine wpAnyH_ready (rs := [6]) (by kernel_rfl) (by simp) ?_
          refine AllReadyH.cons rfl (fun K hK => ?_) AllReadyH.nil
          (try go_simp)
          (go_at_call 86; refine (HC.out _ hc0).mono ?_; rintro e w2 ⟨rfl, hb2⟩; have hc2 := hc0.trans (hb2.mono hc0.size))
          refine hK.out _ _ ?_ (fun hHeld => ?_)
          · (first | (with_reducible exact HQ.out _ hc0) | (with_reducible exact HQ.out _ hc2) | exact HQ.out _ hc3)
          clear hK K
          try simp only [Act.put, List.setIfInBounds_toArray, List.set_cons_zero, List.set_cons_succ]
          refine takeD (i := 7) (d := 23) (v := ?_) rfl rfl (by kernel_rfl) (by kernel_rfl) (by kernel_rfl) (fun _ _ _ h => h) (by rfl) ?_ (by assumption) ?_
          rotate_left
          · (intro w hSw; (try dsimp only at hSw); go_simp; (try (with_reducible rfl)))
          simp only [Act.put, List.setIfInBounds_toArray, List.set_cons_zero, List.set_cons_succ]
          refine takeD (i := 8) (d := 24) (v := ?_) rfl rfl (by kernel_rfl) (by kernel_rfl) (by kernel_rfl) (fun _ _ _ h => h) (by rfl) ?_ (by assumption) ?_
          rotate_left
          · (intro w hSw; (try dsimp only at hSw); go_simp; (try (with_reducible rfl)))
          simp only [Act.put, List.setIfInBounds_toArray, List.set_cons_zero, List.set_cons_succ]
          refine takeD (i := 9) (d := 25) (v := ?_) rfl rfl (by kernel_rfl) (by kernel_rfl) (by kernel_rfl) (fun _ _ _ h => h) (by rfl) ?_ (by assumption) ?_
          rotate_left
          · (intro w hSw; (try dsimp only at hSw); go_simp; (try (with_reducible rfl)))
          simp only [Act.put, List.setIfInBounds_toArray, List.set_cons_zero, List.set_cons_succ]
          refine takeD (i := 10) (d := 26) (v := ?_) rfl rfl (by kernel_rfl) (by kernel_rfl) (by kernel_rfl) (fun _ _ _ h => h) (by rfl) ?_ (by assumption) ?_
          rotate_left
          · (intro w hSw; (try dsimp only at hSw); go_simp; (try (with_reducible rfl)))
          simp only [Act.put, List.setIfInBounds_toArray, List.set_cons_zero, List.set_cons_succ]
          refine takeD (i := 11) (d := 27) (v := ?_) rfl rfl (by kernel_rfl) (by kernel_rfl) (by kernel_rfl) (fun _ _ _ h => h) (by rfl) ?_ (by assumption) ?_
          rotate_left
          · (intro w hSw; (try dsimp only at hSw); go_simp; (try (with_reducible rfl)))
          simp only [Act.put, List.setIfInBounds_toArray, List.set_cons_zero, List.set_cons_succ]
          refine takeD (i := 12) (d := 28) (v := ?_) rfl rfl (by kernel_rfl) (by kernel_rfl) (by kernel_rfl) (fun _ _ _ h => h) (by rfl) ?_ (by assumption) ?_
          rotate_left
          · (intro w hSw; (try dsimp only at hSw); go_simp; (try (with_reducible rfl)))
          simp only [Act.put, List.setIfInBounds_toArray, List.set_cons_zero, List.set_cons_succ]
          refine takeD (i := 13) (d := 29) (v := ?_) rfl rfl (by kernel_rfl) (by kernel_rfl) (by kernel_rfl) (fun _ _ _ h => h) (by rfl) ?_ (by assumption) ?_
          rotate_left
          · (intro w hSw; (try dsimp only at hSw); go_simp; (try (with_reducible rfl)))
          simp only [Act.put, List.setIfInBounds_toArray, List.set_cons_zero, List.set_cons_succ]
          refine takeD (i := 14) (d := 30) (v := ?_) rfl rfl (by kernel_rfl) (by kernel_rfl) (by kernel_rfl) (fun _ _ _ h => h) (by rfl) ?_ (by assumption) ?_
          rotate_left
          · (intro w hSw; (try dsimp only at hSw); go_simp; (try (with_reducible rfl)))
          simp only [Act.put, List.setIfInBounds_toArray, List.set_cons_zero, List.set_cons_succ]
          refine takeD (i := 15) (d := 31) (v := ?_) rfl rfl (by kernel_rfl) (by kernel_rfl) (by kernel_rfl) (fun _ _ _ h => h) (by rfl) ?_ (by assumption) ?_
          rotate_left
          · (intro w hSw; (try dsimp only at hSw); go_simp; (try (with_reducible rfl)))
          simp only [Act.put, List.setIfInBounds_toArray, List.set_cons_zero, List.set_cons_succ]
          refine takeD (i := 16) (d := 32) (v := ?_) rfl rfl (by kernel_rfl) (by kernel_rfl) (by kernel_rfl) (fun _ _ _ h => h) (by rfl) ?_ (by assumption) ?_
          rotate_left
          · (intro w hSw; (try dsimp only at hSw); go_simp; (try (with_reducible rfl)))
          simp only [Act.put, List.setIfInBounds_toArray, List.set_cons_zero, List.set_cons_succ]
          refine' wpAnyH_take (i := 17) (oi := _) (v := _) rfl (by kernel_rfl) (by kernel_rfl) (by kernel_rfl) (fun _ _ _ h => h) (yieldsIf_load_mid (by rfl) _ _ rfl _ _ rfl (intV .u8 y.key) _ (fun _ h => h.2.2.2.2.2.2) under_key rfl HSY.out) hHeld ?_
          simp only [Act.put, List.setIfInBounds_toArray]
          refine takeD (i := 18) (d := 34) (v := ?_) rfl rfl (by kernel_rfl) (by kernel_rfl) (by kernel_rfl) (fun _ _ _ h => h) (by rfl) ?_ (by assumption) ?_
          rotate_left
          · (intro w hSw; (try dsimp only at hSw); go_simp; (try (with_reducible rfl)))
          simp only [Act.put]
          refine takeD (i := 19) (d := 35) (v := ?_) rfl rfl (by kernel_rfl) (by kernel_rfl) (by kernel_rfl) (fun _ _ _ h => h) (by rfl) ?_ (by assumption) ?_
          rotate_left
          · (intro w hSw; (try dsimp only at hSw); go_simp; (try (with_reducible rfl)))
          simp only [Act.put]
          refine takeD (i := 20) (d := 36) (v := ?_) rfl rfl (by kernel_rfl) (by kernel_rfl) (by kernel_rfl) (fun _ _ _ h => h) (by rfl) ?_ (by assumption) ?_
          rotate_left
          · (intro w hSw; (try dsimp only at hSw); go_simp; (try (with_reducible rfl)))
          simp only [Act.put]
          refine takeD (i := 21) (d := 37) (v := ?_) rfl rfl (by kernel_rfl) (by kernel_rfl) (by kernel_rfl) (fun _ _ _ h => h) (by rfl) ?_ (by assumption) ?_
          rotate_left
          · (intro w hSw; (try dsimp only at hSw); go_simp; (try (with_reducible rfl)))
          simp only [Act.put]
          refine' wpAnyH_take (i := 22) (oi := _) (v := _) rfl (by kernel_rfl) (by kernel_rfl) (by kernel_rfl) (fun _ _ _ h => h) (yieldsIf_load_mid (by rfl) _ _ rfl _ _ rfl (intV .u8 x.key) _ (fun _ h => h.2.2.2.2.2.1) under_key rfl HSX.out) hHeld ?_
          simp only [Act.put]
          refine wpAnyH_ready (rs := [23]) (by kernel_rfl) (by simp) ?_
          refine AllReadyH.cons rfl (fun K hK => ?_) AllReadyH.nil
          (try go_simp)
          (go_at_call 25; refine (HLK.out _).mono ?_; rintro e w3 ⟨rfl, hb3⟩; have hc3 := hc2.trans (hb3.mono hc2.size))
          refine hK.out _ _ ?_ (fun hHeld => ?_)
          · (first | (with_reducible exact HQ.out _ hc0) | (with_reducible exact HQ.out _ hc2) | exact HQ.out _ hc3)
          clear hK K
          try simp only [Act.put, List.setIfInBounds_toArray, List.set_cons_zero, List.set_cons_succ]
          refine takeD (i := 24) (d := 40) (v := ?_) rfl rfl (by kernel_rfl) (by kernel_rfl) (by kernel_rfl) (fun _ _ _ h => h) (by rfl) ?_ (by assumption) ?_
          rotate_left
          · (intro w hSw; (try dsimp only at hSw); go_simp; (try (with_reducible rfl)))
          simp only [Act.put, List.setIfInBounds_toArray, List.set_cons_zero, List.set_cons_succ]
          refine takeD (i := 25) (d := 41) (v := ?_) rfl rfl (by kernel_rfl) (by kernel_rfl) (by kernel_rfl) (fun _ _ _ h => h) (by rfl) ?_ (by assumption) ?_
          rotate_left
          · (intro w hSw; (try dsimp only at hSw); go_simp; (try (with_reducible rfl)))
          simp only [Act.put, List.setIfInBounds_toArray, List.set_cons_zero, List.set_cons_succ]
          refine takeD (i := 26) (d := 42) (v := ?_) rfl rfl (by kernel_rfl) (by kernel_rfl) (by kernel_rfl) (fun _ _ _ h => h) (by rfl) ?_ (by assumption) ?_
          rotate_left
          · (intro w hSw; (try dsimp only at hSw); go_simp; (try (with_reducible rfl)))
          simp only [Act.put, List.setIfInBounds_toArray, List.set_cons_zero, List.set_cons_succ]
          refine wpAnyH_done (by kernel_rfl) ?_ _
          have HB3 := Lib.hid (HB.out.trans (hc3.mono HB.out.size))
          clear hb2 hb3 hc2 hc3 hc0 hHeld
          cases p with
          | true =>
            go_wp2_with fail
            go_roundw
            case rel => exact ⟨k + 1, by omega, by omega, by go_num, HP.out.step (by rw [HGD.out]; exact HWN.out) (fun _ => by rw [HGD.out, HGY.out]; exact HPP.out), HB3.out⟩
            case measure => simp [intOf]; omega
          | false =>
            have HF : Hid (decide (TabOK m L) = false) := Lib.hid (decide_eq_false fun h => by
              have := (h.2.2 k hlt).2 (by omega)
              rw [HGD.out, HGY.out, HPP.out] at this
              cases this)
            go_wp2_with fail
            go_ret
            exact ⟨ret_bool HF.out.symm, HB0.out.trans (HB3.out.mono HB0.out.size)⟩
      · rw [show decide (WinOK m x.w) = false from decide_eq_false hwin] at HC
        have HF : Hid (decide (TabOK m L) = false) := Lib.hid (decide_eq_false fun h => hwin (by
          have := (h.2.2 k hlt).1
          rw [HGD.out] at this
          exact this))
        have HQ := HQ1
        clear hwin hc00
        go_wp2_with fail
        refine wp_region_held_drew (S := (fun W => W.cell? ⟨w.heap.size, 0, none⟩ = some (.slice A m.length cm) ∧ W.cell? ⟨b, off + k * 20 + 16, none⟩ = some (.int .i64 x.w.arr) ∧ W.cell? ⟨b, off + k * 20 + 16 + 1, none⟩ = some (.int .i64 x.w.start) ∧ W.cell? ⟨b, off + k * 20 + 16 + 2, none⟩ = some (.int .i64 x.w.len) ∧ W.cell? ⟨b, off + k * 20 + 16 + 3, none⟩ = some (.int .i64 x.w.cap))) (by kernel_rfl) ?_ (fun hHeld => ?_)
        · (first | (with_reducible exact HQ.out _ hc0) | exact HQ.out _ hc2)
        refine takeD (i := 0) (d := 16) (v := ?_) rfl rfl (by kernel_rfl) (by kernel_rfl) (by kernel_rfl) (fun _ _ _ h => h) (by rfl) ?_ (by assumption) ?_
        rotate_left
        · (intro w hSw; (try dsimp only at hSw); go_simp; (try (with_reducible rfl)))
        simp only [Act.put, List.setIfInBounds_toArray, List.set_cons_zero, List.set_cons_succ]
        refine takeD (i := 1) (d := 17) (v := ?_) rfl rfl (by kernel_rfl) (by kernel_rfl) (by kernel_rfl) (fun _ _ _ h => h) (by rfl) ?_ (by assumption) ?_
        rotate_left
        · (intro w hSw; (try dsimp only at hSw); go_simp; (try (with_reducible rfl)))
        simp only [Act.put, List.setIfInBounds_toArray, List.set_cons_zero, List.set_cons_succ]
        refine takeD (i := 2) (d := 18) (v := ?_) rfl rfl (by kernel_rfl) (by kernel_rfl) (by kernel_rfl) (fun _ _ _ h => h) (by rfl) ?_ (by assumption) ?_
        rotate_left
        · (intro w hSw; (try dsimp only at hSw); go_simp; (try (with_reducible rfl)))
        simp only [Act.put, List.setIfInBounds_toArray, List.set_cons_zero, List.set_cons_succ]
        refine takeD (i := 3) (d := 19) (v := ?_) rfl rfl (by kernel_rfl) (by kernel_rfl) (by kernel_rfl) (fun _ _ _ h => h) (by rfl) ?_ (by assumption) ?_
        rotate_left
        · (intro w hSw; (try dsimp only at hSw); go_simp; (try (with_reducible rfl)))
        simp only [Act.put, List.setIfInBounds_toArray, List.set_cons_zero, List.set_cons_succ]
        refine takeD (i := 4) (d := 20) (v := ?_) rfl rfl (by kernel_rfl) (by kernel_rfl) (by kernel_rfl) (fun _ _ _ h => h) (by rfl) ?_ (by assumption) ?_
        rotate_left
        · (intro w hSw; (try dsimp only at hSw); go_simp; (try (with_reducible rfl)))
        simp only [Act.put, List.setIfInBounds_toArray, List.set_cons_zero, List.set_cons_succ]
        refine takeD (i := 5) (d := 21) (v := ?_) rfl rfl (by kernel_rfl) (by kernel_rfl) (by kernel_rfl) (fun _ _ _ h => h) (by rfl) ?_ (by assumption) ?_
        rotate_left
        · (intro w hSw; (try dsimp only at hSw); go_simp; (try (with_reducible rfl)))
        simp only [Act.put, List.setIfInBounds_toArray, List.set_cons_zero, List.set_cons_succ]
        refine wpAnyH_ready (rs := [6]) (by kernel_rfl) (by simp) ?_
        refine AllReadyH.cons rfl (fun K hK => ?_) AllReadyH.nil
        (try go_simp)
        (go_at_call 86; refine (HC.out _ hc0).mono ?_; rintro e w2 ⟨rfl, hb2⟩; have hc2 := hc0.trans (hb2.mono hc0.size))
        refine hK.out _ _ ?_ (fun hHeld => ?_)
        · (first | (with_reducible exact HQ.out _ hc0) | exact HQ.out _ hc2)
        clear hK K
        try simp only [Act.put, List.setIfInBounds_toArray, List.set_cons_zero, List.set_cons_succ]
        refine takeD (i := 7) (d := 23) (v := ?_) rfl rfl (by kernel_rfl) (by kernel_rfl) (by kernel_rfl) (fun _ _ _ h => h) (by rfl) ?_ (by assumption) ?_
        rotate_left
        · (intro w hSw; (try dsimp only at hSw); go_simp; (try (with_reducible rfl)))
        simp only [Act.put, List.setIfInBounds_toArray, List.set_cons_zero, List.set_cons_succ]
        refine takeD (i := 8) (d := 24) (v := ?_) rfl rfl (by kernel_rfl) (by kernel_rfl) (by kernel_rfl) (fun _ _ _ h => h) (by rfl) ?_ (by assumption) ?_
        rotate_left
        · (intro w hSw; (try dsimp only at hSw); go_simp; (try (with_reducible rfl)))
        simp only [Act.put, List.setIfInBounds_toArray, List.set_cons_zero, List.set_cons_succ]
        refine skipD (i := 9) (d := 25) rfl rfl (by kernel_rfl) (by kernel_rfl) (by kernel_rfl) (fun _ _ _ h => h) (by rfl) (by assumption) ?_
        simp only [Act.put, List.setIfInBounds_toArray, List.set_cons_succ]
        refine skipD (i := 10) (d := 26) rfl rfl (by kernel_rfl) (by kernel_rfl) (by kernel_rfl) (fun _ _ _ h => h) (by rfl) (by assumption) ?_
        simp only [Act.put, List.setIfInBounds_toArray, List.set_cons_succ]
        refine skipD (i := 11) (d := 27) rfl rfl (by kernel_rfl) (by kernel_rfl) (by kernel_rfl) (fun _ _ _ h => h) (by rfl) (by assumption) ?_
        simp only [Act.put, List.setIfInBounds_toArray, List.set_cons_succ]
        refine skipD (i := 12) (d := 28) rfl rfl (by kernel_rfl) (by kernel_rfl) (by kernel_rfl) (fun _ _ _ h => h) (by rfl) (by assumption) ?_
        simp only [Act.put, List.setIfInBounds_toArray, List.set_cons_succ]
        refine skipD (i := 13) (d := 29) rfl rfl (by kernel_rfl) (by kernel_rfl) (by kernel_rfl) (fun _ _ _ h => h) (by rfl) (by assumption) ?_
        simp only [Act.put, List.setIfInBounds_toArray, List.set_cons_succ]
        refine skipD (i := 14) (d := 30) rfl rfl (by kernel_rfl) (by kernel_rfl) (by kernel_rfl) (fun _ _ _ h => h) (by rfl) (by assumption) ?_
        simp only [Act.put, List.setIfInBounds_toArray, List.set_cons_succ]
        refine skipD (i := 15) (d := 31) rfl rfl (by kernel_rfl) (by kernel_rfl) (by kernel_rfl) (fun _ _ _ h => h) (by rfl) (by assumption) ?_
        simp only [Act.put, List.setIfInBounds_toArray, List.set_cons_succ]
        refine skipD (i := 16) (d := 32) rfl rfl (by kernel_rfl) (by kernel_rfl) (by kernel_rfl) (fun _ _ _ h => h) (by rfl) (by assumption) ?_
        simp only [Act.put, List.setIfInBounds_toArray, List.set_cons_succ]
        refine skipD (i := 17) (d := 33) rfl rfl (by kernel_rfl) (by kernel_rfl) (by kernel_rfl) (fun _ _ _ h => h) (by rfl) (by assumption) ?_
        simp only [Act.put, List.setIfInBounds_toArray, List.set_cons_succ]
        refine skipD (i := 18) (d := 34) rfl rfl (by kernel_rfl) (by kernel_rfl) (by kernel_rfl) (fun _ _ _ h => h) (by rfl) (by assumption) ?_
        simp only [Act.put, List.setIfInBounds_toArray, List.set_cons_succ]
        refine skipD (i := 19) (d := 35) rfl rfl (by kernel_rfl) (by kernel_rfl) (by kernel_rfl) (fun _ _ _ h => h) (by rfl) (by assumption) ?_
        simp only [Act.put, List.setIfInBounds_toArray, List.set_cons_succ]
        refine skipD (i := 20) (d := 36) rfl rfl (by kernel_rfl) (by kernel_rfl) (by kernel_rfl) (fun _ _ _ h => h) (by rfl) (by assumption) ?_
        simp only [Act.put, List.setIfInBounds_toArray, List.set_cons_succ]
        refine skipD (i := 21) (d := 37) rfl rfl (by kernel_rfl) (by kernel_rfl) (by kernel_rfl) (fun _ _ _ h => h) (by rfl) (by assumption) ?_
        simp only [Act.put, List.setIfInBounds_toArray, List.set_cons_succ]
        refine skipD (i := 22) (d := 38) rfl rfl (by kernel_rfl) (by kernel_rfl) (by kernel_rfl) (fun _ _ _ h => h) (by rfl) (by assumption) ?_
        simp only [Act.put, List.setIfInBounds_toArray, List.set_cons_succ]
        refine skipD (i := 23) (d := 39) rfl rfl (by kernel_rfl) (by kernel_rfl) (by kernel_rfl) (fun _ _ _ h => h) (by rfl) (by assumption) ?_
        simp only [Act.put, List.setIfInBounds_toArray, List.set_cons_succ]
        refine skipD (i := 24) (d := 40) rfl rfl (by kernel_rfl) (by kernel_rfl) (by kernel_rfl) (fun _ _ _ h => h) (by rfl) (by assumption) ?_
        simp only [Act.put, List.setIfInBounds_toArray, List.set_cons_succ]
        refine skipD (i := 25) (d := 41) rfl rfl (by kernel_rfl) (by kernel_rfl) (by kernel_rfl) (fun _ _ _ h => h) (by rfl) (by assumption) ?_
        simp only [Act.put, List.setIfInBounds_toArray, List.set_cons_succ]
        refine takeD (i := 26) (d := 42) (v := ?_) rfl rfl (by kernel_rfl) (by kernel_rfl) (by kernel_rfl) (fun _ _ _ h => h) (by rfl) ?_ (by assumption) ?_
        rotate_left
        · (intro w hSw; (try dsimp only at hSw); go_simp; (try (with_reducible rfl)))
        simp only [Act.put, List.setIfInBounds_toArray, List.set_cons_zero, List.set_cons_succ]
        refine wpAnyH_done (by kernel_rfl) ?_ _
        have HB2 := Lib.hid (HB.out.trans (hc2.mono HB.out.size))
        clear hb2 hc2 hc0 hHeld
        go_wp2_with fail
        go_ret
        exact ⟨ret_bool HF.out.symm, HB0.out.trans (HB2.out.mono HB0.out.size)⟩
    · have HMC := Lib.hid (HCM.out wr HBW.out)
      have c0 := HCELL.out wr HB.out
      have HV : Hid (decide (TabOK m L) = (decide (MemOK m) && decide ((L.length : Int) ≤ 12))) := Lib.hid (by
        by_cases h12 : L.length ≤ 12
        · have hkL : k = L.length := by omega
          subst hkL
          rw [decide_eq_true (show (L.length : Int) ≤ 12 by omega), Bool.and_true, decide_eq_decide]
          exact ⟨fun h => h.1, fun h => ⟨h, h12, hp⟩⟩
        · rw [decide_eq_false (show ¬ (L.length : Int) ≤ 12 by omega), Bool.and_false]
          exact decide_eq_false fun h => h12 h.2.1)
      obtain ⟨pm, hpm⟩ : ∃ pm, decide (MemOK m) = pm := ⟨_, rfl⟩
      rw [hpm] at HMC HV
      clear hp hb hpm
      by_cases hlt : k < L.length
      · have hk12 : ¬ (k : Int) ≤ 12 := by omega
        have h12 : ¬ (L.length : Int) ≤ 12 := by omega
        go_wp2_with fail
        refine HMC.out.mono ?_
        rintro e w2 ⟨rfl, hb2⟩
        have HB2 := Lib.hid (HBW.out.trans (hb2.mono HBW.out.size))
        clear hb2
        cases pm
        · go_wp2_with fail
          go_ret
          exact ⟨ret_bool (by rw [HV.out]; rfl), HB2.out⟩
        · go_wp2_with fail
          go_ret
          exact ⟨ret_bool (by first | (rw [HV.out]; rfl) | (rw [HV.out, decide_eq_false (show ¬ (L.length : Int) ≤ 12 by omega)]; rfl) | (rw [HV.out, decide_eq_true (show (L.length : Int) ≤ 12 by omega)]; rfl)), HB2.out⟩
      · have h12 : (L.length : Int) ≤ 12 ∨ ¬ (L.length : Int) ≤ 12 := by omega
        go_wp2_with fail
        refine HMC.out.mono ?_
        rintro e w2 ⟨rfl, hb2⟩
        have HB2 := Lib.hid (HBW.out.trans (hb2.mono HBW.out.size))
        clear hb2
        cases pm
        · go_wp2_with fail
          go_ret
          exact ⟨ret_bool (by rw [HV.out]; rfl), HB2.out⟩
        · rcases h12 with h12 | h12
          · go_wp2_with fail
            go_ret
            exact ⟨ret_bool (by first | (rw [HV.out]; rfl) | (rw [HV.out, decide_eq_false (show ¬ (L.length : Int) ≤ 12 by omega)]; rfl) | (rw [HV.out, decide_eq_true (show (L.length : Int) ≤ 12 by omega)]; rfl)), HB2.out⟩
          · go_wp2_with fail
            go_ret
            exact ⟨ret_bool (by first | (rw [HV.out]; rfl) | (rw [HV.out, decide_eq_false (show ¬ (L.length : Int) ≤ 12 by omega)]; rfl) | (rw [HV.out, decide_eq_true (show (L.length : Int) ≤ 12 by omega)]; rfl)), HB2.out⟩
end Go.Proofs.Ytoelagfcapdfpaa
