/-
  FnGrowth: the walk.
-/
import Derived.Test.YtiimbojcnmbebabGdT
import Derived.Test.YtiimbojcnmbebabGrP
import Derived.Test.YtiimbojcnmbebabGrG
import Derived.Test.YtiimbojcnmbebabGrV2
import Derived.Test.YtiimbojcnmbebabGrY
import Derived.Test.YtiimbojcnmbebabGrI3
namespace Go.Proofs.Ytiimbojcnmbebab
open Go.RowKit

/-- rInts: whether two rows read alike. -/
theorem rInts_calls (A B : Option Addr) (c d : Nat) (zs ys : List Int) (w : World) (hr : Rd w w.heap.size A (intV .i64 zs)) (hq : Rd w w.heap.size B (intV .i64 ys)) (hn : zs.length ≤ maxLen) (hm : ys.length ≤ maxLen) :
    Calls Try.prog 9 #[.slice A zs.length c, .slice B ys.length d] w fun e w' => e = .returned (.bool (decide (zs = ys))) ∧ ∃ n, w' = w.drewN n := by
  unfold maxLen at hn hm
  have HZ := Lib.hid hr
  have HY := Lib.hid hq
  clear hr hq
  by_cases h0 : zs.length = ys.length
  · have hne : ((zs.length : Int) != (ys.length : Int)) = false := by simp [h0]
    have H0 := Lib.hid h0
    go_enter Try.func9, Try.ntmps9
    go_wp2
    go_loopw [5] (fun i wr => ∃ k n : Nat, k ≤ zs.length ∧ i = .int .i64 k ∧ zs.take k = ys.take k ∧ wr = w.drewN n) (fun i _ => zs.length - (intOf i).toNat)
    case atStart => exact ⟨0, 0, Nat.zero_le _, rfl, rfl, rfl⟩
    case round =>
      obtain ⟨k, n, hk, rfl, ht, rfl⟩ := hrel
      have HT := Lib.hid ht
      clear ht
      by_cases hlt : k < zs.length
      · have hlt2 : k < ys.length := by omega
        obtain ⟨b, off, rfl, hbb, hc⟩ := HZ.out.int hlt
        obtain ⟨b2, off2, rfl, hbb2, hc2⟩ := HY.out.int hlt2
        clear h0
        by_cases he : zs[k] = ys[k]
        · have hb0 : (zs[k] != ys[k]) = false := by simp [he]
          have HE := Lib.hid he
          clear he
          go_wp2
          go_quiet (fail)
          go_wp2
          go_roundw
          case rel => exact ⟨k + 1, n + nq, by omega, by go_num, take_eq_snoc HT.out hlt hlt2 HE.out, rfl⟩
          case measure => simp [intOf]; omega
        · have hb1 : (zs[k] != ys[k]) = true := by simpa using he
          have HF := Lib.hid (show decide (zs = ys) = false from decide_eq_false fun h => he (by subst h; rfl))
          clear he
          go_wp2
          go_quiet (fail)
          go_wp2
          go_ret
          exact ⟨ret_bool HF.out.symm, _, World.drewN_drewN _ _ _⟩
      · have hg : ¬ (k : Int) < zs.length := by omega
        have HF := Lib.hid (show decide (zs = ys) = true from decide_eq_true (by have := HT.out; rwa [List.take_of_length_le (by omega), List.take_of_length_le (by have := H0.out; omega)] at this))
        clear h0
        go_wp2
        go_ret
        exact ⟨ret_bool HF.out.symm, _, rfl⟩
  · have hne : ((zs.length : Int) != (ys.length : Int)) = true := by simp; omega
    have HF := Lib.hid (show decide (zs = ys) = false from decide_eq_false fun h => h0 (by rw [h]))
    clear h0
    go_enter Try.func9, Try.ntmps9
    go_wp2
    go_ret
    exact ⟨ret_bool HF.out.symm, 0, rfl⟩
theorem numR_ok (f : RunG → Int) (g : GR) (s : Int) (xs : List Int) : (numR f g s xs).2 = (capsR g s xs).2 := by
  unfold numR capsR; cases listG g s xs <;> rfl
/-- What a list of appends brings where it fits. -/
structure LF (g : GR) (xs : List Int) (caps : List Int) (mv ck : Int) (L : List RunG) : Prop where
  og : g.OK
  hl : xs.length ≤ 40
  hL : runsG g 0 runG0 xs = some L
  hc : caps = L.map RunG.cap
  hm : mv = (L.getLastD runG0).moves
  hk : ck = (L.getLastD runG0).cost
theorem list_facts {g : GR} {xs caps : List Int} {mv ck : Int} (h1 : capsR g 0 xs = (caps, true)) (h2 : (numR RunG.moves g 0 xs).1 = mv) (h3 : (numR RunG.cost g 0 xs).1 = ck) : ∃ L, LF g xs caps mv ck L := by
  rcases listS_all g 0 xs with ⟨_, h5⟩ | ⟨L, h4, hg, hl, _, h5⟩
  · unfold capsR at h1; rw [h5] at h1; simp at h1
  · unfold capsR at h1; rw [h5] at h1
    unfold numR at h2 h3; rw [h5] at h2 h3
    simp only [Prod.mk.injEq, and_true] at h1
    exact ⟨L, hg, hl, h4, h1.symm, h2.symm, h3.symm⟩
/-- What bytes one by one bring where they fit. -/
structure SF1 (g : GR) (k c t : Int) : Prop where
  k0 : 0 ≤ k
  k1 : k ≤ 2000
  c0 : k ≤ c
  c1 : c ≤ 10000000000
  t1 : t ≤ k
  d : 2 * g.den ≤ g.num → c ≤ 3 * k
theorem sing_facts {g : GR} {k c t : Int} (h0 : (singR g k).2 = true) (h1 : (singR g k).1.cost = c) (h2 : (singR g k).1.moves = t) : SF1 g k c t := by
  rw [singR_S] at h0 h1 h2
  unfold singS storesR at h0 h1 h2
  split at h0
  · rename_i hk
    rw [if_pos hk] at h1 h2
    cases h : runsG g 0 runG0 (List.replicate k.toNat 1) with
    | none => rw [h] at h0; simp at h0
    | some L =>
      rw [h] at h0 h1 h2
      by_cases hg : g.OK
      · simp only [hg, if_true] at h1 h2
        obtain ⟨a, b⟩ := app_all hg _ runG0_ok (by decide) h
        obtain ⟨l0, lc, c1, m0, m1, q0, q1, w0, w1⟩ := (runsG_ok hg (Int.le_refl 0) runG0_ok h).1
        rw [List.length_replicate] at m1 q1
        have hs : (List.replicate k.toNat (1 : Int)).sum = k := by simp; omega
        rw [hs] at b
        have hb0 : runG0.len = 0 := rfl
        refine ⟨hk.1, hk.2, by omega, by omega, by omega, fun h2d => ?_⟩
        obtain ⟨⟨da, db, dc⟩, _⟩ := dbl_all hg h2d k.toNat runG0_ok ⟨by decide, by decide, by decide⟩ h
        omega
      · simp [hg] at h0
  · simp at h0
theorem next_facts {g : GR} {i j k x : Int} (h0 : (nextCapR g i j k).2 = true) (h1 : (nextCapR g i j k).1 = x) : i + k ≤ x ∧ i + j ≤ x ∧ 0 ≤ i ∧ 0 ≤ j ∧ 0 ≤ k ∧ x ≤ 1000000 := by
  unfold nextCapR at h0 h1
  split at h0
  · rename_i hh
    rw [if_pos hh] at h1
    obtain ⟨_, q1, q2, q3, q4, q5, q6⟩ := hh
    have := nextG_ge g i (i + j) k
    simp only at h1
    rw [← h1]
    exact ⟨this.2, this.1, q1.1, q2.1, q3.1, q6.2⟩
  · simp at h0
theorem runsG_pre {g : GR} {s : Int} (xs ys : List Int) : ∀ (r : RunG) {L T : List RunG}, runsG g s r (xs ++ ys) = some L → runsG g s r xs = some T → ∃ T2, L = T ++ T2 := by
  induction xs with
  | nil =>
    intro r L T h1 h2
    simp only [runsG, Option.some.injEq] at h2
    exact ⟨L, by rw [← h2]; rfl⟩
  | cons x xs ih =>
    intro r L T h1 h2
    rw [List.cons_append, runsG] at h1
    rw [runsG] at h2
    cases h : doG g s r x with
    | none => rw [h] at h2; simp at h2
    | some r1 =>
      rw [h] at h1 h2
      simp only [Option.bind_some, Option.map_eq_some_iff] at h1 h2
      obtain ⟨L1, h3, rfl⟩ := h1
      obtain ⟨T1, h4, rfl⟩ := h2
      obtain ⟨T2, rfl⟩ := ih r1 h3 h4
      exact ⟨T2, rfl⟩
theorem cap_at {g : GR} {xs caps : List Int} {L T : List RunG} {r' : RunG} {i : Nat} (hL : runsG g 0 runG0 xs = some L) (hc : caps = L.map RunG.cap) (hT : runsG g 0 runG0 (xs.take i) = some T) (hi : i < xs.length) (hk : runsG g 0 runG0 (xs.take (i + 1)) = some (T ++ [r'])) (hci : i < caps.length) : caps[i] = r'.cap := by
  subst hc
  have hTl : T.length = i := by have := runsG_len hT; simp at this; omega
  obtain ⟨T2, h2⟩ := runsG_pre (xs.take (i + 1)) (xs.drop (i + 1)) runG0 (by rw [List.take_append_drop]; exact hL) hk
  subst h2
  simp [← hTl]
set_option maxRecDepth 100000 in
set_option maxHeartbeats 12800000 in
theorem fnGrowth_walk (A : Option Addr) (n cp : Nat) (zs : List Int) (w : World) (ha : IntArg .u8 w A n cp zs) :
    Calls Try.prog 3 #[.slice A n cp] w fun e w' => e = .returned (.bool true) ∧ Below w.heap.size w w' := by
  obtain ⟨hn, hcap, hmax, hr, hz⟩ := ha
  unfold maxLen at hmax
  by_cases hm : n ≤ 65536
  · skip
    have HD1 := Lib.hid (drawCaps_calls n cp A zs w hr hn hm hz)
    have HD2 := Lib.hid (fun (W : World) (hr : Rd W W.heap.size A (intV .u8 zs)) => drawSingle_calls n cp A zs W hr hn hm hz)
    have HD3 := Lib.hid (fun (W : World) (hr : Rd W W.heap.size A (intV .u8 zs)) => drawNext_calls n cp A zs W hr hn hm hz)
    have HR := Lib.hid hr
    clear hr hz hn
    go_enter Try.func3, Try.ntmps3
    go_wp2_with (go_at_call 5; go_in)
    refine HD1.out.mono ?_
    rintro e w1 ⟨g, xs, q, c, rfl, hsm, hxl, hxw, ho1, hb1⟩
    have HB0 := Lib.hid hb1
    have HO1 := Lib.hid ho1
    obtain ⟨w2, hw2⟩ : ∃ w2, w1.alloc (.cells #[.int .i64 g.num, .int .i64 g.den, .int .i64 g.add] 25) = w2 := ⟨_, rfl⟩
    have hb2 : Below w1.heap.size w1 w2 := by rw [← hw2]; exact (Below.refl _ _).alloc (Nat.le_refl _) _
    have hg2 : w2.heap[w1.heap.size]? = some (.cells #[.int .i64 g.num, .int .i64 g.den, .int .i64 g.add] 25) := by rw [← hw2]; exact heap_alloc_new _ _
    have HW2 := Lib.hid hw2
    have HBw2 := Lib.hid (hb1.trans (hb2.mono hb1.size))
    have HC : Hid (∀ W, Below w2.heap.size w2 W → W.cell? ⟨w1.heap.size, 0, none⟩ = some (.int .i64 g.num) ∧ W.cell? ⟨w1.heap.size, 1, none⟩ = some (.int .i64 g.den) ∧ W.cell? ⟨w1.heap.size, 2, none⟩ = some (.int .i64 g.add)) := Lib.hid fun W hb => three_cells ((hb.block _ (Array.getElem?_eq_some_iff.1 hg2).1).trans hg2)
    have HX : Hid (∀ W, Below w2.heap.size w2 W → Rd W W.heap.size (some ⟨q, 0, none⟩) (intV .i64 xs)) := Lib.hid fun W hb => ((Rd.of_own (own_below ho1 hb2)).below hb).more hb.size
    have hxm : xs.length ≤ maxLen := by unfold maxLen; omega
    have hga := hsm.arg
    obtain ⟨caps, hcp⟩ : ∃ caps, (capsR g 0 xs).1 = caps := ⟨_, rfl⟩
    obtain ⟨ok, hok⟩ : ∃ ok, (capsR g 0 xs).2 = ok := ⟨_, rfl⟩
    obtain ⟨mv, hmv⟩ : ∃ x, (numR RunG.moves g 0 xs).1 = x := ⟨_, rfl⟩
    obtain ⟨ck, hck⟩ : ∃ x, (numR RunG.cost g 0 xs).1 = x := ⟨_, rfl⟩
    obtain ⟨ws, hws⟩ : ∃ x, (numR RunG.waste g 0 xs).1 = x := ⟨_, rfl⟩
    have hcl : caps.length ≤ 40 := by rw [← hcp]; exact capsR_small g 0 xs
    have HI1 : Hid (∀ (W : World) (k : Nat), Rd W W.heap.size (some ⟨q, 0, none⟩) (intV .i64 xs) → Calls Try.prog 7 #[.agg #[.int .i64 g.num, .int .i64 g.den, .int .i64 g.add], .slice (some ⟨q, 0, none⟩) xs.length k] W fun e w' => ∃ v, e = .returned (.tuple #[v, .bool ok]) ∧ w'.ownsRow W.heap.size 3 1 v caps.length (intV .i64 caps) ∧ Below W.heap.size W w') := Lib.hid (fun W k hx => by have hq := implCapsOf_calls g (some ⟨q, 0, none⟩) k xs W hga hx hxm hxw; rw [hcp, hok] at hq; exact hq)
    have HS1 : Hid (∀ (W : World) (k : Nat), Rd W W.heap.size (some ⟨q, 0, none⟩) (intV .i64 xs) → Calls Try.prog 8 #[.agg #[.int .i64 g.num, .int .i64 g.den, .int .i64 g.add], .slice (some ⟨q, 0, none⟩) xs.length k] W fun e w' => ∃ v, e = .returned (.tuple #[v, .bool ok]) ∧ w'.ownsRow W.heap.size 3 1 v caps.length (intV .i64 caps) ∧ Below W.heap.size W w') := Lib.hid (fun W k hx => by have hq := specCapsOf_calls g (some ⟨q, 0, none⟩) k xs W hx hxm hxw; rw [hcp, hok] at hq; exact hq)
    have HI2 : Hid (∀ (W : World) (k : Nat), Rd W W.heap.size (some ⟨q, 0, none⟩) (intV .i64 xs) → Calls Try.prog 10 #[.agg #[.int .i64 g.num, .int .i64 g.den, .int .i64 g.add], .slice (some ⟨q, 0, none⟩) xs.length k] W fun e w' => e = .returned (.tuple #[.int .i64 mv, .bool ok]) ∧ Below W.heap.size W w') := Lib.hid (fun W k hx => by have hq := implMovesOf_calls g (some ⟨q, 0, none⟩) k xs W hga hx hxm hxw; rw [hmv, numR_ok, hok] at hq; exact hq)
    have HS2 : Hid (∀ (W : World) (k : Nat), Rd W W.heap.size (some ⟨q, 0, none⟩) (intV .i64 xs) → Calls Try.prog 11 #[.agg #[.int .i64 g.num, .int .i64 g.den, .int .i64 g.add], .slice (some ⟨q, 0, none⟩) xs.length k] W fun e w' => e = .returned (.tuple #[.int .i64 mv, .bool ok]) ∧ Below W.heap.size W w') := Lib.hid (fun W k hx => by have hq := specMovesOf_calls g (some ⟨q, 0, none⟩) k xs W hx hxm hxw; rw [hmv, numR_ok, hok] at hq; exact hq)
    have HI3 : Hid (∀ (W : World) (k : Nat), Rd W W.heap.size (some ⟨q, 0, none⟩) (intV .i64 xs) → Calls Try.prog 12 #[.agg #[.int .i64 g.num, .int .i64 g.den, .int .i64 g.add], .slice (some ⟨q, 0, none⟩) xs.length k] W fun e w' => e = .returned (.tuple #[.int .i64 ck, .bool ok]) ∧ Below W.heap.size W w') := Lib.hid (fun W k hx => by have hq := implCostOf_calls g (some ⟨q, 0, none⟩) k xs W hga hx hxm hxw; rw [hck, numR_ok, hok] at hq; exact hq)
    have HS3 : Hid (∀ (W : World) (k : Nat), Rd W W.heap.size (some ⟨q, 0, none⟩) (intV .i64 xs) → Calls Try.prog 13 #[.agg #[.int .i64 g.num, .int .i64 g.den, .int .i64 g.add], .slice (some ⟨q, 0, none⟩) xs.length k] W fun e w' => e = .returned (.tuple #[.int .i64 ck, .bool ok]) ∧ Below W.heap.size W w') := Lib.hid (fun W k hx => by have hq := specCostOf_calls g (some ⟨q, 0, none⟩) k xs W hx hxm hxw; rw [hck, numR_ok, hok] at hq; exact hq)
    have HI4 : Hid (∀ (W : World) (k : Nat), Rd W W.heap.size (some ⟨q, 0, none⟩) (intV .i64 xs) → Calls Try.prog 14 #[.agg #[.int .i64 g.num, .int .i64 g.den, .int .i64 g.add], .slice (some ⟨q, 0, none⟩) xs.length k] W fun e w' => e = .returned (.tuple #[.int .i64 ws, .bool ok]) ∧ Below W.heap.size W w') := Lib.hid (fun W k hx => by have hq := implWorstWaste_calls g (some ⟨q, 0, none⟩) k xs W hga hx hxm hxw; rw [hws, numR_ok, hok] at hq; exact hq)
    have HS4 : Hid (∀ (W : World) (k : Nat), Rd W W.heap.size (some ⟨q, 0, none⟩) (intV .i64 xs) → Calls Try.prog 15 #[.agg #[.int .i64 g.num, .int .i64 g.den, .int .i64 g.add], .slice (some ⟨q, 0, none⟩) xs.length k] W fun e w' => e = .returned (.tuple #[.int .i64 ws, .bool ok]) ∧ Below W.heap.size W w') := Lib.hid (fun W k hx => by have hq := specWorstWaste_calls g (some ⟨q, 0, none⟩) k xs W hx hxm hxw; rw [hws, numR_ok, hok] at hq; exact hq)
    have HLF : Hid (ok = true → ∃ L, LF g xs caps mv ck L) := Lib.hid (fun h => list_facts (by rw [← hcp, ← h, ← hok]) hmv hck)
    have HE := Lib.hid (fun (W : World) (X Y : Option Addr) (cx cy : Nat) (hx : Rd W W.heap.size X (intV .i64 caps)) (hy : Rd W W.heap.size Y (intV .i64 caps)) => (rInts_calls X Y cx cy caps caps W hx hy (by unfold maxLen; omega) (by unfold maxLen; omega)).mono (R' := fun e w' => e = .returned (.bool true) ∧ ∃ n, w' = W.drewN n) (by rintro e w' ⟨rfl, h⟩; exact ⟨by simp, h⟩))
    have nok : (ok != ok) = false := by simp
    have nmv : (mv != mv) = false := by simp
    have nck : (ck != ck) = false := by simp
    have nws : (ws != ws) = false := by simp
    have HXL := Lib.hid hxl
    clear hb1 ho1 hw2 hb2 hg2 hxm hga hcp hok hmv hck hws hsm hxw
    have HA2 := Lib.hid (Below.refl w2.heap.size w2)
    obtain ⟨c0, c1, c2⟩ := HC.out w2 HA2.out
    go_wp2_with fail
    rw [HW2.out]
    refine (HI1.out w2 c (HX.out w2 HA2.out)).mono ?_
    rintro e w3 ⟨v3, rfl, ho3, hb3⟩
    obtain ⟨A3, k3, rfl⟩ := own_form ho3
    have HP3 := Lib.hid ho3
    have HA3 := Lib.hid (HA2.out.trans (hb3.mono HA2.out.size))
    clear c0 c1 c2
    obtain ⟨c0, c1, c2⟩ := HC.out w3 HA3.out
    clear ho3 hb3
    go_wp2_with fail
    refine (HS1.out w3 c (HX.out w3 HA3.out)).mono ?_
    rintro e w4 ⟨v4, rfl, ho4, hb4⟩
    obtain ⟨A4, k4, rfl⟩ := own_form ho4
    have HQ4 := Lib.hid ho4
    have HA4 := Lib.hid (HA3.out.trans (hb4.mono HA3.out.size))
    have HP4 := Lib.hid (own_below HP3.out hb4)
    clear c0 c1 c2
    obtain ⟨c0, c1, c2⟩ := HC.out w4 HA4.out
    clear ho4 hb4
    go_wp2_with fail
    refine (HE.out w4 A3 A4 k3 k4 ((Rd.of_own HP4.out)) (Rd.of_own HQ4.out)).mono ?_
    rintro e w5 ⟨rfl, nd5, hd5⟩
    have hb5 : Below w4.heap.size w4 w5 := by rw [hd5]; exact below_drewN (Below.refl _ _) _
    have HA5 := Lib.hid (HA4.out.trans (hb5.mono HA4.out.size))
    have HP5 := Lib.hid (own_below HP4.out hb5)
    clear c0 c1 c2
    obtain ⟨c0, c1, c2⟩ := HC.out w5 HA5.out
    clear hb5 hd5
    go_wp2_with fail
    as_aux_lemma =>
      refine (HI2.out w5 c (HX.out w5 HA5.out)).mono ?_
      rintro e w6 ⟨rfl, hb6⟩
      have HA6 := Lib.hid (HA5.out.trans (hb6.mono HA5.out.size))
      have HP6 := Lib.hid (own_below HP5.out hb6)
      clear c0 c1 c2
      obtain ⟨c0, c1, c2⟩ := HC.out w6 HA6.out
      clear hb6
      go_wp2_with fail
      refine (HS2.out w6 c (HX.out w6 HA6.out)).mono ?_
      rintro e w7 ⟨rfl, hb7⟩
      have HA7 := Lib.hid (HA6.out.trans (hb7.mono HA6.out.size))
      have HP7 := Lib.hid (own_below HP6.out hb7)
      clear c0 c1 c2
      obtain ⟨c0, c1, c2⟩ := HC.out w7 HA7.out
      clear hb7
      go_wp2_with fail
      as_aux_lemma =>
        refine (HI3.out w7 c (HX.out w7 HA7.out)).mono ?_
        rintro e w8 ⟨rfl, hb8⟩
        have HA8 := Lib.hid (HA7.out.trans (hb8.mono HA7.out.size))
        have HP8 := Lib.hid (own_below HP7.out hb8)
        clear c0 c1 c2
        obtain ⟨c0, c1, c2⟩ := HC.out w8 HA8.out
        clear hb8
        go_wp2_with fail
        refine (HS3.out w8 c (HX.out w8 HA8.out)).mono ?_
        rintro e w9 ⟨rfl, hb9⟩
        have HA9 := Lib.hid (HA8.out.trans (hb9.mono HA8.out.size))
        have HP9 := Lib.hid (own_below HP8.out hb9)
        clear c0 c1 c2
        obtain ⟨c0, c1, c2⟩ := HC.out w9 HA9.out
        clear hb9
        go_wp2_with fail
        as_aux_lemma =>
          refine (HI4.out w9 c (HX.out w9 HA9.out)).mono ?_
          rintro e w10 ⟨rfl, hb10⟩
          have HA10 := Lib.hid (HA9.out.trans (hb10.mono HA9.out.size))
          have HP10 := Lib.hid (own_below HP9.out hb10)
          clear c0 c1 c2
          obtain ⟨c0, c1, c2⟩ := HC.out w10 HA10.out
          clear hb10
          go_wp2_with fail
          refine (HS4.out w10 c (HX.out w10 HA10.out)).mono ?_
          rintro e w11 ⟨rfl, hb11⟩
          have HA11 := Lib.hid (HA10.out.trans (hb11.mono HA10.out.size))
          have HP11 := Lib.hid (own_below HP10.out hb11)
          clear c0 c1 c2
          obtain ⟨c0, c1, c2⟩ := HC.out w11 HA11.out
          clear hb11
          go_wp2_with fail
          as_aux_lemma =>
            have HT11 := Lib.hid (HBw2.out.trans (HA11.out.mono HBw2.out.size))
            refine (HD2.out w11 ((HR.out.below HT11.out).more HT11.out.size)).mono ?_
            rintro e w12 ⟨r, kk, rfl, hsr, hkw, hb12⟩
            have HA12 := Lib.hid (HA11.out.trans (hb12.mono HA11.out.size))
            have HP12 := Lib.hid (own_below HP11.out hb12)
            clear hb12 c0 c1 c2
            obtain ⟨w13, hw13⟩ : ∃ w13, w12.alloc (.cells #[.int .i64 r.num, .int .i64 r.den, .int .i64 r.add] 25) = w13 := ⟨_, rfl⟩
            have hb13 : Below w12.heap.size w12 w13 := by rw [← hw13]; exact (Below.refl _ _).alloc (Nat.le_refl _) _
            have hg13 : w13.heap[w12.heap.size]? = some (.cells #[.int .i64 r.num, .int .i64 r.den, .int .i64 r.add] 25) := by rw [← hw13]; exact heap_alloc_new _ _
            have HW13 := Lib.hid hw13
            have HC2 : Hid (∀ W, Below w13.heap.size w13 W → W.cell? ⟨w12.heap.size, 0, none⟩ = some (.int .i64 r.num) ∧ W.cell? ⟨w12.heap.size, 1, none⟩ = some (.int .i64 r.den) ∧ W.cell? ⟨w12.heap.size, 2, none⟩ = some (.int .i64 r.add)) := Lib.hid fun W hb => three_cells ((hb.block _ (Array.getElem?_eq_some_iff.1 hg13).1).trans hg13)
            have HA13 := Lib.hid (HA12.out.trans (hb13.mono HA12.out.size))
            have HP13 := Lib.hid (own_below HP12.out hb13)
            have hra := hsr.arg
            obtain ⟨sc, hsc⟩ : ∃ x, (singR r kk).1.cost = x := ⟨_, rfl⟩
            obtain ⟨st, hst⟩ : ∃ x, (singR r kk).1.moves = x := ⟨_, rfl⟩
            obtain ⟨fo, hfo⟩ : ∃ x, (singR r kk).2 = x := ⟨_, rfl⟩
            obtain ⟨f1, hf1⟩ : ∃ x, (fastR r).1 = x := ⟨_, rfl⟩
            obtain ⟨f2, hf2⟩ : ∃ x, (fastR r).2 = x := ⟨_, rfl⟩
            have hf3 : decide r.OK = f2 := by rw [← hf2]; rfl
            have HSF : Hid (fo = true → SF1 r kk sc st) := Lib.hid (fun h => sing_facts (by rw [hfo]; exact h) hsc hst)
            have nsc : (sc != sc) = false := by simp
            have nst : (st != st) = false := by simp
            have nfo : (fo != fo) = false := by simp
            have nf1 : (f1 != f1) = false := by simp
            have nf2 : (f2 != f2) = false := by simp
            have HSR := Lib.hid hsr
            have HI5 : Hid (∀ (W : World), Calls Try.prog 17 #[.agg #[.int .i64 r.num, .int .i64 r.den, .int .i64 r.add], .int .i64 kk] W fun e w' => e = .returned (.tuple #[.int .i64 sc, .bool fo]) ∧ Below W.heap.size W w') := Lib.hid (fun W => by have hq := implSingleCost_calls r kk W hra hkw; rw [hsc, hfo] at hq; exact hq)
            have HS5 : Hid (∀ (W : World), Calls Try.prog 18 #[.agg #[.int .i64 r.num, .int .i64 r.den, .int .i64 r.add], .int .i64 kk] W fun e w' => e = .returned (.tuple #[.int .i64 sc, .bool fo]) ∧ Below W.heap.size W w') := Lib.hid (fun W => by have hq := specSingleCost_calls r kk W; rw [hsc, hfo] at hq; exact hq)
            have HI6 : Hid (∀ (W : World), Calls Try.prog 19 #[.agg #[.int .i64 r.num, .int .i64 r.den, .int .i64 r.add], .int .i64 kk] W fun e w' => e = .returned (.tuple #[.int .i64 st, .bool fo]) ∧ Below W.heap.size W w') := Lib.hid (fun W => by have hq := implSingleMoves_calls r kk W hra hkw; rw [hst, hfo] at hq; exact hq)
            have HS6 : Hid (∀ (W : World), Calls Try.prog 20 #[.agg #[.int .i64 r.num, .int .i64 r.den, .int .i64 r.add], .int .i64 kk] W fun e w' => e = .returned (.tuple #[.int .i64 st, .bool fo]) ∧ Below W.heap.size W w') := Lib.hid (fun W => by have hq := specSingleMoves_calls r kk W; rw [hst, hfo] at hq; exact hq)
            have HI7 : Hid (∀ (W : World), Calls Try.prog 21 #[.agg #[.int .i64 r.num, .int .i64 r.den, .int .i64 r.add]] W fun e w' => e = .returned (.tuple #[.bool f1, .bool f2]) ∧ Below W.heap.size W w') := Lib.hid (fun W => by have hq := implGrowsFast_calls r W hra; rw [hf1, hf2] at hq; exact hq)
            have HS7 : Hid (∀ (W : World), Calls Try.prog 22 #[.agg #[.int .i64 r.num, .int .i64 r.den, .int .i64 r.add]] W fun e w' => e = .returned (.tuple #[.bool f1, .bool f2]) ∧ Below W.heap.size W w') := Lib.hid (fun W => by have hq := specGrowsFast_calls r W; rw [hf1, hf2] at hq; exact hq)
            have HI8 : Hid (∀ (W : World), Calls Try.prog 23 #[.agg #[.int .i64 r.num, .int .i64 r.den, .int .i64 r.add]] W fun e w' => e = .returned (.bool f2) ∧ Below W.heap.size W w') := Lib.hid (fun W => by have hq := implIsGrowRule_calls r W hra; rw [hf3] at hq; exact hq)
            clear hw13 hb13 hg13 hra hsc hst hfo hf1 hf2 hf3 hsr hkw
            obtain ⟨c0, c1, c2⟩ := HC2.out w13 (Below.refl _ _)
            have HBS13 := Lib.hid (Below.refl w13.heap.size w13)
            go_wp2_with fail
            rw [HW13.out]
            as_aux_lemma =>
              refine (HI5.out w13).mono ?_
              rintro e w14 ⟨rfl, hb14⟩
              have HBS14 := Lib.hid (HBS13.out.trans (hb14.mono HBS13.out.size))
              have HA14 := Lib.hid (HA13.out.trans (hb14.mono HA13.out.size))
              have HP14 := Lib.hid (own_below HP13.out hb14)
              clear hb14 c0 c1 c2
              obtain ⟨c0, c1, c2⟩ := HC2.out w14 HBS14.out
              go_wp2_with fail
              refine (HS5.out w14).mono ?_
              rintro e w15 ⟨rfl, hb15⟩
              have HBS15 := Lib.hid (HBS14.out.trans (hb15.mono HBS14.out.size))
              have HA15 := Lib.hid (HA14.out.trans (hb15.mono HA14.out.size))
              have HP15 := Lib.hid (own_below HP14.out hb15)
              clear hb15 c0 c1 c2
              obtain ⟨c0, c1, c2⟩ := HC2.out w15 HBS15.out
              go_wp2_with fail
              as_aux_lemma =>
                refine (HI6.out w15).mono ?_
                rintro e w16 ⟨rfl, hb16⟩
                have HBS16 := Lib.hid (HBS15.out.trans (hb16.mono HBS15.out.size))
                have HA16 := Lib.hid (HA15.out.trans (hb16.mono HA15.out.size))
                have HP16 := Lib.hid (own_below HP15.out hb16)
                clear hb16 c0 c1 c2
                obtain ⟨c0, c1, c2⟩ := HC2.out w16 HBS16.out
                go_wp2_with fail
                refine (HS6.out w16).mono ?_
                rintro e w17 ⟨rfl, hb17⟩
                have HBS17 := Lib.hid (HBS16.out.trans (hb17.mono HBS16.out.size))
                have HA17 := Lib.hid (HA16.out.trans (hb17.mono HA16.out.size))
                have HP17 := Lib.hid (own_below HP16.out hb17)
                clear hb17 c0 c1 c2
                obtain ⟨c0, c1, c2⟩ := HC2.out w17 HBS17.out
                go_wp2_with fail
                as_aux_lemma =>
                  refine (HI7.out w17).mono ?_
                  rintro e w18 ⟨rfl, hb18⟩
                  have HBS18 := Lib.hid (HBS17.out.trans (hb18.mono HBS17.out.size))
                  have HA18 := Lib.hid (HA17.out.trans (hb18.mono HA17.out.size))
                  have HP18 := Lib.hid (own_below HP17.out hb18)
                  clear hb18 c0 c1 c2
                  obtain ⟨c0, c1, c2⟩ := HC2.out w18 HBS18.out
                  go_wp2_with fail
                  refine (HS7.out w18).mono ?_
                  rintro e w19 ⟨rfl, hb19⟩
                  have HBS19 := Lib.hid (HBS18.out.trans (hb19.mono HBS18.out.size))
                  have HA19 := Lib.hid (HA18.out.trans (hb19.mono HA18.out.size))
                  have HP19 := Lib.hid (own_below HP18.out hb19)
                  clear hb19 c0 c1 c2
                  obtain ⟨c0, c1, c2⟩ := HC2.out w19 HBS19.out
                  go_wp2_with fail
                  refine (HI8.out w19).mono ?_
                  rintro e w20 ⟨rfl, hb20⟩
                  have HBS20 := Lib.hid (HBS19.out.trans (hb20.mono HBS19.out.size))
                  have HA20 := Lib.hid (HA19.out.trans (hb20.mono HA19.out.size))
                  have HP20 := Lib.hid (own_below HP19.out hb20)
                  clear hb20 c0 c1 c2
                  obtain ⟨c0, c1, c2⟩ := HC2.out w20 HBS20.out
                  go_wp2_with fail
                  as_aux_lemma =>
                    have HT20 := Lib.hid (HBw2.out.trans (HA20.out.mono HBw2.out.size))
                    refine (HD3.out w20 ((HR.out.below HT20.out).more HT20.out.size)).mono ?_
                    rintro e w21 ⟨y, yi, yj, yk, rfl, hsy, hwi, hwj, hwk, hb21⟩
                    have HBS21 := Lib.hid (HBS20.out.trans (hb21.mono HBS20.out.size))
                    have HA21 := Lib.hid (HA20.out.trans (hb21.mono HA20.out.size))
                    have HP21 := Lib.hid (own_below HP20.out hb21)
                    clear hb21 c0 c1 c2
                    obtain ⟨w22, hw22⟩ : ∃ w22, w21.alloc (.cells #[.int .i64 y.num, .int .i64 y.den, .int .i64 y.add] 25) = w22 := ⟨_, rfl⟩
                    have hb22 : Below w21.heap.size w21 w22 := by rw [← hw22]; exact (Below.refl _ _).alloc (Nat.le_refl _) _
                    have hg22 : w22.heap[w21.heap.size]? = some (.cells #[.int .i64 y.num, .int .i64 y.den, .int .i64 y.add] 25) := by rw [← hw22]; exact heap_alloc_new _ _
                    have HW22 := Lib.hid hw22
                    have HBS22 := Lib.hid (HBS21.out.trans (hb22.mono HBS21.out.size))
                    have HC3 : Hid (∀ W, Below w22.heap.size w22 W → W.cell? ⟨w21.heap.size, 0, none⟩ = some (.int .i64 y.num) ∧ W.cell? ⟨w21.heap.size, 1, none⟩ = some (.int .i64 y.den) ∧ W.cell? ⟨w21.heap.size, 2, none⟩ = some (.int .i64 y.add)) := Lib.hid fun W hb => three_cells ((hb.block _ (Array.getElem?_eq_some_iff.1 hg22).1).trans hg22)
                    have HA22 := Lib.hid (HA21.out.trans (hb22.mono HA21.out.size))
                    have HP22 := Lib.hid (own_below HP21.out hb22)
                    have hya := hsy.arg
                    obtain ⟨nx, hnx⟩ : ∃ x, (nextCapR y yi yj yk).1 = x := ⟨_, rfl⟩
                    obtain ⟨sv, hsv⟩ : ∃ x, (nextCapR y yi yj yk).2 = x := ⟨_, rfl⟩
                    have HNF : Hid (sv = true → yi + yk ≤ nx ∧ yi + yj ≤ nx ∧ 0 ≤ yi ∧ 0 ≤ yj ∧ 0 ≤ yk ∧ nx ≤ 1000000) := Lib.hid (fun h => next_facts (by rw [hsv]; exact h) hnx)
                    have nnx : (nx != nx) = false := by simp
                    have nsv : (sv != sv) = false := by simp
                    have HI9 : Hid (∀ (W : World), Calls Try.prog 25 #[.agg #[.int .i64 y.num, .int .i64 y.den, .int .i64 y.add], .int .i64 yi, .int .i64 yj, .int .i64 yk] W fun e w' => e = .returned (.tuple #[.int .i64 nx, .bool sv]) ∧ Below W.heap.size W w') := Lib.hid (fun W => by have hq := implNextCap_calls y yi yj yk W hya hwi hwj hwk; rw [hnx, hsv] at hq; exact hq)
                    have HS9 : Hid (∀ (W : World), Calls Try.prog 26 #[.agg #[.int .i64 y.num, .int .i64 y.den, .int .i64 y.add], .int .i64 yi, .int .i64 yj, .int .i64 yk] W fun e w' => e = .returned (.tuple #[.int .i64 nx, .bool sv]) ∧ Below W.heap.size W w') := Lib.hid (fun W => by have hq := specNextCap_calls y yi yj yk W; rw [hnx, hsv] at hq; exact hq)
                    clear hw22 hb22 hg22 hya hnx hsv hsy hwi hwj hwk
                    obtain ⟨c0, c1, c2⟩ := HC3.out w22 (Below.refl _ _)
                    have HBY22 := Lib.hid (Below.refl w22.heap.size w22)
                    go_wp2_with fail
                    rw [HW22.out]
                    as_aux_lemma =>
                      refine (HI9.out w22).mono ?_
                      rintro e w23 ⟨rfl, hb23⟩
                      have HBY23 := Lib.hid (HBY22.out.trans (hb23.mono HBY22.out.size))
                      have HBS23 := Lib.hid (HBS22.out.trans (hb23.mono HBS22.out.size))
                      have HA23 := Lib.hid (HA22.out.trans (hb23.mono HA22.out.size))
                      have HP23 := Lib.hid (own_below HP22.out hb23)
                      clear hb23 c0 c1 c2
                      obtain ⟨c0, c1, c2⟩ := HC3.out w23 HBY23.out
                      go_wp2_with fail
                      refine (HS9.out w23).mono ?_
                      rintro e w24 ⟨rfl, hb24⟩
                      have HBY24 := Lib.hid (HBY23.out.trans (hb24.mono HBY23.out.size))
                      have HBS24 := Lib.hid (HBS23.out.trans (hb24.mono HBS23.out.size))
                      have HA24 := Lib.hid (HA23.out.trans (hb24.mono HA23.out.size))
                      have HP24 := Lib.hid (own_below HP23.out hb24)
                      clear hb24 c0 c1 c2
                      obtain ⟨c0, c1, c2⟩ := HC3.out w24 HBY24.out
                      as_aux_lemma =>
                        clear c0 c1 c2
                        go_upto_region 36 with fail
                        go_cut [271] (fun s wx => s = .bool false ∧ w24 = wx)
                        case first =>
                          cases sv with
                          | false =>
                            go_wp2_with fail
                            go_meet
                            exact ⟨rfl, rfl⟩
                          | true =>
                            obtain ⟨x1, x2, x3, x4, x5, x6⟩ := HNF.out rfl
                            have k1 : IntKind.i64.wrap (yi + yk) = yi + yk := IntWalk.i64_in _ (by omega)
                            have k2 : IntKind.i64.wrap (yi + yj) = yi + yj := IntWalk.i64_in _ (by omega)
                            go_wp2_with fail
                            go_meet
                            exact ⟨by first | rfl | (simp; omega), rfl⟩
                        case rest =>
                        obtain ⟨hs271, hw271⟩ := hcut
                        subst hs271
                        rw [← hw271]
                        clear hw271
                        as_aux_lemma =>
                          obtain ⟨c0, c1, c2⟩ := HC2.out w24 HBS24.out
                          go_upto_region 38 with fail
                          go_cut [296] (fun s wx => s = .bool false ∧ w24 = wx)
                          case first =>
                            cases fo with
                            | false =>
                              go_wp2_with fail
                              go_meet
                              exact ⟨rfl, rfl⟩
                            | true =>
                              obtain ⟨x1, x2, x3, x4, x5, x6⟩ := HSF.out rfl
                              obtain ⟨⟨y1, y2⟩, ⟨y3, y4⟩, _⟩ := HSR.out
                              have k1 : IntKind.i64.wrap (2 * r.den) = 2 * r.den := IntWalk.i64_in _ (by omega)
                              have k2 : IntKind.i64.wrap (3 * kk) = 3 * kk := IntWalk.i64_in _ (by omega)
                              by_cases hd : 2 * r.den ≤ r.num
                              · have x7 := x6 hd
                                clear x6
                                go_wp2_with fail
                                go_meet
                                exact ⟨by first | rfl | (simp; omega), rfl⟩
                              · have hd2 : r.num < 2 * r.den := by omega
                                clear x6 hd
                                go_wp2_with fail
                                go_meet
                                exact ⟨by first | rfl | (simp; omega), rfl⟩
                          case rest =>
                          obtain ⟨hs296, hw296⟩ := hcut
                          subst hs296
                          rw [← hw296]
                          clear hw296 c0 c1 c2
                          as_aux_lemma =>
                            have HT24 := Lib.hid (HBw2.out.trans (HA24.out.mono HBw2.out.size))
                            cases ok with
                            | false =>
                              go_wp2_with fail
                              go_ret
                              exact ⟨rfl, HT24.out⟩
                            | true =>
                              obtain ⟨L, hLF⟩ := HLF.out rfl
                              have HF := Lib.hid hLF
                              have HL1 := Lib.hid (runsG_len hLF.hL)
                              clear hLF
                              as_aux_lemma =>
                               go_wp2_with fail
                               go_loopw [43, 44, 45, 46] (fun ss sg sl si wr => ∃ (i : Nat) (T : List RunG), i ≤ xs.length ∧ si = .int .i64 i ∧ runsG g 0 runG0 (xs.take i) = some T ∧ ss = .int .i64 (T.getLastD runG0).len ∧ sg = .int .i64 (T.getLastD runG0).moves ∧ sl = .int .i64 (T.getLastD runG0).cap ∧ Hid (Below w24.heap.size w24 wr)) (fun _ _ _ si _ => xs.length - (intOf si).toNat)
                               case atStart => exact ⟨0, [], Nat.zero_le _, rfl, rfl, rfl, rfl, rfl, Lib.hid (Below.refl _ _)⟩
                               case round =>
                                 obtain ⟨i, T, hi, rfl, hT, rfl, rfl, rfl, HBR⟩ := hrel
                                 have HTT := Lib.hid hT
                                 have hok := (runsG_ok HF.out.og (Int.le_refl 0) runG0_ok hT).1
                                 have hmon := (app_all HF.out.og (xs.take i) runG0_ok (by decide) hT).1
                                 rw [List.length_take, Nat.min_eq_left hi] at hok
                                 obtain ⟨tl, htl⟩ : ∃ tl, T.getLastD runG0 = tl := ⟨_, rfl⟩
                                 rw [htl] at hok hmon ⊢
                                 have HTL := Lib.hid htl
                                 clear hT htl
                                 by_cases hlt : i < xs.length
                                 · have hcaps : i < caps.length := by rw [HF.out.hc, List.length_map]; have := HL1.out; omega
                                   have hk := runsG_take (g := g) (s := 0) hlt runG0
                                   rw [HTT.out] at hk
                                   simp only [Option.bind_some] at hk
                                   rw [HTL.out] at hk
                                   have hne : runsG g 0 runG0 (xs.take (i + 1)) ≠ none := fun h => by have h2 := runsG_stop _ h; rw [HF.out.hL] at h2; cases h2
                                   obtain ⟨r', hr'⟩ : ∃ r', doG g 0 tl xs[i] = some r' := by
                                     cases hd : doG g 0 tl xs[i] with
                                     | none => rw [hd] at hk; exact absurd hk hne
                                     | some r' => exact ⟨r', rfl⟩
                                   rw [hr'] at hk
                                   simp only [Option.map_some] at hk
                                   have HN := Lib.hid hk
                                   have hci : caps[i] = r'.cap := cap_at HF.out.hL HF.out.hc HTT.out hlt hk hcaps
                                   obtain ⟨n0, n1, al, ac, am, aq⟩ := doG_app hr'
                                   have hok2 := doG_ok HF.out.og (Int.le_refl 0) hok hr'
                                   obtain ⟨l0, lc, c1, m0, m1, q0, q1, _, _⟩ := hok
                                   obtain ⟨l0', lc', c1', m0', m1', _, _, _, _⟩ := hok2
                                   have hi40 := HF.out.hl
                                   have hb := HBR.out
                                   have hxx := HX.out wr (HA24.out.trans (hb.mono HA24.out.size))
                                   have hpp := Rd.of_own (own_below HP24.out hb)
                                   obtain ⟨bx, ox, hbx, _, e1⟩ := hxx.int hlt
                                   obtain ⟨by', oy, hby, _, e2⟩ := hpp.int hcaps
                                   rw [hci] at e2
                                   injection hbx with hbx
                                   injection hbx with hbx1 hbx2
                                   subst hbx1; subst hbx2
                                   rw [Nat.zero_add] at e1
                                   obtain ⟨x, hxv⟩ : ∃ x, xs[i] = x := ⟨_, rfl⟩
                                   rw [hxv] at e1 al aq n0 n1
                                   have k1 : IntKind.i64.wrap (tl.len + x) = r'.len := by rw [IntWalk.i64_in _ (by omega)]; omega
                                   have k2 : IntKind.i64.wrap (tl.moves + 1) = tl.moves + 1 := IntWalk.i64_in _ (by omega)
                                   have HLST : Hid ((T ++ [r']).getLastD runG0 = r') := Lib.hid (by simp)
                                   have HAL := Lib.hid al
                                   subst hby
                                   clear hk hne hr' hci hxx hpp hxv hb al aq q0 q1 hi40 hmon
                                   by_cases hcc : tl.cap < r'.cap
                                   · rw [if_pos hcc] at am
                                     have HAM := Lib.hid am
                                     clear am
                                     go_wp2_with fail
                                     go_roundw
                                     case rel => exact ⟨i + 1, T ++ [r'], by omega, by go_num, HN.out, by rw [HLST.out], by rw [HLST.out, HAM.out], by rw [HLST.out], HBR⟩
                                     case measure => simp [intOf]; omega
                                   · rw [if_neg hcc] at am
                                     have HCE : Hid (r'.cap = tl.cap) := Lib.hid (by omega)
                                     have hceq : r'.cap = tl.cap := HCE.out
                                     have HAM := Lib.hid am
                                     clear am
                                     go_wp2_with fail
                                     go_roundw
                                     case rel => exact ⟨i + 1, T ++ [r'], by omega, by go_num, HN.out, by rw [HLST.out], by rw [HLST.out, HAM.out]; simp, by rw [HLST.out]; first | rfl | rw [HCE.out], HBR⟩
                                     case measure => simp [intOf]; omega
                                 · obtain rfl : i = xs.length := by omega
                                   have hTT := HTT.out
                                   rw [List.take_length, HF.out.hL] at hTT
                                   injection hTT with hTT
                                   have h1 : mv = tl.moves := by rw [HF.out.hm, hTT, HTL.out]
                                   have h2 : ck = tl.cost := by rw [HF.out.hk, hTT, HTL.out]
                                   have n1 : (tl.moves == mv) = true := by simp [h1]
                                   have n2 : tl.len ≤ ck := by rw [h2]; exact hmon
                                   clear hTT h1 h2 hok hmon
                                   go_wp2_with fail
                                   go_ret
                                   exact ⟨by first | rfl | simp, HT24.out.trans (HBR.out.mono HT24.out.size)⟩
  · have h9 : 65536 < n := by omega
    clear hm hr hz hn
    go_enter Try.func3, Try.ntmps3
    go_wp2_with (go_at_call 5; go_in)
    go_ret
    exact ⟨rfl, Below.refl _ _⟩
end Go.Proofs.Ytiimbojcnmbebab
