/-
  The law's helpers on rows of ints: eqIntS, markIntS, heldIntS.
-/
import Derived.Test.YtadmllfcnjekcaaRow
namespace Go.Proofs.Ytadmllfcnjekcaa
open Go.RowKit

/-- eqIntS: whether two rows read alike. -/
theorem eqIntS_calls (A B : Option Addr) (c d : Nat) (zs ys : List Int) (w : World) (hr : Rd w w.heap.size A (intV .i64 zs)) (hq : Rd w w.heap.size B (intV .i64 ys)) (hn : zs.length ≤ maxLen) (hm : ys.length ≤ maxLen) :
    Calls Try.prog 57 #[.slice A zs.length c, .slice B ys.length d] w fun e w' => e = .returned (.bool (decide (zs = ys))) ∧ ∃ n, w' = w.drewN n := by
  unfold maxLen at hn hm
  have HZ := Lib.hid hr
  have HY := Lib.hid hq
  clear hr hq
  by_cases h0 : zs.length = ys.length
  · have hne : ((zs.length : Int) != (ys.length : Int)) = false := by simp [h0]
    have H0 := Lib.hid h0
    go_enter Try.func57, Try.ntmps57
    go_wp2
    go_loopw [5] (fun i wr => ∃ k n : Nat, k ≤ zs.length ∧ i = .int .i64 k ∧ zs.take k = ys.take k ∧ wr = w.drewN n) (fun i _ => zs.length - (intOf i).toNat)
    case atStart => exact ⟨0, 0, Nat.zero_le _, rfl, rfl, rfl⟩
    case round =>
      obtain ⟨k, n, hk, rfl, ht, rfl⟩ := hrel
      have HT := Lib.hid ht
      clear ht
      by_cases hlt : k < zs.length
      · have hlt2 : k < ys.length := by omega
        obtain ⟨b, off, rfl, hbb, hc⟩ := HZ.out.int hlt
        obtain ⟨b2, off2, rfl, hbb2, hc2⟩ := HY.out.int hlt2
        clear h0
        by_cases he : zs[k] = ys[k]
        · have hb0 : (zs[k] != ys[k]) = false := by simp [he]
          have HE := Lib.hid he
          clear he
          go_wp2
          go_quiet (fail)
          go_wp2
          go_roundw
          case rel => exact ⟨k + 1, n + nq, by omega, by go_num, take_eq_snoc HT.out hlt hlt2 HE.out, rfl⟩
          case measure => simp [intOf]; omega
        · have hb1 : (zs[k] != ys[k]) = true := by simpa using he
          have HF := Lib.hid (show decide (zs = ys) = false from decide_eq_false fun h => he (by subst h; rfl))
          clear he
          go_wp2
          go_quiet (fail)
          go_wp2
          go_ret
          exact ⟨ret_bool HF.out.symm, _, World.drewN_drewN _ _ _⟩
      · have hg : ¬ (k : Int) < zs.length := by omega
        have HF := Lib.hid (show decide (zs = ys) = true from decide_eq_true (by have := HT.out; rwa [List.take_of_length_le (by omega), List.take_of_length_le (by have := H0.out; omega)] at this))
        clear h0
        go_wp2
        go_ret
        exact ⟨ret_bool HF.out.symm, _, rfl⟩
  · have hne : ((zs.length : Int) != (ys.length : Int)) = true := by simp; omega
    have HF := Lib.hid (show decide (zs = ys) = false from decide_eq_false fun h => h0 (by rw [h]))
    clear h0
    go_enter Try.func57, Try.ntmps57
    go_wp2
    go_ret
    exact ⟨ret_bool HF.out.symm, 0, rfl⟩

/-- The marks from k on, n ints of them. -/
def marksI (k n : Nat) : List Int := (List.range n).map fun i => ((k + i : Nat) : Int)
theorem marksI_len (k n : Nat) : (marksI k n).length = n := by simp [marksI]
theorem marksI_get (k n i : Nat) (h : i < (marksI k n).length) : (marksI k n)[i] = ((k + i : Nat) : Int) := by simp [marksI]
theorem marksI_succ (k n : Nat) : marksI k (n + 1) = marksI k n ++ [((k + n : Nat) : Int)] := by simp [marksI, List.range_succ]
theorem marksI_step (k i n : Nat) (xs : List Int) (hx : xs.length = n) (hi : i < n) :
    (intV .i64 (marksI k i ++ xs.drop i)).set i (.int .i64 ((k + i : Nat) : Int)) = intV .i64 (marksI k (i + 1) ++ xs.drop (i + 1)) := by
  unfold intV
  rw [List.map_append, List.set_append_right _ _ (by simp [marksI]), marksI_succ, List.map_append, List.length_map, marksI_len, Nat.sub_self]
  rw [List.drop_eq_getElem_cons (by omega), List.map_cons, List.set_cons_zero]
  simp

theorem markIntS_calls (A : Option Addr) (cp base : Nat) (zs : List Int) (k : Nat) (w : World) (ho : w.ownsRow base 3 1 (.slice A zs.length cp) zs.length (intV .i64 zs)) (hn : zs.length ≤ 2097152) (hk : k ≤ 4194304) (_hB : base ≤ w.heap.size) :
    Calls Try.prog 58 #[.slice A zs.length cp, .int .i64 k] w fun e w' => e = .returned (.int .i64 (k + zs.length)) ∧ w'.ownsRow base 3 1 (.slice A zs.length cp) zs.length (intV .i64 (marksI k zs.length)) ∧ w.grownBy w' (Value.slice A zs.length cp).ownBlock := by
  have HO := Lib.hid ho
  have HG := Lib.hid (World.grownBy.refl w (Value.slice A zs.length cp).ownBlock)
  clear ho
  go_enter Try.func58, Try.ntmps58
  go_wp2
  go_loopw [1, 5] (fun a i wr => ∃ j : Nat, j ≤ zs.length ∧ i = .int .i64 j ∧ a = .int .i64 (k + j) ∧ wr.ownsRow base 3 1 (.slice A zs.length cp) zs.length (intV .i64 (marksI k j ++ zs.drop j)) ∧ w.grownBy wr (Value.slice A zs.length cp).ownBlock) (fun _ i _ => zs.length - (intOf i).toNat)
  case atStart => exact ⟨0, Nat.zero_le _, rfl, by go_num, by simpa [marksI] using HO.out, HG.out⟩
  case round =>
    obtain ⟨j, hj, rfl, rfl, hown, hg⟩ := hrel
    by_cases hlt : j < zs.length
    · rcases hown.2 with ⟨hv, hn0⟩ | ⟨g, cap, cur, hv, hbg, hh, hnc, hcm, hcs, htk⟩
      · omega
      injection hv with hA _ hcap
      subst hA
      subst hcap
      have HST := Lib.hid (marksI_step k j zs.length zs rfl hlt)
      have hlen : (intV .i64 (marksI k j ++ zs.drop j)).length = zs.length := by simp [intV, marksI]; omega
      have hf1 := hown.frozenAt j
      obtain ⟨u, hc1⟩ : ∃ u, wr.cell? ⟨g, j, none⟩ = some u := ⟨_, by rw [hown.cellAt j (by omega), List.getElem?_eq_getElem (by omega)]⟩
      have h1 := hown.stored j (.int .i64 ((k + j : Nat) : Int))
      rw [HST.out] at h1
      rw [Int.natCast_add] at h1
      have HO2 := Lib.hid h1.1
      have HG2 := Lib.hid (hg.trans h1.2)
      clear h1 hown hg hh hcs htk hlen
      go_wp2
      go_roundw
      case rel => exact ⟨j + 1, by omega, by go_num, by go_num, HO2.out, HG2.out⟩
      case measure => simp [intOf]; omega
    · obtain rfl : j = zs.length := by omega
      have HO1 := Lib.hid hown
      have HG1 := Lib.hid hg
      clear hown hg
      go_wp2
      go_ret
      exact ⟨rfl, by simpa using HO1.out, HG1.out⟩

/-- heldIntS, where the marks are there. -/
theorem heldIntS_calls (A : Option Addr) (cp n k : Nat) (w : World) (hr : Rd w w.heap.size A (intV .i64 (marksI k n))) (hn : n ≤ 2097152) (hk : k ≤ 4194304) :
    Calls Try.prog 59 #[.slice A n cp, .int .i64 k] w fun e w' => e = .returned (.int .i64 (k + n)) ∧ w = w' := by
  have HR := Lib.hid hr
  clear hr
  go_enter Try.func59, Try.ntmps59
  go_wp2
  go_loop [1, 5] (fun a i => ∃ j : Nat, j ≤ n ∧ i = .int .i64 j ∧ a = .int .i64 (k + j)) (fun _ i => n - (intOf i).toNat)
  case atStart => exact ⟨0, Nat.zero_le _, rfl, by go_num⟩
  case round =>
    obtain ⟨j, hj, rfl, rfl⟩ := hrel
    by_cases hlt : j < n
    · obtain ⟨b, off, rfl, hbb, hc⟩ := HR.out.int (i := j) (by rw [marksI_len]; exact hlt)
      rw [marksI_get, Int.natCast_add] at hc
      have hself : ((k : Int) + j != k + j) = false := by simp
      go_wp2
      go_round
      case rel => exact ⟨j + 1, by omega, by go_num, by go_num⟩
      case measure => simp [intOf]; omega
    · obtain rfl : j = n := by omega
      go_wp2
      go_ret
      exact ⟨rfl, rfl⟩

section
variable {w w' : World} {lo hi : Nat} {A : Option Addr} {c : Nat} {R : List Int}
theorem ownI_rd (h : OwnR w lo hi 3 (.slice A R.length c) (intV .i64 R)) : Rd w w.heap.size A (intV .i64 R) := by
  have h1 := h.1
  rw [intV_len] at h1
  exact Rd.of_own h1
theorem ownI_form {v : Value} (h : OwnR w lo hi 3 v (intV .i64 R)) : ∃ A c, v = .slice A R.length c := by
  have h1 := h.1
  rw [intV_len] at h1
  exact own_form h1
theorem eqI_calls (X Y : Option Addr) (cx cy : Nat) (w : World) (hx : Rd w w.heap.size X (intV .i64 R)) (hy : Rd w w.heap.size Y (intV .i64 R)) (hR : R.length ≤ 2097152) :
    Calls Try.prog 57 #[.slice X R.length cx, .slice Y R.length cy] w fun e w' => e = .returned (.bool true) ∧ Below w.heap.size w w' := by
  have hm : R.length ≤ maxLen := by simp only [maxLen]; omega
  refine (eqIntS_calls X Y cx cy R R w hx hy hm hm).mono ?_
  rintro e w' ⟨rfl, n, rfl⟩
  exact ⟨by simp, below_drewN (Below.refl _ _) n⟩
theorem markI1_calls (w : World) (ho : OwnR w lo hi 3 (.slice A R.length c) (intV .i64 R)) (hR : R.length ≤ 2097152) (hB : lo ≤ w.heap.size) :
    Calls Try.prog 58 #[.slice A R.length c, .int .i64 1] w fun e w' => e = .returned (.int .i64 (1 + R.length)) ∧ OwnR w' lo hi 3 (.slice A R.length c) (intV .i64 (marksI 1 R.length)) ∧ Span lo hi w w' := by
  have h1 := ho.1
  rw [intV_len] at h1
  refine (markIntS_calls A c lo R 1 w h1 hR (by omega) hB).mono ?_
  rintro e w' ⟨rfl, h2, hg⟩
  exact ⟨rfl, ⟨by rw [intV_len, marksI_len]; exact h2, ho.2⟩, Span.of_grown hg (fun g e => ⟨(h1.lt g e).1, ho.2 g e⟩)⟩
theorem heldI1_calls (w : World) (ho : OwnR w lo hi 3 (.slice A R.length c) (intV .i64 (marksI 1 R.length))) (hR : R.length ≤ 2097152) :
    Calls Try.prog 59 #[.slice A R.length c, .int .i64 1] w fun e w' => e = .returned (.int .i64 (1 + R.length)) ∧ Below w.heap.size w w' := by
  have h1 := ho.1
  rw [intV_len, marksI_len] at h1
  refine (heldIntS_calls A c R.length 1 w (Rd.of_own h1) hR (by omega)).mono ?_
  rintro e w' ⟨rfl, rfl⟩
  exact ⟨rfl, Below.refl _ _⟩
end
end Go.Proofs.Ytadmllfcnjekcaa
