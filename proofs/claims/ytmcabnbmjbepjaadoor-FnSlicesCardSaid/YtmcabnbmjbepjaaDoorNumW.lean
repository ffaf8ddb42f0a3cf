/-
  The text of a number, as the specification makes it, for all numbers of 64 bits.
-/
import Derived.Test.YtmcabnbmjbepjaaDoorNum
namespace Go.Proofs.YtmcabnbmjbepjaaDoor
open Go.RowKit

theorem digsW_size {n : Int} (h0 : 0 ≤ n) (h1 : n ≤ 9223372036854775807) : (digs n).size ≤ 21 := by
  have h := Lib.itoa_length_le n (by omega) (by omega)
  have e : n = (n.toNat : Int) := by omega
  rw [e, Lib.itoa_nonneg] at h
  exact h
theorem l1NumW_pos (k : Nat) : ∀ (n : Int) (w : World), n ≤ k → 0 ≤ n → n ≤ 9223372036854775807 →
    Calls Tryd.prog 37 #[.int .i64 n] w fun e w' => e = .returned (.string (digs n)) ∧ ∃ m, w' = w.drewN m := by
  induction k with
  | zero =>
    intro n w hk h0 _
    obtain rfl : n = 0 := by omega
    have HD := Lib.hid (digs_one (n := 0) (by omega) (by omega))
    go_enter Tryd.func37, Tryd.ntmps37
    go_wp2_with fail
    go_ret
    exact ⟨by rw [HD.out]; rfl, 0, rfl⟩
  | succ k ih =>
    intro n w hk h0 h1
    by_cases hn : n < 10
    · have HD := Lib.hid (digs_one h0 hn)
      go_enter Tryd.func37, Tryd.ntmps37
      go_wp2_with fail
      go_ret
      exact ⟨by rw [HD.out]; rfl, 0, rfl⟩
    · have HD := Lib.hid (digs_more (n := n) (by omega))
      have HI := Lib.hid (ih (n / 10))
      clear ih
      have b1 : 0 ≤ n / 10 := by omega
      have b2 : n / 10 ≤ 9223372036854775807 := by omega
      have b3 : 0 ≤ n % 10 := by omega
      have b4 : n % 10 < 10 := by omega
      have b5 : n / 10 ≤ k := by omega
      go_enter Tryd.func37, Tryd.ntmps37
      go_wp2_with fail
      have q0 : n.tdiv 10 = n / 10 := Int.tdiv_eq_ediv_of_nonneg (by omega)
      have q1 : n.tmod 10 = n % 10 := Int.tmod_eq_emod_of_nonneg (by omega)
      have q2 : IntKind.i64.wrap (n / 10) = n / 10 := i64_in (by omega) (by omega)
      have q3 : IntKind.i64.wrap (n % 10) = n % 10 := i64_in (by omega) (by omega)
      have b8 := digsW_size b1 b2
      have b9 : ((ByteArray.mk #[48, 49, 50, 51, 52, 53, 54, 55, 56, 57]).extract (n % 10).toNat (n % 10 + 1).toNat).size ≤ 10 := by rw [ByteArray.size_extract]; exact Nat.le_trans (Nat.sub_le _ _) (Nat.min_le_right _ _)
      have b6 : n % 10 + 1 ≤ 10 := by omega
      have b7 : n % 10 ≤ n % 10 + 1 := by omega
      have q4 : IntKind.i64.wrap (n % 10 + 1) = n % 10 + 1 := i64_in (by omega) (by omega)
      go_quiet (((go_at_call 37); exact Calls.quiet_of (HI.out _ b5 b1 b2)))
      clear q0 q1 q2 q3 q4 b9
      go_wp2_with fail
      go_ret
      exact ⟨by rw [HD.out]; rfl, _, rfl⟩

theorem l1NumW_neg (k : Nat) : ∀ (n : Int) (w : World), -n ≤ k → n < 0 → -9223372036854775808 ≤ n →
    Calls Tryd.prog 37 #[.int .i64 n] w fun e w' => e = .returned (.string (numB n)) ∧ ∃ m, w' = w.drewN m := by
  induction k with
  | zero => intro n w hk h0 _; exact absurd hk (by omega)
  | succ k ih =>
    intro n w hk h0 h1
    by_cases hn : -10 < n
    · have HD := Lib.hid (numB_neg h0)
      have HP := Lib.hid (fun W => l1NumW_pos 10 (-n) W (by omega) (by omega) (by omega))
      have hz : (digs (-n)).size ≤ 21 := digsW_size (by omega) (by omega)
      go_enter Tryd.func37, Tryd.ntmps37
      go_wp2_with (go_at_call 37; refine (HP.out _).mono ?_; rintro e w' ⟨rfl, m, hm⟩)
      go_ret
      exact ⟨by rw [HD.out]; rfl, m, rfl⟩
    · have e1 : n.tdiv 10 = -((-n) / 10) := by
        rw [show n = -(-n) by omega, Int.neg_tdiv, Int.tdiv_eq_ediv_of_nonneg (by omega)]; simp
      have e2 : n.tmod 10 = -((-n) % 10) := by
        rw [show n = -(-n) by omega, Int.neg_tmod, Int.tmod_eq_emod_of_nonneg (by omega)]; simp
      have HD : Hid (numB n = numB (-((-n) / 10)) ++ digs ((-n) % 10)) := by
        show numB n = numB (-((-n) / 10)) ++ digs ((-n) % 10)
        rw [numB_neg h0, numB_neg (n := -((-n) / 10)) (by omega), digs_more' (n := -n) (by omega), Int.neg_neg, ByteArray.append_assoc]
      have HI := Lib.hid (fun W => ih (-((-n) / 10)) W (by omega) (by omega) (by omega))
      have HP := Lib.hid (fun W => l1NumW_pos 10 ((-n) % 10) W (by omega) (by omega) (by omega))
      have hz : (digs ((-n) % 10)).size ≤ 21 := digsW_size (by omega) (by omega)
      have hz2 : (numB (-((-n) / 10))).size ≤ 22 := by
        have := digsW_size (n := - -((-n) / 10)) (by omega) (by omega)
        rw [numB_neg (by omega), ByteArray.size_append]
        have e : (ByteArray.mk #[45]).size = 1 := rfl
        omega
      clear ih
      generalize hq : (-n) / 10 = q at *
      generalize hr : (-n) % 10 = r at *
      have b1 : 0 ≤ q := by omega
      have b2 : q ≤ 9223372036854775807 := by omega
      have b3 : 0 ≤ r := by omega
      have b4 : r < 10 := by omega
      clear hq hr
      go_enter Tryd.func37, Tryd.ntmps37
      go_wp2_with fail
      refine (HI.out _).mono ?_
      rintro e w1 ⟨rfl, m, rfl⟩
      go_wp2_with fail
      refine (HP.out _).mono ?_
      rintro e w2 ⟨rfl, m2, rfl⟩
      go_wp2_with fail
      go_ret
      exact ⟨by rw [HD.out]; rfl, _, rfl⟩

/-- The text of a number within the bounds. -/
theorem l1NumW_calls (n : Int) (w : World) (h0 : -9223372036854775808 ≤ n) (h1 : n ≤ 9223372036854775807) :
    Calls Tryd.prog 37 #[.int .i64 n] w fun e w' => e = .returned (.string (numB n)) ∧ ∃ m, w' = w.drewN m := by
  by_cases h : n < 0
  · exact l1NumW_neg (-n).toNat n w (by omega) h h0
  · rw [numB_pos (by omega)]
    exact l1NumW_pos n.toNat n w (by omega) (by omega) h1
end Go.Proofs.YtmcabnbmjbepjaaDoor
