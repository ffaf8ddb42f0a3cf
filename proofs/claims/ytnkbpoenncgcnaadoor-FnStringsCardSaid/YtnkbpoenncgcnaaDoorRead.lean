/-
  ParseInt of the specification.
-/
import Derived.Test.YtnkbpoenncgcnaaDoorParse
namespace Go.Proofs.YtnkbpoenncgcnaaDoor
open Go.RowKit

set_option maxHeartbeats 800000 in
/-- A text that is a number's, not negative. -/
theorem l1Read_pos (n : Int) (w : World) (h0 : 0 ≤ n) (h1 : n ≤ 999999) :
    Calls Tryd.prog 28 #[.string (digs n)] w fun e w' => e = .returned (.tuple #[.int .i64 n, .bool true]) ∧ ∃ m, w' = w.drewN m := by
  obtain ⟨hz0, hz1⟩ := digs_len h1
  have HV := Lib.hid (fun k => digs_val_take h0 k)
  have HE := Lib.hid (digs_val h0)
  have HC := l1Num_calls n w (by omega) h1
  rw [numB_pos h0] at HC
  have HC := Lib.hid HC
  have HG := Lib.hid (fun k (h : k < (digs n).size) => digs_get h)
  have HT := Lib.hid (fun k => bytes_take_snoc (digs n) k)
  have hself := eq_bool (a := digs n) rfl
  have HI := Lib.hid (l1In_yes (digs n).size 1 6 w (by omega) (by omega))
  generalize digs n = s at *
  have hsz : (0 : Int) < s.size := by omega
  obtain ⟨hg0, hg1⟩ := HG.out 0 (by omega)
  have hb0 : (((s[0]'(by omega)).toNat : Int) == 45) = false := beq_eq_false_iff_ne.2 (by omega)
  have hne : ((s.size : Int) < s.size) = False := by simp
  clear hg0 hg1
  go_enter Tryd.func28, Tryd.ntmps28
  by_cases h2 : 1 < s.size
  all_goals
    go_wp2_with (go_at_call 24; refine HI.out.mono ?_; rintro e w' ⟨rfl, rfl⟩)
    go_loop [5, 6] (fun a i => ∃ k : Nat, k ≤ s.size ∧ i = .int .i64 k ∧ a = .int .i64 (valL (s.data.toList.take k))) (fun _ i => s.size - (intOf i).toNat)
    case atStart => exact ⟨0, Nat.zero_le _, rfl, rfl⟩
    case round =>
      obtain ⟨k, hk, rfl, rfl⟩ := hrel
      obtain ⟨hv0, hv1⟩ := HV.out k
      have hv2 : valL (s.data.toList.take k) ≤ 999999 := by omega
      by_cases hlt : k < s.size
      · obtain ⟨hg0, hg1⟩ := HG.out k hlt
        have hd0 : (48 : Int) ≤ (s[k]).toNat := by omega
        have hd1 : ((s[k]).toNat : Int) ≤ 57 := by omega
        have HN : Hid (valL (s.data.toList.take (k + 1)) = 10 * valL (s.data.toList.take k) + (((s[k]).toNat : Int) - 48)) := by
          show valL (s.data.toList.take (k + 1)) = _
          rw [HT.out k hlt, valL_snoc]
        go_wp2_with fail
        go_round
        case rel => exact ⟨k + 1, by omega, by go_num, by rw [HN.out]⟩
        case measure => simp [intOf]; omega
      · have HF : Hid (valL (s.data.toList.take k) = n) := by
          show valL (s.data.toList.take k) = n
          rw [List.take_of_length_le (by simp; omega)]; exact HE.out
        go_wp2_with fail
        rw [HF.out]
        refine HC.out.mono ?_
        rintro e w' ⟨rfl, m, rfl⟩
        go_wp2_with fail
        go_ret2
        exact ⟨rfl, m, rfl⟩

set_option maxHeartbeats 800000 in
/-- A text that is a negative number's. -/
theorem l1Read_neg (n : Int) (w : World) (h0 : n < 0) (h1 : -999999 ≤ n) :
    Calls Tryd.prog 28 #[.string (numB n)] w fun e w' => e = .returned (.tuple #[.int .i64 n, .bool true]) ∧ ∃ m, w' = w.drewN m := by
  obtain ⟨hz0, hz1⟩ := digs_len (n := -n) (by omega)
  have HV := Lib.hid (fun k => digs_val_take (n := -n) (by omega) k)
  have HE := Lib.hid (digs_val (n := -n) (by omega))
  have HQ := numB_neg h0
  have HC := l1Num_calls n w h1 (by omega)
  have HG := Lib.hid (fun k (h : k < (digs (-n)).size) => digs_get h)
  have HT := Lib.hid (fun k => bytes_take_snoc (digs (-n)) k)
  have hself := eq_bool (a := numB n) rfl
  have HS := Lib.hid (minus_size (digs (-n)))
  have HM0 := Lib.hid (minus_zero (digs (-n)))
  have HX : Hid ((ByteArray.mk #[45] ++ digs (-n)).extract 1 (ByteArray.mk #[45] ++ digs (-n)).size = digs (-n)) := by
    show (ByteArray.mk #[45] ++ digs (-n)).extract 1 (ByteArray.mk #[45] ++ digs (-n)).size = digs (-n)
    apply ByteArray.ext
    apply Array.toList_inj.1
    rw [minus_size]
    simp
    rw [List.take_of_length_le (by simp)]
  have HI := Lib.hid (l1In_yes (digs (-n)).size 1 6 w (by omega) (by omega))
  rw [HQ] at HC hself ⊢
  clear HQ
  have HC := Lib.hid HC
  generalize digs (-n) = d at *
  generalize hs : (ByteArray.mk #[45] ++ d) = s at *
  clear hs
  have hsz : s.size ≤ 7 := by rw [HS.out]; omega
  have hsz1 : 1 < s.size := by rw [HS.out]; omega
  have hm := HM0.out (by omega)
  have hb : (((s[0]'(by omega)).toNat : Int) == 45) = true := by rw [hm]; rfl
  clear hm
  go_enter Tryd.func28, Tryd.ntmps28
  have hlt0 : (d.size : Int) < s.size := by have := HS.out; omega
  have HS1 : Hid (s.size - 1 = d.size) := by show s.size - 1 = d.size; have := HS.out; omega
  go_wp2_with fail
  rw [HX.out, HS1.out]
  clear hb
  refine HI.out.mono ?_
  rintro e w' ⟨rfl, rfl⟩
  go_wp2_with fail
  go_loop [5, 6] (fun a i => ∃ k : Nat, k ≤ d.size ∧ i = .int .i64 k ∧ a = .int .i64 (valL (d.data.toList.take k))) (fun _ i => d.size - (intOf i).toNat)
  case atStart => exact ⟨0, Nat.zero_le _, rfl, rfl⟩
  case round =>
    obtain ⟨k, hk, rfl, rfl⟩ := hrel
    obtain ⟨hv0, hv1⟩ := HV.out k
    have hv2 : valL (d.data.toList.take k) ≤ 999999 := by omega
    by_cases hlt : k < d.size
    · obtain ⟨hg0, hg1⟩ := HG.out k hlt
      have hd0 : (48 : Int) ≤ (d[k]).toNat := by omega
      have hd1 : ((d[k]).toNat : Int) ≤ 57 := by omega
      have HN : Hid (valL (d.data.toList.take (k + 1)) = 10 * valL (d.data.toList.take k) + (((d[k]).toNat : Int) - 48)) := by
        show valL (d.data.toList.take (k + 1)) = _
        rw [HT.out k hlt, valL_snoc]
      go_wp2_with fail
      go_round
      case rel => exact ⟨k + 1, by omega, by go_num, by rw [HN.out]⟩
      case measure => simp [intOf]; omega
    · have HF : Hid (-valL (d.data.toList.take k) = n) := by
        show -valL (d.data.toList.take k) = n
        rw [List.take_of_length_le (by simp; omega), HE.out]; omega
      go_wp2_with fail
      rw [HF.out]
      refine HC.out.mono ?_
      rintro e w' ⟨rfl, m, rfl⟩
      go_wp2_with fail
      go_ret2
      exact ⟨rfl, m, rfl⟩

set_option maxHeartbeats 1000000 in
/-- The rest of l1Read, where the text is no number's: t is the text, or what stands behind its first byte. -/
theorem l1Read_no (s : ByteArray) (w : World) (hs : s.size ≤ maxLen) (h : NoNum s) :
    Calls Tryd.prog 28 #[.string s] w fun e w' => e = .returned (.tuple #[.int .i64 0, .bool false]) ∧ ∃ m, w' = w.drewN m := by
  unfold maxLen at hs
  have HC := Lib.hid (fun n W (h0 : -999999 ≤ n) (h1 : n ≤ 999999) => (l1Num_calls n W h0 h1).mono (R' := fun e w' => ∃ o : ByteArray, e = .returned (.string o) ∧ (!o.toList == s.toList) = true ∧ ∃ m, w' = W.drewN m) fun e w' ⟨he, hw⟩ => ⟨numB n, he, ne_bool (h n h0 h1), hw⟩)
  have HIY := Lib.hid (fun x W (a : (1 : Int) ≤ x) (b : x ≤ 6) => l1In_yes x 1 6 W a b)
  have HIN := Lib.hid (fun x W (a : x < (1 : Int) ∨ 6 < x) => l1In_no x 1 6 W a)
  clear h
  by_cases h1 : 1 < s.size
  · by_cases h45 : s[0]'(by omega) = 45
    · have hb : (((s[0]'(by omega)).toNat : Int) == 45) = true := by rw [h45]; rfl
      clear h45
      obtain ⟨d, hd⟩ : ∃ d, d = s.extract 1 s.size := ⟨_, rfl⟩
      have HD := Lib.hid hd.symm
      have hds : (d.size : Int) < s.size := by rw [hd, ByteArray.size_extract]; omega
      have HS1 : Hid (s.size - 1 = d.size) := by show s.size - 1 = d.size; rw [hd, ByteArray.size_extract]; omega
      clear hd
      by_cases hin : 1 ≤ d.size ∧ d.size ≤ 6
      · obtain ⟨hi0, hi1⟩ := hin
        go_enter Tryd.func28, Tryd.ntmps28
        go_wp2_with fail
        rw [HD.out, HS1.out]
        refine (HIY.out _ _ (by omega) (by omega)).mono ?_
        rintro e w' ⟨rfl, rfl⟩
        clear hb
        go_wp2_with fail
        go_loop [5, 6] (fun a i => ∃ (k : Nat) (N : Int), k ≤ d.size ∧ i = .int .i64 k ∧ a = .int .i64 N ∧ 0 ≤ N ∧ N + 1 ≤ 10 ^ k) (fun _ i => d.size - (intOf i).toNat)
        case atStart => exact ⟨0, 0, Nat.zero_le _, rfl, rfl, by omega, by decide⟩
        case round =>
          obtain ⟨k, N, hk, rfl, rfl, hN0, hN1⟩ := hrel
          have hN2 : N ≤ 999999 := by
            have h10 : (10 : Int) ^ k ≤ 10 ^ 6 := by
              have := Nat.pow_le_pow_right (n := 10) (by omega) (show k ≤ 6 by omega)
              exact_mod_cast this
            omega
          have HP := Lib.hid hN1
          clear hN1
          by_cases hlt : k < d.size
          · have hc0 := (d[k]).toNat_lt
            go_wp2_with fail
            all_goals first
              | (go_round
                 case rel => exact ⟨k + 1, _, by omega, by go_num, rfl, by omega, by have := HP.out; rw [Int.pow_succ]; omega⟩
                 case measure => simp [intOf]; omega)
              | (go_ret2
                 exact ⟨rfl, 0, rfl⟩)
          · go_wp2_with fail
            refine (HC.out _ _ ?_ ?_).mono ?_
            · omega
            · omega
            rintro e w' ⟨o, rfl, ho, m, rfl⟩
            go_wp2_with fail
            go_ret2
            exact ⟨rfl, m, rfl⟩
      · go_enter Tryd.func28, Tryd.ntmps28
        go_wp2_with fail
        rw [HD.out, HS1.out]
        refine (HIN.out _ _ (by omega)).mono ?_
        rintro e w' ⟨rfl, rfl⟩
        go_wp2_with fail
        go_ret2
        exact ⟨rfl, 0, rfl⟩
    · have hb : (((s[0]'(by omega)).toNat : Int) == 45) = false := beq_eq_false_iff_ne.2 fun h => h45 (UInt8.toNat_inj.1 (by have : (45 : UInt8).toNat = 45 := rfl; omega))
      clear h45
      by_cases hin : 1 ≤ s.size ∧ s.size ≤ 6
      · obtain ⟨hi0, hi1⟩ := hin
        go_enter Tryd.func28, Tryd.ntmps28
        go_wp2_with fail
        refine (HIY.out _ _ (by omega) (by omega)).mono ?_
        rintro e w' ⟨rfl, rfl⟩
        clear hb
        go_wp2_with fail
        go_loop [5, 6] (fun a i => ∃ (k : Nat) (N : Int), k ≤ s.size ∧ i = .int .i64 k ∧ a = .int .i64 N ∧ 0 ≤ N ∧ N + 1 ≤ 10 ^ k) (fun _ i => s.size - (intOf i).toNat)
        case atStart => exact ⟨0, 0, Nat.zero_le _, rfl, rfl, by omega, by decide⟩
        case round =>
          obtain ⟨k, N, hk, rfl, rfl, hN0, hN1⟩ := hrel
          have hN2 : N ≤ 999999 := by
            have h10 : (10 : Int) ^ k ≤ 10 ^ 6 := by
              have := Nat.pow_le_pow_right (n := 10) (by omega) (show k ≤ 6 by omega)
              exact_mod_cast this
            omega
          have HP := Lib.hid hN1
          clear hN1
          by_cases hlt : k < s.size
          · have hc0 := (s[k]).toNat_lt
            go_wp2_with fail
            all_goals first
              | (go_round
                 case rel => exact ⟨k + 1, _, by omega, by go_num, rfl, by omega, by have := HP.out; rw [Int.pow_succ]; omega⟩
                 case measure => simp [intOf]; omega)
              | (go_ret2
                 exact ⟨rfl, 0, rfl⟩)
          · go_wp2_with fail
            refine (HC.out _ _ ?_ ?_).mono ?_
            · omega
            · omega
            rintro e w' ⟨o, rfl, ho, m, rfl⟩
            go_wp2_with fail
            go_ret2
            exact ⟨rfl, m, rfl⟩
      · go_enter Tryd.func28, Tryd.ntmps28
        go_wp2_with fail
        refine (HIN.out _ _ (by omega)).mono ?_
        rintro e w' ⟨rfl, rfl⟩
        go_wp2_with fail
        go_ret2
        exact ⟨rfl, 0, rfl⟩
  · clear HIY
    have HIY := Lib.hid (fun x W (a : (1 : Int) ≤ x) (b : x ≤ 6) => l1In_yes x 1 6 W a b)
    by_cases hin : 1 ≤ s.size ∧ s.size ≤ 6
    · obtain ⟨hi0, hi1⟩ := hin
      go_enter Tryd.func28, Tryd.ntmps28
      go_wp2_with fail
      refine (HIY.out _ _ (by omega) (by omega)).mono ?_
      rintro e w' ⟨rfl, rfl⟩
      go_wp2_with fail
      go_loop [5, 6] (fun a i => ∃ (k : Nat) (N : Int), k ≤ s.size ∧ i = .int .i64 k ∧ a = .int .i64 N ∧ 0 ≤ N ∧ N + 1 ≤ 10 ^ k) (fun _ i => s.size - (intOf i).toNat)
      case atStart => exact ⟨0, 0, Nat.zero_le _, rfl, rfl, by omega, by decide⟩
      case round =>
        obtain ⟨k, N, hk, rfl, rfl, hN0, hN1⟩ := hrel
        have hN2 : N ≤ 999999 := by
          have h10 : (10 : Int) ^ k ≤ 10 ^ 6 := by
            have := Nat.pow_le_pow_right (n := 10) (by omega) (show k ≤ 6 by omega)
            exact_mod_cast this
          omega
        have HP := Lib.hid hN1
        clear hN1
        by_cases hlt : k < s.size
        · have hc0 := (s[k]).toNat_lt
          go_wp2_with fail
          all_goals first
            | (go_round
               case rel => exact ⟨k + 1, _, by omega, by go_num, rfl, by omega, by have := HP.out; rw [Int.pow_succ]; omega⟩
               case measure => simp [intOf]; omega)
            | (go_ret2
               exact ⟨rfl, 0, rfl⟩)
        · go_wp2_with fail
          refine (HC.out _ _ ?_ ?_).mono ?_
          · omega
          · omega
          rintro e w' ⟨o, rfl, ho, m, rfl⟩
          go_wp2_with fail
          go_ret2
          exact ⟨rfl, m, rfl⟩
    · go_enter Tryd.func28, Tryd.ntmps28
      go_wp2_with fail
      refine (HIN.out _ _ (by omega)).mono ?_
      rintro e w' ⟨rfl, rfl⟩
      go_wp2_with fail
      go_ret2
      exact ⟨rfl, 0, rfl⟩
end Go.Proofs.YtnkbpoenncgcnaaDoor
