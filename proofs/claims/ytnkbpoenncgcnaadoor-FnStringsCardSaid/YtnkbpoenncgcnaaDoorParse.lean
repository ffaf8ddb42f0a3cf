/-
  ParseInt of the program.
-/
import Derived.Test.YtnkbpoenncgcnaaDoorParseM
import Derived.Test.YtnkbpoenncgcnaaDoorFmt
namespace Go.Proofs.YtnkbpoenncgcnaaDoor
open Go.RowKit

set_option maxHeartbeats 400000 in
theorem implParse_pos (n : Int) (w : World) (h0 : 0 ≤ n) (h1 : n ≤ 999999) (ht : Tabs w) :
    Calls Tryd.prog 13 #[.string (digs n)] w fun e w' => e = .returned (.tuple #[.int .i64 n, .bool true]) ∧ Below w.heap.size w w' := by
  obtain ⟨hz0, hz1⟩ := digs_len h1
  have HV := Lib.hid (fun k => digs_val_take h0 k)
  have HE := Lib.hid (digs_val h0)
  have HQ := Lib.hid (show numB n = digs n from numB_pos h0)
  have HC := implFormat_calls n w (by omega) (by omega) ht
  rw [formV_yes (by omega) h1, HQ.out] at HC
  have HC := Lib.hid HC
  have hG : ∀ k (h : k < (digs n).size), 48 ≤ ((digs n)[k]).toNat ∧ ((digs n)[k]).toNat ≤ 57 := fun k h => digs_get h
  have HT := Lib.hid (fun k => bytes_take_snoc (digs n) k)
  clear ht
  have HG := Lib.hid hG
  clear hG
  have hself := eq_bool (a := digs n) rfl
  generalize digs n = s at *
  go_enter Tryd.func13, Tryd.ntmps13
  go_wp2_with fail
  go_step3
  go_wp2_with fail
  go_step3
  go_wp2_with fail
  go_loop [4, 5, 12] (fun a b i => ∃ k : Nat, k ≤ s.size ∧ i = .int .i64 k ∧ b = .int .i64 1 ∧ a = .int .i64 (valL (s.data.toList.take k))) (fun _ _ i => s.size - (intOf i).toNat)
  case atStart => exact ⟨0, Nat.zero_le _, rfl, rfl, rfl⟩
  case round =>
    obtain ⟨k, hk, rfl, rfl, rfl⟩ := hrel
    obtain ⟨hv0, hv1⟩ := HV.out k
    have hv2 : valL (s.data.toList.take k) ≤ 999999 := by omega
    by_cases hlt : k < s.size
    · obtain ⟨hg0, hg1⟩ := HG.out k hlt
      have hd0 : (48 : Int) ≤ (s[k]).toNat := by omega
      have hd1 : ((s[k]).toNat : Int) ≤ 57 := by omega
      have HN : Hid (valL (s.data.toList.take (k + 1)) = 10 * valL (s.data.toList.take k) + (((s[k]).toNat : Int) - 48)) := by
        show valL (s.data.toList.take (k + 1)) = _
        rw [HT.out k hlt, valL_snoc]
      go_wp2_with fail
      go_round
      case rel => exact ⟨k + 1, by omega, by go_num, rfl, by rw [HN.out]⟩
      case measure => simp [intOf]; omega
    · have HF : Hid (valL (s.data.toList.take k) = n) := by
        show valL (s.data.toList.take k) = n
        rw [List.take_of_length_le (by simp; omega)]; exact HE.out
      go_wp2_with fail
      rw [HF.out]
      refine HC.out.mono ?_
      rintro e w' ⟨rfl, hb⟩
      go_wp2_with fail
      rw [Exit.noGoto_ret]
      go_ret2
      exact ⟨rfl, hb⟩

theorem minus_size (d : ByteArray) : (ByteArray.mk #[45] ++ d).size = d.size + 1 := by
  rw [ByteArray.size_append, Nat.add_comm]; rfl
theorem minus_zero (d : ByteArray) (h : 0 < (ByteArray.mk #[45] ++ d).size) : (ByteArray.mk #[45] ++ d)[0] = 45 := by
  rw [ByteArray.getElem_append_left (by decide)]; rfl
theorem minus_get (d : ByteArray) (k : Nat) (h : k + 1 < (ByteArray.mk #[45] ++ d).size) (h' : k < d.size) : (ByteArray.mk #[45] ++ d)[k + 1] = d[k] := by
  rw [ByteArray.getElem_append_right (by show 1 ≤ k + 1; omega)]; rfl

set_option maxHeartbeats 800000 in
theorem implParse_neg (n : Int) (w : World) (h0 : n < 0) (h1 : -999999 ≤ n) (ht : Tabs w) :
    Calls Tryd.prog 13 #[.string (numB n)] w fun e w' => e = .returned (.tuple #[.int .i64 n, .bool true]) ∧ Below w.heap.size w w' := by
  obtain ⟨hz0, hz1⟩ := digs_len (n := -n) (by omega)
  have HV := Lib.hid (fun k => digs_val_take (n := -n) (by omega) k)
  have HE := Lib.hid (digs_val (n := -n) (by omega))
  have HQ := numB_neg h0
  have HC := implFormat_calls n w (by omega) (by omega) ht
  rw [formV_yes h1 (by omega)] at HC
  have HG := Lib.hid (fun k (h : k < (digs (-n)).size) => digs_get h)
  have HT := Lib.hid (fun k => bytes_take_snoc (digs (-n)) k)
  clear ht
  have hself := eq_bool (a := numB n) rfl
  have HS := Lib.hid (minus_size (digs (-n)))
  have HM0 := Lib.hid (minus_zero (digs (-n)))
  have HM1 := Lib.hid (minus_get (digs (-n)))
  rw [HQ] at HC hself ⊢
  clear HQ
  have HC := Lib.hid HC
  generalize digs (-n) = d at *
  generalize hs : (ByteArray.mk #[45] ++ d) = s at *
  clear hs
  have hsz : s.size ≤ 7 := by rw [HS.out]; omega
  have hsz1 : 2 ≤ s.size := by rw [HS.out]; omega
  go_enter Tryd.func13, Tryd.ntmps13
  go_wp2_with fail
  go_step3
  go_wp2_with fail
  go_step3
  go_wp2_with fail
  go_loop [4, 5, 12] (fun a b i => ∃ (k : Nat) (N sg : Int), k ≤ s.size ∧ i = .int .i64 k ∧ b = .int .i64 sg ∧ a = .int .i64 N ∧ ((k = 0 ∧ N = 0 ∧ sg = 1) ∨ (0 < k ∧ sg = -1 ∧ N = valL (d.data.toList.take (k - 1))))) (fun _ _ i => s.size - (intOf i).toNat)
  case atStart => exact ⟨0, 0, 1, Nat.zero_le _, rfl, rfl, rfl, .inl ⟨rfl, rfl, rfl⟩⟩
  case round =>
    obtain ⟨k, N, sg, hk, rfl, rfl, rfl, ⟨rfl, rfl, rfl⟩ | ⟨hk0, rfl, hN⟩⟩ := hrel
    · have hm := HM0.out (by omega)
      have hb : (((s[0]'(by omega)).toNat : Int) == 45) = true := by rw [hm]; rfl
      have hc : ¬ (48 : Int) ≤ ((s[0]'(by omega)).toNat : Int) := by rw [hm]; decide
      have hlt : (0 : Int) < s.size := by omega
      have HM := Lib.hid hm
      clear hm
      go_wp2_with fail
      go_round
      case rel => exact ⟨1, 0, -1, by omega, by go_num, rfl, rfl, .inr ⟨by omega, rfl, by simp [valL]⟩⟩
      case measure => simp [intOf]; omega
    · obtain ⟨j, rfl⟩ : ∃ j, k = j + 1 := ⟨k - 1, by omega⟩
      rw [Nat.add_sub_cancel] at hN
      obtain ⟨hv0, hv1⟩ := HV.out j
      have hv2 : N ≤ 999999 := by omega
      have hv3 : 0 ≤ N := by omega
      have HN0 := Lib.hid hN
      clear hN hv0 hv1
      by_cases hlt : j + 1 < s.size
      · have hj : j < d.size := by rw [HS.out] at hlt; omega
        obtain ⟨hg0, hg1⟩ := HG.out j hj
        have HN : Hid (valL (d.data.toList.take (j + 1)) = 10 * N + (((s[j + 1]).toNat : Int) - 48)) := by
          show valL (d.data.toList.take (j + 1)) = _
          rw [HT.out j hj, valL_snoc, HN0.out, HM1.out j hlt hj]
        have hd0 : (48 : Int) ≤ (s[j + 1]).toNat := by rw [HM1.out j hlt hj]; omega
        have hd1 : ((s[j + 1]).toNat : Int) ≤ 57 := by rw [HM1.out j hlt hj]; omega
        clear hg0 hg1
        go_wp2_with fail
        go_round
        case rel => exact ⟨j + 1 + 1, 10 * N + (((s[j + 1]).toNat : Int) - 48), -1, by omega, by go_num, rfl, rfl, .inr ⟨by omega, rfl, by rw [Nat.add_sub_cancel, HN.out]⟩⟩
        case measure => simp [intOf]; omega
      · have HF : Hid (-N = n) := by
          show -N = n
          rw [HN0.out, List.take_of_length_le (by simp; rw [HS.out] at hlt; omega), HE.out]; omega
        go_wp2_with fail
        rw [HF.out]
        refine HC.out.mono ?_
        rintro e w' ⟨rfl, hb⟩
        go_wp2_with fail
        rw [Exit.noGoto_ret]
        go_ret2
        exact ⟨rfl, hb⟩

/-- What FormatInt answers where the text is no number's. -/
def FormNo (s : ByteArray) (e : Ending) : Prop := ∃ (o : ByteArray) (b : Bool), e = .returned (.tuple #[.string o, .bool b]) ∧ (b = true → (!o.toList == s.toList) = true)
theorem formNo {s : ByteArray} (h : NoNum s) (n : Int) : FormNo s (.returned (formV n)) := by
  by_cases hin : -999999 ≤ n ∧ n ≤ 999999
  · exact ⟨_, true, by rw [formV_yes hin.1 hin.2], fun _ => ne_bool (h n hin.1 hin.2)⟩
  · exact ⟨_, false, by rw [formV_no (by omega)], fun h => by cases h⟩
theorem implFormat_no {s : ByteArray} (h : NoNum s) (n : Int) (w : World) (h0 : -9223372036854775808 ≤ n) (h1 : n ≤ 9223372036854775807) (ht : Tabs w) :
    Calls Tryd.prog 10 #[.int .i64 n] w fun e w' => FormNo s e ∧ Below w.heap.size w w' :=
  (implFormat_calls n w h0 h1 ht).mono fun e w' ⟨he, hb⟩ => ⟨he ▸ formNo h n, hb⟩

set_option maxHeartbeats 1000000 in
theorem implParse_no (s : ByteArray) (w : World) (hs : s.size ≤ maxLen) (h : NoNum s) (ht : Tabs w) :
    Calls Tryd.prog 13 #[.string s] w fun e w' => e = .returned (.tuple #[.int .i64 0, .bool false]) ∧ Below w.heap.size w w' := by
  unfold maxLen at hs
  have HC := Lib.hid (fun n W (h0 : -9223372036854775808 ≤ n) (h1 : n ≤ 9223372036854775807) (ht : Tabs W) => implFormat_no h n W h0 h1 ht)
  have HT := Lib.hid ht
  clear h ht
  go_enter Tryd.func13, Tryd.ntmps13
  go_wp2_with fail
  go_step3
  go_wp2_with fail
  go_step3
  go_wp2_with fail
  go_loop [4, 5, 12] (fun a b i => ∃ (k : Nat) (N sg : Int), k ≤ s.size ∧ i = .int .i64 k ∧ b = .int .i64 sg ∧ a = .int .i64 N ∧ 0 ≤ N ∧ N ≤ 9999999 ∧ (sg = 1 ∨ sg = -1)) (fun _ _ i => s.size - (intOf i).toNat)
  case atStart => exact ⟨0, 0, 1, Nat.zero_le _, rfl, rfl, rfl, by omega, by omega, .inl rfl⟩
  case round =>
    obtain ⟨k, N, sg, hk, rfl, rfl, rfl, hN0, hN1, hsg⟩ := hrel
    by_cases hlt : k < s.size
    · have hc0 := (s[k]).toNat_lt
      rcases hsg with rfl | rfl
      all_goals
        go_wp2_with fail
        all_goals first
          | (go_round
             case rel => exact ⟨k + 1, _, _, by omega, by go_num, rfl, rfl, by omega, by omega, by omega⟩
             case measure => simp [intOf]; omega)
          | (refine (HC.out _ _ (by omega) (by omega) HT.out).mono ?_
             rintro e w' ⟨⟨o, b, rfl, hob⟩, hb⟩
             rcases b with _ | _
             · clear hob
               go_wp2_with fail
               rw [Exit.noGoto_ret]
               go_ret2
               exact ⟨rfl, hb⟩
             · have hf := hob rfl
               clear hob
               go_wp2_with fail
               rw [Exit.noGoto_ret]
               go_ret2
               exact ⟨rfl, hb⟩)
    · rcases hsg with rfl | rfl
      all_goals
        go_wp2_with fail
        refine (HC.out _ _ ?_ ?_ HT.out).mono ?_
        · omega
        · omega
        rintro e w' ⟨⟨o, b, rfl, hob⟩, hb⟩
        rcases b with _ | _
        · clear hob
          go_wp2_with fail
          rw [Exit.noGoto_ret]
          go_ret2
          exact ⟨rfl, hb⟩
        · have hf := hob rfl
          clear hob
          go_wp2_with fail
          rw [Exit.noGoto_ret]
          go_ret2
          exact ⟨rfl, hb⟩
end Go.Proofs.YtnkbpoenncgcnaaDoor
