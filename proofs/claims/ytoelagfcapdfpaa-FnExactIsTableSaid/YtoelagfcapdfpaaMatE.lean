/-
  The law's helpers on rows of rows of bytes: eqByteSS, markByteSS, heldByteSS.
-/
import Derived.Test.YtoelagfcapdfpaaMat
import Derived.Deep.RegionHeld3
namespace Go.Proofs.Ytoelagfcapdfpaa
open Go.RowKit

/-- eqByteSS: whether two memories read alike. -/
theorem eqByteSS_calls (A B : Option Addr) (c d : Nat) (m q : List (List Int)) (w : World) (hr : Rd2 w w.heap.size A m) (hq : Rd2 w w.heap.size B q) (hn : m.length ≤ maxLen) (hm : q.length ≤ maxLen) :
    Calls Try.prog 75 #[.slice A m.length c, .slice B q.length d] w fun e w' => e = .returned (.bool (decide (m = q))) ∧ ∃ n, w' = w.drewN n := by
  unfold maxLen at hn hm
  have HZ := Lib.hid hr
  have HY := Lib.hid hq
  clear hr hq
  by_cases h0 : m.length = q.length
  · have hne : ((m.length : Int) != (q.length : Int)) = false := by simp [h0]
    have H0 := Lib.hid h0
    go_enter Try.func75, Try.ntmps75
    go_wp2
    go_loopw [5] (fun i wr => ∃ k n : Nat, k ≤ m.length ∧ i = .int .i64 k ∧ m.take k = q.take k ∧ wr = w.drewN n) (fun i _ => m.length - (intOf i).toNat)
    case atStart => exact ⟨0, 0, Nat.zero_le _, rfl, rfl, rfl⟩
    case round =>
      obtain ⟨k, n, hk, rfl, ht, rfl⟩ := hrel
      have HT := Lib.hid ht
      clear ht
      by_cases hlt : k < m.length
      · have hlt2 : k < q.length := by omega
        obtain ⟨b, off, Ai, ci, rfl, hbb, hc, hci, hcm, hri⟩ := HZ.out.at_ hlt
        obtain ⟨b2, off2, Ai2, ci2, rfl, hbb2, hc2, hci2, hcm2, hri2⟩ := HY.out.at_ hlt2
        have HC := Lib.hid (fun (W : World) (hW : Rd W W.heap.size Ai (intV .u8 m[k])) (hV : Rd W W.heap.size Ai2 (intV .u8 q[k])) => eqByteS_calls Ai Ai2 ci ci2 m[k] q[k] W hW hV (Nat.le_trans hci hcm) (Nat.le_trans hci2 hcm2))
        have HQ1 : Hid (∀ a, Rd (w.drewN a) (w.drewN a).heap.size Ai (intV .u8 m[k])) := Lib.hid (fun a => hri.drewN a)
        have HQ2 : Hid (∀ a, Rd (w.drewN a) (w.drewN a).heap.size Ai2 (intV .u8 q[k])) := Lib.hid (fun a => hri2.drewN a)
        clear h0 hri hri2
        by_cases he : m[k] = q[k]
        · have hd : decide (m[k] = q[k]) = true := decide_eq_true he
          have HE := Lib.hid he
          have HC2 : Hid (∀ a, Calls Try.prog 54 #[.slice Ai m[k].length ci, .slice Ai2 q[k].length ci2] (w.drewN (n + a)) fun e w' => e = .returned (.bool true) ∧ ∃ j, w' = w.drewN (n + j)) :=
            Lib.hid (fun a => (HC.out _ (HQ1.out (n + a)) (HQ2.out (n + a))).mono (by rintro e w' ⟨rfl, j, rfl⟩; exact ⟨by rw [hd], a + j, by rw [World.drewN_drewN, Nat.add_assoc]⟩))
          clear he hd
          go_wp2_with fail
          go_quiet ((go_at_call 54; exact HC2.out _))
          go_wp2_with fail
          go_roundw
          case rel => exact ⟨k + 1, n + nq, by omega, by go_num, take_eq_snoc HT.out hlt hlt2 HE.out, rfl⟩
          case measure => simp [intOf]; omega
        · have hd : decide (m[k] = q[k]) = false := decide_eq_false he
          have HF := Lib.hid (show decide (m = q) = false from decide_eq_false fun h => he (by subst h; rfl))
          have HC2 : Hid (∀ a, Calls Try.prog 54 #[.slice Ai m[k].length ci, .slice Ai2 q[k].length ci2] (w.drewN (n + a)) fun e w' => e = .returned (.bool false) ∧ ∃ j, w' = w.drewN (n + j)) :=
            Lib.hid (fun a => (HC.out _ (HQ1.out (n + a)) (HQ2.out (n + a))).mono (by rintro e w' ⟨rfl, j, rfl⟩; exact ⟨by rw [hd], a + j, by rw [World.drewN_drewN, Nat.add_assoc]⟩))
          clear he hd
          go_wp2_with fail
          go_quiet ((go_at_call 54; exact HC2.out _))
          go_wp2_with fail
          go_ret
          exact ⟨ret_bool HF.out.symm, _, World.drewN_drewN _ _ _⟩
      · have hg : ¬ (k : Int) < m.length := by omega
        have HF := Lib.hid (show decide (m = q) = true from decide_eq_true (by have := HT.out; rwa [List.take_of_length_le (by omega), List.take_of_length_le (by have := H0.out; omega)] at this))
        clear h0
        go_wp2_with fail
        go_ret
        exact ⟨ret_bool HF.out.symm, _, rfl⟩
  · have hne : ((m.length : Int) != (q.length : Int)) = true := by simp; omega
    have HF := Lib.hid (show decide (m = q) = false from decide_eq_false fun h => h0 (by rw [h]))
    clear h0
    go_enter Try.func75, Try.ntmps75
    go_wp2
    go_ret
    exact ⟨ret_bool HF.out.symm, 0, rfl⟩
end Go.Proofs.Ytoelagfcapdfpaa
