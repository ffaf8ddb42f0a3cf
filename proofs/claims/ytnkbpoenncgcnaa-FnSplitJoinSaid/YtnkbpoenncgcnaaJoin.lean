/-
  JoinStrings of the specification.
-/
import Derived.Test.YtnkbpoenncgcnaaStands
namespace Go.Proofs.Ytnkbpoenncgcnaa
open Go.RowKit

theorem specJoin_calls (A : Option Addr) (cp : Nat) (zs : List ByteArray) (sep : ByteArray) (w : World) (hr : Rd w w.heap.size A (strV zs)) (hn : zs.length ≤ 1048576) (hz : ∀ z ∈ zs, z.size ≤ 1048576) (hs : sep.size ≤ maxLen) :
    Calls Try.prog 13 #[.slice A zs.length cp, .string sep] w fun e w' => e = .returned (joinV zs sep) ∧ ∃ n, w' = w.drewN n := by
  unfold maxLen at hs
  have HZ := Lib.hid hr
  clear hr
  by_cases h1 : sep.size = 1
  · obtain ⟨c, rfl⟩ := one_byte h1
    clear h1 hs
    by_cases h0 : zs.length = 0
    · obtain rfl : zs = [] := List.eq_nil_of_length_eq_zero h0
      have HJ := Lib.hid (joinV_nil ⟨#[c]⟩)
      go_enter Try.func13, Try.ntmps13
      go_wp2
      go_ret2
      exact ⟨ret_val HJ.out.symm, 0, rfl⟩
    · have hne : ((zs.length : Int) == 0) = false := beq_eq_false_iff_ne.2 (by omega)
      go_enter Try.func13, Try.ntmps13
      go_wp2
      go_loopw [6, 7] (fun o i wr => ∃ (k n : Nat) (b : ByteArray), k ≤ zs.length ∧ i = .int .i64 k ∧ o = .string b ∧ b.data.toList = jl c (zs.take k) ∧ b.size ≤ 4000 ∧ (∀ i (h : i < zs.length), i < k → stands zs[i] c = false) ∧ wr = w.drewN n) (fun _ i _ => zs.length - (intOf i).toNat)
      case atStart => exact ⟨0, 0, ByteArray.empty, Nat.zero_le _, rfl, rfl, by simp [jl, Lib.join_nil], by simp, fun i _ h => absurd h (by omega), rfl⟩
      case round =>
        obtain ⟨k, n, b, hk, rfl, rfl, hb, hb4, hst, hw⟩ := hrel
        have HR := HZ.out.drewN n
        rw [← hw] at HR
        have HB := Lib.hid hb
        have HST := Lib.hid hst
        have HW := Lib.hid hw
        clear hb hst hw
        by_cases hlt : k < zs.length
        · obtain ⟨bk, off, rfl, hbb, hc⟩ := HR.str hlt
          have hsz := hz zs[k] (List.getElem_mem hlt)
          have CS0 := Lib.hid (fun W => l1Stands_calls zs[k] c W (by unfold maxLen; omega))
          clear HR
          by_cases hst : stands zs[k] c = true
          · have HF := Lib.hid (joinV_no (joinOk_no_stands hlt hst))
            have CS := CS0.out
            rw [hst] at CS
            have CS := Lib.hid CS
            clear CS0 hst
            go_wp2
            go_quiet ((go_at_call 32; exact Calls.quiet_of_same (CS.out _)))
            go_wp2
            go_ret2
            exact ⟨ret_val HF.out.symm, _, by rw [HW.out]; exact World.drewN_drewN _ _ _⟩
          · have hsf : stands zs[k] c = false := by simpa using hst
            have CS := CS0.out
            rw [hsf] at CS
            have CS := Lib.hid CS
            have HS1 : Hid (∀ i (h : i < zs.length), i < k + 1 → stands zs[i] c = false) := by
              intro i hi hik
              rcases Nat.lt_or_ge i k with h | h
              · exact HST.out i hi h
              · obtain rfl : i = k := by omega
                exact hsf
            clear CS0 hst hsf
            by_cases hk0 : 0 < k
            · have hsn : (b ++ ⟨#[c]⟩ ++ zs[k]).data.toList = jl c (zs.take (k + 1)) := by
                rw [jl_snoc c zs k hlt hk0, ← HB.out]; simp
              have HSN := Lib.hid hsn
              clear hsn
              by_cases hbig : b.size + 1 + zs[k].size ≤ 4000
              · go_wp2
                go_quiet ((go_at_call 32; exact Calls.quiet_of_same (CS.out _)))
                go_wp2
                go_roundw
                case rel => exact ⟨k + 1, n + nq, _, by omega, by go_num, rfl, HSN.out, by simp [ByteArray.size_append]; exact hbig, HS1.out, by rw [HW.out]; exact World.drewN_drewN _ _ _⟩
                case measure => simp [intOf]; omega
              · have HF : Hid (joinV zs ⟨#[c]⟩ = _) := joinV_no (joinOk_no_len (by
                  have a := jl_take_le c zs (k + 1) (by omega)
                  rw [← HSN.out, size_eq] at a
                  simp [ByteArray.size_append] at a
                  have e : (ByteArray.mk #[c]).size = 1 := rfl
                  omega))
                go_wp2
                go_quiet ((go_at_call 32; exact Calls.quiet_of_same (CS.out _)))
                go_wp2
                go_ret2
                exact ⟨ret_val HF.out.symm, _, by rw [HW.out]; exact World.drewN_drewN _ _ _⟩
            · have hk00 : k ≤ 0 := by omega
              clear hk0
              have hb0 : b.size ≤ 0 := by
                have := HB.out
                rw [show k = 0 by omega, List.take_zero] at this
                rw [← size_eq, this]; exact Nat.le_refl _
              have hsn : (b ++ zs[k]).data.toList = jl c (zs.take (k + 1)) := by
                have e0 : k = 0 := by omega
                have eb : b = ByteArray.empty := by
                  have := HB.out
                  rw [e0, List.take_zero] at this
                  exact bytes_of_list (by rw [this]; rfl)
                subst e0 eb
                rw [List.take_one, List.head?_eq_getElem?, List.getElem?_eq_getElem hlt]
                simpa using (jl_one c _).symm
              have HSN := Lib.hid hsn
              clear hsn
              by_cases hbig : b.size + zs[k].size ≤ 4000
              · go_wp2
                go_quiet ((go_at_call 32; exact Calls.quiet_of_same (CS.out _)))
                go_wp2
                go_roundw
                case rel => exact ⟨k + 1, n + nq, _, by omega, by go_num, rfl, HSN.out, by simp [ByteArray.size_append]; exact hbig, HS1.out, by rw [HW.out]; exact World.drewN_drewN _ _ _⟩
                case measure => simp [intOf]; omega
              · have HF : Hid (joinV zs ⟨#[c]⟩ = _) := joinV_no (joinOk_no_len (by
                  have a := jl_take_le c zs (k + 1) (by omega)
                  rw [← HSN.out, size_eq] at a
                  simp [ByteArray.size_append] at a
                  omega))
                go_wp2
                go_quiet ((go_at_call 32; exact Calls.quiet_of_same (CS.out _)))
                go_wp2
                go_ret2
                exact ⟨ret_val HF.out.symm, _, by rw [HW.out]; exact World.drewN_drewN _ _ _⟩
        · have HF : Hid (joinV zs ⟨#[c]⟩ = .tuple #[.string b, .bool true]) := by
            show joinV zs ⟨#[c]⟩ = .tuple #[.string b, .bool true]
            have e : zs.take k = zs := List.take_of_length_le (by omega)
            have hb := HB.out
            rw [e] at hb
            rw [show joinV zs ⟨#[c]⟩ = _ from joinV_yes (joinOk_yes (fun i h => HST.out i h (by omega)) (by omega) (by rw [← hb, size_eq]; exact hb4)), ← bytes_of_list hb]
          go_wp2
          go_ret2
          exact ⟨ret_val HF.out.symm, _, HW.out⟩
  · have hne : ((sep.size : Int) != 1) = true := bne_iff_ne.2 (by omega)
    have HF := Lib.hid (joinV_not zs sep h1)
    clear h1
    go_enter Try.func13, Try.ntmps13
    go_wp2
    go_ret2
    exact ⟨ret_val HF.out.symm, 0, rfl⟩
end Go.Proofs.Ytnkbpoenncgcnaa
