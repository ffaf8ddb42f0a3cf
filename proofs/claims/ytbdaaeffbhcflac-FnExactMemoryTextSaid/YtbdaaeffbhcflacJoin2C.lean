/-
  JoinStrings of the program.
-/
import Derived.Test.YtbdaaeffbhcflacJoinV
import Derived.Test.YtbdaaeffbhcflacProg
import Derived.WalkLawsBesides
import Derived.WalkSpells
import Derived.BigQuiet
import Derived.Deep.QuietTactic
import Derived.Outline
import Derived.Test.YtbdaaeffbhcflacShelf
namespace Go.Proofs.Ytbdaaeffbhcflac
open Go.RowKit

theorem contains_calls (s : ByteArray) (c : UInt8) (w : World) :
    Calls Try.prog 32 #[.string s, .string ⟨#[c]⟩] w fun e w' => e = .returned (.bool (stands s c)) ∧ w = w' :=
  (Try.strings_Contains_one s c w).mono fun e w' ⟨he, hw⟩ => ⟨by rw [he, ← Lib.contains_iff_indexByte]; rfl, hw.symm⟩

theorem implJoin_calls (A : Option Addr) (cp : Nat) (zs : List ByteArray) (sep : ByteArray) (w : World) (hr : Rd w w.heap.size A (strV zs)) (hcp : zs.length ≤ cp) (hn : zs.length ≤ 1048576) (hz : ∀ z ∈ zs, z.size ≤ 1048576) (hs : sep.size ≤ maxLen) :
    Calls Try.prog 20 #[.slice A zs.length cp, .string sep] w fun e w' => e = .returned (joinV zs sep) ∧ Below w.heap.size w w' := by
  unfold maxLen at hs
  have HZ := Lib.hid hr
  clear hr
  by_cases h0 : zs.length = 0
  · obtain rfl : zs = [] := List.eq_nil_of_length_eq_zero h0
    have HJ := Lib.hid (joinV_nil sep)
    go_enter Try.func20, Try.ntmps20
    go_wp2
    go_ret2
    exact ⟨ret_val HJ.out.symm, Below.refl _ _⟩
  · have hne : ((zs.length : Int) == 0) = false := beq_eq_false_iff_ne.2 (by omega)
    by_cases h1 : sep.size = 1
    · obtain ⟨c, rfl⟩ := one_byte h1
      clear h1 hs
      have hls := jl_len c zs (by rintro rfl; exact h0 rfl)
      have HLS := Lib.hid hls
      clear hls
      go_enter Try.func20, Try.ntmps20
      go_wp2
      go_loop [6, 22] (fun o i => ∃ (k n : Nat), k ≤ zs.length ∧ i = .int .i64 k ∧ o = .int .i64 n ∧ n = zs.length - 1 + sizes (zs.take k) ∧ (0 < k → n ≤ 4000) ∧ n ≤ 1048576 ∧ (∀ i (h : i < zs.length), i < k → stands zs[i] c = false)) (fun _ i => zs.length - (intOf i).toNat)
      case atStart => exact ⟨0, zs.length - 1, Nat.zero_le _, rfl, by congr 1; omega, by simp [sizes], fun h => absurd h (by omega), by omega, fun i _ h => absurd h (by omega)⟩
      case round =>
        obtain ⟨k, n, hk, rfl, rfl, hn0, hn4, hn5, hst⟩ := hrel
        have HN := Lib.hid hn0
        have HN4 := Lib.hid hn4
        have HST := Lib.hid hst
        clear hn0 hst hn4
        by_cases hlt : k < zs.length
        · obtain ⟨bk, off, rfl, hbb, hc⟩ := HZ.out.str hlt
          have hsz := hz zs[k] (List.getElem_mem hlt)
          have HS := Lib.hid (sizes_snoc zs k hlt)
          by_cases hbig : n + zs[k].size ≤ 4000
          · have CS0 := Lib.hid (fun W => contains_calls zs[k] c W)
            by_cases hst : stands zs[k] c = true
            · have HF := Lib.hid (joinV_no (joinOk_no_stands hlt hst))
              have CS := CS0.out
              rw [hst] at CS
              have CS := Lib.hid CS
              clear CS0 hst
              go_wp2_with (go_at_call 32; refine (CS.out _).mono ?_; rintro e w' ⟨rfl, rfl⟩)
              go_ret2
              exact ⟨ret_val HF.out.symm, Below.refl _ _⟩
            · have hsf : stands zs[k] c = false := by simpa using hst
              have CS := CS0.out
              rw [hsf] at CS
              have CS := Lib.hid CS
              have HS1 : Hid (∀ i (h : i < zs.length), i < k + 1 → stands zs[i] c = false) := by
                intro i hi hik
                rcases Nat.lt_or_ge i k with h | h
                · exact HST.out i hi h
                · obtain rfl : i = k := by omega
                  exact hsf
              clear CS0 hst hsf
              go_wp2_with (go_at_call 32; refine (CS.out _).mono ?_; rintro e w' ⟨rfl, rfl⟩)
              go_round
              case rel => exact ⟨k + 1, n + zs[k].size, by omega, by go_num, by go_num, by have := HN.out; have := HS.out; omega, fun _ => hbig, by omega, HS1.out⟩
              case measure => simp [intOf]; omega
          · have HF : Hid (joinV zs ⟨#[c]⟩ = _) := joinV_no (joinOk_no_len (by
              have a := sizes_le zs (k + 1)
              have := HN.out
              have := HS.out
              have := HLS.out
              omega))
            go_wp2_with fail
            go_ret2
            exact ⟨ret_val HF.out.symm, Below.refl _ _⟩
        · have e : zs.take k = zs := List.take_of_length_le (by omega)
          have hl4 : (jl c zs).length ≤ 4000 := by
            have := HN.out
            have := HN4.out (by omega)
            have := HLS.out
            rw [e] at *
            omega
          have HF : Hid (joinV zs ⟨#[c]⟩ = _) := joinV_yes (joinOk_yes (fun i h => HST.out i h (by omega)) (by omega) hl4)
          rcases HZ.out with hnil | ⟨bk, off, rfl, hbb, hc⟩
          · have := congrArg List.length hnil
            rw [strV_len] at this
            simp at this
            subst this
            exact absurd rfl h0
          · have CJ := Lib.hid (Try.strings_Join bk off cp zs ⟨#[c]⟩ w (fun j x hx => hc j _ (by simp [strV, hx])) hbb (by omega) hcp (by
              show (jl c zs).length ≤ _
              omega))
            clear hc e
            go_wp2_with (go_at_call 33; refine CJ.out.mono ?_; rintro e w' ⟨rfl, hb⟩)
            go_ret2
            exact ⟨ret_val HF.out.symm, hb⟩
    · have hne1 : ((sep.size : Int) != 1) = true := bne_iff_ne.2 (by omega)
      have HF := Lib.hid (joinV_not zs sep h1)
      clear h1
      go_enter Try.func20, Try.ntmps20
      go_wp2
      go_ret2
      exact ⟨ret_val HF.out.symm, Below.refl _ _⟩
end Go.Proofs.Ytbdaaeffbhcflac
