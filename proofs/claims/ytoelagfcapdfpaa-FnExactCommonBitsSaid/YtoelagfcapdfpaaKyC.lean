/-
  The bits that two keys have in common: CommonBits of both.
-/
import Derived.Test.YtoelagfcapdfpaaKyB
import Derived.Test.YtoelagfcapdfpaaShelf
import Derived.Laws.BitsAllLaws
namespace Go.Proofs.Ytoelagfcapdfpaa
open Go.RowKit Go.ChangeShapes Go.WideShapes Go.Joins Go.Deep

theorem xor_in {p q : Int} (hp : IsB p) (hq : IsB q) : 0 ≤ bits .xor .u8 p q ∧ bits .xor .u8 p q ≤ 255 ∧ (bits .xor .u8 p q = 0 ↔ p = q) ∧ (bits .xor .u8 p q).toNat = p.toNat ^^^ q.toNat := by
  obtain ⟨h1, h2⟩ := hp
  obtain ⟨h3, h4⟩ := hq
  rw [u8_xor p q h1 (by omega) h3 (by omega)]
  have hlt : p.toNat ^^^ q.toNat < 2 ^ 8 := Nat.xor_lt_two_pow (by omega) (by omega)
  refine ⟨by omega, by omega, ⟨fun h => ?_, fun h => ?_⟩, by simp⟩
  · have : p.toNat ^^^ q.toNat = 0 := by omega
    have h5 := congrArg (fun x => x ^^^ q.toNat) this
    simp only [Nat.xor_assoc, Nat.xor_self, Nat.xor_zero, Nat.zero_xor] at h5
    omega
  · subst h; simp

theorem bit_of {p : Int} (hp : IsB p) (n : Nat) : bits .and .u8 (p / 2 ^ n) 1 = if p.toNat.testBit n then 1 else 0 := by
  obtain ⟨h1, h2⟩ := hp
  have e : p / 2 ^ n = ((p.toNat / 2 ^ n : Nat) : Int) := by
    rw [Int.natCast_ediv, Int.toNat_of_nonneg h1, Int.natCast_pow]
    rfl
  have hlt : p.toNat / 2 ^ n < 256 := Nat.lt_of_le_of_lt (Nat.div_le_self _ _) (by omega)
  rw [e, Nat.testBit_eq_decide_div_mod_eq]
  generalize p.toNat / 2 ^ n = m at *
  rw [u8_and _ _ (by omega) (by omega) (by decide) (by decide)]
  have e2 : (m : Int).toNat &&& (1 : Int).toNat = m % 2 := by
    show m &&& 1 = _
    exact Nat.and_one_is_mod _
  rw [e2]
  rcases Nat.mod_two_eq_zero_or_one m with h | h <;> simp [h]
theorem same_bits {p q : Int} (hp : IsB p) (hq : IsB q) (h : ∀ i, i < 8 → p.toNat.testBit i = q.toNat.testBit i) : p = q := by
  obtain ⟨h1, h2⟩ := hp
  obtain ⟨h3, h4⟩ := hq
  have : p.toNat = q.toNat := Nat.eq_of_testBit_eq fun i => by
    by_cases hi : i < 8
    · exact h i hi
    · have k : ∀ z : Nat, z < 256 → z.testBit i = false := fun z hz => Nat.testBit_lt_two_pow (Nat.lt_of_lt_of_le hz (show 2 ^ 8 ≤ 2 ^ i from Nat.pow_le_pow_right (by decide) (by omega)))
      rw [k _ (by omega), k _ (by omega)]
  omega
theorem lz_of {p q : Int} (hp : IsB p) (hq : IsB q) {t : Nat} (ht : t < 8) (h : ∀ i, 8 - t ≤ i → i < 8 → p.toNat.testBit i = q.toNat.testBit i) (hne : p.toNat.testBit (7 - t) ≠ q.toNat.testBit (7 - t)) : lz8 (bits .xor .u8 p q) = t := by
  obtain ⟨x1, x2, _, x4⟩ := xor_in hp hq
  have hz : (bits .xor .u8 p q).toNat < 256 := by omega
  have hl := len_bit ⟨(bits .xor .u8 p q).toNat, hz⟩ ⟨7 - t, by omega⟩ (fun i hi => by
      show (bits .xor .u8 p q).toNat.testBit i.val = false
      rw [x4, Nat.testBit_xor, h i.val (by have : 7 - t < i.val := hi; omega) i.isLt]
      simp) (by
      show (bits .xor .u8 p q).toNat.testBit (7 - t) = true
      rw [x4, Nat.testBit_xor]
      revert hne
      cases p.toNat.testBit (7 - t) <;> cases q.toNat.testBit (7 - t) <;> simp)
  unfold lz8
  have hl' : Lib.bitLen (bits .xor .u8 p q).toNat = 7 - t + 1 := hl
  rw [hl']
  omega

set_option maxRecDepth 100000 in
theorem implCommonBits_calls (a b : List Int) (w : World) (ha : IsKey a) (hb : IsKey b) :
    Calls Try.prog 29 #[.agg (keyA a), .agg (keyA b)] w fun e w' => e = .returned (.int .i64 (commonL a b)) ∧ Below w.heap.size w w' := by
  obtain ⟨w0, hw0, hb0, k1, k2⟩ := enterKK a b w ha.1 hb.1
  have HW := Lib.hid hw0
  have HB := Lib.hid hb0
  have HK1 := Lib.hid k1
  have HK2 := Lib.hid k2
  have HA := Lib.hid ha
  have HBK := Lib.hid hb
  clear hw0 hb0 k1 k2 ha hb
  go_enter Try.func29, Try.ntmps29
  go_wp2_with fail
  rw [HW.out]
  go_loopw [7] (fun i wr => ∃ (j n : Nat), j ≤ 16 ∧ i = .int .i64 j ∧ a.take j = b.take j ∧ wr = w0.drewN n) (fun i _ => 16 - (intOf i).toNat)
  case atStart => exact ⟨0, 0, Nat.zero_le _, rfl, rfl, rfl⟩
  case round =>
    obtain ⟨j, n, hj, rfl, ht, rfl⟩ := hrel
    have HT := Lib.hid ht
    clear ht
    by_cases hlt : j < 16
    · have hla : j < a.length := by have := HA.out.1; omega
      have hlb : j < b.length := by have := HBK.out.1; omega
      have c1 := HK1.out.cell (i := j) hla
      have c2 := HK2.out.cell (i := j) hlb
      have HAT := Lib.hid (fun hne => common_at HT.out hla hlb hne)
      have HEQ := Lib.hid (fun he : a[j] = b[j] => take_eq_snoc HT.out hla hlb he)
      obtain ⟨x1, x2, x3, x4⟩ := xor_in (HA.out.at_ hla) (HBK.out.at_ hlb)
      have HX3 := Lib.hid x3
      clear x3 x4
      generalize a[j] = p at *
      generalize b[j] = q at *
      obtain ⟨x, hx⟩ : ∃ x, bits .xor .u8 p q = x := ⟨_, rfl⟩
      rw [hx] at x1 x2 HX3 HAT
      by_cases hpq : x = 0
      · have HE := Lib.hid (HEQ.out (HX3.out.1 hpq))
        subst hpq
        go_wp2
        go_quiet (fail)
        go_wp2
        go_roundw
        case rel => exact ⟨j + 1, _, by omega, by go_num, HE.out, by first | rfl | (exact World.drewN_drewN _ _ _) | (rw [World.drewN_drewN, World.drewN_drewN])⟩
        case measure => simp [intOf]; omega
      · have HV := Lib.hid (HAT.out (fun h => hpq (HX3.out.2 h)))
        have HL := Lib.hid (fun W => Try.bits_LeadingZeros8 x W x1 x2)
        have hbl : Lib.bitLen x.toNat ≤ 8 := Lib.bitLen_le8 ⟨x.toNat, by omega⟩
        obtain ⟨z, hz⟩ : ∃ z : Int, 8 - (Lib.bitLen x.toNat : Int) = z := ⟨_, rfl⟩
        have hz0 : 0 ≤ z ∧ z ≤ 8 := by omega
        have HV2 : Hid (commonL a b = 8 * (j : Int) + z) := Lib.hid (by rw [HV.out, ← hz]; rfl)
        rw [hz] at HL
        clear hbl hz
        go_wp2
        go_quiet (fail)
        go_wp2_with fail
        refine (HL.out _).mono ?_
        rintro e w2 ⟨rfl, rfl⟩
        go_wp2_with fail
        go_ret
        exact ⟨by rw [HV2.out]; go_num, ⟨HB.out.os, HB.out.tape, HB.out.output, HB.out.size, HB.out.block⟩⟩
    · obtain rfl : j = 16 := by omega
      have HV := Lib.hid (take_all HT.out HA.out.1 HBK.out.1)
      have HV2 : Hid (commonL a b = 128) := Lib.hid (by rw [HV.out, common_self, HBK.out.1]; rfl)
      go_wp2
      go_ret
      exact ⟨by rw [HV2.out]; rfl, ⟨HB.out.os, HB.out.tape, HB.out.output, HB.out.size, HB.out.block⟩⟩

set_option maxRecDepth 100000 in
theorem specCommonBits_calls (a b : List Int) (w : World) (ha : IsKey a) (hb : IsKey b) :
    Calls Try.prog 28 #[.agg (keyA a), .agg (keyA b)] w fun e w' => e = .returned (.int .i64 (commonL a b)) ∧ Below w.heap.size w w' := by
  obtain ⟨w0, hw0, hb0, k1, k2⟩ := enterKK a b w ha.1 hb.1
  have HW := Lib.hid hw0
  have HB := Lib.hid hb0
  have HK1 := Lib.hid k1
  have HK2 := Lib.hid k2
  have HA := Lib.hid ha
  have HBK := Lib.hid hb
  clear hw0 hb0 k1 k2 ha hb
  go_enter Try.func28, Try.ntmps28
  go_wp2_with fail
  rw [HW.out]
  go_loopw [5, 6] (fun v i wr => ∃ (j n : Nat), j ≤ 16 ∧ v = .int .i64 (8 * j) ∧ i = .int .i64 j ∧ a.take j = b.take j ∧ wr = w0.drewN n) (fun _ i _ => 16 - (intOf i).toNat)
  case atStart => exact ⟨0, 0, Nat.zero_le _, rfl, rfl, rfl, rfl⟩
  case round =>
    obtain ⟨j, n, hj, rfl, rfl, ht, rfl⟩ := hrel
    have HT := Lib.hid ht
    clear ht
    by_cases hlt : j < 16
    · have hla : j < a.length := by have := HA.out.1; omega
      have hlb : j < b.length := by have := HBK.out.1; omega
      have c1 := HK1.out.cell (i := j) hla
      have c2 := HK2.out.cell (i := j) hlb
      have HAT := Lib.hid (fun hne => common_at HT.out hla hlb hne)
      have HEQ := Lib.hid (fun he : a[j] = b[j] => take_eq_snoc HT.out hla hlb he)
      have HBA := Lib.hid (HA.out.at_ hla)
      have HBB := Lib.hid (HBK.out.at_ hlb)
      generalize a[j] = p at *
      generalize b[j] = q at *
      go_wp2
      go_loopw [5, 7] (fun v i wr2 => ∃ (t n2 : Nat), t ≤ 8 ∧ v = .int .i64 (8 * j + t) ∧ i = .int .i64 (7 - (t : Int)) ∧ (∀ i, 8 - t ≤ i → i < 8 → p.toNat.testBit i = q.toNat.testBit i) ∧ wr2 = w0.drewN n2) (fun _ i _ => (intOf i + 1).toNat)
      case atStart => exact ⟨0, _, Nat.zero_le _, by go_num, rfl, fun i h1 h2 => by omega, rfl⟩
      case round =>
        obtain ⟨t, n2, ht, rfl, rfl, hbit, rfl⟩ := hrel
        have HBT := Lib.hid hbit
        clear hbit
        by_cases htl : t < 8
        · have HP1 := Lib.hid (bit_of HBA.out (7 - t))
          have HP2 := Lib.hid (bit_of HBB.out (7 - t))
          by_cases hs : p.toNat.testBit (7 - t) = q.toNat.testBit (7 - t)
          · have HN : Hid (∀ i, 8 - (t + 1) ≤ i → i < 8 → p.toNat.testBit i = q.toNat.testBit i) := Lib.hid fun i h1 h2 => by
              rcases Nat.lt_or_ge i (8 - t) with h3 | h3
              · obtain rfl : i = 7 - t := by omega
                exact hs
              · exact HBT.out i h3 h2
            have hd : (bits .and .u8 (p / 2 ^ (7 - t)) 1 != bits .and .u8 (q / 2 ^ (7 - t)) 1) = false := by rw [HP1.out, HP2.out, hs]; simp
            clear hs
            go_wp2
            go_quiet (fail)
            go_wp2
            go_roundw
            case rel => exact ⟨t + 1, _, by omega, by go_num, by go_num, HN.out, by first | rfl | (exact World.drewN_drewN _ _ _) | (rw [World.drewN_drewN, World.drewN_drewN])⟩
            case measure => simp [intOf]; omega
          · have HV : Hid (commonL a b = 8 * (j : Int) + t) := Lib.hid (by rw [HAT.out (fun h => hs (by rw [h])), lz_of HBA.out HBB.out htl HBT.out hs])
            have hd : (bits .and .u8 (p / 2 ^ (7 - t)) 1 != bits .and .u8 (q / 2 ^ (7 - t)) 1) = true := by
              rw [HP1.out, HP2.out]
              revert hs
              cases p.toNat.testBit (7 - t) <;> cases q.toNat.testBit (7 - t) <;> simp
            clear hs
            go_wp2
            go_quiet (fail)
            go_wp2
            go_ret
            exact ⟨by rw [HV.out]; rfl, ⟨HB.out.os, HB.out.tape, HB.out.output, HB.out.size, HB.out.block⟩⟩
        · obtain rfl : t = 8 := by omega
          have HE := Lib.hid (HEQ.out (same_bits HBA.out HBB.out (fun i hi => HBT.out i (by omega) hi)))
          go_wp2
          go_roundw
          case rel => exact ⟨j + 1, _, by omega, by go_num, by go_num, HE.out, by first | rfl | (exact World.drewN_drewN _ _ _) | (rw [World.drewN_drewN, World.drewN_drewN])⟩
          case measure => simp [intOf]; omega
    · obtain rfl : j = 16 := by omega
      have HV := Lib.hid (take_all HT.out HA.out.1 HBK.out.1)
      have HV2 : Hid (commonL a b = 128) := Lib.hid (by rw [HV.out, common_self, HBK.out.1]; rfl)
      go_wp2
      go_ret
      exact ⟨by rw [HV2.out]; rfl, ⟨HB.out.os, HB.out.tape, HB.out.output, HB.out.size, HB.out.block⟩⟩
end Go.Proofs.Ytoelagfcapdfpaa
