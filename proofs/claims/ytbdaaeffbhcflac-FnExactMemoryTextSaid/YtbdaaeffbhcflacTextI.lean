/-
  MemoryText of impl.
-/
import Derived.Test.YtbdaaeffbhcflacHexI
import Derived.Test.YtbdaaeffbhcflacJoin2C
import Derived.Test.YtbdaaeffbhcflacImplAC
namespace Go.Proofs.Ytbdaaeffbhcflac
open Go.RowKit

theorem info_strT : (Try.prog.info? 9).map (fun i => (i.zero, i.size, i.bytes)) = some (some (.string ByteArray.empty), 1, 16) := by kernel_rfl
theorem dg_no : ∀ i : Fin 16, (dg i.val == 32) = false := by decide +kernel
theorem hexL_no (r : List Int) : (hexL r).contains 32 = false ∨ ∃ z ∈ r, ¬ IsB z := by
  induction r with
  | nil => left; rfl
  | cons z r ih =>
    by_cases hz : IsB z
    · rcases ih with h | ⟨y, hy, hb⟩
      · left
        have e : hexL (z :: r) = dg (z.toNat / 16) :: dg (z.toNat % 16) :: hexL r := rfl
        obtain ⟨h1, h2⟩ := hz
        have a1 := dg_no ⟨z.toNat / 16, by omega⟩
        have a2 := dg_no ⟨z.toNat % 16, by omega⟩
        rw [e, List.contains_cons, List.contains_cons, h]
        simp only [Bool.or_false, Bool.or_eq_false_iff]
        refine ⟨?_, ?_⟩
        · rw [Bool.beq_comm]; exact a1
        · rw [Bool.beq_comm]; exact a2
      · right; exact ⟨y, by simp [hy], hb⟩
    · right; exact ⟨z, by simp, hz⟩
theorem hex_join {m : List (List Int)} (hok : MemOK m) (hz : ∀ r ∈ m, ∀ z ∈ r, IsB z) (h0 : m.length ≠ 0) : joinV (m.map hexB) ⟨#[32]⟩ = .tuple #[.string (memT m), .bool true] := by
  have e : jl 32 (m.map hexB) = preT m m.length := by
    have h := preT_jl m m.length (Nat.le_refl _)
    rw [h, List.take_of_length_le (by simp)]
  have hl : (jl 32 (m.map hexB)).length ≤ 4000 := by
    have h := preT_len hok.2 m.length (Nat.le_refl _)
    have := hok.1
    rw [e]
    omega
  have hj : joinOk (m.map hexB) 32 = true := joinOk_yes (fun i h => by
    have hi : i < m.length := by simpa using h
    have hg : (m.map hexB)[i] = hexB m[i] := by simp
    rw [hg]
    unfold stands hexB
    rcases hexL_no m[i] with h | ⟨z, hz1, hz2⟩
    · simpa using h
    · exact absurd (hz m[i] (List.getElem_mem hi) z hz1) hz2) (by simp; omega) hl
  rw [joinV_yes hj, e, memT, if_neg h0]

set_option maxRecDepth 100000 in
set_option maxHeartbeats 1600000 in
theorem implMemoryText_calls (A : Option Addr) (c : Nat) (m : List (List Int)) (w : World) (hr : Rd2 w w.heap.size A m) (hn : m.length ≤ maxLen) (hz : ∀ r ∈ m, ∀ z ∈ r, IsB z) :
    Calls Try.prog 8 #[.agg #[.slice A m.length c]] w fun e w' => e = .returned (textV m) ∧ Below w.heap.size w w' := by
  obtain ⟨i0, hi0, hz0, hz1, hz2⟩ := info_parts info_strT
  obtain ⟨w0, hw0⟩ : ∃ w0, w.alloc (.cells #[.slice A m.length c] 28) = w0 := ⟨_, rfl⟩
  have hb0 : Below w.heap.size w w0 := by rw [← hw0]; exact (Below.refl _ _).alloc (Nat.le_refl _) _
  have hg0 : w0.heap[w.heap.size]? = some (.cells #[.slice A m.length c] 28) := by rw [← hw0]; exact heap_alloc_new _ _
  have HC := Lib.hid (implIsMemory_calls A c m w0 ((hr.below hb0).more hb0.size) hn)
  have HR := Lib.hid hr
  have HB := Lib.hid hb0
  have HW := Lib.hid hw0
  have HG := Lib.hid hg0
  have HZ := Lib.hid hz
  have c1 := one_cell hg0
  clear hr hb0 hw0 hg0 hz
  go_enter Try.func8, Try.ntmps8
  go_wp2_with fail
  rw [HW.out]
  refine HC.out.mono ?_
  rintro e w2 ⟨rfl, hb2⟩
  have HB2 := Lib.hid (HB.out.trans (hb2.mono HB.out.size))
  have HG2 := Lib.hid ((hb2.block _ (Array.getElem?_eq_some_iff.1 HG.out).1).trans HG.out)
  clear c1 hb2
  have c1 := one_cell HG2.out
  by_cases hm : MemOK m
  · rw [show decide (MemOK m) = true from decide_eq_true hm]
    by_cases h0 : m.length = 0
    · have e0 : ((m.length : Int) == 0) = true := by rw [h0]; rfl
      have HV : Hid (textV m = .tuple #[.string ⟨#[110, 111, 110, 101]⟩, .bool true]) := Lib.hid (by rw [textV, if_pos hm, memT, if_pos h0])
      clear hm h0
      go_wp2_with fail
      go_ret2
      exact ⟨by rw [HV.out]; rfl, HB2.out⟩
    · have e0 : ((m.length : Int) == 0) = false := by simpa using h0
      have h16 := hm.1
      have HV : Hid (textV m = .tuple #[.string (memT m), .bool true]) := Lib.hid (by rw [textV, if_pos hm])
      have HJ := Lib.hid (hex_join hm HZ.out h0)
      have HOK := Lib.hid hm.2
      have hl2 := HB2.out.size
      obtain ⟨w3, hrun, hown, hg⟩ := run_make_full (P := Try.prog) w2 w2.heap.size 40 9 i0 _ 1 Try.underlying40 hi0 hz0 hz1 .i64 .i64 m.length (by rw [hz2]; omega) (by simp only [maxLen]; omega) (Nat.le_refl _)
      rw [show (madeCells (Value.string ByteArray.empty).cells (m.length * 1)).toList = List.replicate m.length (.string ByteArray.empty) by rw [Nat.mul_one]; exact toList_madeCells_one _ _] at hown
      have hb3 : Below w2.heap.size w2 w3 := (Below.refl _ _).grown hg (Nat.le_refl _) (by simp)
      have HO3 := Lib.hid hown
      have HB3 := Lib.hid (HB2.out.trans (hb3.mono HB2.out.size))
      have HG3 := Lib.hid ((hb3.block _ (Array.getElem?_eq_some_iff.1 HG2.out).1).trans HG2.out)
      have c3 := one_cell HG3.out
      have hl3 := hb3.size
      have hlw := (Array.getElem?_eq_some_iff.1 HG2.out).1
      have HTL := Lib.hid (show (m.map hexB).length = m.length by simp)
      have HTG := Lib.hid (fun k (h : k < m.length) => show (m.map hexB)[k]'(by simpa using h) = hexB m[k] by simp)
      clear hown hg hb3 hm h0
      go_wp2_with fail
      clear hrun
      go_loopw [21] (fun i wr => ∃ k : Nat, k ≤ m.length ∧ i = .int .i64 k ∧ wr.ownsRow w2.heap.size 9 1 (.slice (some ⟨w2.heap.size, 0, none⟩) m.length m.length) m.length (strV ((m.map hexB).take k) ++ List.replicate (m.length - k) (.string ByteArray.empty)) ∧ Below w.heap.size w wr) (fun i _ => m.length - (intOf i).toNat)
      case atStart => exact ⟨0, Nat.zero_le _, rfl, by simpa [strV] using HO3.out, HB3.out⟩
      case round =>
        obtain ⟨k, hk, rfl, ho, hb⟩ := hrel
        have HO := Lib.hid ho
        have HBR := Lib.hid hb
        have hbs := hb.size
        by_cases hlt : k < m.length
        · obtain ⟨b, off, Ai, ci, rfl, hbb, hc, hci, hcm, hri⟩ := ((HR.out).below hb).at_ hlt
          obtain ⟨hr1, hr2⟩ := HOK.out m[k] (List.getElem_mem hlt)
          have HH := Lib.hid (hexText_calls Ai ci m[k] wr (hri.more hb.size) hr1 hr2 (HZ.out m[k] (List.getElem_mem hlt)))
          have hstp := fill_str (z := .string ByteArray.empty) (m.map hexB) k (by rw [HTL.out]; exact hlt)
          simp only [List.length_map, List.getElem_map] at hstp
          have HST := Lib.hid hstp
          clear ho hb hri hstp
          generalize hexB m[k] = T at *
          go_wp2_with fail
          refine HH.out.mono ?_
          rintro e w4 ⟨rfl, hb4⟩
          have ho4 := own_below HO.out hb4
          have hf4 := ho4.frozenAt k
          have hlt4 : k < (strV ((m.map hexB).take k) ++ List.replicate (m.length - k) (Value.string ByteArray.empty)).length := by simp [strV]; omega
          obtain ⟨u, hd4⟩ : ∃ u, w4.cell? ⟨w2.heap.size, k, none⟩ = some u := ⟨_, by rw [ho4.cellAt k (by omega), List.getElem?_eq_getElem hlt4]⟩
          have hst := ho4.stored k (.string T)
          rw [HST.out] at hst
          have HON := Lib.hid hst.1
          have HBN := Lib.hid ((HBR.out.trans (hb4.mono HBR.out.size)).setCell (p := ⟨w2.heap.size, k, none⟩) (by simp; omega) (.string T))
          clear hst ho4 hb4
          go_wp2_with fail
          go_roundw
          case rel => exact ⟨k + 1, by omega, by go_num, HON.out, HBN.out⟩
          case measure => first | (simp [intOf]; done) | (simp [intOf]; omega)
        · obtain rfl : k = m.length := by omega
          have hoe : wr.ownsRow w2.heap.size 9 1 (.slice (some ⟨w2.heap.size, 0, none⟩) m.length m.length) m.length (strV (m.map hexB)) := by
            have h := ho
            rw [Nat.sub_self, List.replicate_zero, List.append_nil, List.take_of_length_le (by simp)] at h
            exact h
          have HJN : Hid (Calls Try.prog 20 #[.slice (some ⟨w2.heap.size, 0, none⟩) m.length m.length, .string ⟨#[32]⟩] wr fun e w' => e = .returned (.tuple #[.string (memT m), .bool true]) ∧ Below wr.heap.size wr w') := Lib.hid (by
            have h := implJoin_calls (some ⟨w2.heap.size, 0, none⟩) m.length (m.map hexB) ⟨#[32]⟩ wr (Rd.of_own hoe) (by simp) (by simp; omega) (fun z hz => by
              obtain ⟨r, hr, rfl⟩ := List.mem_map.1 hz
              have h := (HOK.out r hr).2
              show (hexL r).toArray.size ≤ 1048576
              simp [hexL_len]
              omega) (by simp only [maxLen]; show 1 ≤ _; omega)
            rw [HTL.out, HJ.out] at h
            exact h)
          clear ho hb hoe
          generalize memT m = T at *
          go_wp2_with fail
          refine HJN.out.mono ?_
          rintro e w5 ⟨rfl, hb5⟩
          have HB5 := Lib.hid (HBR.out.trans (hb5.mono HBR.out.size))
          clear hb5
          go_wp2_with fail
          go_ret2
          exact ⟨by rw [HV.out]; rfl, HB5.out⟩
  · rw [show decide (MemOK m) = false from decide_eq_false hm]
    have HV : Hid (textV m = .tuple #[.string ByteArray.empty, .bool false]) := Lib.hid (by rw [textV, if_neg hm])
    clear hm
    go_wp2_with fail
    go_ret2
    exact ⟨by rw [HV.out]; rfl, HB2.out⟩
end Go.Proofs.Ytbdaaeffbhcflac
