/-
  The text of a memory: l2Text and MemoryText of spec.
-/
import Derived.Test.YtbdaaeffbhcflacHex
import Derived.Test.YtbdaaeffbhcflacJoinM
namespace Go.Proofs.Ytbdaaeffbhcflac
open Go.RowKit

/-- Numbers that are bytes. -/
def IsB (z : Int) : Prop := 0 ≤ z ∧ z ≤ 255
theorem isB_of {z : Int} (h : (Lit.int .u8 z).wf = true) : IsB z := by unfold IsB; simpa [Lit.wf, IntKind.min, IntKind.max, IntKind.signed, IntKind.bits] using h
/-- The text of the first rows. -/
def preT (m : List (List Int)) : Nat → List UInt8
  | 0 => []
  | a + 1 => (if a = 0 then preT m a else preT m a ++ [32]) ++ hexL (m.getD a [])
theorem preT_len {m : List (List Int)} (h : ∀ r ∈ m, 1 ≤ r.length ∧ r.length ≤ 64) : ∀ a, a ≤ m.length → (preT m a).length ≤ 129 * a
  | 0, _ => by simp [preT]
  | a + 1, ha => by
    have ih := preT_len h a (by omega)
    have e : m.getD a [] = m[a] := by rw [List.getD_eq_getElem?_getD, List.getElem?_eq_getElem (by omega)]; rfl
    have hr := h m[a] (List.getElem_mem (by omega))
    unfold preT
    rw [e, List.length_append, hexL_len]
    split
    · omega
    · rw [List.length_append]
      simp only [List.length_cons, List.length_nil]
      omega
theorem preT_jl (m : List (List Int)) : ∀ a, a ≤ m.length → preT m a = jl 32 ((m.map hexB).take a)
  | 0, _ => by simp [preT, jl, Lib.join_nil]
  | a + 1, ha => by
    have ih := preT_jl m a (by omega)
    have e : m.getD a [] = m[a] := by rw [List.getD_eq_getElem?_getD, List.getElem?_eq_getElem (by omega)]; rfl
    have hl : a < (m.map hexB).length := by simp; omega
    have hg : (m.map hexB)[a].data.toList = hexL m[a] := by simp [hexB]
    unfold preT
    rw [e]
    by_cases h0 : a = 0
    · subst h0
      rw [if_pos rfl]
      cases m with
      | nil => simp at ha
      | cons r q => simp [preT, jl_one, hexB]
    · rw [if_neg h0, jl_snoc 32 _ a hl (by omega), ih, hg]
theorem str1 (l : List UInt8) (a : UInt8) : (ByteArray.mk l.toArray ++ ⟨#[a]⟩ : ByteArray) = ⟨(l ++ [a]).toArray⟩ := by
  apply ByteArray.ext
  simp
theorem str2 (l : List UInt8) (a b : UInt8) : (ByteArray.mk l.toArray ++ ⟨#[a]⟩ ++ ⟨#[b]⟩ : ByteArray) = ⟨(l ++ [a, b]).toArray⟩ := by
  apply ByteArray.ext
  simp
/-- The text of a memory. -/
def memT (m : List (List Int)) : ByteArray := if m.length = 0 then ⟨#[110, 111, 110, 101]⟩ else ⟨(preT m m.length).toArray⟩
/-- A row's text begun. -/
def rowT (m : List (List Int)) (a i : Nat) (r : List Int) : List UInt8 := (if a = 0 then preT m a else preT m a ++ [32]) ++ hexL (r.take i)

set_option maxRecDepth 100000 in
set_option maxHeartbeats 3200000 in
theorem specText_calls (A : Option Addr) (c : Nat) (m : List (List Int)) (w : World) (hr : Rd2 w w.heap.size A m) (hok : MemOK m) (hz : ∀ r ∈ m, ∀ z ∈ r, IsB z) :
    Calls Try.prog 16 #[.agg #[.slice A m.length c]] w fun e w' => e = .returned (.string (memT m)) ∧ Below w.heap.size w w' := by
  obtain ⟨w0, hw0⟩ : ∃ w0, w.alloc (.cells #[.slice A m.length c] 28) = w0 := ⟨_, rfl⟩
  have hb0 : Below w.heap.size w w0 := by rw [← hw0]; exact (Below.refl _ _).alloc (Nat.le_refl _) _
  have hg0 : w0.heap[w.heap.size]? = some (.cells #[.slice A m.length c] 28) := by rw [← hw0]; exact heap_alloc_new _ _
  have HR := Lib.hid ((hr.below hb0).more hb0.size)
  have HB := Lib.hid hb0
  have HW := Lib.hid hw0
  have HG := Lib.hid hg0
  have HGL := Lib.hid (Array.getElem?_eq_some_iff.1 hg0).1
  have HZ := Lib.hid hz
  have HOK := Lib.hid hok.2
  have h16 := hok.1
  clear hr hb0 hw0 hg0 hz hok
  go_enter Try.func16, Try.ntmps16
  go_wp2_with fail
  rw [HW.out]
  go_loopw [3, 4] (fun s a wr => ∃ k : Nat, k ≤ m.length ∧ a = .int .i64 k ∧ s = .string ⟨(preT m k).toArray⟩ ∧ Below w0.heap.size w0 wr) (fun _ a _ => m.length - (intOf a).toNat)
  case atStart => exact ⟨0, Nat.zero_le _, rfl, rfl, Below.refl _ _⟩
  case round =>
    obtain ⟨k, hk, rfl, rfl, hbr⟩ := hrel
    have HBR := Lib.hid hbr
    have c1 := one_cell ((hbr.block _ HGL.out).trans HG.out)
    have hsz : (ByteArray.mk (preT m k).toArray).size ≤ 3000 := by
      have h := preT_len HOK.out k hk
      show (preT m k).toArray.size ≤ 3000
      simp
      omega
    by_cases hlt : k < m.length
    · obtain ⟨b, off, Ai, ci, rfl, hbb, hc, hci, hcm, hri⟩ := HR.out.at_ hlt
      obtain ⟨hr1, hr2⟩ := HOK.out m[k] (List.getElem_mem hlt)
      have e1 := (hbr.cell (p := ⟨b, off + k, none⟩) hbb).trans hc
      have e0 := hc
      have HRI := Lib.hid hri
      have HZK := Lib.hid (HZ.out m[k] (List.getElem_mem hlt))
      have hstep : preT m (k + 1) = rowT m k m[k].length m[k] := by
        have e : m.getD k [] = m[k] := by rw [List.getD_eq_getElem?_getD, List.getElem?_eq_getElem hlt]; rfl
        show (if k = 0 then preT m k else preT m k ++ [32]) ++ hexL (m.getD k []) = _
        unfold rowT
        rw [e, List.take_length]
      have HST := Lib.hid hstep
      have hstart : rowT m k 0 m[k] = if k = 0 then preT m k else preT m k ++ [32] := by simp [rowT, hexL]
      have HS0 := Lib.hid hstart
      have HNX := Lib.hid (fun i (hi : i < m[k].length) => show rowT m k (i + 1) m[k] = rowT m k i m[k] ++ [dg (m[k][i].toNat / 16), dg (m[k][i].toNat % 16)] by unfold rowT; rw [hexL_snoc _ _ hi, List.append_assoc])
      have HRS := Lib.hid (fun i (hi : i ≤ m[k].length) => show (rowT m k i m[k]).length ≤ 3000 by
        have h := preT_len HOK.out k hk
        unfold rowT
        rw [List.length_append, hexL_len, List.length_take]
        split
        · omega
        · rw [List.length_append]; simp only [List.length_cons, List.length_nil]; omega)
      clear hc hri hstep hstart hbr
      generalize hrow : m[k] = row at *
      have HE1 := Lib.hid e0
      clear e1 e0
      by_cases h0 : k = 0
      · have HS1 : Hid (rowT m k 0 row = preT m k) := Lib.hid (by rw [HS0.out, if_pos h0])
        have hk0 : ¬ (0 : Int) < (k : Int) := by omega
        clear h0
        go_wp2_with fail
        go_loopw [3, 5] (fun s i wr => ∃ j : Nat, j ≤ row.length ∧ i = .int .i64 j ∧ s = .string ⟨(rowT m k j row).toArray⟩ ∧ Below w0.heap.size w0 wr) (fun _ i _ => row.length - (intOf i).toNat)
        case atStart => exact ⟨0, Nat.zero_le _, rfl, by rw [HS1.out], HBR.out⟩
        case round =>
          obtain ⟨j, hj, rfl, rfl, hb2⟩ := hrel
          have HB2 := Lib.hid hb2
          have c1 := one_cell ((hb2.block _ HGL.out).trans HG.out)
          have e1 := (hb2.cell (p := ⟨b, off + k, none⟩) hbb).trans HE1.out
          clear hb2
          have hs2 : (ByteArray.mk (rowT m k j row).toArray).size ≤ 3000 := by
            have h := HRS.out j hj
            show (rowT m k j row).toArray.size ≤ 3000
            simpa using h
          by_cases hltj : j < row.length
          · obtain ⟨b2, off2, rfl, hbb2, hc2⟩ := HRI.out.int hltj
            have e2 := (HB2.out.cell (p := ⟨b2, off2 + j, none⟩) hbb2).trans hc2
            have hzb := HZK.out row[j] (List.getElem_mem hltj)
            have HN2 := Lib.hid (HNX.out j hltj)
            clear hc2
            obtain ⟨z, hz⟩ : ∃ z : Nat, row[j] = z := ⟨row[j].toNat, by have := hzb.1; omega⟩
            rw [hz] at e2 hzb HN2
            have hz1 : z ≤ 255 := by have := hzb.2; omega
            have z0 : (0 : Int) ≤ (z : Int) := by omega
            have z1 : (z : Int) ≤ 255 := by omega
            have HX1 : Hid (∀ W, Calls Try.prog 30 #[.int .i64 ((z / 16 : Nat) : Int)] W fun e w' => e = .returned (.string ⟨#[dg (z / 16)]⟩) ∧ w' = W) := Lib.hid fun W => (specHex_calls (z / 16) (by omega) W).mono (by rintro e w' ⟨rfl, rfl⟩; exact ⟨rfl, rfl⟩)
            have HX2 : Hid (∀ W, Calls Try.prog 30 #[.int .i64 ((z % 16 : Nat) : Int)] W fun e w' => e = .returned (.string ⟨#[dg (z % 16)]⟩) ∧ w' = W) := Lib.hid fun W => (specHex_calls (z % 16) (by omega) W).mono (by rintro e w' ⟨rfl, rfl⟩; exact ⟨rfl, rfl⟩)
            have q0 : (z : Int).tdiv 16 = ((z / 16 : Nat) : Int) := (Int.tdiv_eq_ediv_of_nonneg (by omega)).trans (by omega)
            have q1 : (z : Int).tmod 16 = ((z % 16 : Nat) : Int) := (Int.tmod_eq_emod_of_nonneg (by omega)).trans (by omega)
            have zw : IntKind.i64.wrap (z : Int) = z := by simp [IntKind.wrap, IntKind.bits, IntKind.signed]; omega
            have zw1 : IntKind.i64.wrap ((z / 16 : Nat) : Int) = ((z / 16 : Nat) : Int) := by simp [IntKind.wrap, IntKind.bits, IntKind.signed]; omega
            have zw2 : IntKind.i64.wrap ((z % 16 : Nat) : Int) = ((z % 16 : Nat) : Int) := by simp [IntKind.wrap, IntKind.bits, IntKind.signed]; omega
            have HT2 : Hid ((ByteArray.mk (rowT m k j row).toArray ++ ⟨#[dg (z / 16)]⟩ ++ ⟨#[dg (z % 16)]⟩ : ByteArray) = ⟨(rowT m k (j + 1) row).toArray⟩) := Lib.hid (by rw [HN2.out, str2]; simp)
            have s1 : (ByteArray.mk #[dg (z / 16)]).size = 1 := rfl
            have s2 : (ByteArray.mk #[dg (z % 16)]).size = 1 := rfl
            clear HN2
            generalize (ByteArray.mk #[dg (z / 16)]) = G1 at *
            generalize (ByteArray.mk #[dg (z % 16)]) = G2 at *
            generalize (ByteArray.mk (rowT m k j row).toArray) = T at *
            generalize (z / 16 : Nat) = za at *
            generalize (z % 16 : Nat) = zb at *
            clear hz hzb
            go_wp2_with fail
            go_quiet (first | (go_at_call 30; exact Calls.quiet_of_same (HX1.out _)) | (go_at_call 30; exact Calls.quiet_of_same (HX2.out _)))
            go_wp2_with fail
            go_roundw
            case rel => exact ⟨j + 1, by omega, by go_num, by rw [← HT2.out], below_drewN HB2.out _⟩
            case measure => first | (simp [intOf]; done) | (simp [intOf]; omega)
          · obtain rfl : j = row.length := by omega
            have HT3 : Hid (rowT m k row.length row = preT m (k + 1)) := Lib.hid HST.out.symm
            go_wp2_with fail
            go_roundw
            case rel => exact ⟨k + 1, by omega, by go_num, by rw [HT3.out], HB2.out⟩
            case measure => first | (simp [intOf]; done) | (simp [intOf]; omega)
      · have HS1 : Hid ((ByteArray.mk (preT m k).toArray ++ ⟨#[32]⟩ : ByteArray) = ⟨(rowT m k 0 row).toArray⟩) := Lib.hid (by rw [HS0.out, if_neg h0, str1])
        have hk0 : (0 : Int) < (k : Int) := by omega
        clear h0
        have s32 : (ByteArray.mk #[32]).size = 1 := rfl
        go_wp2_with fail
        go_loopw [3, 5] (fun s i wr => ∃ j : Nat, j ≤ row.length ∧ i = .int .i64 j ∧ s = .string ⟨(rowT m k j row).toArray⟩ ∧ Below w0.heap.size w0 wr) (fun _ i _ => row.length - (intOf i).toNat)
        case atStart => exact ⟨0, Nat.zero_le _, rfl, by rw [← HS1.out], HBR.out⟩
        case round =>
          obtain ⟨j, hj, rfl, rfl, hb2⟩ := hrel
          have HB2 := Lib.hid hb2
          have c1 := one_cell ((hb2.block _ HGL.out).trans HG.out)
          have e1 := (hb2.cell (p := ⟨b, off + k, none⟩) hbb).trans HE1.out
          clear hb2
          have hs2 : (ByteArray.mk (rowT m k j row).toArray).size ≤ 3000 := by
            have h := HRS.out j hj
            show (rowT m k j row).toArray.size ≤ 3000
            simpa using h
          by_cases hltj : j < row.length
          · obtain ⟨b2, off2, rfl, hbb2, hc2⟩ := HRI.out.int hltj
            have e2 := (HB2.out.cell (p := ⟨b2, off2 + j, none⟩) hbb2).trans hc2
            have hzb := HZK.out row[j] (List.getElem_mem hltj)
            have HN2 := Lib.hid (HNX.out j hltj)
            clear hc2
            obtain ⟨z, hz⟩ : ∃ z : Nat, row[j] = z := ⟨row[j].toNat, by have := hzb.1; omega⟩
            rw [hz] at e2 hzb HN2
            have hz1 : z ≤ 255 := by have := hzb.2; omega
            have z0 : (0 : Int) ≤ (z : Int) := by omega
            have z1 : (z : Int) ≤ 255 := by omega
            have HX1 : Hid (∀ W, Calls Try.prog 30 #[.int .i64 ((z / 16 : Nat) : Int)] W fun e w' => e = .returned (.string ⟨#[dg (z / 16)]⟩) ∧ w' = W) := Lib.hid fun W => (specHex_calls (z / 16) (by omega) W).mono (by rintro e w' ⟨rfl, rfl⟩; exact ⟨rfl, rfl⟩)
            have HX2 : Hid (∀ W, Calls Try.prog 30 #[.int .i64 ((z % 16 : Nat) : Int)] W fun e w' => e = .returned (.string ⟨#[dg (z % 16)]⟩) ∧ w' = W) := Lib.hid fun W => (specHex_calls (z % 16) (by omega) W).mono (by rintro e w' ⟨rfl, rfl⟩; exact ⟨rfl, rfl⟩)
            have q0 : (z : Int).tdiv 16 = ((z / 16 : Nat) : Int) := (Int.tdiv_eq_ediv_of_nonneg (by omega)).trans (by omega)
            have q1 : (z : Int).tmod 16 = ((z % 16 : Nat) : Int) := (Int.tmod_eq_emod_of_nonneg (by omega)).trans (by omega)
            have zw : IntKind.i64.wrap (z : Int) = z := by simp [IntKind.wrap, IntKind.bits, IntKind.signed]; omega
            have zw1 : IntKind.i64.wrap ((z / 16 : Nat) : Int) = ((z / 16 : Nat) : Int) := by simp [IntKind.wrap, IntKind.bits, IntKind.signed]; omega
            have zw2 : IntKind.i64.wrap ((z % 16 : Nat) : Int) = ((z % 16 : Nat) : Int) := by simp [IntKind.wrap, IntKind.bits, IntKind.signed]; omega
            have HT2 : Hid ((ByteArray.mk (rowT m k j row).toArray ++ ⟨#[dg (z / 16)]⟩ ++ ⟨#[dg (z % 16)]⟩ : ByteArray) = ⟨(rowT m k (j + 1) row).toArray⟩) := Lib.hid (by rw [HN2.out, str2]; simp)
            have s1 : (ByteArray.mk #[dg (z / 16)]).size = 1 := rfl
            have s2 : (ByteArray.mk #[dg (z % 16)]).size = 1 := rfl
            clear HN2
            generalize (ByteArray.mk #[dg (z / 16)]) = G1 at *
            generalize (ByteArray.mk #[dg (z % 16)]) = G2 at *
            generalize (ByteArray.mk (rowT m k j row).toArray) = T at *
            generalize (z / 16 : Nat) = za at *
            generalize (z % 16 : Nat) = zb at *
            clear hz hzb
            go_wp2_with fail
            go_quiet (first | (go_at_call 30; exact Calls.quiet_of_same (HX1.out _)) | (go_at_call 30; exact Calls.quiet_of_same (HX2.out _)))
            go_wp2_with fail
            go_roundw
            case rel => exact ⟨j + 1, by omega, by go_num, by rw [← HT2.out], below_drewN HB2.out _⟩
            case measure => first | (simp [intOf]; done) | (simp [intOf]; omega)
          · obtain rfl : j = row.length := by omega
            have HT3 : Hid (rowT m k row.length row = preT m (k + 1)) := Lib.hid HST.out.symm
            go_wp2_with fail
            go_roundw
            case rel => exact ⟨k + 1, by omega, by go_num, by rw [HT3.out], HB2.out⟩
            case measure => first | (simp [intOf]; done) | (simp [intOf]; omega)
    · obtain rfl : k = m.length := by omega
      by_cases h0 : m.length = 0
      · have HT : Hid (memT m = ⟨#[110, 111, 110, 101]⟩) := Lib.hid (by rw [memT, if_pos h0])
        have hse : ((ByteArray.mk (preT m m.length).toArray).toList == (ByteArray.mk #[]).toList) = true := by rw [h0]; simp [preT]
        go_wp2_with fail
        go_ret
        exact ⟨by rw [HT.out]; rfl, HB.out.trans (HBR.out.mono HB.out.size)⟩
      · have HT : Hid (memT m = ⟨(preT m m.length).toArray⟩) := Lib.hid (by rw [memT, if_neg h0])
        have hse : (preT m m.length).isEmpty = false := by
          have hne : preT m m.length ≠ [] := by
            obtain ⟨k, hk⟩ : ∃ k, m.length = k + 1 := ⟨m.length - 1, by omega⟩
            have hr := HOK.out m[k] (List.getElem_mem (by omega))
            have e : m.getD k [] = m[k] := by rw [List.getD_eq_getElem?_getD, List.getElem?_eq_getElem (by omega)]; rfl
            intro h
            have := congrArg List.length h
            rw [hk] at this
            unfold preT at this
            rw [e, List.length_append, hexL_len, List.length_nil] at this
            omega
          simpa using hne
        go_wp2_with fail
        go_ret
        exact ⟨by rw [HT.out]; rfl, HB.out.trans (HBR.out.mono HB.out.size)⟩

/-- What MemoryText answers. -/
def textV (m : List (List Int)) : Value := if MemOK m then .tuple #[.string (memT m), .bool true] else .tuple #[.string ByteArray.empty, .bool false]
set_option maxRecDepth 100000 in
theorem specMemoryText_calls (A : Option Addr) (c : Nat) (m : List (List Int)) (w : World) (hr : Rd2 w w.heap.size A m) (hn : m.length ≤ maxLen) (hz : ∀ r ∈ m, ∀ z ∈ r, IsB z) :
    Calls Try.prog 6 #[.agg #[.slice A m.length c]] w fun e w' => e = .returned (textV m) ∧ Below w.heap.size w w' := by
  obtain ⟨w0, hw0⟩ : ∃ w0, w.alloc (.cells #[.slice A m.length c] 28) = w0 := ⟨_, rfl⟩
  have hb0 : Below w.heap.size w w0 := by rw [← hw0]; exact (Below.refl _ _).alloc (Nat.le_refl _) _
  have hg0 : w0.heap[w.heap.size]? = some (.cells #[.slice A m.length c] 28) := by rw [← hw0]; exact heap_alloc_new _ _
  have HC := Lib.hid (specMemory_calls A c m w0 ((hr.below hb0).more hb0.size) hn)
  have HR := Lib.hid hr
  have HB := Lib.hid hb0
  have HW := Lib.hid hw0
  have HG := Lib.hid hg0
  have HZ := Lib.hid hz
  have c1 := one_cell hg0
  clear hr hb0 hw0 hg0 hz
  go_enter Try.func6, Try.ntmps6
  go_wp2_with fail
  rw [HW.out]
  refine HC.out.mono ?_
  rintro e w2 ⟨rfl, hb2⟩
  have HB2 := Lib.hid (HB.out.trans (hb2.mono HB.out.size))
  clear c1
  have c1 := one_cell ((hb2.block _ (Array.getElem?_eq_some_iff.1 HG.out).1).trans HG.out)
  clear hb2
  by_cases hm : MemOK m
  · have HV : Hid (textV m = .tuple #[.string (memT m), .bool true]) := Lib.hid (by rw [textV, if_pos hm])
    have HT := Lib.hid (specText_calls A c m w2 ((HR.out.below HB2.out).more HB2.out.size) hm HZ.out)
    rw [show decide (MemOK m) = true from decide_eq_true hm]
    clear hm
    generalize memT m = T at *
    go_wp2_with fail
    refine HT.out.mono ?_
    rintro e w3 ⟨rfl, hb3⟩
    have HB3 := Lib.hid (HB2.out.trans (hb3.mono HB2.out.size))
    clear hb3
    go_wp2_with fail
    go_ret2
    exact ⟨HV.out.symm ▸ rfl, HB3.out⟩
  · have HV : Hid (textV m = .tuple #[.string ByteArray.empty, .bool false]) := Lib.hid (by rw [textV, if_neg hm])
    rw [show decide (MemOK m) = false from decide_eq_false hm]
    clear hm
    go_wp2_with fail
    go_ret2
    exact ⟨HV.out.symm ▸ rfl, HB2.out⟩
end Go.Proofs.Ytbdaaeffbhcflac
