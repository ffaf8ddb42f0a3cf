/-
  FindByte of spec and impl.
-/
import Derived.Test.YtbdaaeffbhcflabImplC
import Derived.Test.YtbdaaeffbhcflabShelf
import Derived.Lib.Bytealg
namespace Go.Proofs.Ytbdaaeffbhcflab
open Go.RowKit

/-- Numbers that are bytes. -/
def IsB (z : Int) : Prop := 0 ≤ z ∧ z ≤ 255
theorem isB_of {z : Int} (h : (Lit.int .u8 z).wf = true) : IsB z := by unfold IsB; simpa [Lit.wf, IntKind.min, IntKind.max, IntKind.signed, IntKind.bits] using h
theorem u8_eq {z b : Int} (hz : IsB z) (hb : IsB b) : (UInt8.ofNat z.toNat == b.toNat.toUInt8) = decide (z = b) := by
  have e : (UInt8.ofNat z.toNat = b.toNat.toUInt8) ↔ z = b := by
    rw [← UInt8.toNat_inj]
    obtain ⟨h1, h2⟩ := hz
    obtain ⟨h3, h4⟩ := hb
    simp
    omega
  rw [Bool.eq_iff_iff]
  simp [e]
theorem find_hit (b : Int) (hb : IsB b) : ∀ (xs : List Int) (i : Nat), (∀ z ∈ xs, IsB z) → xs[i]? = some b → (∀ j, j < i → xs[j]? ≠ some b) → Lib.indexByte (Lib.bytesOf xs) b.toNat.toUInt8 = i
  | [], i, _, h, _ => by simp at h
  | z :: xs, i, hz, h, hn => by
    show Lib.indexByte (UInt8.ofNat z.toNat :: Lib.bytesOf xs) b.toNat.toUInt8 = i
    unfold Lib.indexByte
    rw [u8_eq (hz z (by simp)) hb]
    cases i with
    | zero =>
      have : z = b := by simpa using h
      simp [this]
    | succ i =>
      have hne : z ≠ b := fun e => hn 0 (by omega) (by simp [e])
      have ih := find_hit b hb xs i (fun y hy => hz y (by simp [hy])) (by simpa using h) (fun j hj => by have := hn (j + 1) (by omega); simpa using this)
      rw [ih]
      simp [hne]
theorem find_none (b : Int) (hb : IsB b) : ∀ (xs : List Int), (∀ z ∈ xs, IsB z) → (∀ z ∈ xs, z ≠ b) → Lib.indexByte (Lib.bytesOf xs) b.toNat.toUInt8 = -1
  | [], _, _ => rfl
  | z :: xs, hz, hn => by
    show Lib.indexByte (UInt8.ofNat z.toNat :: Lib.bytesOf xs) b.toNat.toUInt8 = -1
    unfold Lib.indexByte
    rw [u8_eq (hz z (by simp)) hb, find_none b hb xs (fun y hy => hz y (by simp [hy])) (fun y hy => hn y (by simp [hy]))]
    simp [hn z (by simp)]
theorem wb_isB {m : List (List Int)} {n s l : Nat} (hn : n < m.length) (hz : ∀ r ∈ m, ∀ z ∈ r, IsB z) : ∀ z ∈ wb m n s l, IsB z := fun z h => by
  rw [wb_eq hn] at h
  exact hz _ (List.getElem_mem hn) z (List.mem_of_mem_drop (List.mem_of_mem_take h))

def findV (m : List (List Int)) (x : Win) (b : Int) : Value :=
  if WinOK m x then .tuple #[.int .i64 (Lib.indexByte (Lib.bytesOf (wb m x.arr.toNat x.start.toNat x.len.toNat)) b.toNat.toUInt8), .bool true] else .tuple #[.int .i64 0, .bool false]
set_option maxRecDepth 100000 in
set_option maxHeartbeats 800000 in
theorem implFindByte_calls (A : Option Addr) (cm : Nat) (m : List (List Int)) (x : Win) (b : Int) (w : World) (hr : Rd2 w w.heap.size A m) (hn : m.length ≤ maxLen) (hx : WArg x) :
    Calls Try.prog 43 #[.agg #[.slice A m.length cm], .agg #[.int .i64 x.arr, .int .i64 x.start, .int .i64 x.len, .int .i64 x.cap], .int .u8 b] w fun e w' => e = .returned (findV m x b) ∧ Below w.heap.size w w' := by
  obtain ⟨w0, hw0, hb0, hz0, hmw⟩ := enterMW A m.length cm x.arr x.start x.len x.cap w
  have HC := Lib.hid (areOne_calls A cm m x w0 ((hr.below hb0).more hb0.size) hn hx (w.heap.size + 1 + 1) (by omega))
  have HB := Lib.hid hb0
  have HR := Lib.hid hr
  have HW := Lib.hid hw0
  have HMW := Lib.hid hmw
  have hrb := run_win1
  clear hr hb0 hmw hw0
  go_enter Try.func43, Try.ntmps43
  go_wp2_with fail
  rw [HW.out]
  clear hrb
  refine HC.out.mono ?_
  rintro e w2 ⟨rfl, hb2⟩
  have HB2 := Lib.hid (HB.out.trans (hb2.mono HB.out.size))
  have hmw2 := HMW.out.below hb2
  have c1 := one_cell hmw2.mem
  obtain ⟨d0, d1, d2, d3⟩ := four_cells hmw2.win
  clear hb2 hmw2
  by_cases hm : WinOK m x
  · have hd : decide (WinOK m x) = true := decide_eq_true hm
    obtain ⟨n, s, l, c, rfl, hnl, hlc, hsc, h1, h64, h16⟩ := hm.nat
    have HV := Lib.hid (show findV m ⟨n, s, l, c⟩ b = .tuple #[.int .i64 (Lib.indexByte (Lib.bytesOf (wb m n s l)) b.toNat.toUInt8), .bool true] by rw [findV, if_pos hm]; rfl)
    clear hm
    dsimp only at *
    have HS := Lib.hid (seenR_calls A cm m n s l c w2 ((HR.out.below HB2.out).more HB2.out.size) hnl h16 hlc hsc h1 h64)
    have hlen : (wb m n s l).length = l := wb_len hnl (by omega)
    have HLEN := Lib.hid hlen
    go_wp2_with fail
    refine HS.out.mono ?_
    rintro e w3 ⟨⟨⟨bb, bo, bs⟩, hb, hsp, rfl, hrd⟩, hb3⟩
    obtain rfl : bs = none := hsp
    have HB3 := Lib.hid (HB2.out.trans (hb3.mono HB2.out.size))
    have HF := Lib.hid (Try.bytes_IndexByte bb bo l c (wb m n s l) b w3 hlen (fun i hi => by
      obtain ⟨b2, off2, e2, hbb2, hc2⟩ := (hrd.below hb3).int (i := i) (by rw [hlen]; exact hi)
      injection e2 with e2; injection e2 with e2 e3; subst e2; subst e3
      rw [hc2, List.getD_eq_getElem?_getD, List.getElem?_eq_getElem (by rw [hlen]; exact hi)]
      rfl))
    clear hrd hb3 hlen hb
    generalize Lib.indexByte (Lib.bytesOf (wb m n s l)) b.toNat.toUInt8 = q at *
    go_wp2_with fail
    refine HF.out.mono ?_
    rintro e w4 ⟨rfl, rfl⟩
    go_wp2_with fail
    go_ret2
    exact ⟨HV.out.symm ▸ rfl, HB3.out⟩
  · have hd : decide (WinOK m x) = false := decide_eq_false hm
    have HV : Hid (findV m x b = .tuple #[.int .i64 0, .bool false]) := Lib.hid (by rw [findV, if_neg hm])
    clear hm
    go_wp2_with fail
    go_ret2
    exact ⟨HV.out.symm ▸ rfl, HB2.out⟩

set_option maxRecDepth 100000 in
set_option maxHeartbeats 1600000 in
theorem specFindByte_calls (A : Option Addr) (cm : Nat) (m : List (List Int)) (x : Win) (b : Int) (w : World) (hr : Rd2 w w.heap.size A m) (hn : m.length ≤ maxLen) (hz : ∀ r ∈ m, ∀ z ∈ r, IsB z) (hb : IsB b) :
    Calls Try.prog 42 #[.agg #[.slice A m.length cm], .agg #[.int .i64 x.arr, .int .i64 x.start, .int .i64 x.len, .int .i64 x.cap], .int .u8 b] w fun e w' => e = .returned (findV m x b) ∧ Below w.heap.size w w' := by
  obtain ⟨w0, hw0, hb0, hz0, hmw⟩ := enterMW A m.length cm x.arr x.start x.len x.cap w
  have HC := Lib.hid (specWindow_calls A cm m x w0 ((hr.below hb0).more hb0.size) hn)
  have HB := Lib.hid hb0
  have HR := Lib.hid hr
  have HW := Lib.hid hw0
  have HMW := Lib.hid hmw
  have HZ := Lib.hid hz
  have HBB := Lib.hid hb
  clear hr hb0 hmw hw0 hz hb
  go_enter Try.func42, Try.ntmps42
  go_wp2_with fail
  rw [HW.out]
  refine HC.out.mono ?_
  rintro e w2 ⟨rfl, hb2⟩
  have HB2 := Lib.hid (HB.out.trans (hb2.mono HB.out.size))
  have hmw2 := HMW.out.below hb2
  have HMW2 := Lib.hid hmw2
  clear hb2 hmw2
  by_cases hm : WinOK m x
  · have hd : decide (WinOK m x) = true := decide_eq_true hm
    obtain ⟨n, s, l, c, rfl, hnl, hlc, hsc, h1, h64, h16⟩ := hm.nat
    have HV := Lib.hid (show findV m ⟨n, s, l, c⟩ b = .tuple #[.int .i64 (Lib.indexByte (Lib.bytesOf (wb m n s l)) b.toNat.toUInt8), .bool true] by rw [findV, if_pos hm]; rfl)
    clear hm
    dsimp only at *
    have HLEN := Lib.hid (show (wb m n s l).length = l from wb_len hnl (by omega))
    have HIS := Lib.hid (wb_isB (s := s) (l := l) hnl HZ.out)
    rw [hd]
    clear hd
    go_wp2_with fail
    go_loopw [8] (fun i wr => ∃ j : Nat, j ≤ l ∧ i = .int .i64 j ∧ (∀ k, k < j → (wb m n s l)[k]? ≠ some b) ∧ Below w2.heap.size w2 wr) (fun i _ => l - (intOf i).toNat)
    case atStart => exact ⟨0, Nat.zero_le _, rfl, fun k hk => by omega, Below.refl _ _⟩
    case round =>
      obtain ⟨j, hj, rfl, ht, hbr⟩ := hrel
      have HT := Lib.hid ht
      have HBR := Lib.hid hbr
      have hmw3 := HMW2.out.below hbr
      have c1 := one_cell hmw3.mem
      obtain ⟨d0, d1, d2, d3⟩ := four_cells hmw3.win
      clear ht hbr hmw3
      by_cases hlt : j < l
      · have hsj : s + j < m[n].length := by omega
        have HS := Lib.hid (specAt_calls A cm m n s j l c wr ((HR.out.below (HB2.out.trans (HBR.out.mono HB2.out.size))).more (Nat.le_trans HB2.out.size HBR.out.size)) hnl h16 hsj h64)
        have HG := Lib.hid (show (wb m n s l)[j]? = some m[n][s + j] by rw [List.getElem?_eq_getElem (by rw [HLEN.out]; exact hlt), wb_get hnl _ hsj])
        generalize m[n][s + j] = q at *
        go_wp2_with fail
        refine HS.out.mono ?_
        rintro e w5 ⟨rfl, hb5⟩
        have HB5 := Lib.hid (HBR.out.trans (hb5.mono HBR.out.size))
        clear hb5
        by_cases he : q = b
        · have hqb : (q == b) = true := by simp [he]
          have HQ := Lib.hid (find_hit b HBB.out (wb m n s l) j HIS.out (by rw [HG.out, he]) HT.out)
          clear he
          go_wp2_with fail
          go_ret2
          exact ⟨by rw [HV.out, HQ.out]; rfl, HB2.out.trans (HB5.out.mono HB2.out.size)⟩
        · have hqb : (q == b) = false := by simp [he]
          have HT2 : Hid (∀ k, k < j + 1 → (wb m n s l)[k]? ≠ some b) := Lib.hid fun k hk => by
            rcases Nat.lt_or_ge k j with h | h
            · exact HT.out k h
            · obtain rfl : k = j := by omega
              rw [HG.out]; simpa using he
          clear he
          go_wp2_with fail
          go_roundw
          case rel => exact ⟨j + 1, by omega, by go_num, HT2.out, HB5.out⟩
          case measure => simp [intOf]; omega
      · obtain rfl : j = l := by omega
        have HQ := Lib.hid (find_none b HBB.out (wb m n s j) HIS.out (fun z hz e => by
          obtain ⟨k, hk, hk2⟩ := List.getElem_of_mem hz
          refine HT.out k (by rw [HLEN.out] at hk; exact hk) ?_
          rw [List.getElem?_eq_getElem hk, hk2, e]))
        go_wp2_with fail
        go_ret2
        exact ⟨by rw [HV.out, HQ.out]; rfl, HB2.out.trans (HBR.out.mono HB2.out.size)⟩
  · have hd : decide (WinOK m x) = false := decide_eq_false hm
    have HV : Hid (findV m x b = .tuple #[.int .i64 0, .bool false]) := Lib.hid (by rw [findV, if_neg hm])
    clear hm
    go_wp2_with fail
    go_ret2
    exact ⟨HV.out.symm ▸ rfl, HB2.out⟩
end Go.Proofs.Ytbdaaeffbhcflab
