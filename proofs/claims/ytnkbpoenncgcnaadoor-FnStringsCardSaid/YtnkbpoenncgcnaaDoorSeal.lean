/-
  AppendChecksum, of the specification and of the program.
-/
import Derived.Test.YtnkbpoenncgcnaaDoorSum0
import Derived.Test.YtnkbpoenncgcnaaDoorJoin2
import Derived.Test.YtnkbpoenncgcnaaDoorFmt
import Derived.Test.YtnkbpoenncgcnaaDoorParseM
namespace Go.Proofs.YtnkbpoenncgcnaaDoor
open Go.RowKit

/-- The string, the mark, the decimal checksum. -/
def sealB (s : ByteArray) : ByteArray := s ++ ⟨#[35]⟩ ++ numB (sumL s.data.toList)
/-- What AppendChecksum answers. -/
def SealOk (s : ByteArray) : Prop := s.size ≤ 4000 ∧ stands s 35 = false ∧ (sealB s).size ≤ 4000
def SealOf (s o : ByteArray) (b : Bool) : Prop := (b = true ∧ SealOk s ∧ o = sealB s) ∨ (b = false ∧ ¬ SealOk s ∧ o = ByteArray.empty)
theorem sealOf_ex (s : ByteArray) : ∃ o b, SealOf s o b := by
  by_cases h : SealOk s
  · exact ⟨_, true, .inl ⟨rfl, h, rfl⟩⟩
  · exact ⟨_, false, .inr ⟨rfl, h, rfl⟩⟩
theorem sum_digs (s : ByteArray) : numB (sumL s.data.toList) = digs (sumL s.data.toList) := numB_pos (sumL_bd _).1
theorem sum_digs_size (s : ByteArray) : (numB (sumL s.data.toList)).size ≤ 6 := by
  rw [sum_digs]; exact (digs_len (by have := (sumL_bd s.data.toList).2; omega)).2
theorem sum_no_mark (s : ByteArray) : stands (numB (sumL s.data.toList)) 35 = false := by
  rw [sum_digs]
  unfold stands
  rw [Bool.eq_false_iff]
  intro h
  have := isDigs_dec (sumL s.data.toList).toNat 35 (List.contains_iff_mem.1 h)
  have e : (35 : UInt8).toNat = 35 := rfl
  omega
theorem sealB_size (s : ByteArray) : (sealB s).size = s.size + 1 + (numB (sumL s.data.toList)).size := by
  unfold sealB; rw [ByteArray.size_append, ByteArray.size_append]; rfl

theorem l1Seal_calls (s : ByteArray) (w : World) (hs : s.size ≤ 1048576) :
    Calls Tryd.prog 33 #[.string s] w fun e w' => e = .returned (.string (sealB s)) ∧ ∃ m, w' = w.drewN m := by
  have HS := Lib.hid (l1Sum_calls s w (by unfold maxLen; omega))
  obtain ⟨b0, b1⟩ := sumL_bd s.data.toList
  have HN := Lib.hid (fun W => l1Num_calls (sumL s.data.toList) W (by omega) (by omega))
  have hz := sum_digs_size s
  go_enter Tryd.func33, Tryd.ntmps33
  go_wp2_with (first | (go_at_call 40; refine HS.out.mono ?_; rintro e w' ⟨rfl, rfl⟩) | (go_at_call 25; refine (HN.out _).mono ?_; rintro e w' ⟨rfl, m, rfl⟩))
  go_ret
  exact ⟨rfl, m, rfl⟩

theorem specAppend_calls (s o : ByteArray) (b : Bool) (w : World) (hs : s.size ≤ 1048576) (h : SealOf s o b) :
    Calls Tryd.prog 17 #[.string s] w fun e w' => e = .returned (.tuple #[.string o, .bool b]) ∧ ∃ m, w' = w.drewN m := by
  by_cases h4 : s.size ≤ 4000
  · have HT := l1Stands_calls s 35 w (by unfold maxLen; omega)
    have HL := Lib.hid (fun W => l1Seal_calls s W hs)
    by_cases hst : stands s 35 = true
    · rcases h with ⟨rfl, hk, rfl⟩ | ⟨rfl, hk, rfl⟩
      · exact absurd hk.2.1 (by rw [hst]; decide)
      rw [hst] at HT
      have HT := Lib.hid HT
      clear hst hk
      go_enter Tryd.func17, Tryd.ntmps17
      go_wp2_with (go_at_call 32; refine HT.out.mono ?_; rintro e w' ⟨rfl, rfl⟩)
      go_ret2
      exact ⟨rfl, 0, rfl⟩
    · have hsf : stands s 35 = false := by simpa using hst
      rw [hsf] at HT
      have HT := Lib.hid HT
      by_cases hz : (sealB s).size ≤ 4000
      · rcases h with ⟨rfl, hk, rfl⟩ | ⟨rfl, hk, rfl⟩
        · clear hst hsf hk
          go_enter Tryd.func17, Tryd.ntmps17
          go_wp2_with (first | (go_at_call 32; refine HT.out.mono ?_; rintro e w' ⟨rfl, rfl⟩) | (go_at_call 33; refine (HL.out _).mono ?_; rintro e w' ⟨rfl, m, rfl⟩))
          go_ret2
          exact ⟨rfl, _, rfl⟩
        · exact absurd ⟨h4, hsf, hz⟩ hk
      · rcases h with ⟨rfl, hk, rfl⟩ | ⟨rfl, hk, rfl⟩
        · exact absurd hk.2.2 hz
        clear hst hsf hk
        go_enter Tryd.func17, Tryd.ntmps17
        go_wp2_with (first | (go_at_call 32; refine HT.out.mono ?_; rintro e w' ⟨rfl, rfl⟩) | (go_at_call 33; refine (HL.out _).mono ?_; rintro e w' ⟨rfl, m, rfl⟩))
        go_ret2
        exact ⟨rfl, _, rfl⟩
  · rcases h with ⟨rfl, hk, rfl⟩ | ⟨rfl, hk, rfl⟩
    · exact absurd hk.1 h4
    clear hk
    go_enter Tryd.func17, Tryd.ntmps17
    go_wp2_with fail
    go_ret2
    exact ⟨rfl, 0, rfl⟩

theorem joinV_seal (s : ByteArray) (h4 : s.size ≤ 4000) {o : ByteArray} {b : Bool} (h : SealOf s o b) : joinV [s, numB (sumL s.data.toList)] ⟨#[35]⟩ = .tuple #[.string o, .bool b] := by
  have hj : jl 35 [s, numB (sumL s.data.toList)] = (sealB s).data.toList := by
    unfold jl sealB
    simp only [List.map_cons, List.map_nil, Lib.join_cons, Lib.joinTail]
    simp
  have hl : (jl 35 [s, numB (sumL s.data.toList)]).length = (sealB s).size := by rw [hj, size_eq]
  rcases h with ⟨rfl, hk, rfl⟩ | ⟨rfl, hk, rfl⟩
  · rw [joinV_yes (joinOk_yes (fun i hi => by
      match i, hi with
      | 0, _ => exact hk.2.1
      | 1, _ => exact sum_no_mark s) (by simp) (by rw [hl]; exact hk.2.2)), hj]
  · by_cases hst : stands s 35 = true
    · exact joinV_no (joinOk_no_stands (k := 0) (by simp) hst)
    · exact joinV_no (joinOk_no_len (by
        rw [hl]
        have : ¬ (sealB s).size ≤ 4000 := fun hz => hk ⟨h4, by simpa using hst, hz⟩
        omega))

theorem implAppend_calls (s o : ByteArray) (b : Bool) (w : World) (hs : s.size ≤ 1048576) (h : SealOf s o b) (ht : Tabs w) :
    Calls Tryd.prog 16 #[.string s] w fun e w' => e = .returned (.tuple #[.string o, .bool b]) ∧ Below w.heap.size w w' := by
  have HC := implChecksum_calls s w (by unfold maxLen; omega)
  by_cases h4 : s.size ≤ 4000
  · rw [if_pos h4] at HC
    have HJ := Lib.hid (joinV_seal s h4 h)
    obtain ⟨b0, b1⟩ := sumL_bd s.data.toList
    have HF := implFormat_calls (sumL s.data.toList) w (by omega) (by omega) ht
    rw [formV_yes (by omega) (by omega)] at HF
    have HF := Lib.hid HF
    have HC := Lib.hid HC
    have hz := sum_digs_size s
    clear h ht
    go_enter Tryd.func16, Tryd.ntmps16
    go_wp2_with (first | (go_at_call 30; refine HC.out.mono ?_; rintro e w' ⟨rfl, rfl⟩) | (go_at_call 10; refine HF.out.mono ?_; rintro e w1 ⟨rfl, hb1⟩))
    have CJ : Calls Tryd.prog 31 #[.slice (some ⟨w1.heap.size, 0, none⟩) 2 2, .string ⟨#[35]⟩] (w1.alloc (.cells #[.string s, .string (numB (sumL s.data.toList))] 9)) fun e w' => e = .returned (joinV [s, numB (sumL s.data.toList)] ⟨#[35]⟩) ∧ Below (w1.alloc (.cells #[.string s, .string (numB (sumL s.data.toList))] 9)).heap.size (w1.alloc (.cells #[.string s, .string (numB (sumL s.data.toList))] 9)) w' :=
      implJoin_calls (some ⟨w1.heap.size, 0, none⟩) 2 [s, numB (sumL s.data.toList)] ⟨#[35]⟩ _ ((rd_new w1 (strV [s, numB (sumL s.data.toList)]) 9).more (by simp)) (by simp) (by simp) (fun z hz => by
        simp only [List.mem_cons, List.not_mem_nil, or_false] at hz
        rcases hz with rfl | rfl
        · exact hs
        · omega) (by show 1 ≤ maxLen; decide)
    rw [HJ.out] at CJ
    refine CJ.mono ?_
    clear CJ
    rintro e w2 ⟨rfl, hb2⟩
    have HB : Hid (Below w.heap.size w w2) := (hb1.alloc hb1.size _).trans (hb2.mono (by have := hb1.size; simp; omega))
    clear hb1 hb2
    go_wp2_with fail
    go_ret2
    exact ⟨rfl, HB.out⟩
  · rcases h with ⟨rfl, hk, rfl⟩ | ⟨rfl, hk, rfl⟩
    · exact absurd hk.1 h4
    rw [if_neg h4] at HC
    have HC := Lib.hid HC
    clear hk ht
    go_enter Tryd.func16, Tryd.ntmps16
    go_wp2_with (go_at_call 30; refine HC.out.mono ?_; rintro e w' ⟨rfl, rfl⟩)
    go_ret2
    exact ⟨rfl, Below.refl _ _⟩
end Go.Proofs.YtnkbpoenncgcnaaDoor
