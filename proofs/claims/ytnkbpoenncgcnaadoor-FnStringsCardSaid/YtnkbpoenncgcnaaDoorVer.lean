/-
  VerifyChecksum, of the specification and of the program.
-/
import Derived.Test.YtnkbpoenncgcnaaDoorSeal
import Derived.Test.YtnkbpoenncgcnaaDoorSplit
namespace Go.Proofs.YtnkbpoenncgcnaaDoor
open Go.RowKit

theorem byte_at {s : ByteArray} {i : Nat} {c : UInt8} (h : s.data.toList[i]? = some c) : ∃ hi : i < s.size, s[i] = c := by
  obtain ⟨hi, he⟩ := List.getElem?_eq_some_iff.1 h
  exact ⟨by simpa using hi, he⟩
theorem byte_not {s : ByteArray} {i : Nat} {c : UInt8} (h : s.data.toList[i]? ≠ some c) (hi : i < s.size) : s[i] ≠ c := by
  intro he
  apply h
  rw [List.getElem?_eq_getElem (by simpa using hi)]
  exact congrArg some he

/-- strings.Cut at one byte. -/
def CutRet (s : ByteArray) (c : UInt8) (e : Ending) : Prop :=
  (∃ (i : Nat) (x : ByteArray), i < s.size ∧ e = .returned (.tuple #[.string (preF s c), .string x, .bool true])) ∨ ((∀ j (hj : j < s.size), s[j] ≠ c) ∧ e = .returned (.tuple #[.string s, .string ByteArray.empty, .bool false]))
theorem liteCut_calls (s : ByteArray) (c : UInt8) (w : World) (hs : s.size ≤ 1048576) :
    Calls Tryd.prog 41 #[.string s, .string ⟨#[c]⟩] w fun e w' => CutRet s c e ∧ ∃ n, w' = w.drewN n := by
  have HI := Tryd.stringslite_Index_one s c w
  have hge := Lib.indexByte_ge s.data.toList c
  by_cases hn : Lib.indexByte s.data.toList c = -1
  · have HR : Hid (CutRet s c (.returned (.tuple #[.string s, .string ByteArray.empty, .bool false]))) := .inr ⟨fun j hj => byte_not (Lib.indexByte_none hn j) hj, rfl⟩
    rw [hn] at HI
    have HI := Lib.hid HI
    clear hn hge
    go_enter Tryd.func41, Tryd.ntmps41
    go_wp2_with (go_at_call 47; refine HI.out.mono ?_; rintro e w' ⟨rfl, rfl⟩)
    go_ret3
    exact ⟨HR.out, 0, rfl⟩
  · obtain ⟨i, hi⟩ : ∃ i : Nat, Lib.indexByte s.data.toList c = i := ⟨(Lib.indexByte s.data.toList c).toNat, by omega⟩
    obtain ⟨h1, h2⟩ := Lib.indexByte_some hi
    obtain ⟨hlt, he⟩ := byte_at h1
    have HP := Lib.hid (preF_some hlt he fun j hj hji => byte_not (h2 j hji) hj)
    rw [hi] at HI
    have HI := Lib.hid HI
    clear hn hge hi h1 h2 he
    have b1 : (i : Int) + 1 ≤ s.size := by omega
    go_enter Tryd.func41, Tryd.ntmps41
    go_wp2_with (go_at_call 47; refine HI.out.mono ?_; rintro e w' ⟨rfl, rfl⟩)
    have q1 : IntKind.i64.wrap ((i : Int) + 1) = (i : Int) + 1 := i64_in (by omega) (by omega)
    have b2 : (i : Int) ≤ s.size := by omega
    go_quiet (fail)
    go_wp2_with fail
    go_ret3
    exact ⟨.inl ⟨i, _, hlt, by rw [HP.out]; rfl⟩, _, rfl⟩
theorem cut_calls (s : ByteArray) (c : UInt8) (w : World) (hs : s.size ≤ 1048576) :
    Calls Tryd.prog 34 #[.string s, .string ⟨#[c]⟩] w fun e w' => CutRet s c e ∧ ∃ n, w' = w.drewN n := by
  have HC := Lib.hid (liteCut_calls s c w hs)
  go_enter Tryd.func34, Tryd.ntmps34
  go_wp2_with (go_at_call 41; refine HC.out.mono ?_; rintro e w' ⟨⟨i, x, hi, rfl⟩ | ⟨hn, rfl⟩, n, rfl⟩)
  · go_ret3
    exact ⟨.inl ⟨i, x, hi, rfl⟩, n, rfl⟩
  · go_ret3
    exact ⟨.inr ⟨hn, rfl⟩, n, rfl⟩

/-- What VerifyChecksum answers. -/
def VerOk (s : ByteArray) : Prop := s.size ≤ 4000 ∧ sealB (preF s 35) = s
def VerOf (s o : ByteArray) (b : Bool) : Prop := (b = true ∧ VerOk s ∧ o = preF s 35) ∨ (b = false ∧ ¬ VerOk s ∧ o = ByteArray.empty)
theorem verOf_ex (s : ByteArray) : ∃ o b, VerOf s o b := by
  by_cases h : VerOk s
  · exact ⟨_, true, .inl ⟨rfl, h, rfl⟩⟩
  · exact ⟨_, false, .inr ⟨rfl, h, rfl⟩⟩
theorem verOk_seal {s : ByteArray} (h : VerOk s) : SealOk (preF s 35) := by
  obtain ⟨h1, h2⟩ := preF_no s 35
  exact ⟨Nat.le_trans h2 h.1, h1, by rw [h.2]; exact h.1⟩
theorem verOk_found {s : ByteArray} (h : VerOk s) : ¬ ∀ j (hj : j < s.size), s[j] ≠ 35 := by
  intro hn
  have h1 := h.2
  rw [preF_none hn] at h1
  have h2 := congrArg ByteArray.size h1
  rw [sealB_size] at h2
  omega

theorem specVerify_calls (s o : ByteArray) (b : Bool) (w : World) (hs : s.size ≤ 1048576) (h : VerOf s o b) :
    Calls Tryd.prog 20 #[.string s] w fun e w' => e = .returned (.tuple #[.string o, .bool b]) ∧ Below w.heap.size w w' := by
  by_cases h4 : s.size ≤ 4000
  · have HP := Lib.hid (l1Split_calls s 35 w h4)
    have hp := preF_no s 35
    have HL := Lib.hid (fun W => l1Seal_calls (preF s 35) W (by omega))
    have HH := Lib.hid (preF_head s 35)
    go_enter Tryd.func20, Tryd.ntmps20
    go_wp2_with fail
    refine HP.out.mono ?_
    rintro e w1 ⟨v, rfl, ho, hb1⟩
    have hlen : (1 : Int) ≤ ((splitF s 35).length : Int) := by rw [splitF_len]; omega
    obtain ⟨A, cp, rfl⟩ := own_form ho
    have hr := Rd.of_own ho
    have hcp := own_cap ho
    rcases hr with hnil | ⟨bk, off, rfl, hbk, hc⟩
    · have := congrArg List.length hnil
      rw [strV_len] at this
      simp at this
      rw [this] at hlen
      simp at hlen
    have hc0 : w1.cell? ⟨bk, off, none⟩ = some (.string (preF s 35)) := hc 0 _ (by unfold strV; rw [List.getElem?_map, HH.out]; rfl)
    have HB1 := Lib.hid hb1
    clear hc ho hb1
    generalize (splitF s 35).length = len at *
    by_cases he : sealB (preF s 35) = s
    · have hq := eq_bool he
      rcases h with ⟨rfl, hk, rfl⟩ | ⟨rfl, hk, rfl⟩
      · clear he hk
        go_wp2_with (go_at_call 33; refine (HL.out _).mono ?_; rintro e w2 ⟨rfl, m, rfl⟩)
        go_ret2
        exact ⟨rfl, below_drewN HB1.out m⟩
      · exact absurd ⟨h4, he⟩ hk
    · have hq := ne_bool he
      rcases h with ⟨rfl, hk, rfl⟩ | ⟨rfl, hk, rfl⟩
      · exact absurd hk.2 he
      · clear he hk
        go_wp2_with (go_at_call 33; refine (HL.out _).mono ?_; rintro e w2 ⟨rfl, m, rfl⟩)
        go_ret2
        exact ⟨rfl, below_drewN HB1.out m⟩
  · rcases h with ⟨rfl, hk, rfl⟩ | ⟨rfl, hk, rfl⟩
    · exact absurd hk.1 h4
    clear hk
    go_enter Tryd.func20, Tryd.ntmps20
    go_wp2_with fail
    go_ret2
    exact ⟨rfl, Below.refl _ _⟩

theorem implVerify_calls (s o : ByteArray) (b : Bool) (w : World) (hs : s.size ≤ 1048576) (h : VerOf s o b) (ht : Tabs w) :
    Calls Tryd.prog 18 #[.string s] w fun e w' => e = .returned (.tuple #[.string o, .bool b]) ∧ Below w.heap.size w w' := by
  have HC := Lib.hid (cut_calls s 35 w hs)
  have hp := preF_no s 35
  obtain ⟨o2, b2, hS⟩ := sealOf_ex (preF s 35)
  have HA := Lib.hid (fun m => implAppend_calls (preF s 35) o2 b2 (w.drewN m) (by omega) hS (ht.drewN m))
  have HS := Lib.hid hS
  have HV := Lib.hid h
  clear ht hS h
  go_enter Tryd.func18, Tryd.ntmps18
  go_wp2_with (go_at_call 34; refine HC.out.mono ?_; rintro e w' ⟨⟨i, x, hi, rfl⟩ | ⟨hn, rfl⟩, n, rfl⟩)
  · go_wp2_with fail
    refine (HA.out _).mono ?_
    rintro e w1 ⟨rfl, hb1⟩
    have HB1 : Hid (Below w.heap.size w w1) := (below_drewN (Below.refl _ w) n).trans hb1
    clear hb1
    rcases HV.out with ⟨rfl, hk, rfl⟩ | ⟨rfl, hk, rfl⟩
    · rcases HS.out with ⟨rfl, hk2, rfl⟩ | ⟨rfl, hk2, rfl⟩
      · have hq := eq_bool hk.2
        clear hk hk2
        go_wp2_with fail
        go_ret2
        exact ⟨rfl, HB1.out⟩
      · exact absurd (verOk_seal hk) hk2
    · rcases HS.out with ⟨rfl, hk2, rfl⟩ | ⟨rfl, hk2, rfl⟩
      · have hq := ne_bool (fun he : sealB (preF s 35) = s => hk ⟨by rw [← he]; exact hk2.2.2, he⟩)
        clear hk hk2
        go_wp2_with fail
        go_ret2
        exact ⟨rfl, HB1.out⟩
      · clear hk hk2
        go_wp2_with fail
        go_ret2
        exact ⟨rfl, HB1.out⟩
  · rcases HV.out with ⟨rfl, hk, rfl⟩ | ⟨rfl, hk, rfl⟩
    · exact absurd hn (verOk_found hk)
    · go_ret2
      exact ⟨rfl, below_drewN (Below.refl _ w) n⟩

theorem fnExactVerifyChecksum_walk (s : ByteArray) (w : World) (ht : Tabs w) (hs : s.size ≤ maxLen) :
    Calls Tryd.prog 7 #[.string s] w fun e w' => e = .returned (.bool true) ∧ Below w.heap.size w w' := by
  unfold maxLen at hs
  by_cases hb : s.size ≤ 1048576
  · obtain ⟨o, b, h⟩ := verOf_ex s
    have HS := Lib.hid (specVerify_calls s o b w hb h)
    have HI := Lib.hid (fun W (hW : Below w.heap.size w W) => implVerify_calls s o b W hb h (ht.below hW))
    clear h ht
    go_enter Tryd.func7, Tryd.ntmps7
    go_wp2_with (first | (go_at_call 20; refine HS.out.mono ?_; rintro e w1 ⟨rfl, hb1⟩) | (go_at_call 18; refine (HI.out _ hb1).mono ?_; rintro e w2 ⟨rfl, hb2⟩))
    go_ret
    exact ⟨rfl, hb1.trans (hb2.mono hb1.size)⟩
  · clear ht
    go_enter Tryd.func7, Tryd.ntmps7
    go_wp2_with fail
    go_ret
    exact ⟨rfl, Below.refl _ _⟩
end Go.Proofs.YtnkbpoenncgcnaaDoor
