/-
  The law's marks on strings: markText, markStringS, heldStringS.
-/
import Derived.Test.YtnkbpoenncgcnaaProg
import Derived.Test.YtnkbpoenncgcnaaBase
import Derived.WalkLawsBesides
import Derived.WalkSpells
import Derived.OwnWalk
import Derived.Deep.RegionHeld3
import Derived.Outline
import Derived.Lib.ItoaNum
import Derived.IntWalk
import Derived.Laws.BytesString
namespace Go.Proofs.Ytnkbpoenncgcnaa
open Go.RowKit

/-- The mark of number k. -/
def mkT (k : Nat) : ByteArray := ⟨(109 :: Lib.decDigits k).toArray⟩
/-- The digits that are still to come, ahead of those that are there. -/
def Toward (k m : Nat) (o : ByteArray) : Prop := (m = 0 ∧ 0 < k ∧ o.data.toList = Lib.decDigits k) ∨ (0 < m ∧ Lib.decDigits m ++ o.data.toList = Lib.decDigits k)
theorem toward_step {k m : Nat} {o : ByteArray} (h : Toward k m o) (hk : 0 < k) (hm : 0 < m) : Toward k (m / 10) (⟨#[UInt8.ofNat (48 + m % 10)]⟩ ++ o) := by
  rcases h with ⟨h, _⟩ | ⟨_, h⟩
  · omega
  by_cases hs : m < 10
  · left
    rw [Lib.decDigits, dif_pos hs] at h
    refine ⟨by omega, hk, ?_⟩
    rw [← h, show m % 10 = m by omega]; simp
  · right
    rw [Lib.decDigits, dif_neg hs] at h
    refine ⟨by omega, ?_⟩
    rw [← h]; simp
theorem toward_end {k m : Nat} {o : ByteArray} (h : Toward k m o) (hm : m = 0) : ⟨#[109]⟩ ++ o = mkT k := by
  rcases h with ⟨_, _, h⟩ | ⟨h, _⟩
  · unfold mkT
    apply ByteArray.ext
    apply Array.toList_inj.1
    rw [← h]; simp
  · omega
theorem toward_size {k m : Nat} {o : ByteArray} (h : Toward k m o) (hk : k ≤ 99999999) : o.size ≤ 9 := by
  have hn : (Lib.decDigits k).length ≤ 9 := by
    rw [Lib.decDigits_length]
    have hu : ∀ (d u : Nat), u < 10 ^ (d + 1) → Lib.nDigits u ≤ d + 1 := by
      intro d
      induction d with
      | zero => intro u h; rw [Lib.nDigits_small (by simpa using h)]; exact Nat.le_refl _
      | succ d ih =>
        intro u h
        by_cases h10 : u < 10
        · rw [Lib.nDigits_small h10]; omega
        · rw [Lib.nDigits_big h10]
          have := ih (u / 10) (by rw [Nat.pow_succ] at h; omega)
          omega
    exact hu 8 k (by omega)
  have ho : o.data.toList.length = o.size := by simp
  rcases h with ⟨_, _, h⟩ | ⟨_, h⟩
  · rw [← ho, h]; exact hn
  · have := congrArg List.length h
    rw [List.length_append] at this
    omega

/-- One byte in a new block, turned into a string. -/
theorem run_byte_string (W : World) (d : Int) :
    (convert 22 9 (.slice (some ⟨W.heap.size, 0, none⟩) 1 1)).run Try.prog (W.alloc (.cells #[.int .u8 d] 5)) = .ok (.string ⟨#[UInt8.ofNat d.toNat]⟩) (W.alloc (.cells #[.int .u8 d] 5)) := by
  rw [run_convert_bytes_string _ _ _ 5 _ _ _ Try.underlying22 Try.underlying5 Try.underlying9]
  rw [run_bytesToString _ _ _ _ [d] (by simp [loadCells, go_sem])]
  rfl

theorem markText_calls (k : Nat) (w : World) (h0 : 0 < k) (h1 : k ≤ 99999999) :
    Calls Try.prog 34 #[.int .i64 k] w fun e w' => e = .returned (.string (mkT k)) ∧ Below w.heap.size w w' := by
  have hT : Toward k k ByteArray.empty := .inr ⟨h0, by simp⟩
  have HT := Lib.hid hT
  clear hT
  go_enter Try.func34, Try.ntmps34
  go_wp2
  go_loopw [0, 3] (fun a o wr => ∃ (m : Nat) (b : ByteArray), a = .int .i64 m ∧ o = .string b ∧ m ≤ 99999999 ∧ Toward k m b ∧ Below w.heap.size w wr) (fun a _ _ => (intOf a).toNat)
  case atStart => exact ⟨k, ByteArray.empty, rfl, rfl, h1, HT.out, Below.refl _ _⟩
  case round =>
    obtain ⟨m, b, rfl, rfl, hm, ht, hb⟩ := hrel
    have hz := toward_size ht h1
    have HT2 := Lib.hid ht
    have HB := Lib.hid hb
    have hbs := hb.size
    clear ht hb
    by_cases hpos : 0 < m
    · have q0 : ((m : Int)).tmod 10 = (m : Int) % 10 := Int.tmod_eq_emod_of_nonneg (by omega)
      have HS := Lib.hid (toward_step HT2.out h0 hpos)
      have hcv := run_byte_string wr (48 + (m : Int) % 10)
      have e1 : (48 + (m : Int) % 10).toNat = 48 + m % 10 := by omega
      rw [e1] at hcv
      clear e1
      go_wp2
      go_roundw
      case rel => exact ⟨m / 10, _, by go_num, rfl, by omega, by simpa using HS.out, HB.out.alloc hbs _⟩
      case measure => simp [intOf]; omega
    · obtain rfl : m = 0 := by omega
      have HE := Lib.hid (toward_end HT2.out rfl)
      go_wp2
      go_ret
      exact ⟨by rw [← HE.out]; rfl, HB.out⟩

/-- The marks from k on, n of them. -/
def marks (k n : Nat) : List ByteArray := (List.range n).map fun i => mkT (k + i)
theorem marks_len (k n : Nat) : (marks k n).length = n := by simp [marks]
theorem marks_get (k n i : Nat) (h : i < (marks k n).length) : (marks k n)[i] = mkT (k + i) := by simp [marks]
theorem marks_succ (k n : Nat) : marks k (n + 1) = marks k n ++ [mkT (k + n)] := by simp [marks, List.range_succ]
theorem marks_step (k i n : Nat) (xs : List ByteArray) (hx : xs.length = n) (hi : i < n) :
    (strV (marks k i ++ xs.drop i)).set i (.string (mkT (k + i))) = strV (marks k (i + 1) ++ xs.drop (i + 1)) := by
  unfold strV
  rw [List.map_append, List.set_append_right _ _ (by simp [marks]), marks_succ, List.map_append, List.length_map, marks_len, Nat.sub_self]
  rw [List.drop_eq_getElem_cons (by omega), List.map_cons, List.set_cons_zero]
  simp

theorem markStringS_calls (A : Option Addr) (cp base : Nat) (zs : List ByteArray) (k : Nat) (w : World) (ho : w.ownsRow base 9 1 (.slice A zs.length cp) zs.length (strV zs)) (hn : zs.length ≤ 4001) (hk0 : 0 < k) (hk : k ≤ 100000) (hB : base ≤ w.heap.size) :
    Calls Try.prog 19 #[.slice A zs.length cp, .int .i64 k] w fun e w' => e = .returned (.int .i64 (k + zs.length)) ∧ w'.ownsRow base 9 1 (.slice A zs.length cp) zs.length (strV (marks k zs.length)) ∧ w.grownBy w' (Value.slice A zs.length cp).ownBlock := by
  have HO := Lib.hid ho
  have HG := Lib.hid (World.grownBy.refl w (Value.slice A zs.length cp).ownBlock)
  clear ho
  go_enter Try.func19, Try.ntmps19
  go_wp2
  go_loopw [1, 5] (fun a i wr => ∃ j : Nat, j ≤ zs.length ∧ i = .int .i64 j ∧ a = .int .i64 (k + j) ∧ wr.ownsRow base 9 1 (.slice A zs.length cp) zs.length (strV (marks k j ++ zs.drop j)) ∧ w.grownBy wr (Value.slice A zs.length cp).ownBlock) (fun _ i _ => zs.length - (intOf i).toNat)
  case atStart => exact ⟨0, Nat.zero_le _, rfl, by go_num, by simpa [marks] using HO.out, HG.out⟩
  case round =>
    obtain ⟨j, hj, rfl, rfl, hown, hg⟩ := hrel
    by_cases hlt : j < zs.length
    · rcases hown.2 with ⟨hv, hn0⟩ | ⟨g, cap, cur, hv, hbg, hh, hnc, hcm, hcs, htk⟩
      · omega
      injection hv with hA _ hcap
      subst hA
      subst hcap
      have hlen := own_len hown
      have hgl : g < wr.heap.size := (Array.getElem?_eq_some_iff.1 hh).1
      have HM := Lib.hid (fun W => markText_calls (k + j) W (by omega) (by omega))
      have HO1 := Lib.hid hown
      have HG1 := Lib.hid hg
      have HST := Lib.hid (marks_step k j zs.length zs rfl hlt)
      clear hown hg hh hcs htk hlen
      have HC : ∀ W : World, W.ownsRow base 9 1 (.slice (some ⟨g, 0, none⟩) zs.length cp) zs.length (strV (marks k j ++ zs.drop j)) → ∃ u, W.cell? ⟨g, j, none⟩ = some u := fun W h => by
        have hlen : (strV (marks k j ++ zs.drop j)).length = zs.length := by simp [strV, marks]; omega
        exact ⟨(strV (marks k j ++ zs.drop j))[j]'(by omega), by rw [h.cellAt j (by omega), List.getElem?_eq_getElem (by omega)]⟩
      have HC := Lib.hid HC
      go_wp2_with (go_at_call 34; refine (HM.out _).mono ?_; rintro e w1 ⟨rfl, hb1⟩; have hf1 := (own_below HO1.out hb1).frozenAt j; obtain ⟨u1, hc1⟩ := HC.out w1 (own_below HO1.out hb1))
      have h1 := (own_below HO1.out hb1).stored j (.string (mkT (k + j)))
      rw [HST.out] at h1
      have HO2 := Lib.hid h1.1
      have HG2 := Lib.hid ((HG1.out.trans (grown_of_below hb1 _)).trans h1.2)
      clear h1 hb1 hf1 hc1
      go_roundw
      case rel => exact ⟨j + 1, by omega, by go_num, by go_num, HO2.out, HG2.out⟩
      case measure => simp [intOf]; omega
    · obtain rfl : j = zs.length := by omega
      have HO1 := Lib.hid hown
      have HG1 := Lib.hid hg
      clear hown hg
      go_wp2
      go_ret
      exact ⟨rfl, by simpa using HO1.out, HG1.out⟩

/-- heldStringS, where the marks are there. -/
theorem heldStringS_calls (A : Option Addr) (cp : Nat) (n k : Nat) (w : World) (hr : Rd w w.heap.size A (strV (marks k n))) (hn : n ≤ 4001) (hk0 : 0 < k) (hk : k ≤ 100000) :
    Calls Try.prog 20 #[.slice A n cp, .int .i64 k] w fun e w' => e = .returned (.int .i64 (k + n)) ∧ Below w.heap.size w w' := by
  have HR := Lib.hid hr
  clear hr
  go_enter Try.func20, Try.ntmps20
  go_wp2
  go_loopw [1, 5] (fun a i wr => ∃ j : Nat, j ≤ n ∧ i = .int .i64 j ∧ a = .int .i64 (k + j) ∧ Below w.heap.size w wr) (fun _ i _ => n - (intOf i).toNat)
  case atStart => exact ⟨0, Nat.zero_le _, rfl, by go_num, Below.refl _ _⟩
  case round =>
    obtain ⟨j, hj, rfl, rfl, hb⟩ := hrel
    by_cases hlt : j < n
    · obtain ⟨b, off, rfl, hbb, hc⟩ := (HR.out.below hb).str (k := j) (by rw [marks_len]; exact hlt)
      rw [marks_get] at hc
      have HM := Lib.hid (fun W => markText_calls (k + j) W (by omega) (by omega))
      have hself := eq_bool (a := mkT (k + j)) rfl
      have hbs := hb.size
      have HB := Lib.hid hb
      clear hb
      go_wp2_with fail
      go_region_held3 (fun W => W.cell? ⟨b, off + j, none⟩ = some (.string (mkT (k + j))) ∧ Below w.heap.size w W)
        (first | exact ⟨hc, HB.out.drew⟩ | exact ⟨(hbx.cell (p := ⟨b, off + j, none⟩) (Nat.lt_of_lt_of_le hbb hbs)).trans hc, HB.out.drew.trans (hbx.mono hbs)⟩)
        (first | (go_at_call 34; refine (HM.out _).mono ?_; rintro e w1 ⟨rfl, hbx⟩))
      have HB1 := Lib.hid (HB.out.drew.trans (hbx.mono hbs))
      clear hbx
      go_wp2_with fail
      go_roundw
      case rel => exact ⟨j + 1, by omega, by go_num, by go_num, HB1.out⟩
      case measure => simp [intOf]; omega
    · obtain rfl : j = n := by omega
      have HB := Lib.hid hb
      clear hb
      go_wp2_with fail
      go_ret
      exact ⟨rfl, HB.out⟩
end Go.Proofs.Ytnkbpoenncgcnaa
