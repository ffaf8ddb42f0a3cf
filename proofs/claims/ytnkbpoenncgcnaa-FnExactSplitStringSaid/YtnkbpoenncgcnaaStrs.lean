/-
  The law's helpers on slices of strings: toStringS, szStringS, eqStringS.
-/
import Derived.Test.YtnkbpoenncgcnaaProg
import Derived.Test.YtnkbpoenncgcnaaJoinM
import Derived.WalkLawsBesides
import Derived.WalkSpells
import Derived.BigQuiet
import Derived.Deep.QuietTactic
import Derived.Outline
namespace Go.Proofs.Ytnkbpoenncgcnaa
open Go.RowKit

theorem info_string : (Try.prog.info? 9).map (fun i => (i.zero, i.size, i.bytes)) = some (some (.string ByteArray.empty), 1, 16) := by kernel_rfl

/-- toStringS: a new row with the same strings. -/
theorem toStringS_calls (A : Option Addr) (c : Nat) (zs : List ByteArray) (w : World) (hr : Rd w w.heap.size A (strV zs)) (hn : zs.length ≤ 1048576) :
    Calls Try.prog 22 #[.slice A zs.length c] w fun e w' => ∃ v, e = .returned v ∧ w'.ownsRow w.heap.size 9 1 v zs.length (strV zs) ∧ Below w.heap.size w w' := by
  obtain ⟨i0, hi0, hz0, hz1, hz2⟩ := info_parts info_string
  obtain ⟨w1, hrun, hown, hg⟩ := run_make_full (P := Try.prog) w w.heap.size 26 9 i0 _ 1 Try.underlying26 hi0 hz0 hz1 .i64 .i64 zs.length (by rw [hz2]; omega) (by simp only [maxLen]; omega) (Nat.le_refl _)
  have hb1 : Below w.heap.size w w1 := (Below.refl _ _).grown hg (Nat.le_refl _) (by simp)
  rw [show (madeCells (Value.string ByteArray.empty).cells (zs.length * 1)).toList = List.replicate zs.length (.string ByteArray.empty) by rw [Nat.mul_one]; exact toList_madeCells_one _ _] at hown
  have HO := Lib.hid hown
  clear hown
  have HZ := Lib.hid hr
  clear hr
  go_enter Try.func22, Try.ntmps22
  go_wp2
  clear hrun
  go_loopw [4] (fun i wr => ∃ k : Nat, k ≤ zs.length ∧ i = .int .i64 k ∧ wr.ownsRow w.heap.size 9 1 (.slice (some ⟨w.heap.size, 0, none⟩) zs.length zs.length) zs.length (strV (zs.take k) ++ List.replicate (zs.length - k) (.string ByteArray.empty)) ∧ Below w.heap.size w wr)
    (fun i _ => zs.length - (intOf i).toNat)
  case atStart => exact ⟨0, Nat.zero_le _, rfl, by simpa [strV] using HO.out, hb1⟩
  case round =>
    obtain ⟨k, hk, rfl, ho, hb⟩ := hrel
    by_cases hlt : k < zs.length
    · obtain ⟨b, off, rfl, hbb, hc⟩ := (HZ.out.below hb).str hlt
      have hf := ho.frozenAt k
      have hl : k < (strV (zs.take k) ++ List.replicate (zs.length - k) (Value.string ByteArray.empty)).length := by simp [strV]; omega
      have hd : wr.cell? ⟨w.heap.size, k, none⟩ = some (.string ByteArray.empty) := by
        rw [ho.cellAt k (by omega), List.getElem?_append_right (by simp [strV]; omega), List.getElem?_replicate, if_pos (by simp [strV]; omega)]
      have HO2 := Lib.hid (ho.stored k (Value.string zs[k]))
      have HB := Lib.hid hb
      clear ho hb hl
      go_wp2
      go_roundw
      case rel => exact ⟨k + 1, by omega, by go_num, by rw [← fill_str zs k hlt]; exact HO2.out.1, HB.out.setCell (p := ⟨w.heap.size, k, none⟩) (Nat.le_refl _) _⟩
      case measure => simp [intOf]; omega
    · have HO2 := Lib.hid ho
      clear ho
      have he : k = zs.length := by omega
      subst he
      go_wp2
      go_ret
      exact ⟨_, rfl, by simpa [strV] using HO2.out, hb⟩

/-- What szStringS answers: -1, or the number that is left. -/
def SzRet (zs : List ByteArray) (left : Int) (e : Ending) : Prop :=
  ∃ r : Int, e = .returned (.int .i64 r) ∧ (r = -1 ∨ (0 ≤ r ∧ r = left - zs.length - sizes zs))

theorem szStringS_calls (A : Option Addr) (c : Nat) (zs : List ByteArray) (w : World) (left : Int) (hr : Rd w w.heap.size A (strV zs)) (hn : zs.length ≤ maxLen) (hs : ∀ z ∈ zs, z.size ≤ maxLen) (hl0 : 0 ≤ left) (hl1 : left ≤ 1048576) :
    Calls Try.prog 21 #[.slice A zs.length c, .int .i64 left] w fun e w' => SzRet zs left e ∧ w = w' := by
  unfold maxLen at hn
  have HZ := Lib.hid hr
  clear hr
  by_cases h0 : left < zs.length
  · go_enter Try.func21, Try.ntmps21
    go_wp2
    go_ret
    exact ⟨⟨-1, rfl, .inl rfl⟩, rfl⟩
  · go_enter Try.func21, Try.ntmps21
    go_wp2
    go_loop [1, 5] (fun l i => ∃ k : Nat, ∃ r : Int, k ≤ zs.length ∧ i = .int .i64 k ∧ l = .int .i64 r ∧ 0 ≤ r ∧ r ≤ 1048576 ∧ r = left - zs.length - sizes (zs.take k)) (fun _ i => zs.length - (intOf i).toNat)
    case atStart => exact ⟨0, left - zs.length, Nat.zero_le _, rfl, rfl, by omega, by omega, by simp [sizes]⟩
    case round =>
      obtain ⟨k, r, hk, rfl, rfl, hr0, hr1, hr2⟩ := hrel
      have HR := Lib.hid hr2
      clear hr2
      by_cases hlt : k < zs.length
      · obtain ⟨b, off, rfl, hbb, hc⟩ := HZ.out.str hlt
        have HS := Lib.hid (sizes_snoc zs k hlt)
        have hsz := hs zs[k] (List.getElem_mem hlt)
        unfold maxLen at hsz
        by_cases hneg : r < zs[k].size
        · go_wp2
          go_ret
          exact ⟨⟨-1, rfl, .inl rfl⟩, rfl⟩
        · go_wp2
          go_round
          case rel => exact ⟨k + 1, r - zs[k].size, by omega, by go_num, rfl, by omega, by omega, by have := HR.out; have := HS.out; omega⟩
          case measure => simp [intOf]; omega
      · have he : zs.take k = zs := List.take_of_length_le (by omega)
        have HE := Lib.hid he
        clear he
        go_wp2
        go_ret
        exact ⟨⟨r, rfl, .inr ⟨hr0, by have := HR.out; rw [HE.out] at this; exact this⟩⟩, rfl⟩

/-- eqStringS: whether two slices of strings read alike. -/
theorem eqStringS_calls (A B : Option Addr) (c d : Nat) (zs ys : List ByteArray) (w : World) (hr : Rd w w.heap.size A (strV zs)) (hq : Rd w w.heap.size B (strV ys)) (hn : zs.length ≤ maxLen) (hm : ys.length ≤ maxLen) :
    Calls Try.prog 18 #[.slice A zs.length c, .slice B ys.length d] w fun e w' => e = .returned (.bool (decide (zs = ys))) ∧ ∃ n, w' = w.drewN n := by
  unfold maxLen at hn hm
  have HZ := Lib.hid hr
  have HY := Lib.hid hq
  clear hr hq
  by_cases h0 : zs.length = ys.length
  · have hne : ((zs.length : Int) != (ys.length : Int)) = false := by simp [h0]
    have H0 := Lib.hid h0
    go_enter Try.func18, Try.ntmps18
    go_wp2
    go_loopw [5] (fun i wr => ∃ k n : Nat, k ≤ zs.length ∧ i = .int .i64 k ∧ zs.take k = ys.take k ∧ wr = w.drewN n) (fun i _ => zs.length - (intOf i).toNat)
    case atStart => exact ⟨0, 0, Nat.zero_le _, rfl, rfl, rfl⟩
    case round =>
      obtain ⟨k, n, hk, rfl, ht, rfl⟩ := hrel
      have HT := Lib.hid ht
      clear ht
      by_cases hlt : k < zs.length
      · have hlt2 : k < ys.length := by omega
        obtain ⟨b, off, rfl, hbb, hc⟩ := HZ.out.str hlt
        obtain ⟨b2, off2, rfl, hbb2, hc2⟩ := HY.out.str hlt2
        clear h0
        by_cases he : zs[k] = ys[k]
        · have hb0 : (!zs[k].toList == ys[k].toList) = false := by simp [he]
          have HE := Lib.hid he
          clear he
          go_wp2
          go_quiet (fail)
          go_wp2
          go_roundw
          case rel => exact ⟨k + 1, n + nq, by omega, by go_num, take_eq_snoc HT.out hlt hlt2 HE.out, rfl⟩
          case measure => simp [intOf]; omega
        · have hb1 : (!zs[k].toList == ys[k].toList) = true := by simpa using fun h => he (bytes_inj h)
          have HF := Lib.hid (show decide (zs = ys) = false from decide_eq_false fun h => he (by subst h; rfl))
          clear he
          go_wp2
          go_quiet (fail)
          go_wp2
          go_ret
          exact ⟨ret_bool HF.out.symm, _, World.drewN_drewN _ _ _⟩
      · have hg : ¬ (k : Int) < zs.length := by omega
        have HF := Lib.hid (show decide (zs = ys) = true from decide_eq_true (by have := HT.out; rwa [List.take_of_length_le (by omega), List.take_of_length_le (by have := H0.out; omega)] at this))
        clear h0
        go_wp2
        go_ret
        exact ⟨ret_bool HF.out.symm, _, rfl⟩
  · have hne : ((zs.length : Int) != (ys.length : Int)) = true := by simp; omega
    have HF := Lib.hid (show decide (zs = ys) = false from decide_eq_false fun h => h0 (by rw [h]))
    clear h0
    go_enter Try.func18, Try.ntmps18
    go_wp2
    go_ret
    exact ⟨ret_bool HF.out.symm, 0, rfl⟩
end Go.Proofs.Ytnkbpoenncgcnaa
