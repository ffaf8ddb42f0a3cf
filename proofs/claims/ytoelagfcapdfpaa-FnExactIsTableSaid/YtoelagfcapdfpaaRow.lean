/-
  The law's helpers on rows of bytes: toByteS, szByteS, eqByteS, markByteS, heldByteS.
-/
import Derived.Test.YtoelagfcapdfpaaProg
import Derived.Test.YtoelagfcapdfpaaMem
import Derived.WalkLawsBesides
import Derived.WalkSpells
import Derived.BigQuiet
import Derived.Deep.QuietTactic
import Derived.Outline
namespace Go.Proofs.Ytoelagfcapdfpaa
open Go.RowKit

theorem info_u8 : (Try.prog.info? 5).map (fun i => (i.zero, i.size, i.bytes)) = some (some (.int .u8 0), 1, 1) := by kernel_rfl
theorem intV_get {k : IntKind} {zs : List Int} {i : Nat} (h : i < (intV k zs).length) : (intV k zs)[i] = .int k (zs[i]'(by simpa [intV] using h)) := by simp [intV]
theorem intV_snoc (k : IntKind) (zs : List Int) (i : Nat) (h : i < zs.length) : intV k (zs.take (i + 1)) = intV k (zs.take i) ++ [.int k zs[i]] := by
  unfold intV; rw [List.take_succ_eq_append_getElem h, List.map_append]; rfl
theorem fill_int {z : Value} (k : IntKind) (zs : List Int) (i : Nat) (h : i < zs.length) :
    (intV k (zs.take i) ++ List.replicate (zs.length - i) z).set i (.int k zs[i]) = intV k (zs.take (i + 1)) ++ List.replicate (zs.length - (i + 1)) z := by
  rw [fill_step _ _ _ h (by simp [intV]; omega), intV_snoc k zs i h]

/-- toByteS: a new row with the same bytes. -/
theorem toByteS_calls (A : Option Addr) (c : Nat) (zs : List Int) (w : World) (hr : Rd w w.heap.size A (intV .u8 zs)) (hn : zs.length ≤ 1048576) :
    Calls Try.prog 52 #[.slice A zs.length c] w fun e w' => ∃ v, e = .returned v ∧ w'.ownsRow w.heap.size 5 1 v zs.length (intV .u8 zs) ∧ Below w.heap.size w w' := by
  obtain ⟨i0, hi0, hz0, hz1, hz2⟩ := info_parts info_u8
  obtain ⟨w1, hrun, hown, hg⟩ := run_make_full (P := Try.prog) w w.heap.size 64 5 i0 _ 1 Try.underlying64 hi0 hz0 hz1 .i64 .i64 zs.length (by rw [hz2]; omega) (by simp only [maxLen]; omega) (Nat.le_refl _)
  have hb1 : Below w.heap.size w w1 := (Below.refl _ _).grown hg (Nat.le_refl _) (by simp)
  rw [show (madeCells (Value.int .u8 0).cells (zs.length * 1)).toList = List.replicate zs.length (.int .u8 0) by rw [Nat.mul_one]; exact toList_madeCells_one _ _] at hown
  have HO := Lib.hid hown
  clear hown
  have HZ := Lib.hid hr
  clear hr
  go_enter Try.func52, Try.ntmps52
  go_wp2
  clear hrun
  go_loopw [4] (fun i wr => ∃ k : Nat, k ≤ zs.length ∧ i = .int .i64 k ∧ wr.ownsRow w.heap.size 5 1 (.slice (some ⟨w.heap.size, 0, none⟩) zs.length zs.length) zs.length (intV .u8 (zs.take k) ++ List.replicate (zs.length - k) (.int .u8 0)) ∧ Below w.heap.size w wr)
    (fun i _ => zs.length - (intOf i).toNat)
  case atStart => exact ⟨0, Nat.zero_le _, rfl, by simpa [intV] using HO.out, hb1⟩
  case round =>
    obtain ⟨k, hk, rfl, ho, hb⟩ := hrel
    by_cases hlt : k < zs.length
    · obtain ⟨b, off, rfl, hbb, hc⟩ := (HZ.out.below hb).int hlt
      have hf := ho.frozenAt k
      have hd : wr.cell? ⟨w.heap.size, k, none⟩ = some (.int .u8 0) := by
        rw [ho.cellAt k (by omega), List.getElem?_append_right (by simp [intV]; omega), List.getElem?_replicate, if_pos (by simp [intV]; omega)]
      have HO2 := Lib.hid (ho.stored k (Value.int .u8 zs[k]))
      have HB := Lib.hid hb
      clear ho hb
      go_wp2
      go_roundw
      case rel => exact ⟨k + 1, by omega, by go_num, by rw [← fill_int .u8 zs k hlt]; exact HO2.out.1, HB.out.setCell (p := ⟨w.heap.size, k, none⟩) (Nat.le_refl _) _⟩
      case measure => simp [intOf]; omega
    · have HO2 := Lib.hid ho
      clear ho
      have he : k = zs.length := by omega
      subst he
      go_wp2
      go_ret
      exact ⟨_, rfl, by simpa [intV] using HO2.out, hb⟩

/-- szByteS: what is left, or -1. -/
theorem szByteS_calls (A : Option Addr) (n c : Nat) (w : World) (left : Int) (hn : n ≤ maxLen) (hl0 : 0 ≤ left) (hl1 : left ≤ 1048576) :
    Calls Try.prog 103 #[.slice A n c, .int .i64 left] w fun e w' => e = .returned (.int .i64 (if left < n then -1 else left - n)) ∧ w = w' := by
  unfold maxLen at hn
  by_cases h0 : left < n
  · rw [if_pos h0]
    go_enter Try.func103, Try.ntmps103
    go_wp2
    go_ret
    exact ⟨rfl, rfl⟩
  · rw [if_neg h0]
    go_enter Try.func103, Try.ntmps103
    go_wp2
    go_ret
    exact ⟨rfl, rfl⟩

/-- eqByteS: whether two rows read alike. -/
theorem eqByteS_calls (A B : Option Addr) (c d : Nat) (zs ys : List Int) (w : World) (hr : Rd w w.heap.size A (intV .u8 zs)) (hq : Rd w w.heap.size B (intV .u8 ys)) (hn : zs.length ≤ maxLen) (hm : ys.length ≤ maxLen) :
    Calls Try.prog 54 #[.slice A zs.length c, .slice B ys.length d] w fun e w' => e = .returned (.bool (decide (zs = ys))) ∧ ∃ n, w' = w.drewN n := by
  unfold maxLen at hn hm
  have HZ := Lib.hid hr
  have HY := Lib.hid hq
  clear hr hq
  by_cases h0 : zs.length = ys.length
  · have hne : ((zs.length : Int) != (ys.length : Int)) = false := by simp [h0]
    have H0 := Lib.hid h0
    go_enter Try.func54, Try.ntmps54
    go_wp2
    go_loopw [5] (fun i wr => ∃ k n : Nat, k ≤ zs.length ∧ i = .int .i64 k ∧ zs.take k = ys.take k ∧ wr = w.drewN n) (fun i _ => zs.length - (intOf i).toNat)
    case atStart => exact ⟨0, 0, Nat.zero_le _, rfl, rfl, rfl⟩
    case round =>
      obtain ⟨k, n, hk, rfl, ht, rfl⟩ := hrel
      have HT := Lib.hid ht
      clear ht
      by_cases hlt : k < zs.length
      · have hlt2 : k < ys.length := by omega
        obtain ⟨b, off, rfl, hbb, hc⟩ := HZ.out.int hlt
        obtain ⟨b2, off2, rfl, hbb2, hc2⟩ := HY.out.int hlt2
        clear h0
        by_cases he : zs[k] = ys[k]
        · have hb0 : (zs[k] != ys[k]) = false := by simp [he]
          have HE := Lib.hid he
          clear he
          go_wp2
          go_quiet (fail)
          go_wp2
          go_roundw
          case rel => exact ⟨k + 1, n + nq, by omega, by go_num, take_eq_snoc HT.out hlt hlt2 HE.out, rfl⟩
          case measure => simp [intOf]; omega
        · have hb1 : (zs[k] != ys[k]) = true := by simpa using he
          have HF := Lib.hid (show decide (zs = ys) = false from decide_eq_false fun h => he (by subst h; rfl))
          clear he
          go_wp2
          go_quiet (fail)
          go_wp2
          go_ret
          exact ⟨ret_bool HF.out.symm, _, World.drewN_drewN _ _ _⟩
      · have hg : ¬ (k : Int) < zs.length := by omega
        have HF := Lib.hid (show decide (zs = ys) = true from decide_eq_true (by have := HT.out; rwa [List.take_of_length_le (by omega), List.take_of_length_le (by have := H0.out; omega)] at this))
        clear h0
        go_wp2
        go_ret
        exact ⟨ret_bool HF.out.symm, _, rfl⟩
  · have hne : ((zs.length : Int) != (ys.length : Int)) = true := by simp; omega
    have HF := Lib.hid (show decide (zs = ys) = false from decide_eq_false fun h => h0 (by rw [h]))
    clear h0
    go_enter Try.func54, Try.ntmps54
    go_wp2
    go_ret
    exact ⟨ret_bool HF.out.symm, 0, rfl⟩

/-- The marks from k on, n bytes of them. -/
def marksB (k n : Nat) : List Int := (List.range n).map fun i => (((k + i) % 256 : Nat) : Int)
theorem marksB_len (k n : Nat) : (marksB k n).length = n := by simp [marksB]
theorem marksB_get (k n i : Nat) (h : i < (marksB k n).length) : (marksB k n)[i] = (((k + i) % 256 : Nat) : Int) := by simp [marksB]
theorem marksB_succ (k n : Nat) : marksB k (n + 1) = marksB k n ++ [(((k + n) % 256 : Nat) : Int)] := by simp [marksB, List.range_succ]
theorem marksB_step (k i n : Nat) (xs : List Int) (hx : xs.length = n) (hi : i < n) :
    (intV .u8 (marksB k i ++ xs.drop i)).set i (.int .u8 (((k + i) % 256 : Nat) : Int)) = intV .u8 (marksB k (i + 1) ++ xs.drop (i + 1)) := by
  unfold intV
  rw [List.map_append, List.set_append_right _ _ (by simp [marksB]), marksB_succ, List.map_append, List.length_map, marksB_len, Nat.sub_self]
  rw [List.drop_eq_getElem_cons (by omega), List.map_cons, List.set_cons_zero]
  simp
/-- byte(k) of a number that is not negative. -/
theorem byte_of (k : Nat) : IntKind.wrap .u8 (k : Int) = ((k % 256 : Nat) : Int) := by
  simp [IntKind.wrap, IntKind.signed, IntKind.bits]

theorem markByteS_calls (A : Option Addr) (cp base : Nat) (zs : List Int) (k : Nat) (w : World) (ho : w.ownsRow base 5 1 (.slice A zs.length cp) zs.length (intV .u8 zs)) (hn : zs.length ≤ 2097152) (hk : k ≤ 4194304) (_hB : base ≤ w.heap.size) :
    Calls Try.prog 55 #[.slice A zs.length cp, .int .i64 k] w fun e w' => e = .returned (.int .i64 (k + zs.length)) ∧ w'.ownsRow base 5 1 (.slice A zs.length cp) zs.length (intV .u8 (marksB k zs.length)) ∧ w.grownBy w' (Value.slice A zs.length cp).ownBlock := by
  have HO := Lib.hid ho
  have HG := Lib.hid (World.grownBy.refl w (Value.slice A zs.length cp).ownBlock)
  clear ho
  go_enter Try.func55, Try.ntmps55
  go_wp2
  go_loopw [1, 5] (fun a i wr => ∃ j : Nat, j ≤ zs.length ∧ i = .int .i64 j ∧ a = .int .i64 (k + j) ∧ wr.ownsRow base 5 1 (.slice A zs.length cp) zs.length (intV .u8 (marksB k j ++ zs.drop j)) ∧ w.grownBy wr (Value.slice A zs.length cp).ownBlock) (fun _ i _ => zs.length - (intOf i).toNat)
  case atStart => exact ⟨0, Nat.zero_le _, rfl, by go_num, by simpa [marksB] using HO.out, HG.out⟩
  case round =>
    obtain ⟨j, hj, rfl, rfl, hown, hg⟩ := hrel
    by_cases hlt : j < zs.length
    · rcases hown.2 with ⟨hv, hn0⟩ | ⟨g, cap, cur, hv, hbg, hh, hnc, hcm, hcs, htk⟩
      · omega
      injection hv with hA _ hcap
      subst hA
      subst hcap
      have HST := Lib.hid (marksB_step k j zs.length zs rfl hlt)
      have hlen : (intV .u8 (marksB k j ++ zs.drop j)).length = zs.length := by simp [intV, marksB]; omega
      have hf1 := hown.frozenAt j
      obtain ⟨u, hc1⟩ : ∃ u, wr.cell? ⟨g, j, none⟩ = some u := ⟨_, by rw [hown.cellAt j (by omega), List.getElem?_eq_getElem (by omega)]⟩
      have h1 := hown.stored j (.int .u8 (((k + j) % 256 : Nat) : Int))
      rw [HST.out] at h1
      have HO2 := Lib.hid h1.1
      have HG2 := Lib.hid (hg.trans h1.2)
      have hbk := byte_of (k + j)
      clear h1 hown hg hh hcs htk hlen
      go_wp2
      go_roundw
      case rel => exact ⟨j + 1, by omega, by go_num, by go_num, HO2.out, HG2.out⟩
      case measure => simp [intOf]; omega
    · obtain rfl : j = zs.length := by omega
      have HO1 := Lib.hid hown
      have HG1 := Lib.hid hg
      clear hown hg
      go_wp2
      go_ret
      exact ⟨rfl, by simpa using HO1.out, HG1.out⟩

/-- heldByteS, where the marks are there. -/
theorem heldByteS_calls (A : Option Addr) (cp n k : Nat) (w : World) (hr : Rd w w.heap.size A (intV .u8 (marksB k n))) (hn : n ≤ 2097152) (hk : k ≤ 4194304) :
    Calls Try.prog 56 #[.slice A n cp, .int .i64 k] w fun e w' => e = .returned (.int .i64 (k + n)) ∧ w = w' := by
  have HR := Lib.hid hr
  clear hr
  go_enter Try.func56, Try.ntmps56
  go_wp2
  go_loop [1, 5] (fun a i => ∃ j : Nat, j ≤ n ∧ i = .int .i64 j ∧ a = .int .i64 (k + j)) (fun _ i => n - (intOf i).toNat)
  case atStart => exact ⟨0, Nat.zero_le _, rfl, by go_num⟩
  case round =>
    obtain ⟨j, hj, rfl, rfl⟩ := hrel
    by_cases hlt : j < n
    · obtain ⟨b, off, rfl, hbb, hc⟩ := HR.out.int (i := j) (by rw [marksB_len]; exact hlt)
      rw [marksB_get] at hc
      have hbk := byte_of (k + j)
      go_wp2
      go_round
      case rel => exact ⟨j + 1, by omega, by go_num, by go_num⟩
      case measure => simp [intOf]; omega
    · obtain rfl : j = n := by omega
      go_wp2
      go_ret
      exact ⟨rfl, rfl⟩
end Go.Proofs.Ytoelagfcapdfpaa
