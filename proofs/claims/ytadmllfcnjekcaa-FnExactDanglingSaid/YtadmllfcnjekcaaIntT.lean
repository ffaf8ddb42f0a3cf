/-
  toIntS: a new row with the same ints.
-/
import Derived.Test.YtadmllfcnjekcaaIntS
namespace Go.Proofs.Ytadmllfcnjekcaa
open Go.RowKit

theorem info_intT : (Try.prog.info? 3).map (fun i => (i.zero, i.size, i.bytes)) = some (some (.int .i64 0), 1, 8) := by kernel_rfl
/-- toIntS: a new row with the same ints. -/
theorem toIntS_calls (A : Option Addr) (c : Nat) (zs : List Int) (w : World) (hr : Rd w w.heap.size A (intV .i64 zs)) (hn : zs.length ≤ 1048576) :
    Calls Try.prog 80 #[.slice A zs.length c] w fun e w' => ∃ v, e = .returned v ∧ w'.ownsRow w.heap.size 3 1 v zs.length (intV .i64 zs) ∧ Below w.heap.size w w' := by
  obtain ⟨i0, hi0, hz0, hz1, hz2⟩ := info_parts info_intT
  obtain ⟨w1, hrun, hown, hg⟩ := run_make_full (P := Try.prog) w w.heap.size 27 3 i0 _ 1 Try.underlying27 hi0 hz0 hz1 .i64 .i64 zs.length (by rw [hz2]; omega) (by simp only [maxLen]; omega) (Nat.le_refl _)
  have hb1 : Below w.heap.size w w1 := (Below.refl _ _).grown hg (Nat.le_refl _) (by simp)
  rw [show (madeCells (Value.int .i64 0).cells (zs.length * 1)).toList = List.replicate zs.length (.int .i64 0) by rw [Nat.mul_one]; exact toList_madeCells_one _ _] at hown
  have HO := Lib.hid hown
  clear hown
  have HZ := Lib.hid hr
  clear hr
  go_enter Try.func80, Try.ntmps80
  go_wp2
  clear hrun
  go_loopw [4] (fun i wr => ∃ k : Nat, k ≤ zs.length ∧ i = .int .i64 k ∧ wr.ownsRow w.heap.size 3 1 (.slice (some ⟨w.heap.size, 0, none⟩) zs.length zs.length) zs.length (intV .i64 (zs.take k) ++ List.replicate (zs.length - k) (.int .i64 0)) ∧ Below w.heap.size w wr)
    (fun i _ => zs.length - (intOf i).toNat)
  case atStart => exact ⟨0, Nat.zero_le _, rfl, by simpa [intV] using HO.out, hb1⟩
  case round =>
    obtain ⟨k, hk, rfl, ho, hb⟩ := hrel
    by_cases hlt : k < zs.length
    · obtain ⟨b, off, rfl, hbb, hc⟩ := (HZ.out.below hb).int hlt
      have hf := ho.frozenAt k
      have hd : wr.cell? ⟨w.heap.size, k, none⟩ = some (.int .i64 0) := by
        rw [ho.cellAt k (by omega), List.getElem?_append_right (by simp [intV]; omega), List.getElem?_replicate, if_pos (by simp [intV]; omega)]
      have HO2 := Lib.hid (ho.stored k (Value.int .i64 zs[k]))
      have HB := Lib.hid hb
      clear ho hb
      go_wp2
      go_roundw
      case rel => exact ⟨k + 1, by omega, by go_num, by rw [← fill_int .i64 zs k hlt]; exact HO2.out.1, HB.out.setCell (p := ⟨w.heap.size, k, none⟩) (Nat.le_refl _) _⟩
      case measure => simp [intOf]; omega
    · have HO2 := Lib.hid ho
      clear ho
      have he : k = zs.length := by omega
      subst he
      go_wp2
      go_ret
      exact ⟨_, rfl, by simpa [intV] using HO2.out, hb⟩

end Go.Proofs.Ytadmllfcnjekcaa
