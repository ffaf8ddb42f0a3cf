/-
  A row's text: hexText of impl.
-/
import Derived.Test.YtbdaaeffbhcflacText
import Derived.Laws.IdiomStrings
import Derived.Deep.RegionLaw
import Derived.Deep.AppendLies
import Derived.WalkSmall
namespace Go.Proofs.Ytbdaaeffbhcflac
open Go.RowKit

/-- A row's text, its bytes as numbers. -/
def hexI (r : List Int) : List Int := (hexL r).map fun u => (u.toNat : Int)
theorem hexI_len (r : List Int) : (hexI r).length = 2 * r.length := by rw [hexI, List.length_map, hexL_len]
theorem hexI_snoc (r : List Int) (k : Nat) (h : k < r.length) : intV .u8 (hexI (r.take (k + 1))) = intV .u8 (hexI (r.take k)) ++ [.int .u8 ((dg (r[k].toNat / 16)).toNat : Int), .int .u8 ((dg (r[k].toNat % 16)).toNat : Int)] := by
  unfold hexI intV
  rw [hexL_snoc r k h]
  simp

theorem and15 : ∀ z : Fin 256, bits BinOp.and IntKind.u8 ((z.val : Nat) : Int) 15 = ((z.val % 16 : Nat) : Int) := by decide +kernel
theorem hex_get : ∀ i : Fin 16, (ByteArray.mk #[48, 49, 50, 51, 52, 53, 54, 55, 56, 57, 97, 98, 99, 100, 101, 102])[i.val]'(by have := i.isLt; exact this) = dg i.val := by decide +kernel
set_option maxRecDepth 100000 in
set_option maxHeartbeats 1600000 in
theorem hexText_calls (A : Option Addr) (c : Nat) (zs : List Int) (w : World) (hr : Rd w w.heap.size A (intV .u8 zs)) (h1 : 1 ≤ zs.length) (hn : zs.length ≤ 64) (hz : ∀ z ∈ zs, IsB z) :
    Calls Try.prog 19 #[.slice A zs.length c] w fun e w' => e = .returned (.string (hexB zs)) ∧ Below w.heap.size w w' := by
  obtain ⟨i0, hi0, hz0, hz1, hz2⟩ := info_parts info_u8
  obtain ⟨w1, hrun, hown, hg⟩ := run_make_own (P := Try.prog) w w.heap.size 41 5 i0 _ 1 Try.underlying41 hi0 hz0 hz1 .i64 .i64 (2 * zs.length) (by rw [hz2]; omega) (by simp only [maxLen]; omega) (Nat.le_refl _)
  have hb1 : Below w.heap.size w w1 := (Below.refl _ _).grown hg (Nat.le_refl _) (by simp)
  have HO1 := Lib.hid hown
  have HB1 := Lib.hid hb1
  have HR := Lib.hid hr
  have HZ := Lib.hid hz
  have hcast : ((2 * zs.length : Nat) : Int) = 2 * (zs.length : Int) := by omega
  rw [hcast] at hrun
  clear hown hb1 hr hz hg hcast
  go_enter Try.func19, Try.ntmps19
  go_wp2_with fail
  clear hrun
  go_loopw [3, 12] (fun v i wr => ∃ k g cap : Nat, k ≤ zs.length ∧ i = .int .i64 k ∧ v = .slice (some ⟨g, 0, none⟩) (2 * k) cap ∧ wr.ownsRow w.heap.size 5 1 (.slice (some ⟨g, 0, none⟩) (2 * k) cap) (2 * k) (intV .u8 (hexI (zs.take k))) ∧ Below w.heap.size w wr) (fun _ i _ => zs.length - (intOf i).toNat)
  case atStart => exact ⟨0, w.heap.size, _, Nat.zero_le _, rfl, rfl, by simpa [hexI, hexL, intV] using HO1.out, HB1.out⟩
  case round =>
    obtain ⟨k, g, cap, hk, rfl, rfl, ho, hb⟩ := hrel
    have HO := Lib.hid ho
    have HB := Lib.hid hb
    have hbs := hb.size
    clear ho hb
    by_cases hlt : k < zs.length
    · obtain ⟨b, off, rfl, hbb, hc⟩ := (HR.out.below HB.out).int hlt
      have hzb := HZ.out zs[k] (List.getElem_mem hlt)
      have HN := Lib.hid (hexI_snoc zs k hlt)
      obtain ⟨z, hz⟩ : ∃ z : Nat, zs[k] = z := ⟨zs[k].toNat, by have := hzb.1; omega⟩
      rw [hz] at hc hzb HN
      have hzle : z ≤ 255 := by have := hzb.2; omega
      have z0 : (0 : Int) ≤ (z : Int) := by omega
      have z1 : (z : Int) ≤ 255 := by omega
      clear hz hzb
      have hdiv : (z : Int) / 16 = ((z / 16 : Nat) : Int) := by omega
      have hand : bits BinOp.and IntKind.u8 (z : Int) 15 = ((z % 16 : Nat) : Int) := and15 ⟨z, by omega⟩
      have ha1 : z / 16 < 16 := by omega
      have hb1 : z % 16 < 16 := by omega
      have hg1 := hex_get ⟨z / 16, ha1⟩
      have hg2 := hex_get ⟨z % 16, hb1⟩
      rw [Int.toNat_natCast] at HN
      generalize hza : z / 16 = za at *
      generalize hzb : z % 16 = zb at *
      have ia0 : (0 : Int) ≤ (za : Int) := by omega
      have ia1 : (za : Int) < 16 := by omega
      have ib0 : (0 : Int) ≤ (zb : Int) := by omega
      have ib1 : (zb : Int) < 16 := by omega
      clear hza hzb
      generalize dg za = u1 at *
      generalize dg zb = u2 at *
      go_wp2_with fail
      go_region_law (refine step_append_lies _ (by rfl) _ _ _ (by rfl) w.heap.size 5 i0 _ 1 1 Try.underlying41 hi0 hz0 hz1 hz2 rfl (by decide) (.slice (some ⟨g, 0, none⟩) (2 * k) cap) (2 * k) (intV .u8 (hexI (zs.take k))) (by rfl) (HO.out.alloc _) ⟨wr.heap.size, 0, none⟩ 2 2 [.int .u8 u1.toNat, .int .u8 u2.toNat] (by rfl) (by rfl) (cell_two_new _ _ _ _) (by simp [Value.oneCell']) (by omega) (by simp only [maxLen]; omega) (by omega) (by simp; omega) (wr.heap.size + 1) (by simp) ?_; intro g4 cap4 w4 hown4 hgrow4 hat4 hlt4)
      all_goals (
        have HB4 : Hid (Below w.heap.size w w4) := Lib.hid (((HB.out.alloc hbs _).drew).grown hgrow4 (by simp; omega) (fun q e => (HO.out.lt q e).1))
        have HO4 : Hid (w4.ownsRow w.heap.size 5 1 (.slice (some ⟨g4, 0, none⟩) (2 * (k + 1)) cap4) (2 * (k + 1)) (intV .u8 (hexI (zs.take (k + 1))))) := Lib.hid (by rw [HN.out]; exact hown4)
        clear hown4 hgrow4 hat4 hlt4
        go_wp2_with fail
        go_roundw
        (case rel => exact ⟨k + 1, g4, cap4, by omega, by go_num, rfl, HO4.out, HB4.out⟩)
        (case measure => first | (simp [intOf]; done) | (simp [intOf]; omega)))
    · obtain rfl : k = zs.length := by omega
      have hcv : (convert 41 9 (.slice (some ⟨g, 0, none⟩) (2 * zs.length) cap)).run Try.prog wr = .ok (.string (hexB zs)) wr := by
        have hl := hexL_len zs
        have h := run_convert_bytes_back (P := Try.prog) wr 41 9 5 ⟨g, 0, none⟩ cap (hexL zs) Try.underlying41 Try.underlying5 Try.underlying9 (fun j hj => by
          have hc := HO.out.cellAt j (by omega)
          rw [List.take_length] at hc
          have e : (⟨g, 0, none⟩ : Addr).add j = ⟨g, j, none⟩ := by unfold Addr.add; split <;> simp_all
          rw [e, hc]
          simp [intV, hexI, List.getElem?_eq_getElem hj])
        rw [hl] at h
        exact h
      go_wp2_with fail
      go_ret
      exact ⟨rfl, HB.out⟩
end Go.Proofs.Ytbdaaeffbhcflac
