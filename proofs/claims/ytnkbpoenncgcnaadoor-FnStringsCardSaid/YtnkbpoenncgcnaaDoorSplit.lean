/-
  Splitting, of the specification (l1Split).
-/
import Derived.Test.YtnkbpoenncgcnaaDoorProg
import Derived.Test.YtnkbpoenncgcnaaDoorSplitM
import Derived.WalkLawsBesides
import Derived.WalkSpells
import Derived.OwnWalk
import Derived.Maps.AppendAt
import Derived.Outline
namespace Go.Proofs.YtnkbpoenncgcnaaDoor
open Go.RowKit

theorem info_str : (Tryd.prog.info? 9).map (fun i => (i.zero, i.size, i.bytes)) = some (some (.string ByteArray.empty), 1, 16) := by kernel_rfl
/-- A row of the call's own that is grown lies as deep as it lay. -/
theorem below_own {w w1 w2 : World} {base : Nat} {e : TypeId} {v : Value} {n : Nat} {xs : List Value} (hb : Below base w w1) (ho : w1.ownsRow base e 1 v n xs) (hg : w1.grownBy w2 v.ownBlock) (hB : base ≤ w1.heap.size) : Below base w w2 :=
  hb.grown hg hB fun k hk => (ho.lt k hk).1

set_option maxHeartbeats 400000 in
theorem l1Split_calls (s : ByteArray) (c : UInt8) (w : World) (hs : s.size ≤ 4000) :
    Calls Tryd.prog 35 #[.string s, .int .u8 c.toNat] w fun e w' => ∃ v, e = .returned v ∧ w'.ownsRow w.heap.size 9 1 v (splitF s c).length (strV (splitF s c)) ∧ Below w.heap.size w w' := by
  obtain ⟨i0, hi0, hz0, hz1, hz2⟩ := info_parts info_str
  go_enter Tryd.func35, Tryd.ntmps35
  go_wp2
  have hb0 : Below w.heap.size w (w.alloc (.cells #[] 9)) := (Below.refl _ _).alloc (Nat.le_refl _) _
  have ho0 : (w.alloc (.cells #[] 9)).ownsRow w.heap.size 9 1 (.slice (some ⟨w.heap.size, 0, none⟩) 0 0) 0 [] := World.ownsRow_made w #[] 0 (Nat.le_refl _) (Nat.zero_le _) rfl
  go_loopw [5, 6, 7] (fun o f i wr => ∃ k : Nat, k ≤ s.size ∧ i = .int .i64 k ∧ f = .int .i64 (stp s c k).2 ∧ wr.ownsRow w.heap.size 9 1 o (stp s c k).1.length (strV (stp s c k).1) ∧ Below w.heap.size w wr)
    (fun _ _ i _ => s.size - (intOf i).toNat)
  case atStart => exact ⟨0, Nat.zero_le _, rfl, rfl, ho0, hb0⟩
  case round =>
    obtain ⟨k, hk, rfl, rfl, hown, hbel⟩ := hrel
    clear ho0 hb0
    obtain ⟨hl2, hl1⟩ := stp_le s c k
    have hbs := hbel.size
    by_cases hlt : k < s.size
    · by_cases he : s[k] = c
      · have hb : (((s[k]).toNat : Int) == (c.toNat : Int)) = true := by rw [he]; simp
        have HS := Lib.hid (stp_hit hlt he)
        clear he
        generalize hst : stp s c k = q at *
        obtain ⟨parts, fr⟩ := q
        have HST := Lib.hid hst
        clear hst
        dsimp only at *
        have HO := Lib.hid hown
        have HB := Lib.hid hbel
        clear hown hbel
        go_wp2_with ((at_builtin; refine wpList_append_own _ rfl _ _ 44 rfl w.heap.size 9 i0 _ 1 16 Tryd.underlying44 hi0 hz0 hz1 hz2 rfl (by decide) _ _ _ rfl (HO.out.alloc _) ⟨wr.heap.size, 0, none⟩ 1 1 [.string (s.extract fr k)] rfl rfl (cell_one_new _ _ _) (by simp [Value.oneCell']) (by simp only [maxLen]; omega) (by omega) (by simp; omega) ?_; intro v' w1 hown1 hgrow _))
        have HB1 : Hid (Below w.heap.size w w1) := below_own (HB.out.alloc hbs _) (HO.out.alloc _) hgrow (by simp; omega)
        have HO1 : Hid (w1.ownsRow w.heap.size 9 1 v' (parts ++ [s.extract fr k]).length (strV (parts ++ [s.extract fr k]))) := by
          show w1.ownsRow w.heap.size 9 1 v' (parts ++ [s.extract fr k]).length (strV (parts ++ [s.extract fr k]))
          simpa [strV] using hown1
        clear hown1 hgrow
        go_roundw
        case rel => exact ⟨k + 1, by omega, by go_num, by rw [HS.out]; go_num, by rw [HS.out]; exact HO1.out, HB1.out⟩
        case measure => simp [intOf]; omega
      · have hb : (((s[k]).toNat : Int) == (c.toNat : Int)) = false := by
          rw [beq_eq_false_iff_ne]; intro h; exact he (UInt8.toNat_inj.1 (by omega))
        have HS := Lib.hid (stp_miss hlt he)
        have HO := Lib.hid hown
        have HB := Lib.hid hbel
        clear he hown hbel
        go_wp2_with fail
        go_roundw
        case rel => exact ⟨k + 1, by omega, by go_num, by rw [HS.out], by rw [HS.out]; exact HO.out, HB.out⟩
        case measure => simp [intOf]; omega
    · obtain rfl : k = s.size := by omega
      have HF : Hid (splitF s c = (stp s c s.size).1 ++ [s.extract (stp s c s.size).2 s.size]) := rfl
      generalize hst : stp s c s.size = q at *
      obtain ⟨parts, fr⟩ := q
      clear hst
      dsimp only at *
      have HO := Lib.hid hown
      have HB := Lib.hid hbel
      clear hown hbel
      go_wp2_with ((at_builtin; refine wpList_append_own _ rfl _ _ 44 rfl w.heap.size 9 i0 _ 1 16 Tryd.underlying44 hi0 hz0 hz1 hz2 rfl (by decide) _ _ _ rfl (HO.out.alloc _) ⟨wr.heap.size, 0, none⟩ 1 1 [.string (s.extract fr s.size)] rfl rfl (cell_one_new _ _ _) (by simp [Value.oneCell']) (by simp only [maxLen]; omega) (by omega) (by simp; omega) ?_; intro v' w1 hown1 hgrow _))
      have HB1 : Hid (Below w.heap.size w w1) := below_own (HB.out.alloc hbs _) (HO.out.alloc _) hgrow (by simp; omega)
      have HO1 : Hid (w1.ownsRow w.heap.size 9 1 v' (parts ++ [s.extract fr s.size]).length (strV (parts ++ [s.extract fr s.size]))) := by
        show w1.ownsRow w.heap.size 9 1 v' (parts ++ [s.extract fr s.size]).length (strV (parts ++ [s.extract fr s.size]))
        simpa [strV] using hown1
      clear hown1 hgrow
      go_ret
      exact ⟨_, rfl, by rw [HF.out]; exact HO1.out, HB1.out⟩
end Go.Proofs.YtnkbpoenncgcnaaDoor
