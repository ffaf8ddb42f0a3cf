/-
  The law's helpers on rows of bytes: toByteS, szByteS, eqByteS, markByteS, heldByteS.
-/
import Derived.Test.YtiimbojcnmbebabProg
import Derived.Test.YtiimbojcnmbebabMem
import Derived.WalkLawsBesides
import Derived.WalkSpells
import Derived.BigQuiet
import Derived.Deep.QuietTactic
import Derived.Outline
namespace Go.Proofs.Ytiimbojcnmbebab
open Go.RowKit

theorem info_u8 : (Try.prog.info? 5).map (fun i => (i.zero, i.size, i.bytes)) = some (some (.int .u8 0), 1, 1) := by kernel_rfl
theorem intV_get {k : IntKind} {zs : List Int} {i : Nat} (h : i < (intV k zs).length) : (intV k zs)[i] = .int k (zs[i]'(by simpa [intV] using h)) := by simp [intV]
theorem intV_snoc (k : IntKind) (zs : List Int) (i : Nat) (h : i < zs.length) : intV k (zs.take (i + 1)) = intV k (zs.take i) ++ [.int k zs[i]] := by
  unfold intV; rw [List.take_succ_eq_append_getElem h, List.map_append]; rfl
theorem fill_int {z : Value} (k : IntKind) (zs : List Int) (i : Nat) (h : i < zs.length) :
    (intV k (zs.take i) ++ List.replicate (zs.length - i) z).set i (.int k zs[i]) = intV k (zs.take (i + 1)) ++ List.replicate (zs.length - (i + 1)) z := by
  rw [fill_step _ _ _ h (by simp [intV]; omega), intV_snoc k zs i h]

/-- The marks from k on, n bytes of them. -/
def marksB (k n : Nat) : List Int := (List.range n).map fun i => (((k + i) % 256 : Nat) : Int)
theorem marksB_len (k n : Nat) : (marksB k n).length = n := by simp [marksB]
theorem marksB_get (k n i : Nat) (h : i < (marksB k n).length) : (marksB k n)[i] = (((k + i) % 256 : Nat) : Int) := by simp [marksB]
theorem marksB_succ (k n : Nat) : marksB k (n + 1) = marksB k n ++ [(((k + n) % 256 : Nat) : Int)] := by simp [marksB, List.range_succ]
theorem marksB_step (k i n : Nat) (xs : List Int) (hx : xs.length = n) (hi : i < n) :
    (intV .u8 (marksB k i ++ xs.drop i)).set i (.int .u8 (((k + i) % 256 : Nat) : Int)) = intV .u8 (marksB k (i + 1) ++ xs.drop (i + 1)) := by
  unfold intV
  rw [List.map_append, List.set_append_right _ _ (by simp [marksB]), marksB_succ, List.map_append, List.length_map, marksB_len, Nat.sub_self]
  rw [List.drop_eq_getElem_cons (by omega), List.map_cons, List.set_cons_zero]
  simp
/-- byte(k) of a number that is not negative. -/
theorem byte_of (k : Nat) : IntKind.wrap .u8 (k : Int) = ((k % 256 : Nat) : Int) := by
  simp [IntKind.wrap, IntKind.signed, IntKind.bits]

end Go.Proofs.Ytiimbojcnmbebab
