/-
  The program's turning of a row's part in place, off the library's shelf, in words of rows of the call's own.
-/
import Derived.Test.YtbdaaeffbhcflabOver
import Derived.Test.YtbdaaeffbhcflabOpen
import Derived.Shelf.SlicesE.Reverse
namespace Go.Proofs.Ytbdaaeffbhcflab
open Go.RowKit Go.Sort

def rev_ren : Go.Shelf.Ren := ⟨fun | 35 => 64 | n => n, fun | 0 => 0 | 3 => 3 | 4 => 4 | 22 => 43 | 23 => 5 | n => n, fun | n => n⟩
theorem rev_lays : Go.Proofs.SlLaysE.n35 Try.prog rev_ren := {
  mixed := by kernel_rfl
  f35 := ⟨Try.f64.name, by kernel_rfl, Try.func64.trans (congrArg some (by kernel_rfl))⟩
  t0 := Try.underlying0
  a0 := Try.isAgg0
  z0 := Try.sizeOf0
  v0 := Try.zeroValue0
  t3 := Try.underlying3
  a3 := Try.isAgg3
  z3 := Try.sizeOf3
  v3 := Try.zeroValue3
  t4 := Try.underlying4
  a4 := Try.isAgg4
  z4 := Try.sizeOf4
  v4 := Try.zeroValue4
  t22 := Try.underlying43
  a22 := Try.isAgg43
  z22 := Try.sizeOf43
  v22 := Try.zeroValue43
  a23 := Try.isAgg5
  z23 := Try.sizeOf5 }
theorem take_put {cur : Array Value} {r ys : List Int} {o : Nat} (h : cur.toList.take r.length = intV .u8 r) (ho : o + ys.length ≤ r.length) :
    (putCells (Value.int .u8) o ys.toArray cur).toList.take r.length = intV .u8 (over r o ys) := by
  refine List.ext_getElem? fun i => ?_
  by_cases hi : i < r.length
  · have h1 : cur.toList[i]? = some (.int .u8 r[i]) := by
      have := congrArg (fun l : List Value => l[i]?) h
      simp only [List.getElem?_take, hi, if_true] at this
      rw [this]
      simp [intV, hi]
    have h2 : cur[i]? = some (.int .u8 r[i]) := by simpa using h1
    have h3 : (putCells (Value.int .u8) o ys.toArray cur)[i]? = some (if o ≤ i ∧ i < o + ys.length then .int .u8 ys[i - o]! else .int .u8 r[i]) := by
      unfold putCells
      rw [Array.getElem?_mapIdx, h2]
      simp
    have h4 : ((putCells (Value.int .u8) o ys.toArray cur).toList.take r.length)[i]? = (putCells (Value.int .u8) o ys.toArray cur)[i]? := by simp [hi]
    rw [h4, h3]
    unfold over intV
    rw [List.getElem?_map]
    by_cases hin : o ≤ i ∧ i < o + ys.length
    · rw [if_pos hin, List.append_assoc, List.getElem?_append_right (by simp; omega), List.getElem?_append_left (by simp; omega)]
      have e : i - (r.take o).length = i - o := by simp; omega
      rw [e, List.getElem?_eq_getElem (by omega)]
      simp [getElem!_pos, show i - o < ys.length by omega]
    · rw [if_neg hin]
      by_cases hlo : i < o
      · rw [List.append_assoc, List.getElem?_append_left (by simp; omega), List.getElem?_take, if_pos hlo, List.getElem?_eq_getElem hi]
        rfl
      · have hl : (r.take o ++ ys).length = o + ys.length := by simp; omega
        rw [List.getElem?_append_right (by omega), hl, List.getElem?_drop, show o + ys.length + (i - (o + ys.length)) = i by omega, List.getElem?_eq_getElem hi]
        rfl
  · rw [List.getElem?_eq_none (by simp; omega), List.getElem?_eq_none (by rw [intV_len, over_len ho]; omega)]
theorem put_own {w : World} {lo g o cap n : Nat} {r ys : List Int} (h : w.ownsRow lo 5 1 (.slice (some ⟨g, 0, none⟩) r.length cap) r.length (intV .u8 r)) (h1 : 1 ≤ r.length) (ho : o + ys.length ≤ r.length) :
    (putRow (Value.int .u8) (Go.Sort.ahead w n) g o ys.toArray).ownsRow lo 5 1 (.slice (some ⟨g, 0, none⟩) r.length cap) r.length (intV .u8 (over r o ys)) ∧ w.grownBy (putRow (Value.int .u8) (Go.Sort.ahead w n) g o ys.toArray) (some g) := by
  rcases h.2 with ⟨_, h0⟩ | ⟨g2, c2, cur, e, hbg, hh, hnc, hcm, hcs, htk⟩
  · omega
  injection e with e1 _ e2
  injection e1 with e1
  injection e1 with e1
  subst e1; subst e2
  have hb : (putRow (Value.int .u8) (Go.Sort.ahead w n) g o ys.toArray).heap[g]? = some (.cells (putCells (Value.int .u8) o ys.toArray cur) 5 (0, 0)) := by
    have hlt := (Array.getElem?_eq_some_iff.1 hh).1
    unfold putRow mapBlock Go.Sort.ahead
    simp only [Array.getElem?_modify, if_true]
    rw [hh]
    rfl
  refine ⟨⟨by rw [intV_len, over_len ho]; omega, .inr ⟨g, cap, _, rfl, hbg, hb, hnc, hcm, by simpa [putCells] using hcs, ?_⟩⟩, rfl, rfl, rfl, by simp [putRow, mapBlock, Go.Sort.ahead], fun k _ hk => ?_⟩
  · rw [Nat.mul_one] at htk ⊢
    exact take_put htk ho
  · have hne : g ≠ k := fun e => hk (by rw [e])
    unfold putRow mapBlock Go.Sort.ahead
    simp only [Array.getElem?_modify, if_neg hne]
theorem reverse_calls (g o cp lo cap : Nat) (r zs : List Int) (w : World) (h : w.ownsRow lo 5 1 (.slice (some ⟨g, 0, none⟩) r.length cap) r.length (intV .u8 r)) (h1 : 1 ≤ r.length) (hz : zs = (r.drop o).take zs.length) (ho : o + zs.length ≤ r.length) (h64 : r.length ≤ 64) :
    Calls Try.prog 64 #[.slice (some ⟨g, o, none⟩) zs.length cp] w fun e w' => e = .returned (.tuple #[]) ∧ w'.ownsRow lo 5 1 (.slice (some ⟨g, 0, none⟩) r.length cap) r.length (intV .u8 (over r o zs.reverse)) ∧ w.grownBy w' (some g) := by
  refine (AnyE.slices_Reverse rev_lays (Value.int .u8) (fun _ => rfl) g o cp zs w (fun j hj => ?_) (by omega)).mono ?_
  · have hj : j < zs.length := by simpa using hj
    refine ⟨?_, h.frozenAt _⟩
    rw [h.cellAt (o + j) (by omega), List.getElem?_eq_getElem (by rw [intV_len]; omega), intV_get]
    have e : zs[j] = r[o + j] := by
      have h2 : zs[j]? = ((r.drop o).take zs.length)[j]? := by rw [← hz]
      rw [List.getElem?_take, if_pos hj, List.getElem?_drop, List.getElem?_eq_getElem hj, List.getElem?_eq_getElem (by omega)] at h2
      injection h2
    rw [← e]
    simp [hj]
  · rintro e w' ⟨rfl, n, rfl⟩
    exact ⟨rfl, put_own h h1 (by rw [List.length_reverse]; exact ho)⟩
end Go.Proofs.Ytbdaaeffbhcflab
