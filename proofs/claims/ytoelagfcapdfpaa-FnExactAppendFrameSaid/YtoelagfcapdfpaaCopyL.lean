/-
  The builtin copy onto a row of the call's own, as a law of the walk.
-/
import Derived.Test.YtoelagfcapdfpaaOver
import Derived.Laws.CopyOwn
namespace Go.Proofs.Ytoelagfcapdfpaa
open Go.RowKit

theorem take_over {C : List Value} {r ys : List Int} {o : Nat} (h : C.take r.length = intV .u8 r) (ho : o + ys.length ≤ r.length) (hc : r.length ≤ C.length) :
    (C.take o ++ (intV .u8 ys ++ C.drop (o + (intV .u8 ys).length))).take r.length = intV .u8 (over r o ys) := by
  have e : intV .u8 (over r o ys) = (intV .u8 r).take o ++ intV .u8 ys ++ (intV .u8 r).drop (o + ys.length) := by
    unfold over intV
    simp [List.map_take, List.map_drop]
  have l1 : (C.take o).length = o := by simp; omega
  have l2 : (intV .u8 ys).length = ys.length := intV_len _ _
  rw [e, ← h, l2, List.take_take, Nat.min_eq_left (by omega), List.drop_take, List.take_append, List.take_append, l1, l2,
    List.take_of_length_le (l := C.take o) (by omega), List.take_of_length_le (l := intV .u8 ys) (by omega), List.append_assoc, Nat.sub_sub]
theorem setRow_own {w : World} {lo g o cap : Nat} {r ys : List Int} {cur : Array Value} (hg : w.heap[g]? = some (.cells cur 5 (0, 0))) (h : w.ownsRow lo 5 1 (.slice (some ⟨g, 0, none⟩) r.length cap) r.length (intV .u8 r)) (h1 : 1 ≤ r.length) (ho : o + ys.length ≤ r.length) :
    (w.setRow g (cur.toList.take o ++ (intV .u8 ys ++ cur.toList.drop (o + (intV .u8 ys).length))).toArray).ownsRow lo 5 1 (.slice (some ⟨g, 0, none⟩) r.length cap) r.length (intV .u8 (over r o ys)) ∧
      w.grownBy (w.setRow g (cur.toList.take o ++ (intV .u8 ys ++ cur.toList.drop (o + (intV .u8 ys).length))).toArray) (some g) := by
  rcases h.2 with ⟨_, h0⟩ | ⟨g2, c2, cur2, e, hbg, hh, hnc, hcm, hcs, htk⟩
  · omega
  injection e with e1 _ e2
  injection e1 with e1
  injection e1 with e1
  subst e1; subst e2
  rw [hg] at hh
  injection hh with hh
  injection hh with hh
  subst hh
  rw [Nat.mul_one] at htk
  have hl : (intV .u8 ys).length = ys.length := intV_len _ _
  refine ⟨⟨by rw [intV_len, over_len ho]; omega, .inr ⟨g, cap, _, rfl, hbg, setRow_heap w g _ _ _ _ hg, hnc, hcm, ?_, ?_⟩⟩, rfl, rfl, rfl, by simp [World.setRow], fun k _ hne => setRow_other w g k _ (fun e => hne (by rw [e]))⟩
  · simp
    omega
  · rw [Nat.mul_one]
    exact take_over htk ho (by simp; omega)
theorem own_block {w : World} {lo g cap n : Nat} {xs : List Value} {e : TypeId} (h : w.ownsRow lo e 1 (.slice (some ⟨g, 0, none⟩) n cap) n xs) : ∃ cur : Array Value, w.heap[g]? = some (.cells cur e (0, 0)) ∧ cur.size = cap ∧ n ≤ cap := by
  rcases h.2 with ⟨e, h0⟩ | ⟨g2, c2, cur, e, hbg, hh, hnc, hcm, hcs, htk⟩
  · cases e
  injection e with e1 _ e2
  injection e1 with e1
  injection e1 with e1
  subst e1; subst e2
  exact ⟨cur, hh, by omega, hnc⟩
theorem rd_src {w : World} {B : Nat} {A : Option Addr} {ys : List Int} (h : Rd w B A (intV .u8 ys)) (h0 : 0 < ys.length) : ∃ ad, A = some ad ∧ ∀ j v, (intV .u8 ys)[j]? = some v → w.cell? (ad.add j) = some v := by
  rcases h with h | ⟨b, off, rfl, hb, hc⟩
  · have : ys = [] := by simpa [intV] using h
    subst this
    simp at h0
  · refine ⟨_, rfl, fun j v hv => ?_⟩
    rw [← hc j v hv]
    simp [Addr.add]
    by_cases hj : j = 0 <;> simp [hj]
theorem rd_take {w : World} {B : Nat} {A : Option Addr} {ys : List Int} (h : Rd w B A (intV .u8 ys)) (k : Nat) : Rd w B A (intV .u8 (ys.take k)) := by
  rcases h with h | ⟨b, off, rfl, hb, hc⟩
  · have : ys = [] := by simpa [intV] using h
    subst this
    left; simp [intV]
  · refine .inr ⟨b, off, rfl, hb, fun i u hu => hc i u ?_⟩
    simp only [intV, List.getElem?_map, List.getElem?_take] at hu ⊢
    split at hu
    · exact hu
    · simp at hu
theorem wb_take {m : List (List Int)} {n s l k : Nat} (h : k ≤ l) : (wb m n s l).take k = wb m n s k := by
  unfold wb
  rw [List.take_take, Nat.min_eq_left h]

section
variable {P : Program} {w : World} {ops : Array Oper} {o : Oper} {a : Act} {Q : Exit → Act → World → Prop}
theorem wpList_copy_row {rest : List Oper} (hgd : o.guard = none) (d s : Operand) (dT sT : TypeId)
    (ho : o.op = .call { callee := .builtin .copy, args := #[d, s], argTypes := #[dT, sT] }) (hu : P.underlying dT = some (.slice 5)) (hsz : (P.info? 5).map (·.size) = some 1)
    (dp sp : Option Addr) (dLen dCap sLen sCap : Nat) (hd : a.eval d = .slice dp dLen dCap) (hs : a.eval s = .slice sp sLen sCap)
    (g lo cap : Nat) (r : List Int) (hr : w.ownsRow lo 5 1 (.slice (some ⟨g, 0, none⟩) r.length cap) r.length (intV .u8 r)) (h1 : 1 ≤ r.length)
    (p : Nat) (ys : List Int) (k : Nat) (hk : ys.length = k) (hn : k = Nat.min sLen dLen) (hp : 0 < ys.length → dp = some ⟨g, p, none⟩) (hfit : p + ys.length ≤ r.length)
    (hsrc : 0 < ys.length → ∃ ad, sp = some ad ∧ ∀ j v, (intV .u8 ys)[j]? = some v → w.cell? (ad.add j) = some v)
    (h : ∀ w', w'.ownsRow lo 5 1 (.slice (some ⟨g, 0, none⟩) r.length cap) r.length (intV .u8 (over r p ys)) → w.grownBy w' (some g) → wpList P ops Q rest (a.put o.dst (goInt k)) w') : wpList P ops Q (o :: rest) a w := by
  subst hk
  by_cases h0 : ys.length = 0
  · obtain rfl : ys = [] := List.eq_nil_of_length_eq_zero h0
    refine wpList_copy_nothing hgd d s dT sT ho _ hu hsz dp sp dLen dCap sLen sCap hd hs (by simpa using hn.symm) ?_
    exact h w (by rw [over_nil]; exact hr) (World.grownBy.refl _ _)
  · obtain ⟨ad, rfl, hc⟩ := hsrc (by omega)
    obtain rfl := hp (by omega)
    obtain ⟨cur, hg, hcs, hnc⟩ := own_block hr
    have hl : (intV .u8 ys).length = ys.length := intV_len _ _
    have hso := setRow_own hg hr h1 hfit
    have h2 := h _ hso.1 hso.2
    rw [← hl] at h2
    exact wpList_copy_own hgd d s dT sT ho _ hu hsz g p dLen dCap ad sLen sCap hd hs cur _ hg (intV .u8 ys) (by rw [hl]; exact hn) hc (by rw [hl]; omega) (one_intV ys) h2
theorem step_copy_rowm {K : Act → World → Prop} {E : Prop} (hgd : o.guard = none) (d s : Operand) (dT sT : TypeId)
    (ho : o.op = .call { callee := .builtin .copy, args := #[d, s], argTypes := #[dT, sT] }) (hu : P.underlying dT = some (.slice 5)) (hsz : (P.info? 5).map (·.size) = some 1)
    (dp sp : Option Addr) (dLen dCap sLen sCap : Nat) (hd : a.eval d = .slice dp dLen dCap) (hs : a.eval s = .slice sp sLen sCap)
    (g lo cap : Nat) (r : List Int) (hr : w.ownsRow lo 5 1 (.slice (some ⟨g, 0, none⟩) r.length cap) r.length (intV .u8 r)) (h1 : 1 ≤ r.length)
    (p : Nat) (ys : List Int) (k : Nat) (hk : ys.length = k) (hn : k = Nat.min sLen dLen) (hp : 0 < ys.length → dp = some ⟨g, p, none⟩) (hfit : p + ys.length ≤ r.length)
    (hsrc : 0 < ys.length → ∃ ad, sp = some ad ∧ ∀ j v, (intV .u8 ys)[j]? = some v → w.cell? (ad.add j) = some v)
    (h : ∀ w', w'.ownsRow lo 5 1 (.slice (some ⟨g, 0, none⟩) r.length cap) r.length (intV .u8 (over r p ys)) → w.grownBy w' (some g) → K (a.put o.dst (goInt k)) w') :
    if Region.wanted o (yielded ops a.tmps) = true then Oper.wp P o a w K Q else E := by
  have hw : Region.wanted o (yielded ops a.tmps) = true := by simp [Region.wanted, hgd]
  rw [if_pos hw]
  subst hk
  by_cases h0 : ys.length = 0
  · obtain rfl : ys = [] := List.eq_nil_of_length_eq_zero h0
    have hrun := run_copy_none (P := P) w dT sT o.type _ dp sp dLen dCap sLen sCap hu hsz (by simpa using hn.symm)
    unfold Oper.wp
    simp [execOp, ho, resolve, invoke, builtin, hd, hs, hrun, Result.andThen]
    exact h w (by rw [over_nil]; exact hr) (World.grownBy.refl _ _)
  · obtain ⟨ad, rfl, hc⟩ := hsrc (by omega)
    obtain rfl := hp (by omega)
    obtain ⟨cur, hg, hcs, hnc⟩ := own_block hr
    have hl : (intV .u8 ys).length = ys.length := intV_len _ _
    have hso := setRow_own hg hr h1 hfit
    have h2 := h _ hso.1 hso.2
    rw [← hl] at h2
    have hrun := run_copy_row (P := P) w dT sT o.type _ g p dLen dCap ad sLen sCap cur _ (intV .u8 ys) hu hsz hg (by rw [hl]; exact hn) hc (by rw [hl]; omega) (one_intV ys)
    unfold Oper.wp
    simp [execOp, ho, resolve, invoke, builtin, hd, hs, hrun, Result.andThen]
    exact h2
end
end Go.Proofs.Ytoelagfcapdfpaa
