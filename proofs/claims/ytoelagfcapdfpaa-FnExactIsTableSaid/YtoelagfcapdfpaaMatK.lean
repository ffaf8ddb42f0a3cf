/-
  The law's marks on rows of rows of bytes: markByteSS, heldByteSS.
-/
import Derived.Test.YtoelagfcapdfpaaMat
namespace Go.Proofs.Ytoelagfcapdfpaa
open Go.RowKit

theorem own_ne {w : World} {b1 b2 : Nat} {e1 e2 : TypeId} {s1 s2 : Nat} {v1 v2 : Value} {n1 n2 : Nat} {x1 x2 : List Value} (h1 : w.ownsRow b1 e1 s1 v1 n1 x1) (h2 : w.ownsRow b2 e2 s2 v2 n2 x2) (he : e1 ≠ e2) : v1.ownBlock = none ∨ v1.ownBlock ≠ v2.ownBlock := by
  rcases h1.2 with ⟨rfl, _⟩ | ⟨g, cap, cur, rfl, _, hg, _⟩
  · exact .inl rfl
  rcases h2.2 with ⟨rfl, _⟩ | ⟨g2, cap2, cur2, rfl, _, hg2, _⟩
  · right; simp [Value.ownBlock]
  · right
    intro e
    have e : g = g2 := by simpa [Value.ownBlock] using e
    subst e
    rw [hg] at hg2
    injection hg2 with hg2
    injection hg2 with _ ht
    exact he ht
theorem OwnR.kept {w w' : World} {lo hi : Nat} {e : TypeId} {v : Value} {xs : List Value} (h : OwnR w lo hi e v xs) {row : Option Nat} (hg : w.grownBy w' row) (hr : v.ownBlock = none ∨ v.ownBlock ≠ row) : OwnR w' lo hi e v xs := ⟨h.1.kept hg hr, h.2⟩
/-- One row is written anew. -/
theorem Rows.set {w w' : World} {lo hi : Nat} {hs : List Value} {m : List (List Int)} (h : Rows w lo hi hs m) {j : Nat} {x : Value} {ys : List Int} (hx : hs[j]? = some x) (ho : OwnR w' lo hi 5 x (intV .u8 ys)) (hg : w.grownBy w' x.ownBlock) : Rows w' lo hi hs (m.set j ys) := by
  refine ⟨by simp [h.len], fun i hi => ?_, h.apart⟩
  by_cases hij : i = j
  · subst hij
    exact ⟨x, hx, by simpa using ho⟩
  · obtain ⟨y, hy, hr⟩ := h.row i (by simpa using hi)
    refine ⟨y, hy, ?_⟩
    rw [List.getElem_set_ne (by omega)]
    refine hr.kept hg ?_
    rcases Nat.lt_or_ge i j with hlt | hge
    · exact h.apart i j y x hlt hy hx
    · rcases h.apart j i x y (by omega) hx hy with hn | hn
      · rw [hn]
        rcases hv : y.ownBlock with _ | g
        · exact .inl rfl
        · right; simp
      · exact .inr (fun e => hn e.symm)

/-- The first j rows bear the marks from k on. -/
def markTo (k : Nat) (m : List (List Int)) : Nat → List (List Int)
  | 0 => m
  | j + 1 => (markTo k m j).set j (marksB (k + total (m.take j)) (m.getD j []).length)
def marksM (k : Nat) (m : List (List Int)) : List (List Int) := markTo k m m.length
theorem markTo_len (k : Nat) (m : List (List Int)) (j : Nat) : (markTo k m j).length = m.length := by
  induction j with
  | zero => rfl
  | succ j ih => rw [markTo, List.length_set, ih]
theorem marksM_len (k : Nat) (m : List (List Int)) : (marksM k m).length = m.length := markTo_len _ _ _
theorem markTo_ge (k : Nat) (m : List (List Int)) (j i : Nat) (h : j ≤ i) : (markTo k m j)[i]? = m[i]? := by
  induction j with
  | zero => rfl
  | succ j ih => rw [markTo, List.getElem?_set_ne (by omega), ih (by omega)]
theorem markTo_lt (k : Nat) (m : List (List Int)) (j i : Nat) (h : i < j) (hi : i < m.length) : (markTo k m j)[i]? = some (marksB (k + total (m.take i)) m[i].length) := by
  induction j with
  | zero => omega
  | succ j ih =>
    rw [markTo]
    by_cases he : i = j
    · subst he
      rw [List.getElem?_set_self (by rw [markTo_len]; exact hi), List.getD_eq_getElem?_getD, List.getElem?_eq_getElem hi]
      rfl
    · rw [List.getElem?_set_ne (by omega), ih (by omega)]
theorem markTo_at (k : Nat) (m : List (List Int)) (j : Nat) (h : j < m.length) : (markTo k m j)[j]'(by rw [markTo_len]; exact h) = m[j] := by
  have := markTo_ge k m j j (Nat.le_refl _)
  rw [List.getElem?_eq_getElem (by rw [markTo_len]; exact h), List.getElem?_eq_getElem h] at this
  injection this
theorem marksM_at (k : Nat) (m : List (List Int)) (j : Nat) (h : j < m.length) : (marksM k m)[j]'(by rw [marksM_len]; exact h) = marksB (k + total (m.take j)) m[j].length := by
  have := markTo_lt k m m.length j h h
  rw [List.getElem?_eq_getElem (by rw [markTo_len]; exact h)] at this
  injection this

theorem markByteSS_calls (A : Option Addr) (c lo hi : Nat) (m : List (List Int)) (k : Nat) (w : World) (ho : OwnM w lo hi (.slice A m.length c) m) (hn : m.length ≤ 2097152) (hs : total m ≤ 2097152) (hk : k ≤ 2097152) (hB : lo ≤ w.heap.size) :
    Calls Try.prog 89 #[.slice A m.length c, .int .i64 k] w fun e w' => e = .returned (.int .i64 (k + total m)) ∧ OwnM w' lo hi (.slice A m.length c) (marksM k m) ∧ Span lo hi w w' := by
  obtain ⟨hd, hv, hrw⟩ := ho.rows
  have hdl := hrw.len
  have HV := Lib.hid hv
  have HR := Lib.hid hrw
  clear ho hv hrw
  go_enter Try.func89, Try.ntmps89
  go_wp2_with fail
  go_loopw [1, 5] (fun a i wr => ∃ j : Nat, j ≤ m.length ∧ i = .int .i64 j ∧ a = .int .i64 (k + total (m.take j)) ∧ OwnR wr lo hi 64 (.slice A m.length c) hd ∧ Rows wr lo hi hd (markTo k m j) ∧ Span lo hi w wr) (fun _ i _ => m.length - (intOf i).toNat)
  case atStart => exact ⟨0, Nat.zero_le _, rfl, by simp [total], HV.out, HR.out, Span.refl _ _ _⟩
  case round =>
    obtain ⟨j, hj, rfl, rfl, hv, hrw, hsp⟩ := hrel
    have htl := total_le m j
    by_cases hlt : j < m.length
    · obtain ⟨x, hx, hrx⟩ := hrw.row j (by rw [markTo_len]; exact hlt)
      rw [markTo_at k m j hlt] at hrx
      obtain ⟨Ai, ci, rfl⟩ := own_form hrx.1
      have h1 := hv.1
      rw [show hd.length = m.length by omega] at h1
      obtain ⟨b, off, e, hbb, hc⟩ := (Rd.of_own h1).at_ (k := j) (by omega)
      subst e
      have hj2 : j < hd.length := by omega
      rw [List.getElem?_eq_getElem hj2] at hx
      injection hx with hx
      rw [hx] at hc
      have hrl := row_le m m[j] (List.getElem_mem hlt)
      have h2 := hrx.1
      rw [intV_len] at h2 hc
      have HC := Lib.hid (markByteS_calls Ai ci lo m[j] (k + total (m.take j)) wr h2 (by omega) (by omega) (Nat.le_trans hB hsp.size))
      have HV2 := Lib.hid hv
      have HR2 := Lib.hid hrw
      have HX2 := Lib.hid hrx
      have HS2 := Lib.hid hsp
      have HT := Lib.hid (total_snoc m j hlt)
      have hx' : hd[j]? = some (.slice Ai m[j].length ci) := by rw [List.getElem?_eq_getElem hj2, hx, intV_len]
      have HX3 := Lib.hid hx'
      have HN := Lib.hid (own_ne hv.1 hrx.1 (by decide))
      clear hv hrw hrx hsp h1 h2 hx hx'
      go_wp2_with fail
      refine HC.out.mono ?_
      rintro e w2 ⟨rfl, ho2, hg2⟩
      have hne := HN.out
      rw [intV_len] at hne
      have HV3 := Lib.hid (HV2.out.kept hg2 hne)
      have hor : OwnR w2 lo hi 5 (.slice Ai m[j].length ci) (intV .u8 (marksB (k + total (m.take j)) m[j].length)) :=
        ⟨by rw [intV_len, marksB_len]; exact ho2, fun g hg => by have := HX2.out.2 g; rw [intV_len] at this; exact this hg⟩
      have HR3 := Lib.hid (HR2.out.set HX3.out hor hg2)
      have HS3 := Lib.hid (HS2.out.trans (Span.of_grown (lo := lo) (hi := hi) hg2 (fun g hg => ⟨(hor.1.lt g hg).1, hor.2 g hg⟩)))
      clear ho2 hg2 hne hor
      go_wp2_with fail
      go_roundw
      case rel =>
        refine ⟨j + 1, by omega, by go_num, ?_, HV3.out, ?_, HS3.out⟩
        · rw [HT.out]; push_cast; first | rfl | exact congrArg _ (by omega)
        · rw [markTo, List.getD_eq_getElem?_getD, List.getElem?_eq_getElem hlt]; exact HR3.out
      case measure => simp [intOf]; omega
    · obtain rfl : j = m.length := by omega
      have HV1 := Lib.hid hv
      have HR1 := Lib.hid hrw
      have HS1 := Lib.hid hsp
      clear hv hrw hsp
      go_wp2_with fail
      go_ret
      exact ⟨by first | rfl | (rw [List.take_length]; rfl), HR1.out.own HV1.out, HS1.out⟩

/-- heldByteSS, where the marks are there. -/
theorem heldByteSS_calls (A : Option Addr) (c : Nat) (m : List (List Int)) (k : Nat) (w : World) (hr : Rd2 w w.heap.size A (marksM k m)) (hn : m.length ≤ 2097152) (hs : total m ≤ 2097152) (hk : k ≤ 2097152) :
    Calls Try.prog 102 #[.slice A m.length c, .int .i64 k] w fun e w' => e = .returned (.int .i64 (k + total m)) ∧ w = w' := by
  have HR := Lib.hid hr
  clear hr
  go_enter Try.func102, Try.ntmps102
  go_wp2_with fail
  go_loop [1, 5] (fun a i => ∃ j : Nat, j ≤ m.length ∧ i = .int .i64 j ∧ a = .int .i64 (k + total (m.take j))) (fun _ i => m.length - (intOf i).toNat)
  case atStart => exact ⟨0, Nat.zero_le _, rfl, by simp [total]⟩
  case round =>
    obtain ⟨j, hj, rfl, rfl⟩ := hrel
    have htl := total_le m j
    by_cases hlt : j < m.length
    · obtain ⟨b, off, Ai, ci, rfl, hbb, hc, hci, hcm, hri⟩ := HR.out.at_ (i := j) (by rw [marksM_len]; exact hlt)
      rw [marksM_at k m j hlt] at hc hri hci
      rw [marksB_len] at hc hci
      have hrl := row_le m m[j] (List.getElem_mem hlt)
      have HC := Lib.hid (heldByteS_calls Ai ci m[j].length (k + total (m.take j)) w hri (by omega) (by omega))
      have HT := Lib.hid (total_snoc m j hlt)
      clear hri
      go_wp2_with fail
      refine HC.out.mono ?_
      rintro e w2 ⟨rfl, rfl⟩
      go_wp2_with fail
      go_round
      case rel =>
        refine ⟨j + 1, by omega, by go_num, ?_⟩
        rw [HT.out]; push_cast; first | rfl | exact congrArg _ (by omega)
      case measure => simp [intOf]; omega
    · obtain rfl : j = m.length := by omega
      go_wp2_with fail
      go_ret
      exact ⟨by first | rfl | (rw [List.take_length]; rfl), rfl⟩
end Go.Proofs.Ytoelagfcapdfpaa
