/-
  The law's helpers on rows of rows of bytes: toByteSS, szByteSS.
-/
import Derived.Test.YtoelagfcapdfpaaRow
namespace Go.Proofs.Ytoelagfcapdfpaa
open Go.RowKit

theorem info_u8s : (Try.prog.info? 64).map (fun i => (i.zero, i.size, i.bytes)) = some (some (.slice none 0 0), 1, 24) := by kernel_rfl

/-- Rows of the call's own, none twice. -/
structure Rows (w : World) (lo hi : Nat) (hs : List Value) (m : List (List Int)) : Prop where
  len : hs.length = m.length
  row : ∀ i (h : i < m.length), ∃ x, hs[i]? = some x ∧ OwnR w lo hi 5 x (intV .u8 m[i])
  apart : ∀ (i j : Nat) (x y : Value), i < j → hs[i]? = some x → hs[j]? = some y → x.ownBlock = none ∨ x.ownBlock ≠ y.ownBlock
section
variable {w w' : World} {lo hi : Nat} {v : Value} {hs : List Value} {m : List (List Int)}
theorem Rows.none_ (w : World) (lo hi : Nat) : Rows w lo hi [] [] := ⟨rfl, fun i h => by simp at h, fun i j x y _ h => by simp at h⟩
theorem Rows.span (h : Rows w lo hi hs m) {l2 h2 : Nat} (hp : Span l2 h2 w w') (ho : hi ≤ l2 ∨ h2 ≤ lo) : Rows w' lo hi hs m :=
  ⟨h.len, fun i hi => by obtain ⟨x, hx, hr⟩ := h.row i hi; exact ⟨x, hx, hr.span hp ho⟩, h.apart⟩
theorem Rows.below (h : Rows w lo hi hs m) (hb : Below w.heap.size w w') : Rows w' lo hi hs m := h.span (Span.of_below (lo := hi) (hi := hi) hb) (.inl (Nat.le_refl _))
theorem Rows.mono {lo' hi' : Nat} (h : Rows w lo hi hs m) (h1 : lo' ≤ lo) (h2 : hi ≤ hi') : Rows w lo' hi' hs m :=
  ⟨h.len, fun i hi => by obtain ⟨x, hx, hr⟩ := h.row i hi; exact ⟨x, hx, hr.mono h1 h2⟩, h.apart⟩
theorem Rows.snoc (h : Rows w lo hi hs m) {hi' : Nat} {x : Value} {r : List Int} (hx : OwnR w hi hi' 5 x (intV .u8 r)) (h1 : lo ≤ hi) (h2 : hi ≤ hi') : Rows w lo hi' (hs ++ [x]) (m ++ [r]) := by
  have hl := h.len
  refine ⟨by simp [hl], fun i hi => ?_, fun i j a b hij ha hb => ?_⟩
  · by_cases hlt : i < m.length
    · obtain ⟨y, hy, hr⟩ := h.row i hlt
      refine ⟨y, by rw [List.getElem?_append_left (by omega)]; exact hy, ?_⟩
      rw [List.getElem_append_left hlt]
      exact hr.mono (Nat.le_refl _) h2
    · have hi2 : i = m.length := by simp at hi; omega
      subst hi2
      refine ⟨x, by rw [List.getElem?_append_right (by omega), hl]; simp, ?_⟩
      rw [List.getElem_append_right (by omega)]
      simpa using hx.mono h1 (Nat.le_refl _)
  · have hj : j < m.length + 1 := by have := (List.getElem?_eq_some_iff.1 hb).1; simp at this; omega
    have hi : i < m.length := by omega
    rw [List.getElem?_append_left (by omega)] at ha
    by_cases hlt : j < m.length
    · rw [List.getElem?_append_left (by omega)] at hb
      exact h.apart i j a b hij ha hb
    · have hj2 : j = m.length := by omega
      subst hj2
      rw [List.getElem?_append_right (by omega), hl] at hb
      simp at hb
      subst hb
      obtain ⟨y, hy, hr⟩ := h.row i hi
      rw [ha] at hy
      injection hy with hy
      subst hy
      rcases hv : a.ownBlock with _ | g
      · exact .inl rfl
      · right
        intro e
        have := hr.2 g hv
        have := hx.1.lt g e.symm
        omega
theorem Rows.own (h : Rows w lo hi hs m) (hv : OwnR w lo hi 64 v hs) : OwnM w lo hi v m := ⟨hs, h.len, hv, h.row, h.apart⟩
theorem OwnM.rows (h : OwnM w lo hi v m) : ∃ hs, OwnR w lo hi 64 v hs ∧ Rows w lo hi hs m := by
  obtain ⟨hs, a, b, c, d⟩ := h
  exact ⟨hs, b, a, c, d⟩
end

/-- toByteSS: a new memory with the same bytes. -/
theorem toByteSS_calls (A : Option Addr) (c : Nat) (m : List (List Int)) (w : World) (hr : Rd2 w w.heap.size A m) (hn : m.length ≤ 1048576) (hs : ∀ r ∈ m, r.length ≤ 1048576) :
    Calls Try.prog 72 #[.slice A m.length c] w fun e w' => ∃ v, e = .returned v ∧ OwnM w' w.heap.size w'.heap.size v m ∧ Below w.heap.size w w' := by
  obtain ⟨i0, hi0, hz0, hz1, hz2⟩ := info_parts info_u8s
  obtain ⟨w1, hrun, hown, hg⟩ := run_make_full (P := Try.prog) w w.heap.size 22 64 i0 _ 1 Try.underlying22 hi0 hz0 hz1 .i64 .i64 m.length (by rw [hz2]; omega) (by simp only [maxLen]; omega) (Nat.le_refl _)
  have hb1 : Below w.heap.size w w1 := (Below.refl _ _).grown hg (Nat.le_refl _) (by simp)
  have hlt1 : w.heap.size + 1 ≤ w1.heap.size := by
    rcases hown.2 with ⟨hv, _⟩ | ⟨g, cap, cur, hv, _, hh, _⟩
    · cases hv
    · injection hv with hv; injection hv with hv; injection hv with hv; subst hv; exact (Array.getElem?_eq_some_iff.1 hh).1
  rw [show (madeCells (Value.slice none 0 0).cells (m.length * 1)).toList = List.replicate m.length (.slice none 0 0) by rw [Nat.mul_one]; exact toList_madeCells_one _ _] at hown
  have HO := Lib.hid hown
  have HB0 := Lib.hid hb1
  clear hown hb1
  have HZ := Lib.hid hr
  have HS := Lib.hid hs
  clear hr hs
  go_enter Try.func72, Try.ntmps72
  go_wp2_with fail
  clear hrun
  go_loopw [4] (fun i wr => ∃ (k : Nat) (hd : List Value), k ≤ m.length ∧ i = .int .i64 k ∧ w.heap.size + 1 ≤ wr.heap.size ∧ wr.ownsRow w.heap.size 64 1 (.slice (some ⟨w.heap.size, 0, none⟩) m.length m.length) m.length (hd ++ List.replicate (m.length - k) (.slice none 0 0)) ∧ Rows wr (w.heap.size + 1) wr.heap.size hd (m.take k) ∧ Below w.heap.size w wr)
    (fun i _ => m.length - (intOf i).toNat)
  case atStart => exact ⟨0, [], Nat.zero_le _, rfl, hlt1, by simpa using HO.out, by simpa using Rows.none_ _ _ _, HB0.out⟩
  case round =>
    obtain ⟨k, hd, hk, rfl, hsz, ho, hrw, hb⟩ := hrel
    have HR := Lib.hid hrw
    have hdl : hd.length = k := by have := hrw.len; rw [List.length_take] at this; omega
    clear hrw
    by_cases hlt : k < m.length
    · obtain ⟨b, off, Ai, ci, rfl, hbb, hc, hci, hcm, hri⟩ := (HZ.out.below hb).at_ hlt
      have hf := ho.frozenAt k
      have hd0 : wr.cell? ⟨w.heap.size, k, none⟩ = some (.slice none 0 0) := by
        rw [ho.cellAt k (by omega), List.getElem?_append_right (by omega), List.getElem?_replicate, if_pos (by omega)]
      have hrlen := HS.out m[k] (List.getElem_mem hlt)
      have HC := Lib.hid (toByteS_calls Ai ci m[k] wr (hri.more hb.size) hrlen)
      have HO2 := Lib.hid ho
      have HB := Lib.hid hb
      clear ho hb hri
      go_wp2_with fail
      refine HC.out.mono ?_
      rintro e w2 ⟨v, rfl, hv, hb2⟩
      obtain ⟨Av, cv, rfl⟩ := own_form hv
      have ho3 := own_below HO2.out hb2
      have hf3 := ho3.frozenAt k
      have hd3 : w2.cell? ⟨w.heap.size, k, none⟩ = some (.slice none 0 0) := by
        rw [ho3.cellAt k (by omega), List.getElem?_append_right (by omega), List.getElem?_replicate, if_pos (by omega)]
      have hst := ho3.stored k (.slice Av m[k].length cv)
      rw [fill_step hd _ _ hlt hdl] at hst
      have hsp : Span w.heap.size (w.heap.size + 1) w2 (w2.setCell ⟨w.heap.size, k, none⟩ (.slice Av m[k].length cv)) := Span.of_grown hst.2 (fun g e => by simp at e; omega)
      have hnew : OwnR w2 wr.heap.size w2.heap.size 5 (.slice Av m[k].length cv) (intV .u8 m[k]) := OwnR.new (by rw [intV_len]; exact hv)
      have HRN := Lib.hid (((HR.out.below hb2).snoc hnew hsz hb2.size).span hsp (.inr (Nat.le_refl _)))
      have HON := Lib.hid hst.1
      have HBN := Lib.hid ((HB.out.trans (hb2.mono HB.out.size)).setCell (p := ⟨w.heap.size, k, none⟩) (Nat.le_refl _) (.slice Av m[k].length cv))
      have hs2 := hb2.size
      have HSZ := Lib.hid (show (w2.setCell ⟨w.heap.size, k, none⟩ (.slice Av m[k].length cv)).heap.size = w2.heap.size from World.size_setCell _ _ _)
      clear hst hsp hnew hb2 hv ho3
      go_wp2_with fail
      go_roundw
      case rel => exact ⟨k + 1, hd ++ [.slice Av m[k].length cv], by omega, by go_num, by rw [HSZ.out]; omega, HON.out, by rw [List.take_succ_eq_append_getElem hlt, HSZ.out]; exact HRN.out, HBN.out⟩
      case measure => simp [intOf]; omega
    · have he : k = m.length := by omega
      subst he
      have HO2 := Lib.hid ho
      have HB := Lib.hid hb
      clear ho hb
      go_wp2_with fail
      go_ret
      refine ⟨_, rfl, ?_, HB.out⟩
      have h1 := HO2.out
      rw [Nat.sub_self, List.replicate_zero, List.append_nil] at h1
      have h2 := HR.out
      rw [List.take_length] at h2
      refine (h2.mono (Nat.le_succ _) (Nat.le_refl _)).own ⟨by rw [hdl]; exact h1, fun g e => by simp [Value.ownBlock] at e; omega⟩

/-- The bytes of rows. -/
def total (m : List (List Int)) : Nat := (m.map List.length).sum
theorem total_snoc (m : List (List Int)) (k : Nat) (h : k < m.length) : total (m.take (k + 1)) = total (m.take k) + m[k].length := by
  unfold total; rw [List.take_succ_eq_append_getElem h, List.map_append, List.sum_append]; simp
theorem total_le (m : List (List Int)) (k : Nat) : total (m.take k) ≤ total m := by
  unfold total
  rw [← List.take_append_drop k m, List.map_append, List.sum_append]
  simp
theorem row_le (m : List (List Int)) (r : List Int) (h : r ∈ m) : r.length ≤ total m := by
  unfold total
  induction m with
  | nil => cases h
  | cons a m ih =>
    rw [List.map_cons, List.sum_cons]
    rcases List.mem_cons.1 h with rfl | h
    · omega
    · have := ih h; omega

/-- What szByteSS answers: -1, or the number that is left. -/
def SzM (m : List (List Int)) (left : Int) (e : Ending) : Prop :=
  ∃ r : Int, e = .returned (.int .i64 r) ∧ (r = -1 ∨ (0 ≤ r ∧ r = left - m.length - total m))
theorem szByteSS_calls (A : Option Addr) (c : Nat) (m : List (List Int)) (w : World) (left : Int) (hr : Rd2 w w.heap.size A m) (hn : m.length ≤ maxLen) (hl0 : 0 ≤ left) (hl1 : left ≤ 1048576) :
    Calls Try.prog 69 #[.slice A m.length c, .int .i64 left] w fun e w' => SzM m left e ∧ w = w' := by
  unfold maxLen at hn
  have HZ := Lib.hid hr
  clear hr
  by_cases h0 : left < m.length
  · go_enter Try.func69, Try.ntmps69
    go_wp2
    go_ret
    exact ⟨⟨-1, rfl, .inl rfl⟩, rfl⟩
  · go_enter Try.func69, Try.ntmps69
    go_wp2
    go_loop [1, 5] (fun l i => ∃ k : Nat, ∃ r : Int, k ≤ m.length ∧ i = .int .i64 k ∧ l = .int .i64 r ∧ 0 ≤ r ∧ r ≤ 1048576 ∧ r = left - m.length - total (m.take k)) (fun _ i => m.length - (intOf i).toNat)
    case atStart => exact ⟨0, left - m.length, Nat.zero_le _, rfl, rfl, by omega, by omega, by simp [total]⟩
    case round =>
      obtain ⟨k, r, hk, rfl, rfl, hr0, hr1, hr2⟩ := hrel
      have HR := Lib.hid hr2
      clear hr2
      by_cases hlt : k < m.length
      · obtain ⟨b, off, Ai, ci, rfl, hbb, hc, hci, hcm, hri⟩ := HZ.out.at_ hlt
        have HS := Lib.hid (total_snoc m k hlt)
        have HC := Lib.hid (szByteS_calls Ai m[k].length ci w r (by omega) hr0 hr1)
        unfold maxLen at hcm
        by_cases hneg : r < m[k].length
        · rw [if_pos hneg] at HC
          go_wp2_with fail
          refine HC.out.mono ?_
          rintro e w2 ⟨rfl, rfl⟩
          go_wp2_with fail
          go_ret
          exact ⟨⟨-1, rfl, .inl rfl⟩, rfl⟩
        · rw [if_neg hneg] at HC
          go_wp2_with fail
          refine HC.out.mono ?_
          rintro e w2 ⟨rfl, rfl⟩
          go_wp2_with fail
          go_round
          case rel => exact ⟨k + 1, r - m[k].length, by omega, by go_num, rfl, by omega, by omega, by have := HR.out; have := HS.out; omega⟩
          case measure => simp [intOf]; omega
      · have he : m.take k = m := List.take_of_length_le (by omega)
        have HE := Lib.hid he
        clear he
        go_wp2
        go_ret
        exact ⟨⟨r, rfl, .inr ⟨hr0, by have := HR.out; rw [HE.out] at this; exact this⟩⟩, rfl⟩
end Go.Proofs.Ytoelagfcapdfpaa
