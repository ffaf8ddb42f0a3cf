/-
  Lists of entries of one's own: the law's helpers on them.
-/
import Derived.Test.YtoelagfcapdfpaaTbB
namespace Go.Proofs.Ytoelagfcapdfpaa
open Go.RowKit Go.ChangeShapes Go.WideShapes Go.Joins Go.Deep

/-- Cells of entries: those of the first k of xs stand where they should. -/
def EC (cs : List Value) (xs : List En) (k : Nat) : Prop :=
  ∀ (i : Nat) (x : En), i < k → xs[i]? = some x → x.key.length = 16 ∧ ∀ (j : Nat) (v : Value), (enL x)[j]? = some v → cs[i * 20 + j]? = some v
theorem EC.zero (cs : List Value) (xs : List En) : EC cs xs 0 := fun i x h => by omega
theorem EC.step {cs : List Value} {xs : List En} {k : Nat} (h : EC cs xs k) (hk : k < xs.length) (hK : xs[k].key.length = 16) (hl : xs.length * 20 ≤ cs.length) :
    EC (setL cs (k * 20) (enL xs[k])) xs (k + 1) := fun i x hi hx => by
  rcases Nat.lt_or_ge i k with hlt | hge
  · obtain ⟨h0, h1⟩ := h i x hlt hx
    refine ⟨h0, fun j v hv => ?_⟩
    have hj := (List.getElem?_eq_some_iff.1 hv).1
    rw [enL_len h0] at hj
    rw [setL_out _ _ _ _ (.inl (by omega))]
    exact h1 j v hv
  · obtain rfl : i = k := by omega
    rw [List.getElem?_eq_getElem hk] at hx
    injection hx with hx
    subst hx
    refine ⟨hK, fun j v hv => ?_⟩
    have hj := (List.getElem?_eq_some_iff.1 hv).1
    rw [setL_in _ _ _ _ (by rw [enL_len hK]; omega) hj]
    exact hv
/-- A list of entries of the call's own. -/
def OwnE (w : World) (lo hi : Nat) (v : Value) (xs : List En) : Prop := ∃ cs, OwnS w lo hi 93 20 v xs.length cs ∧ EC cs xs xs.length
section
variable {w w' : World} {lo hi : Nat} {v : Value} {xs : List En}
theorem OwnE.span (h : OwnE w lo hi v xs) {l2 h2 : Nat} (hs : Span l2 h2 w w') (ho : hi ≤ l2 ∨ h2 ≤ lo) : OwnE w' lo hi v xs := by
  obtain ⟨cs, a, b⟩ := h
  exact ⟨cs, a.span hs ho, b⟩
theorem OwnE.below (h : OwnE w lo hi v xs) (hb : Below w.heap.size w w') : OwnE w' lo hi v xs := h.span (Span.of_below (lo := hi) (hi := hi) hb) (.inl (Nat.le_refl _))
theorem OwnE.form (h : OwnE w lo hi v xs) : ∃ A c, v = .slice A xs.length c := by
  obtain ⟨cs, a, b⟩ := h
  rcases a.1.2 with ⟨rfl, hn⟩ | ⟨g, cap, cur, rfl, _⟩
  · exact ⟨none, 0, by rw [hn]⟩
  · exact ⟨_, _, rfl⟩
theorem OwnE.rd {A : Option Addr} {c : Nat} (h : OwnE w lo hi (.slice A xs.length c) xs) : RdE w w.heap.size A xs := by
  obtain ⟨cs, a, b⟩ := h
  rcases a.1.2 with ⟨hv, hn⟩ | ⟨g, cap, cur, hv, _, hg, _⟩
  · exact .inl (List.eq_nil_of_length_eq_zero hn)
  · right
    injection hv with hA _ hc
    subst hA; subst hc
    have hl := a.1.1
    refine ⟨g, 0, rfl, (Array.getElem?_eq_some_iff.1 hg).1, fun i x hx => ?_⟩
    have hi : i < xs.length := (List.getElem?_eq_some_iff.1 hx).1
    obtain ⟨h0, h1⟩ := b i x hi hx
    refine ⟨h0, fun j v hv => ?_⟩
    have hj := (List.getElem?_eq_some_iff.1 hv).1
    rw [enL_len h0] at hj
    rw [Nat.zero_add, a.1.cellAt _ (by omega)]
    exact h1 j v hv
end

/-- szEntryS: what is left, or -1. -/
theorem szEntryS_calls (A : Option Addr) (n c : Nat) (w : World) (left : Int) (hn : n ≤ maxLen) (hl0 : 0 ≤ left) (hl1 : left ≤ 1048576) :
    Calls Try.prog 32 #[.slice A n c, .int .i64 left] w fun e w' => e = .returned (.int .i64 (if left < n then -1 else left - n)) ∧ w = w' := by
  unfold maxLen at hn
  by_cases h0 : left < n
  · rw [if_pos h0]
    go_enter Try.func32, Try.ntmps32
    go_wp2
    go_ret
    exact ⟨rfl, rfl⟩
  · rw [if_neg h0]
    go_enter Try.func32, Try.ntmps32
    go_wp2
    go_ret
    exact ⟨rfl, rfl⟩
/-- eqEntry, where both are the same. -/
theorem eqEntrySame_calls (x : En) (w : World) (hx : x.key.length = 16) :
    Calls Try.prog 83 #[.agg (enL x).toArray, .agg (enL x).toArray] w fun e w' => e = .returned (.bool true) ∧ Below w.heap.size w w' := by
  obtain ⟨hb, g1, g2, gz⟩ := enter2 w (.cells (enL x).toArray 93) (.cells (enL x).toArray 93)
  obtain ⟨w0, hw0⟩ : ∃ w0, (w.alloc (.cells (enL x).toArray 93)).alloc (.cells (enL x).toArray 93) = w0 := ⟨_, rfl⟩
  rw [hw0] at hb g1 g2 gz
  have HB := Lib.hid hb
  have HW := Lib.hid hw0
  have H1 := Lib.hid (show EBox 93 w0 w.heap.size x from ⟨g1, hx⟩)
  have H2 := Lib.hid (show EBox 93 w0 (w.heap.size + 1) x from ⟨g2, hx⟩)
  have HK := Lib.hid hx
  clear hb hw0 g1 g2 gz hx
  go_enter Try.func83, Try.ntmps83
  go_upto_region 1 with fail
  rw [HW.out]
  go_wp2_with (first | (refine wpList_load_mid rfl 28 _ rfl w.heap.size 0 rfl (intV .u8 x.key) _ H1.out.key under_key rfl (size_key HK.out) ?_) | (refine wpList_load_mid rfl 28 _ rfl (w.heap.size + 1) 0 rfl (intV .u8 x.key) _ H2.out.key under_key rfl (size_key HK.out) ?_))
  refine (eqByteA16_calls x.key w0 HK.out).mono ?_
  rintro e w1 ⟨rfl, hb1⟩
  have HB1 := Lib.hid (HB.out.trans (hb1.mono HB.out.size))
  obtain ⟨a0, a1, a2, a3⟩ := (H1.out.below hb1).win
  obtain ⟨b0, b1, b2, b3⟩ := (H2.out.below hb1).win
  clear hb1
  go_wp2_with fail
  have hdw : decide ((⟨x.w.arr, x.w.start, x.w.len, x.w.cap⟩ : Win) = ⟨x.w.arr, x.w.start, x.w.len, x.w.cap⟩) = true := by simp
  refine (eqWindow_calls ⟨x.w.arr, x.w.start, x.w.len, x.w.cap⟩ ⟨x.w.arr, x.w.start, x.w.len, x.w.cap⟩ w1).mono ?_
  rintro e w2 ⟨rfl, hb2⟩
  have HB2 := Lib.hid (HB1.out.trans (hb2.mono HB1.out.size))
  rw [hdw]
  clear hb2 a0 a1 a2 a3 b0 b1 b2 b3
  go_wp2_with fail
  go_ret
  exact ⟨rfl, HB2.out⟩
theorem under_entL : Try.prog.underlying 96 = some (Try.prog.underlying 96).get! := by kernel_rfl

/-- toEntryS: a new list with the same. -/
theorem toEntryS_calls (A : Option Addr) (c : Nat) (xs : List En) (w : World) (hr : RdE w w.heap.size A xs) (hn : xs.length ≤ 1048576) :
    Calls Try.prog 34 #[.slice A xs.length c] w fun e w' => ∃ v, e = .returned v ∧ OwnE w' w.heap.size w'.heap.size v xs ∧ Below w.heap.size w w' := by
  obtain ⟨i0, hi0, hz0, hz1, hz2⟩ := info_parts info_ent
  obtain ⟨w1, hrun, hown, hg⟩ := run_make_full (P := Try.prog) w w.heap.size 46 93 i0 _ 20 Try.underlying46 hi0 hz0 hz1 .i64 .i64 xs.length (by rw [hz2]; omega) (by simp only [maxLen]; omega) (Nat.le_refl _)
  have hb1 : Below w.heap.size w w1 := (Below.refl _ _).grown hg (Nat.le_refl _) (by simp)
  have HO := Lib.hid hown
  have HB0 := Lib.hid hb1
  clear hown hb1
  have HZ := Lib.hid hr
  clear hr
  go_enter Try.func34, Try.ntmps34
  go_wp2_with fail
  clear hrun
  go_loopw [4] (fun i wr => ∃ (k : Nat) (cs : List Value), k ≤ xs.length ∧ i = .int .i64 k ∧ wr.ownsRow w.heap.size 93 20 (.slice (some ⟨w.heap.size, 0, none⟩) xs.length xs.length) xs.length cs ∧ EC cs xs k ∧ Below w.heap.size w wr)
    (fun i _ => xs.length - (intOf i).toNat)
  case atStart => exact ⟨0, _, Nat.zero_le _, rfl, HO.out, EC.zero _ _, HB0.out⟩
  case round =>
    obtain ⟨k, cs, hk, rfl, ho, hwc, hb⟩ := hrel
    by_cases hlt : k < xs.length
    · obtain ⟨b, off, rfl, hbb, hkl, hrg⟩ := (HZ.out.below hb).at_ hlt
      have HWS := Lib.hid (hwc.step hlt hkl (by have := ho.1; omega))
      have HO2 := Lib.hid ho
      have HB := Lib.hid hb
      have HKL := Lib.hid hkl
      have HRG := Lib.hid hrg
      generalize xs[k] = x at *
      clear ho hb hwc hkl hrg
      go_wp2_with (refine wpList_load_mid rfl 96 _ rfl b (off + k * 20) rfl (enL x) _ HRG.out under_entL (by kernel_rfl) (size_entL HKL.out) ?_)
      refine (toEntry_calls x wr HKL.out).mono ?_
      rintro e w2 ⟨rfl, hb2⟩
      have ho2 : w2.ownsRow w.heap.size 93 20 (.slice (some ⟨w.heap.size, 0, none⟩) xs.length xs.length) xs.length cs := by
        refine HO2.out.kept (grown_of_below hb2 none) (.inr (by simp [Value.ownBlock]))
      have HTH : Hid (w2.there w.heap.size (k * 20) (enL x).toArray.size) := Lib.hid fun j hj => by
        rw [List.size_toArray, enL_len HKL.out] at hj
        have hcl := ho2.1
        refine ⟨?_, ho2.frozenAt _⟩
        rw [ho2.cellAt _ (by omega), List.getElem?_eq_getElem (by omega)]
        rfl
      have HON := Lib.hid (stored_cells (enL x) (k * 20) w2 cs ho2)
      have HBN := Lib.hid (below_setCells (g := w.heap.size) (enL x) (k * 20) (HB.out.trans (hb2.mono HB.out.size)) (Nat.le_refl _))
      clear ho2 hb2
      go_wp2_with (refine wpList_store_mid rfl 93 _ _ rfl w.heap.size (k * 20) (enL x).toArray rfl rfl HTH.out (size_ent HKL.out) (enL_one _) ?_)
      go_roundw
      case rel => exact ⟨k + 1, _, by omega, by go_num, HON.out, HWS.out, HBN.out⟩
      case measure => simp [intOf]; omega
    · obtain rfl : k = xs.length := by omega
      have HO2 := Lib.hid ho
      have HWC := Lib.hid hwc
      have HB := Lib.hid hb
      clear ho hb hwc
      go_wp2_with fail
      go_ret
      exact ⟨_, rfl, ⟨cs, OwnS.new HO2.out, HWC.out⟩, HB.out⟩
end Go.Proofs.Ytoelagfcapdfpaa
