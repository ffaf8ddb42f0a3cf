/-
  Bytes taken from a rope (DeleteText, impl).
-/
import Derived.Test.YtomebbapjolnlaaRpV
import Derived.Test.YtomebbapjolnlaaRqA
namespace Go.Proofs.Ytomebbapjolnlaa
open Go.RowKit

theorem Br.twoD {w : World} {d : Nat} {u v : Value} {L Q : List Win} (h1 : Str w w.heap.size d u L) (h2 : Str w w.heap.size d v Q) : Br (w.alloc (.cells #[u, v] 95)) (w.alloc (.cells #[u, v] 95)).heap.size d (some ⟨w.heap.size, 0, none⟩) [u, v] [L, Q] := by
  have hb : Below w.heap.size w (w.alloc (.cells #[u, v] 95)) := (Below.refl _ _).alloc (Nat.le_refl _) _
  refine ⟨rfl, by simp, (rd_new w [u, v] 95).more (by simp), fun i x y hx hy => ?_⟩
  match i, hx, hy with
  | 0, hx, hy =>
    simp only [List.getElem?_cons_zero, Option.some.injEq] at hx hy
    subst hx; subst hy
    exact (h1.below hb).more hb.size
  | 1, hx, hy =>
    simp only [List.getElem?_cons_succ, List.getElem?_cons_zero, Option.some.injEq] at hx hy
    subst hx; subst hy
    exact (h2.below hb).more hb.size
theorem ropeOf_twoD (d : Nat) (u v : Value) (L Q F : List Win) (w : World) (h1 : Str w w.heap.size d u L) (h2 : Str w w.heap.size d v Q) (hF : L ++ Q = F) (hn : F.length ≤ 900) :
    Calls Try.prog 88 #[.slice (some ⟨w.heap.size, 0, none⟩) 2 2] (w.alloc (.cells #[u, v] 95)) fun e w' => ∃ v', e = .returned (.tuple #[.agg #[v'], .bool (keptR F).2]) ∧ OwnW w' (w.alloc (.cells #[u, v] 95)).heap.size w'.heap.size v' (keptR F).1 ∧ Below (w.alloc (.cells #[u, v] 95)).heap.size (w.alloc (.cells #[u, v] 95)) w' :=
  ropeOf_calls d (some ⟨w.heap.size, 0, none⟩) 2 [u, v] [L, Q] _ F (Br.twoD h1 h2) (by rw [← hF]; simp) hn
theorem Str.form {w : World} {B d : Nat} {u : Value} {Q : List Win} (h : Str w B d u Q) : ∃ t v, u = .iface t v := by
  cases d with
  | zero => obtain ⟨x, rfl, _⟩ := h; exact ⟨_, _, rfl⟩
  | succ d =>
    rcases h with ⟨x, rfl, _⟩ | ⟨A, c, vs, Ls, rfl, _⟩
    · exact ⟨_, _, rfl⟩
    · exact ⟨_, _, rfl⟩
theorem range_cut {m : List (List Int)} {L : List Win} {i j : Int} : RangeOK m L i j ↔ CutOK m L i ∧ CutOK m L j ∧ i ≤ j :=
  ⟨fun h => ⟨⟨h.1.1, h.2.1, by have := h.1.2.2; have := h.2.2; omega⟩, h.1, h.2.2⟩, fun h => ⟨h.2.1, h.1.2.1, h.2.2⟩⟩
set_option maxRecDepth 100000 in
set_option maxHeartbeats 1600000 in
theorem implDeleteText_calls (A : Option Addr) (c : Nat) (m : List (List Int)) (B : Option Addr) (k : Nat) (L : List Win) (i j : Int) (w : World) (hr : Rd2 w w.heap.size A m) (hn : m.length ≤ maxLen) (hx : RdW w w.heap.size B L) (hl : L.length ≤ maxLen) (hwa : ∀ x ∈ L, WArg x) (_ : (Lit.int .i64 i).wf = true) (_ : (Lit.int .i64 j).wf = true) :
    Calls Try.prog 47 #[.agg #[.slice A m.length c], .agg #[.slice B L.length k], .int .i64 i, .int .i64 j] w fun e w' => ∃ v, e = .returned (.tuple #[.agg #[v], .bool (deleteR m L i j).2]) ∧ OwnW w' w.heap.size w'.heap.size v (deleteR m L i j).1 ∧ Below w.heap.size w w' := by
  obtain ⟨w0, hw0, hb0, hg0, hr0, hz0⟩ := enterMPR A m.length c B L.length k w
  have HC := Lib.hid (fun q W (hb : Below w0.heap.size w0 W) => implCutRope_calls A c m B k L q W ((hr.below (hb0.trans (hb.mono hb0.size))).more (Nat.le_trans hb0.size hb.size)) hn ((hx.below (hb0.trans (hb.mono hb0.size))).more (Nat.le_trans hb0.size hb.size)) hl hwa)
  have HB := Lib.hid hb0
  have HW := Lib.hid hw0
  have HG := Lib.hid hg0
  have HZ := Lib.hid hz0
  have HRV := Lib.hid (fun W (hb : Below w0.heap.size w0 W) => ropeVar hr0 hb)
  have c0 := one_cell hg0.m
  have c1 := one_cell hg0.p
  clear hr hx hb0 hw0 hg0 hr0 hz0 hwa
  go_enter Try.func47, Try.ntmps47
  go_upto_region 1 with fail
  rw [HW.out]
  go_wp2_with fail
  refine (HC.out i w0 (Below.refl _ _)).mono ?_
  rintro e w2 ⟨u1, v1, rfl, hu1, hv1, hb2⟩
  have HB2 := Lib.hid hb2
  have HU := Lib.hid hu1
  have c2 := one_cell (HG.out.below hb2).m
  have c3 := one_cell (HG.out.below hb2).p
  clear hb2 c0 c1 hu1 hv1
  go_wp2_with fail
  refine (HC.out j w2 HB2.out).mono ?_
  rintro e w3 ⟨u2, v2, rfl, hu2, hv2, hb3⟩
  have HB3 := Lib.hid (HB2.out.trans (hb3.mono HB2.out.size))
  have HU3 := Lib.hid ((HU.out.below hb3).more hb3.size)
  have HV3 := Lib.hid hv2
  obtain ⟨r0, r1, r2⟩ := HRV.out w3 HB3.out
  have r3 := r2 (.slice none 0 0)
  clear hb3 c2 c3 hu2 hv2 r2
  by_cases h1 : CutOK m L i
  · rw [show decide (CutOK m L i) = true from decide_eq_true h1]
    by_cases h2 : CutOK m L j
    · rw [show decide (CutOK m L j) = true from decide_eq_true h2]
      by_cases hij : i ≤ j
      · have HV : Hid (deleteR m L i j = keptR ((splitR L i).1 ++ (splitR L j).2)) := Lib.hid (if_pos (range_cut.2 ⟨h1, h2, hij⟩))
        have hsl1 := (splitR_len L i).1
        have hsl2 := (splitR_len L j).2
        have h12 := h1.1.2.1
        have e1 : (splitRopeR m L i).1 = (splitR L i).1 := by rw [splitRopeR, if_pos h1]
        have e2 : (splitRopeR m L j).2.1 = (splitR L j).2 := by rw [splitRopeR, if_pos h2]
        rw [e1] at HU3
        rw [e2] at HV3
        have hng : ¬ j < i := by omega
        obtain ⟨t1, x1, rfl⟩ := HU3.out.form
        obtain ⟨t2, x2, rfl⟩ := HV3.out.form
        have hlq : ((splitR L i).1 ++ (splitR L j).2).length ≤ 900 := by rw [List.length_append]; omega
        have hrb := run_strand2
        have HRO := Lib.hid (ropeOf_twoD 2 _ _ _ _ _ w3 HU3.out HV3.out rfl hlq)
        obtain ⟨F, hF⟩ : ∃ F, (splitR L i).1 ++ (splitR L j).2 = F := ⟨_, rfl⟩
        rw [hF] at HV HRO
        clear h1 h2 e1 e2 hF hlq r0 r1 r3
        go_wp2_with fail
        refine HRO.out.mono ?_
        rintro e w6 ⟨v6, rfl, ho6, hb6⟩
        obtain ⟨A6, k6, rfl⟩ := ho6.form
        have hb36 : Below w3.heap.size w3 w6 := ((Below.refl _ _).alloc (Nat.le_refl _) _).trans (hb6.mono (by simp))
        have HB6 := Lib.hid (HB3.out.trans (hb36.mono HB3.out.size))
        have HO6 := Lib.hid (ho6.mono (show w3.heap.size ≤ _ by simp) (Nat.le_refl _))
        obtain ⟨r0, r1, r2⟩ := HRV.out w6 HB6.out
        have r3 := r2 (.slice A6 (keptR F).1.length k6)
        clear r2 hrb hb6 hb36 ho6
        have HSZ := Lib.hid HB3.out.size
        obtain ⟨E1, hE1⟩ : ∃ E1, (keptR F).1 = E1 := ⟨_, rfl⟩
        rw [hE1] at HO6 r3 ⊢
        have HE1 := Lib.hid hE1
        clear hE1
        go_wp2_with fail
        refine bodyPost_ret (v := .tuple #[.agg #[.slice A6 E1.length k6], .bool (keptR F).2]) (by simp [results, Try.results47, go_sem, r3]) rfl ⟨_, by rw [HV.out], ?_, ?_⟩
        · rw [HV.out, HE1.out, World.size_setCell]
          exact (ownW_set HO6.out (by have := HSZ.out; have := HZ.out; omega)).mono (Nat.le_trans HB.out.size HSZ.out) (Nat.le_refl _)
        · exact (HB.out.trans (HB6.out.mono HB.out.size)).setCell (p := ⟨w.heap.size + 1 + 1, 0, none⟩) (by simp; omega) _
      · have HV : Hid (deleteR m L i j = ([], false)) := Lib.hid (if_neg fun h => hij (range_cut.1 h).2.2)
        have hng : j < i := by omega
        clear h1 h2 hij
        go_wp2_with fail
        refine bodyPost_ret (v := .tuple #[.agg #[.slice none 0 0], .bool false]) (by simp [results, Try.results47, go_sem, r3]) rfl ⟨_, by rw [HV.out], ?_, ?_⟩
        · rw [HV.out]; exact ownW_nil _ _ _
        · exact (HB.out.trans (HB3.out.mono HB.out.size)).setCell (p := ⟨w.heap.size + 1 + 1, 0, none⟩) (by simp; omega) _
    · rw [show decide (CutOK m L j) = false from decide_eq_false h2]
      have HV : Hid (deleteR m L i j = ([], false)) := Lib.hid (if_neg fun h => h2 (range_cut.1 h).2.1)
      clear h1 h2
      go_wp2_with fail
      refine bodyPost_ret (v := .tuple #[.agg #[.slice none 0 0], .bool false]) (by simp [results, Try.results47, go_sem, r3]) rfl ⟨_, by rw [HV.out], ?_, ?_⟩
      · rw [HV.out]; exact ownW_nil _ _ _
      · exact (HB.out.trans (HB3.out.mono HB.out.size)).setCell (p := ⟨w.heap.size + 1 + 1, 0, none⟩) (by simp; omega) _
  · rw [show decide (CutOK m L i) = false from decide_eq_false h1]
    have HV : Hid (deleteR m L i j = ([], false)) := Lib.hid (if_neg fun h => h1 (range_cut.1 h).1)
    clear h1
    go_wp2_with fail
    refine bodyPost_ret (v := .tuple #[.agg #[.slice none 0 0], .bool false]) (by simp [results, Try.results47, go_sem, r3]) rfl ⟨_, by rw [HV.out], ?_, ?_⟩
    · rw [HV.out]; exact ownW_nil _ _ _
    · exact (HB.out.trans (HB3.out.mono HB.out.size)).setCell (p := ⟨w.heap.size + 1 + 1, 0, none⟩) (by simp; omega) _
end Go.Proofs.Ytomebbapjolnlaa
