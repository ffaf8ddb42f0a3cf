/-
  MostApart of impl: longestApart's lists share memory, so that an append can write behind the end of what was chosen.
-/
import Derived.Test.YtomgjhdknondmabApS2
import Derived.Test.YtomgjhdknondmabShelf
import Derived.ArgAppend
import Derived.Deep.DeepAppendRoom
namespace Go.Proofs.Ytomgjhdknondmab
open Go.RowKit

theorem grown_comp {w w2 w3 : World} {row row2 : Option Nat} (h1 : w.grownBy w2 row) (h2 : w2.grownBy w3 row2) (h : ∀ g, row2 = some g → row = some g ∨ w.heap.size ≤ g) : w.grownBy w3 row :=
  ⟨h2.os.trans h1.os, h2.tape.trans h1.tape, h2.output.trans h1.output, Nat.le_trans h1.size h2.size, fun k hk hn => by
    rw [h2.block k (Nat.lt_of_lt_of_le hk h1.size) (fun e => by
      rcases h k e.symm with h3 | h3
      · exact hn h3.symm
      · omega), h1.block k hk hn]⟩
theorem own_prefix {w : World} {base g c n : Nat} {e : TypeId} {xs ys : List Value} (h : w.ownsRow base e 1 (.slice (some ⟨g, 0, none⟩) (n + 1) c) (n + 1) (xs ++ ys)) (hx : xs.length = n) : w.ownsRow base e 1 (.slice (some ⟨g, 0, none⟩) n c) n xs := by
  rcases h.2 with ⟨hv, _⟩ | ⟨g2, cap, cur, hv, hbg, hg, h1, h2, h3, h4⟩
  · cases hv
  · injection hv with hA _ hC
    injection hA with hA
    injection hA with hA
    subst hA; subst hC
    refine ⟨by omega, .inr ⟨g, c, cur, rfl, hbg, hg, by omega, h2, h3, ?_⟩⟩
    have h5 := congrArg (List.take n) h4
    rw [List.take_take] at h5
    have e : min n ((n + 1) * 1) = n := by omega
    rw [e] at h5
    rw [Nat.mul_one, h5]
    subst hx
    exact List.take_left
theorem grown_below_lo {lo : Nat} {w w' : World} {base : Nat} {e : TypeId} {s : Nat} {v : Value} {n : Nat} {xs : List Value} (h : w.grownBy w' v.ownBlock) (ho : w.ownsRow base e s v n xs) (h1 : lo ≤ base) (h2 : lo ≤ w.heap.size) : Below lo w w' :=
  (Below.refl lo w).grown h h2 (fun g e => Nat.le_trans h1 (ho.lt g e).1)
theorem cloneI_calls (lo g cn : Nat) (zs : List Int) (w : World) (ho : w.ownsRow lo 3 1 (.slice (some ⟨g, 0, none⟩) zs.length cn) zs.length (intV .i64 zs)) (hn : zs.length ≤ 1000000) :
    Calls Try.prog 140 #[.slice (some ⟨g, 0, none⟩) zs.length cn] w fun e w' => ∃ g c, e = .returned (.slice (some ⟨g, 0, none⟩) zs.length c) ∧ w'.ownsRow w.heap.size 3 1 (.slice (some ⟨g, 0, none⟩) zs.length c) zs.length (intV .i64 zs) ∧ Below w.heap.size w w' := by
  have hrd := Rd.of_own ho
  refine (Try.slices_Clone_int g 0 zs.length cn zs w (Nat.le_refl _) (by omega) (fun j hj => ?_)).mono ?_
  · obtain ⟨b, off, e, hb, hc⟩ := hrd.int hj
    injection e with e
    injection e with e1 e2
    subst e1; subst e2
    rw [hc, List.getD_eq_getElem?_getD, List.getElem?_eq_getElem hj]
    rfl
  · rintro e w' ⟨v, rfl, h1, h2, h3⟩
    rw [List.take_length] at h1
    have h1' : w'.ownsRow w.heap.size 3 1 v zs.length (intV .i64 zs) := h1
    rcases h1'.2 with ⟨h, _⟩ | ⟨g5, cap5, cur5, rfl, _⟩
    · exact absurd h h2
    · exact ⟨g5, cap5, rfl, h1', h3⟩

theorem own_cells {w : World} {base g c n : Nat} {e : TypeId} {xs : List Value} (h : w.ownsRow base e 1 (.slice (some ⟨g, 0, none⟩) n c) n xs) : ∀ (j : Nat) (u : Value), xs[j]? = some u → w.cell? ((⟨g, 0, none⟩ : Addr).add j) = some u := fun j u hu => by
  have hj : j < xs.length := (List.getElem?_eq_some_iff.1 hu).1
  have hl := h.1
  have hc : w.cell? ⟨g, j, none⟩ = some u := by rw [h.cellAt j (by omega)]; exact hu
  rw [← hc]
  simp [Addr.add]
  by_cases h0 : j = 0 <;> simp [h0]
theorem size_al1 {w : World} {o : Obj} : (w.alloc o).heap.size = w.heap.size + 1 := by simp
/-- What an append of one number to the chosen ones leaves. -/
structure Chosen (w w5 : World) (lo g cn : Nat) (b : List Nat) (i g5 c5 : Nat) : Prop where
  next : w5.ownsRow lo 3 1 (.slice (some ⟨g5, 0, none⟩) (b.length + 1) c5) (b.length + 1) (intV .i64 (ints (b ++ [i])))
  grown : w.grownBy w5 (some g)
  arm : (g5 = g ∧ c5 = cn) ∨ (w.heap.size ≤ g5 ∧ w5.ownsRow lo 3 1 (.slice (some ⟨g, 0, none⟩) b.length cn) b.length (intV .i64 (ints b)))
theorem chosen_new {w w5 : World} {o : Obj} {lo g cn : Nat} {b : List Nat} {i g5 c5 : Nat} (ho : w.ownsRow lo 3 1 (.slice (some ⟨g, 0, none⟩) b.length cn) b.length (intV .i64 (ints b))) (hlo : lo ≤ w.heap.size)
    (hown : w5.ownsRow (w.alloc o).heap.size 3 1 (.slice (some ⟨g5, 0, none⟩) (b.length + 1) c5) (b.length + 1) (intV .i64 (ints b) ++ [.int .i64 i])) (hg : (w.alloc o).grownBy w5 none) : Chosen w w5 lo g cn b i g5 c5 := by
  have h1 := (hown.lt g5 rfl).1
  have h2 := own_mono0 hown (show lo ≤ (w.alloc o).heap.size by rw [size_al1]; omega)
  rw [size_al1] at h1
  refine ⟨by rw [ints_snoc]; simpa [intV] using h2, grown_comp (grown_of_below ((Below.refl _ _).alloc (Nat.le_refl _) o) (some g)) hg (fun g e => by cases e), .inr ⟨by omega, (ho.alloc o).kept hg (.inr (by simp [Value.ownBlock]))⟩⟩
theorem chosen_spare {w w5 : World} {o : Obj} {lo g cn : Nat} {b : List Nat} {i : Nat}
    (hown : w5.ownsRow lo 3 1 (.slice (some ⟨g, 0, none⟩) (b.length + 1) cn) (b.length + 1) (intV .i64 (ints b) ++ [.int .i64 i])) (hg : (w.alloc o).grownBy w5 (some g)) : Chosen w w5 lo g cn b i g cn :=
  ⟨by rw [ints_snoc]; simpa [intV] using hown, grown_comp (grown_of_below ((Below.refl _ _).alloc (Nat.le_refl _) o) (some g)) hg (fun g e => .inl e), .inl ⟨rfl, rfl⟩⟩
theorem Chosen.back {w w5 w6 : World} {lo g cn : Nat} {b : List Nat} {i g5 c5 : Nat} (h : Chosen w w5 lo g cn b i g5 c5) (hg : g < w.heap.size) (h1 : w5.grownBy w6 (some g5)) (h2 : w6.ownsRow lo 3 1 (.slice (some ⟨g5, 0, none⟩) (b.length + 1) c5) (b.length + 1) (intV .i64 (ints (b ++ [i])))) :
    w.grownBy w6 (some g) ∧ w6.ownsRow lo 3 1 (.slice (some ⟨g, 0, none⟩) b.length cn) b.length (intV .i64 (ints b)) := by
  refine ⟨grown_comp h.grown h1 fun g' e => ?_, ?_⟩
  · injection e with e
    subst e
    rcases h.arm with ⟨h3, _⟩ | ⟨h3, _⟩
    · exact .inl (by rw [h3])
    · exact .inr h3
  · rcases h.arm with ⟨h3, h4⟩ | ⟨h3, h4⟩
    · subst h3; subst h4
      rw [ints_snoc] at h2
      have h2' : w6.ownsRow lo 3 1 (.slice (some ⟨g5, 0, none⟩) (b.length + 1) c5) (b.length + 1) (intV .i64 (ints b) ++ intV .i64 [(i : Int)]) := by simpa [intV] using h2
      exact own_prefix h2' (by rw [intV_len, ints_len])
    · exact h4.kept h1 (.inr (by simp [Value.ownBlock]; omega))

set_option maxRecDepth 100000 in
set_option maxHeartbeats 3200000 in
theorem longest_calls (B : Option Addr) (ck : Nat) (L : List Win) (ht : ∀ x ∈ L, Tame x) (hl : L.length ≤ 12) : ∀ (K : Nat), K ≤ L.length → ∀ (b : List Nat) (lo gc : Nat) (cn : Nat) (w : World), (∀ x ∈ b, x < L.length - K) → b.length ≤ L.length - K → RdW w lo B L → lo ≤ w.heap.size → w.ownsRow lo 3 1 (.slice (some ⟨gc, 0, none⟩) b.length cn) b.length (intV .i64 (ints b)) →
    Calls Try.prog 89 #[.slice B L.length ck, .slice (some ⟨gc, 0, none⟩) b.length cn, .int .i64 ((L.length - K : Nat) : Int)] w fun e w' => ∃ g c, e = .returned (.slice (some ⟨g, 0, none⟩) (bestA L K b b).length c) ∧ w'.ownsRow w.heap.size 3 1 (.slice (some ⟨g, 0, none⟩) (bestA L K b b).length c) (bestA L K b b).length (intV .i64 (ints (bestA L K b b))) ∧ w.grownBy w' (some gc) ∧ w'.ownsRow lo 3 1 (.slice (some ⟨gc, 0, none⟩) b.length cn) b.length (intV .i64 (ints b)) := by
  intro K
  induction K using Nat.strongRecOn with
  | ind K ih =>
  intro hK b lo gc cn w hbm hbl hx hlo ho
  obtain ⟨i0, hi0, hz, hz1, hz2⟩ := info_parts info_int
  have HIH := Lib.hid ih
  have HX := Lib.hid hx
  have HT := Lib.hid ht
  have HBM := Lib.hid hbm
  have HO := Lib.hid ho
  have hgc : lo ≤ gc ∧ gc < w.heap.size := ho.lt gc rfl
  have HCL := Lib.hid (cloneI_calls lo gc cn (ints b) w (by rw [ints_len]; exact ho) (by rw [ints_len]; omega))
  rw [ints_len] at HCL
  obtain ⟨T, hT⟩ : ∃ T, bestA L K b b = T := ⟨_, rfl⟩
  have HTT := Lib.hid hT
  rw [hT]
  clear ih hx ht hbm ho hT
  go_enter Try.func89, Try.ntmps89
  go_wp2_with fail
  go_step3
  go_wp2_with fail
  refine HCL.out.mono ?_
  rintro e w1 ⟨g1, c1, rfl, ho1, hb1⟩
  have HO1 := Lib.hid ho1
  have HB1 := Lib.hid (grown_of_below hb1 (some gc))
  have HOC1 := Lib.hid (own_below HO.out hb1)
  clear ho1 hb1
  go_wp2_with fail
  go_step3
  go_wp2_with fail
  go_loopg [7, 8] K (fun g v i wx => ∃ (cur : List Nat) (gb c : Nat), g ≤ K ∧ i = .int .i64 ((L.length - g : Nat) : Int) ∧ Hid (bestA L g b cur = T) ∧ cur.length ≤ L.length ∧ v = .slice (some ⟨gb, 0, none⟩) cur.length c ∧ wx.ownsRow w.heap.size 3 1 (.slice (some ⟨gb, 0, none⟩) cur.length c) cur.length (intV .i64 (ints cur)) ∧ w.grownBy wx (some gc) ∧ wx.ownsRow lo 3 1 (.slice (some ⟨gc, 0, none⟩) b.length cn) b.length (intV .i64 (ints b)))
  case atStart => exact ⟨b, g1, c1, Nat.le_refl _, rfl, HTT, by omega, rfl, HO1.out, HB1.out, HOC1.out⟩
  case round =>
    obtain ⟨cur, gb, c, hg, rfl, HI, hcl, rfl, hoc, hb, hob⟩ := hrel
    have HOC := Lib.hid hoc
    have HB := Lib.hid hb
    have HOB := Lib.hid hob
    have hbs := hb.size
    have hgb := (hoc.lt gb rfl).1
    clear hoc hb hob
    cases gk with
    | zero =>
      have hi : ((L.length - 0 : Nat) : Int) = L.length := by omega
      rw [hi]
      have HE := Lib.hid (show cur = T from HI.out)
      clear hi
      go_wp2_with fail
      try rw [Exit.noGoto_ret]
      go_ret
      rw [← HE.out]
      exact ⟨_, _, rfl, HOC.out, HB.out, HOB.out⟩
    | succ g =>
      obtain ⟨i, hi⟩ : ∃ i, L.length - (g + 1) = i := ⟨_, rfl⟩
      have hi1 : i < L.length := by omega
      have hi2 : L.length - g = i + 1 := by omega
      have hiK : L.length - K ≤ i := by omega
      rw [hi]
      have HBL := Lib.hid (grown_below_lo (lo := lo) (v := .slice (some ⟨gc, 0, none⟩) b.length cn) HB.out HO.out (Nat.le_refl _) hlo)
      have HMEM : Hid (∀ x ∈ b ++ [i], x < i + 1) := Lib.hid fun x hx => by
        rcases List.mem_append.1 hx with hx | hx
        · have := HBM.out x hx; omega
        · rw [List.mem_singleton.1 hx]; omega
      have hblen : b.length ≤ i := by omega
      obtain ⟨wo, hwo⟩ : ∃ wo, wo = wr := ⟨_, rfl⟩
      subst hwo
      go_wp2_with fail
      go_loopg [23] b.length (fun g2 j wy => ∃ q : Nat, q + g2 = b.length ∧ j = .int .i64 q ∧ Hid (∀ q', q' < q → shareN L (b.getD q' 0) i = false) ∧ Below wo.heap.size wo wy)
      case atStart => exact ⟨0, by omega, rfl, Lib.hid (fun q h => by omega), Below.refl _ _⟩
      case round =>
        obtain ⟨q, hqg, rfl, HJ, hb⟩ := hrel
        have HB2 := Lib.hid hb
        have hs2 := hb.size
        cases gk with
        | zero =>
          obtain rfl : q = b.length := by omega
          have hf := (fits_iff L b i).2 HJ.out
          have HST := Lib.hid ((bestA_yes (cur := cur) hi.symm hf).symm.trans HI.out)
          have HOB2 := Lib.hid (own_below HOB.out hb)
          have HOC2 := Lib.hid (own_below HOC.out hb)
          have HG2 := Lib.hid (grown_comp HB.out (grown_of_below hb none) (fun g e => by cases e))
          have HX2 := Lib.hid (HX.out.below (HBL.out.trans (hb.mono (Nat.le_trans hlo HBL.out.size))))
          have hwr : w.heap.size ≤ wr.heap.size := by omega
          have hal := bestA_len L g (b ++ [i]) (b ++ [i]) L.length (by simp; omega) (by simp; omega)
          clear hb hf
          have HREC : Hid (∀ (w5 : World) (g5 c5 : Nat), Chosen wr w5 lo gc cn b i g5 c5 → Calls Try.prog 89 #[.slice B L.length ck, .slice (some ⟨g5, 0, none⟩) (b.length + 1) c5, .int .i64 ((i : Int) + 1)] w5 fun e w' => ∃ g' c, e = .returned (.slice (some ⟨g', 0, none⟩) (bestA L g (b ++ [i]) (b ++ [i])).length c) ∧ w'.ownsRow wr.heap.size 3 1 (.slice (some ⟨g', 0, none⟩) (bestA L g (b ++ [i]) (b ++ [i])).length c) (bestA L g (b ++ [i]) (b ++ [i])).length (intV .i64 (ints (bestA L g (b ++ [i]) (b ++ [i])))) ∧ wr.grownBy w' (some gc) ∧ w'.ownsRow lo 3 1 (.slice (some ⟨gc, 0, none⟩) b.length cn) b.length (intV .i64 (ints b))) := Lib.hid (fun w5 g5 c5 h => by
            have h5 := h.grown.size
            have hr := HIH.out g (by omega) (by omega) (b ++ [i]) lo g5 c5 w5 (fun x hx => by rw [hi2]; exact HMEM.out x hx) (by rw [hi2]; simp; omega) (HX2.out.below ((Below.refl lo wr).grown h.grown (by omega) (fun g e => by injection e with e; omega))) (by omega) (by simpa using h.next)
            rw [hi2, List.length_append, List.length_singleton] at hr
            rw [show (((i + 1 : Nat) : Int)) = (i : Int) + 1 by omega] at hr
            refine hr.mono ?_
            rintro e w' ⟨g', c', rfl, hq1, hq2, hq3⟩
            obtain ⟨k1, k2⟩ := h.back (by omega) hq2 hq3
            exact ⟨g', c', rfl, own_mono0 hq1 h5, k1, k2⟩)
          generalize bestA L g (b ++ [i]) (b ++ [i]) = all at *
          by_cases hroom : b.length + 1 ≤ cn
          · go_wp2_with ((at_builtin; refine wpList_append_own_spare _ rfl _ _ 28 rfl lo 3 i0 1 Try.underlying28 hi0 hz1 gc b.length cn (intV .i64 (ints b)) rfl (HOB2.out.alloc _) ⟨wr.heap.size, 0, none⟩ 1 1 [.int .i64 i] rfl rfl (cell_one_new _ _ _) (by simp [Value.oneCell']) hroom ?_; intro w5 hown5 hgrow5; have HCH := Lib.hid (chosen_spare hown5 hgrow5); clear hown5 hgrow5))
            refine (HREC.out w5 _ _ HCH.out).mono ?_
            rintro e w7 ⟨g7, c7, rfl, ho7, hg7, hob7⟩
            have HO7 := Lib.hid (own_mono0 ho7 hwr)
            have HG7 := Lib.hid (grown_comp HG2.out hg7 (fun g e => .inl e))
            have HOB7 := Lib.hid hob7
            have HOC7 := Lib.hid (HOC2.out.kept hg7 (.inr (by simp [Value.ownBlock]; omega)))
            clear ho7 hg7 hob7
            by_cases hgt : cur.length < all.length
            · have HP := Lib.hid (show bestA L g b all = T by have := HST.out; rwa [pickA, if_pos hgt] at this)
              go_wp2_with fail
              go_roundg g
              case measure => omega
              case rel => exact ⟨all, g7, c7, by omega, by rw [hi2]; go_num, HP, hal, rfl, HO7.out, HG7.out, HOB7.out⟩
            · have HP := Lib.hid (show bestA L g b cur = T by have := HST.out; rwa [pickA, if_neg hgt] at this)
              go_wp2_with fail
              go_roundg g
              case measure => omega
              case rel => exact ⟨cur, gb, c, by omega, by rw [hi2]; go_num, HP, hcl, rfl, HOC7.out, HG7.out, HOB7.out⟩
          · have HOLD : Hid (∀ (a : Addr), (some (⟨gc, 0, none⟩ : Addr)) = some a → ∀ (j : Nat) (u : Value), (intV .i64 (ints b))[j]? = some u → (wr.alloc (.cells #[.int .i64 i] 3)).cell? (a.add j) = some u) := Lib.hid fun a e => by
              injection e with e
              subst e
              exact own_cells (HOB2.out.alloc _)
            have hful : cn < b.length + 1 := by omega
            clear hroom
            go_wp2_with ((at_builtin; refine wpList_append_grows _ rfl _ _ 28 rfl 3 i0 _ 1 8 Try.underlying28 hi0 hz hz1 hz2 rfl (by decide) (some ⟨gc, 0, none⟩) b.length cn (intV .i64 (ints b)) rfl (fun h => by cases h) (by rw [intV_len, ints_len, Nat.mul_one]) HOLD.out ⟨wr.heap.size, 0, none⟩ 1 1 [.int .i64 i] rfl rfl (cell_one_new _ _ _) (by simp [Value.oneCell']) hful (by simp only [maxLen]; omega) (by omega) ?_; intro v' w5 hown5 hgrow5; obtain ⟨g5, c5, rfl⟩ := own_some1 hown5 (Nat.succ_pos _); have HCH := Lib.hid (chosen_new HOB2.out (Nat.le_trans hlo hwr) hown5 hgrow5); clear hown5 hgrow5))
            refine (HREC.out w5 _ _ HCH.out).mono ?_
            rintro e w7 ⟨g7, c7, rfl, ho7, hg7, hob7⟩
            have HO7 := Lib.hid (own_mono0 ho7 hwr)
            have HG7 := Lib.hid (grown_comp HG2.out hg7 (fun g e => .inl e))
            have HOB7 := Lib.hid hob7
            have HOC7 := Lib.hid (HOC2.out.kept hg7 (.inr (by simp [Value.ownBlock]; omega)))
            clear ho7 hg7 hob7
            by_cases hgt : cur.length < all.length
            · have HP := Lib.hid (show bestA L g b all = T by have := HST.out; rwa [pickA, if_pos hgt] at this)
              go_wp2_with fail
              go_roundg g
              case measure => omega
              case rel => exact ⟨all, g7, c7, by omega, by rw [hi2]; go_num, HP, hal, rfl, HO7.out, HG7.out, HOB7.out⟩
            · have HP := Lib.hid (show bestA L g b cur = T by have := HST.out; rwa [pickA, if_neg hgt] at this)
              go_wp2_with fail
              go_roundg g
              case measure => omega
              case rel => exact ⟨cur, gb, c, by omega, by rw [hi2]; go_num, HP, hcl, rfl, HOC7.out, HG7.out, HOB7.out⟩
        | succ g2 =>
          have hq : q < b.length := by omega
          have hk0 := HBM.out _ (getD_mem hq)
          have hk : b.getD q 0 < L.length := by omega
          have n1 : wr.cell? ⟨gc, q, none⟩ = some (.int .i64 ((b.getD q 0 : Nat) : Int)) := by
            rw [(own_below HOB.out hb).cellAt q (by omega), List.getElem?_eq_getElem (by rw [intV_len, ints_len]; exact hq), intV_get, ints_get hq]
          have HSH := Lib.hid (show ∀ h1 h2, shareN L (b.getD q 0) i = decide (0 < ovl (L[b.getD q 0]'h1) (L[i]'h2)) from fun h1 h2 => by rw [shareN, winAt_eq h1, winAt_eq h2])
          have HJS := Lib.hid (fun h => all_snoc (n := q) HJ.out h)
          have HNF : Hid (shareN L (b.getD q 0) i = true → fitsA L b i = false) := Lib.hid fun h => by
            rcases hf : fitsA L b i with _ | _
            · rfl
            · have := (fits_iff L b i).1 hf q hq
              rw [h] at this
              cases this
          obtain ⟨sh, hsh⟩ : ∃ sh, shareN L (b.getD q 0) i = sh := ⟨_, rfl⟩
          rw [hsh] at HSH HJS HNF
          generalize b.getD q 0 = k at *
          obtain ⟨bl, off, rfl, hbb, ⟨e0, e1, e2, e3⟩, ⟨g0, g1', g2', g3⟩⟩ := (HX.out.below (HBL.out.trans (hb.mono (Nat.le_trans hlo HBL.out.size)))).at2 hk hi1
          have HOV := Lib.hid (fun W => shares_calls L[k] L[i] W (HT.out _ (List.getElem_mem hk)) (HT.out _ (List.getElem_mem hi1)))
          have HSV := Lib.hid (HSH.out hk hi1)
          rw [← HSV.out] at HOV
          generalize L[k] = x at *
          generalize L[i] = y at *
          clear hsh HSH hb HSV
          have HA := Lib.hid (fun W (h : Below wr.heap.size wr W) => show W.cell? ⟨bl, off + k * 4, none⟩ = some (.int .i64 x.arr) ∧ W.cell? ⟨bl, off + k * 4 + 1, none⟩ = some (.int .i64 x.start) ∧ W.cell? ⟨bl, off + k * 4 + 2, none⟩ = some (.int .i64 x.len) ∧ W.cell? ⟨bl, off + k * 4 + 3, none⟩ = some (.int .i64 x.cap) ∧ W.cell? ⟨bl, off + i * 4, none⟩ = some (.int .i64 y.arr) ∧ W.cell? ⟨bl, off + i * 4 + 1, none⟩ = some (.int .i64 y.start) ∧ W.cell? ⟨bl, off + i * 4 + 2, none⟩ = some (.int .i64 y.len) ∧ W.cell? ⟨bl, off + i * 4 + 3, none⟩ = some (.int .i64 y.cap)
            from ⟨(h.cell (cell_lt e0)).trans e0, (h.cell (cell_lt e1)).trans e1, (h.cell (cell_lt e2)).trans e2, (h.cell (cell_lt e3)).trans e3, (h.cell (cell_lt g0)).trans g0, (h.cell (cell_lt g1')).trans g1', (h.cell (cell_lt g2')).trans g2', (h.cell (cell_lt g3)).trans g3⟩)
          cases sh with
          | true =>
            have HF := Lib.hid (HNF.out rfl)
            have HST := Lib.hid ((bestA_no (cur := cur) hi.symm HF.out).symm.trans HI.out)
            go_wp2_with fail
            go_region_held3 (fun W => W.cell? ⟨bl, off + k * 4, none⟩ = some (.int .i64 x.arr) ∧ W.cell? ⟨bl, off + k * 4 + 1, none⟩ = some (.int .i64 x.start) ∧ W.cell? ⟨bl, off + k * 4 + 2, none⟩ = some (.int .i64 x.len) ∧ W.cell? ⟨bl, off + k * 4 + 3, none⟩ = some (.int .i64 x.cap) ∧ W.cell? ⟨bl, off + i * 4, none⟩ = some (.int .i64 y.arr) ∧ W.cell? ⟨bl, off + i * 4 + 1, none⟩ = some (.int .i64 y.start) ∧ W.cell? ⟨bl, off + i * 4 + 2, none⟩ = some (.int .i64 y.len) ∧ W.cell? ⟨bl, off + i * 4 + 3, none⟩ = some (.int .i64 y.cap))
              (first | exact ⟨e0, e1, e2, e3, g0, g1', g2', g3⟩ | exact HA.out _ hc5)
              ((go_at_call 141; refine (HOV.out _).mono ?_; rintro e w5 ⟨rfl, hb5⟩; have hc5 : Below wr.heap.size wr w5 := ⟨hb5.os, hb5.tape, hb5.output, hb5.size, hb5.block⟩))
            have HB5 := Lib.hid (HB2.out.trans (hc5.mono HB2.out.size))
            clear hb5 hc5
            go_wp2_with fail
            go_roundg g
            case measure => omega
            case rel => exact ⟨cur, gb, c, by omega, by rw [hi2]; go_num, HST, hcl, rfl, own_below HOC.out HB5.out, grown_comp HB.out (grown_of_below HB5.out none) (fun g e => by cases e), own_below HOB.out HB5.out⟩
          | false =>
            have HF := Lib.hid (HJS.out rfl)
            go_wp2_with fail
            go_region_held3 (fun W => W.cell? ⟨bl, off + k * 4, none⟩ = some (.int .i64 x.arr) ∧ W.cell? ⟨bl, off + k * 4 + 1, none⟩ = some (.int .i64 x.start) ∧ W.cell? ⟨bl, off + k * 4 + 2, none⟩ = some (.int .i64 x.len) ∧ W.cell? ⟨bl, off + k * 4 + 3, none⟩ = some (.int .i64 x.cap) ∧ W.cell? ⟨bl, off + i * 4, none⟩ = some (.int .i64 y.arr) ∧ W.cell? ⟨bl, off + i * 4 + 1, none⟩ = some (.int .i64 y.start) ∧ W.cell? ⟨bl, off + i * 4 + 2, none⟩ = some (.int .i64 y.len) ∧ W.cell? ⟨bl, off + i * 4 + 3, none⟩ = some (.int .i64 y.cap))
              (first | exact ⟨e0, e1, e2, e3, g0, g1', g2', g3⟩ | exact HA.out _ hc5)
              ((go_at_call 141; refine (HOV.out _).mono ?_; rintro e w5 ⟨rfl, hb5⟩; have hc5 : Below wr.heap.size wr w5 := ⟨hb5.os, hb5.tape, hb5.output, hb5.size, hb5.block⟩))
            have HB5 := Lib.hid (HB2.out.trans (hc5.mono HB2.out.size))
            clear hb5 hc5
            go_wp2_with fail
            go_roundg g2
            case measure => omega
            case rel => exact ⟨q + 1, by omega, by go_num, Lib.hid HF.out, HB5.out⟩

set_option maxRecDepth 100000 in
theorem implMostApart_calls (A : Option Addr) (c : Nat) (m : List (List Int)) (B : Option Addr) (k : Nat) (L : List Win) (w : World) (hr : Rd2 w w.heap.size A m) (hn : m.length ≤ maxLen) (hx : RdW w w.heap.size B L) (hl : L.length ≤ maxLen) (hwa : ∀ x ∈ L, WArg x) :
    Calls Try.prog 18 #[.agg #[.slice A m.length c], .slice B L.length k] w fun e w' => ∃ v, e = .returned (.tuple #[v, .bool (apartR m L).2]) ∧ w'.ownsRow w.heap.size 3 1 v (apartR m L).1.length (intV .i64 (apartR m L).1) ∧ Below w.heap.size w w' := by
  obtain ⟨w0, hw0⟩ : ∃ w0, (w.alloc (.cells #[.slice A m.length c] 31)) = w0 := ⟨_, rfl⟩
  have hb0 : Below w.heap.size w w0 := by rw [← hw0]; exact (Below.refl _ _).alloc (Nat.le_refl _) _
  have HC := Lib.hid (isWatched_calls A c m B k L w0 ((hr.below hb0).more hb0.size) hn ((hx.below hb0).more hb0.size) hwa hl)
  have HX := Lib.hid hx
  have HB := Lib.hid hb0
  have HW := Lib.hid hw0
  clear hr hx hb0 hw0
  go_enter Try.func18, Try.ntmps18
  go_wp2_with fail
  rw [HW.out]
  refine HC.out.mono ?_
  rintro e w2 ⟨rfl, hb2⟩
  have HB2 := Lib.hid (HB.out.trans (hb2.mono HB.out.size))
  clear hb2
  by_cases hw : Watched m L
  · rw [show decide (Watched m L) = true from decide_eq_true hw]
    have HV := Lib.hid (show apartR m L = (ints (bestA L L.length [] []), true) by rw [apartR, if_pos hw])
    obtain ⟨w3, hw3⟩ : ∃ w3, w2.alloc (.cells #[] 3) = w3 := ⟨_, rfl⟩
    have hb3 : Below w2.heap.size w2 w3 := by rw [← hw3]; exact (Below.refl _ _).alloc (Nat.le_refl _) _
    have ho3 : w3.ownsRow w2.heap.size 3 1 (.slice (some ⟨w2.heap.size, 0, none⟩) 0 0) 0 (intV .i64 (ints [])) := by rw [← hw3]; exact World.ownsRow_made (base := w2.heap.size) (e := 3) (size := 1) w2 #[] 0 (Nat.le_refl _) (Nat.zero_le _) rfl
    have HB3 := Lib.hid (HB2.out.trans (hb3.mono HB2.out.size))
    have HN := Lib.hid (longest_calls B k L hw.tame hw.2.1 L.length (Nat.le_refl _) [] w2.heap.size w2.heap.size 0 w3 (fun x h => by cases h) (Nat.zero_le _) (((HX.out.below HB2.out).more HB2.out.size).below hb3) hb3.size ho3)
    rw [Nat.sub_self, List.length_nil] at HN
    have HW3 := Lib.hid hw3
    have HS3 := Lib.hid hb3.size
    have hz : ((0 : Nat) : Int) = 0 := rfl
    rw [hz] at HN
    generalize bestA L L.length [] [] = T at *
    clear hw hb3 ho3 hw3 hz
    go_wp2_with fail
    rw [HW3.out]
    refine HN.out.mono ?_
    rintro e w4 ⟨g4, c4, rfl, ho, hg4, _⟩
    have HO := Lib.hid (own_mono0 ho HB3.out.size)
    have HB4 := Lib.hid (HB3.out.grown hg4 HB3.out.size (fun g e => by injection e with e; have := HB2.out.size; omega))
    clear ho hg4
    go_wp2_with fail
    go_ret2
    exact ⟨_, by rw [HV.out]; rfl, by rw [HV.out, ints_len]; exact HO.out, HB4.out⟩
  · rw [show decide (Watched m L) = false from decide_eq_false hw]
    have HV := Lib.hid (show apartR m L = ([], false) by rw [apartR, if_neg hw])
    have HO := Lib.hid (World.ownsRow_made (base := w.heap.size) (e := 3) (size := 1) w2 #[] 0 HB2.out.size (Nat.zero_le _) rfl)
    clear hw
    go_wp2_with fail
    go_ret2
    exact ⟨_, by rw [HV.out]; rfl, by rw [HV.out]; exact HO.out, by have hs := HB2.out.size; (repeat (first | (with_reducible exact Below.refl _ _) | (with_reducible refine Below.drew ?_) | ((with_reducible refine Below.alloc ?_ ?hB _); case hB => (first | (with_reducible exact Nat.le_refl _) | omega | (simp; done) | (simp; omega))) | ((with_reducible refine Below.setCell ?_ ?hB _); case hB => (first | (with_reducible exact Nat.le_refl _) | omega | (simp; done) | (simp; omega))))); exact HB2.out⟩
end Go.Proofs.Ytomgjhdknondmab
