/-
  The model's search for the longest list: l3Best and MostApart of spec.
-/
import Derived.Test.YtomgjhdknondmabApS
namespace Go.Proofs.Ytomgjhdknondmab
open Go.RowKit

theorem own_some1 {w : World} {base : Nat} {e : TypeId} {v : Value} {n : Nat} {xs : List Value} (h : w.ownsRow base e 1 v n xs) (h0 : 0 < n) : ∃ g c, v = .slice (some ⟨g, 0, none⟩) n c := by
  rcases h.2 with ⟨_, hn⟩ | ⟨g, cap, cur, hv, _⟩
  · omega
  · exact ⟨g, cap, hv⟩

set_option maxRecDepth 100000 in
set_option maxHeartbeats 1600000 in
theorem specBest_calls (B : Option Addr) (ck : Nat) (L : List Win) (ht : ∀ x ∈ L, Tame x) (hl : L.length ≤ 12) : ∀ (K : Nat), K ≤ L.length → ∀ (b : List Nat) (lo : Nat) (C : Option Addr) (cn : Nat) (w : World), (∀ x ∈ b, x < L.length - K) → b.length ≤ L.length - K → apartP L b → RdW w w.heap.size B L → lo ≤ w.heap.size → w.ownsRow lo 3 1 (.slice C b.length cn) b.length (intV .i64 (ints b)) →
    Calls Try.prog 86 #[.slice B L.length ck, .slice C b.length cn, .int .i64 ((L.length - K : Nat) : Int)] w fun e w' => ∃ A c, e = .returned (.slice A (bestA L K b b).length c) ∧ w'.ownsRow lo 3 1 (.slice A (bestA L K b b).length c) (bestA L K b b).length (intV .i64 (ints (bestA L K b b))) ∧ Below w.heap.size w w' := by
  intro K
  induction K using Nat.strongRecOn with
  | ind K ih =>
  intro hK b lo C cn w hbm hbl hap hx hlo ho
  obtain ⟨i0, hi0, hz, hz1, hz2⟩ := info_parts info_int
  have HIH := Lib.hid ih
  have HX := Lib.hid hx
  have HT := Lib.hid ht
  have HBM := Lib.hid hbm
  have HAP := Lib.hid hap
  have HO := Lib.hid ho
  obtain ⟨T, hT⟩ : ∃ T, bestA L K b b = T := ⟨_, rfl⟩
  have HTT := Lib.hid hT
  rw [hT]
  clear ih hx ht hbm hap ho hT
  go_enter Try.func86, Try.ntmps86
  go_wp2_with fail
  go_loopg [7, 8] K (fun g v i wx => ∃ (cur : List Nat) (A : Option Addr) (c : Nat), g ≤ K ∧ i = .int .i64 ((L.length - g : Nat) : Int) ∧ Hid (bestA L g b cur = T) ∧ cur.length ≤ L.length ∧ v = .slice A cur.length c ∧ wx.ownsRow lo 3 1 (.slice A cur.length c) cur.length (intV .i64 (ints cur)) ∧ Below w.heap.size w wx)
  case atStart => exact ⟨b, C, cn, Nat.le_refl _, rfl, HTT, by omega, rfl, HO.out, Below.refl _ _⟩
  case round =>
    obtain ⟨cur, A, c, hg, rfl, HI, hcl, rfl, hoc, hb⟩ := hrel
    have HOC := Lib.hid hoc
    have HB := Lib.hid hb
    have hbs := hb.size
    clear hoc hb
    cases gk with
    | zero =>
      have hi : ((L.length - 0 : Nat) : Int) = L.length := by omega
      rw [hi]
      have HE := Lib.hid (show cur = T from HI.out)
      clear hi
      go_wp2_with fail
      go_ret
      rw [← HE.out]
      exact ⟨_, _, rfl, HOC.out, HB.out⟩
    | succ g =>
      obtain ⟨i, hi⟩ : ∃ i, L.length - (g + 1) = i := ⟨_, rfl⟩
      have hi1 : i < L.length := by omega
      have hi2 : L.length - g = i + 1 := by omega
      have hiK : L.length - K ≤ i := by omega
      rw [hi]
      have HOW := Lib.hid (specOwnI_calls lo C cn (ints b) wr (by rw [ints_len]; exact own_below HO.out HB.out) (by rw [ints_len]; omega))
      rw [ints_len] at HOW
      have HMEM : Hid (∀ x ∈ b ++ [i], x < i + 1) := Lib.hid fun x hx => by
        rcases List.mem_append.1 hx with hx | hx
        · have := HBM.out x hx; omega
        · rw [List.mem_singleton.1 hx]; omega
      have hblen : b.length ≤ i := by omega
      go_wp2_with fail
      refine HOW.out.mono ?_
      rintro e w2 ⟨g2, c2, rfl, ho2, hb2⟩
      have HO2 := Lib.hid ho2
      have HB2 := Lib.hid hb2
      have hs2 := hb2.size
      clear ho2 hb2
      go_wp2_with ((at_builtin; refine wpList_append_own _ rfl _ _ 28 rfl wr.heap.size 3 i0 _ 1 8 Try.underlying28 hi0 hz hz1 hz2 rfl (by decide) _ _ _ rfl (HO2.out.alloc _) ⟨w2.heap.size, 0, none⟩ 1 1 [.int .i64 i] rfl rfl (cell_one_new _ _ _) (by simp [Value.oneCell']) (by simp only [maxLen]; omega) (by omega) (by simp; omega) ?_; intro v' w5 hown5 hgrow hnil5; obtain ⟨g5, c5, rfl⟩ := own_some1 hown5 (Nat.succ_pos _); have HG5 := Lib.hid hgrow; have HN5 := Lib.hid (show w5.ownsRow wr.heap.size 3 1 (.slice (some ⟨g5, 0, none⟩) (b.length + 1) c5) (b.length + 1) (intV .i64 (ints (b ++ [i]))) by rw [ints_snoc]; simpa [intV] using hown5); clear hown5 hgrow hnil5))
      have HB5 : Hid (Below wr.heap.size wr w5) := Lib.hid (below_own0 (HB2.out.alloc HB2.out.size _) (HO2.out.alloc _) HG5.out (by simp; omega))
      have HC := Lib.hid (specApartL_calls B ck L (some ⟨g5, 0, none⟩) c5 (b ++ [i]) w5 ((HX.out.below (HB.out.trans (HB5.out.mono HB.out.size))).more (Nat.le_trans HB.out.size HB5.out.size)) HT.out hl (fun x hx => by have := HMEM.out x hx; omega) (by simp; omega) (Rd.of_own HN5.out))
      rw [List.length_append, List.length_singleton] at HC
      refine HC.out.mono ?_
      rintro e w6 ⟨r, rfl, hr, hb6⟩
      have HB6 := Lib.hid (HB5.out.trans (hb6.mono HB5.out.size))
      have HN6 := Lib.hid (own_below HN5.out hb6)
      have HRF := Lib.hid (hr.trans (apart_snoc HAP.out))
      have HRA := Lib.hid hr
      clear hr hb6
      cases r with
      | true =>
        have hf : fitsA L b i = true := HRF.out.1 rfl
        have HA6 := Lib.hid (HRA.out.1 rfl)
        have HR := Lib.hid (HIH.out g (by omega) (by omega) (b ++ [i]) wr.heap.size (some ⟨g5, 0, none⟩) c5 w6 (fun x hx => by rw [hi2]; exact HMEM.out x hx) (by rw [hi2]; simp; omega) HA6.out ((HX.out.below (HB.out.trans (HB6.out.mono HB.out.size))).more (Nat.le_trans HB.out.size HB6.out.size)) HB6.out.size (by simpa using HN6.out))
        have hal := bestA_len L g (b ++ [i]) (b ++ [i]) L.length (by simp; omega) (by simp; omega)
        have HST := Lib.hid ((bestA_yes (cur := cur) hi.symm hf).symm.trans HI.out)
        generalize bestA L g (b ++ [i]) (b ++ [i]) = all at *
        rw [hi2, List.length_append, List.length_singleton] at HR
        rw [show (((i + 1 : Nat) : Int)) = (i : Int) + 1 by omega] at HR
        clear hf
        go_wp2_with fail
        refine HR.out.mono ?_
        rintro e w7 ⟨A7, c7, rfl, ho7, hb7⟩
        have HB7 := Lib.hid (HB6.out.trans (hb7.mono HB6.out.size))
        have HO7 := Lib.hid (own_mono0 ho7 (Nat.le_trans hlo hbs))
        clear ho7 hb7
        by_cases hgt : cur.length < all.length
        · have HP := Lib.hid (show bestA L g b all = T by have := HST.out; rwa [pickA, if_pos hgt] at this)
          go_wp2_with fail
          go_roundg g
          case measure => omega
          case rel => exact ⟨all, A7, c7, by omega, by rw [hi2]; go_num, HP, hal, rfl, HO7.out, HB.out.trans (HB7.out.mono HB.out.size)⟩
        · have HP := Lib.hid (show bestA L g b cur = T by have := HST.out; rwa [pickA, if_neg hgt] at this)
          go_wp2_with fail
          go_roundg g
          case measure => omega
          case rel => exact ⟨cur, A, c, by omega, by rw [hi2]; go_num, HP, hcl, rfl, own_below HOC.out HB7.out, HB.out.trans (HB7.out.mono HB.out.size)⟩
      | false =>
        have hf : fitsA L b i = false := by
          rcases hq : fitsA L b i with _ | _
          · rfl
          · have := HRF.out.2 hq; cases this
        have HST := Lib.hid ((bestA_no (cur := cur) hi.symm hf).symm.trans HI.out)
        clear hf
        go_wp2_with fail
        go_roundg g
        case measure => omega
        case rel => exact ⟨cur, A, c, by omega, by rw [hi2]; go_num, HST, hcl, rfl, own_below HOC.out HB6.out, HB.out.trans (HB6.out.mono HB.out.size)⟩

set_option maxRecDepth 100000 in
theorem specMostApart_calls (A : Option Addr) (c : Nat) (m : List (List Int)) (B : Option Addr) (k : Nat) (L : List Win) (w : World) (hr : Rd2 w w.heap.size A m) (hn : m.length ≤ maxLen) (hx : RdW w w.heap.size B L) (hl : L.length ≤ maxLen) :
    Calls Try.prog 15 #[.agg #[.slice A m.length c], .slice B L.length k] w fun e w' => ∃ v, e = .returned (.tuple #[v, .bool (apartR m L).2]) ∧ w'.ownsRow w.heap.size 3 1 v (apartR m L).1.length (intV .i64 (apartR m L).1) ∧ Below w.heap.size w w' := by
  obtain ⟨w0, hw0⟩ : ∃ w0, (w.alloc (.cells #[.slice A m.length c] 31)) = w0 := ⟨_, rfl⟩
  have hb0 : Below w.heap.size w w0 := by rw [← hw0]; exact (Below.refl _ _).alloc (Nat.le_refl _) _
  have HC := Lib.hid (specWatched_calls A c m B k L w0 ((hr.below hb0).more hb0.size) hn ((hx.below hb0).more hb0.size) hl)
  have HX := Lib.hid hx
  have HB := Lib.hid hb0
  have HW := Lib.hid hw0
  clear hr hx hb0 hw0
  go_enter Try.func15, Try.ntmps15
  go_wp2_with fail
  rw [HW.out]
  refine HC.out.mono ?_
  rintro e w2 ⟨rfl, hb2⟩
  have HB2 := Lib.hid (HB.out.trans (hb2.mono HB.out.size))
  clear hb2
  by_cases hw : Watched m L
  · rw [show decide (Watched m L) = true from decide_eq_true hw]
    have HV := Lib.hid (show apartR m L = (ints (bestA L L.length [] []), true) by rw [apartR, if_pos hw])
    obtain ⟨w3, hw3⟩ : ∃ w3, w2.alloc (.cells #[] 3) = w3 := ⟨_, rfl⟩
    have hb3 : Below w2.heap.size w2 w3 := by rw [← hw3]; exact (Below.refl _ _).alloc (Nat.le_refl _) _
    have ho3 : w3.ownsRow w2.heap.size 3 1 (.slice (some ⟨w2.heap.size, 0, none⟩) 0 0) 0 (intV .i64 (ints [])) := by rw [← hw3]; exact World.ownsRow_made (base := w2.heap.size) (e := 3) (size := 1) w2 #[] 0 (Nat.le_refl _) (Nat.zero_le _) rfl
    have HB3 := Lib.hid (HB2.out.trans (hb3.mono HB2.out.size))
    have HN := Lib.hid (specBest_calls B k L hw.tame hw.2.1 L.length (Nat.le_refl _) [] w2.heap.size (some ⟨w2.heap.size, 0, none⟩) 0 w3 (fun x h => by cases h) (Nat.zero_le _) (apart_nil L) ((HX.out.below HB3.out).more HB3.out.size) hb3.size ho3)
    rw [Nat.sub_self, List.length_nil] at HN
    have HW3 := Lib.hid hw3
    have hz : ((0 : Nat) : Int) = 0 := rfl
    rw [hz] at HN
    generalize bestA L L.length [] [] = T at *
    clear hw hb3 ho3 hw3 hz
    go_wp2_with fail
    rw [HW3.out]
    refine HN.out.mono ?_
    rintro e w4 ⟨A4, c4, rfl, ho, hb4⟩
    have HO := Lib.hid (own_mono0 ho HB2.out.size)
    have HB4 := Lib.hid (HB3.out.trans (hb4.mono HB3.out.size))
    clear ho hb4
    go_wp2_with fail
    go_ret2
    exact ⟨_, by rw [HV.out]; rfl, by rw [HV.out, ints_len]; exact HO.out, HB4.out⟩
  · rw [show decide (Watched m L) = false from decide_eq_false hw]
    have HV := Lib.hid (show apartR m L = ([], false) by rw [apartR, if_neg hw])
    have HO := Lib.hid (World.ownsRow_made (base := w.heap.size) (e := 3) (size := 1) w2 #[] 0 HB2.out.size (Nat.zero_le _) rfl)
    clear hw
    go_wp2_with fail
    go_ret2
    exact ⟨_, by rw [HV.out]; rfl, by rw [HV.out]; exact HO.out, by have hs := HB2.out.size; (repeat (first | (with_reducible exact Below.refl _ _) | (with_reducible refine Below.drew ?_) | ((with_reducible refine Below.alloc ?_ ?hB _); case hB => (first | (with_reducible exact Nat.le_refl _) | omega | (simp; done) | (simp; omega))) | ((with_reducible refine Below.setCell ?_ ?hB _); case hB => (first | (with_reducible exact Nat.le_refl _) | omega | (simp; done) | (simp; omega))))); exact HB2.out⟩
end Go.Proofs.Ytomgjhdknondmab
