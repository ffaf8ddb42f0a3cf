/-
  firstFrame: the frame with which a list begins.
-/
import Derived.Test.YtoelagfcapdfpaaFrM
import Derived.Test.YtoelagfcapdfpaaShelf
import Derived.Test.YtoelagfcapdfpaaCmp
import Derived.Deep.RegionHeld3
import Derived.Deep.DeepCutAuto
namespace Go.Proofs.Ytoelagfcapdfpaa
open Go.RowKit

theorem bytesIn9 {w : World} {B : Nat} {A : Option Addr} {xs : List Int} (h : Rd w B A (intV .u8 xs)) : Lib.BytesIn w A xs.length xs := fun h0 => by
  rcases h with h | ⟨b, off, rfl, hb, hc⟩
  · have hx : xs = [] := by simpa [intV] using h
    subst hx
    exact absurd h0 (Nat.lt_irrefl 0)
  · refine ⟨b, off, rfl, fun i hi => hc i _ ?_⟩
    rw [List.getD_eq_getElem?_getD, List.getElem?_eq_getElem hi]
    simp [intV, hi]
theorem u8_inj {x y : Int} (hx : IsB x) (hy : IsB y) : (UInt8.ofNat x.toNat == UInt8.ofNat y.toNat) = (x == y) := by
  obtain ⟨h1, h2⟩ := hx
  obtain ⟨h3, h4⟩ := hy
  rw [Bool.eq_iff_iff]
  simp only [beq_iff_eq, ← UInt8.toNat_inj]
  simp
  omega
theorem prefix_bytes : ∀ (f L : List Int), (∀ z ∈ f, IsB z) → (∀ z ∈ L, IsB z) → Lib.hasPrefix (Lib.bytesOf L) (Lib.bytesOf f) = f.isPrefixOf L
  | [], L, _, _ => by cases L <;> rfl
  | x :: f, [], _, _ => rfl
  | x :: f, y :: L, hf, hL => by
    have ih := prefix_bytes f L (fun z h => hf z (List.mem_cons_of_mem _ h)) (fun z h => hL z (List.mem_cons_of_mem _ h))
    have hxy := u8_inj (hf x (by simp)) (hL y (by simp))
    have ih' : (Lib.bytesOf f).isPrefixOf (Lib.bytesOf L) = f.isPrefixOf L := ih
    show (UInt8.ofNat x.toNat == UInt8.ofNat y.toNat && (Lib.bytesOf f).isPrefixOf (Lib.bytesOf L)) = (x == y && f.isPrefixOf L)
    rw [hxy, ih']
theorem body_isB {t : Int} {p : List Int} (ht : IsB t) (hp : ∀ z ∈ p, IsB z) (hl : p.length ≤ 30) : ∀ z ∈ bodyL t p, IsB z := fun z hz => by
  unfold bodyL at hz
  simp only [List.mem_cons] at hz
  rcases hz with rfl | rfl | hz
  · exact ht
  · exact ⟨by omega, by omega⟩
  · exact hp z hz
theorem frame_isB {t : Int} {p : List Int} (ht : IsB t) (hp : ∀ z ∈ p, IsB z) (hl : p.length ≤ 30) : ∀ z ∈ frameL t p, IsB z := fun z hz => by
  have hb := body_isB ht hp hl
  unfold frameL at hz
  rcases List.mem_append.1 hz with hz | hz
  · exact hb z hz
  · simp only [List.mem_singleton] at hz
    subst hz
    have := xorL_isB hb (bodyL t p).length (Nat.le_refl _)
    rwa [List.take_length] at this

set_option maxRecDepth 100000 in
set_option maxHeartbeats 1600000 in
theorem firstFrame_calls (A : Option Addr) (c : Nat) (L : List Int) (w : World) (hr : Rd w w.heap.size A (intV .u8 L)) (hc : L.length ≤ c) (hm : L.length ≤ 64) (hcm : c ≤ maxLen) (hL : ∀ z ∈ L, IsB z) :
    Calls Try.prog 95 #[.slice A L.length c] w fun e w' => ∃ A2 c2, e = .returned (.tuple #[.slice A2 (frm L) c2, .bool (decide (frm L ≠ 0))]) ∧ Below w.heap.size w w' := by
  unfold maxLen at hcm
  by_cases h2 : L.length < 2
  · have hf : frm L = 0 := by unfold frm; rw [if_pos (by omega)]
    have HV := Lib.hid hf
    have h2i : (L.length : Int) < 2 := by omega
    generalize L.length = l at *
    clear hf
    go_enter Try.func95, Try.ntmps95
    go_wp2_with fail
    exact bodyPost_ret (v := .tuple #[.slice (some ⟨w.heap.size, 0, none⟩) 0 0, .bool false]) (by simp [results, Try.results95, go_sem]) rfl ⟨_, _, by rw [HV.out]; rfl, (Below.refl _ _).alloc (Nat.le_refl _) _⟩
  · have hl1 : 1 < L.length := by omega
    have hl0 : 0 < L.length := by omega
    obtain ⟨b, off, rfl, hbb, hc0⟩ := hr.int hl0
    have hc1 : w.cell? ⟨b, off + 1, none⟩ = some (.int .u8 L[1]) := by
      obtain ⟨b', off', e', _, hc1⟩ := hr.int hl1
      injection e' with e'
      injection e' with e1 e2
      subst e1; subst e2
      exact hc1
    have hb0 := hL _ (List.getElem_mem hl0)
    have hb1 := hL _ (List.getElem_mem hl1)
    obtain ⟨k, hk⟩ : ∃ k : Nat, L[1] = (k : Int) := ⟨L[1].toNat, by have := hb1.1; omega⟩
    have hk255 : k ≤ 255 := by rw [hk] at hb1; have := hb1.2; omega
    have hg1 : (L.getD 1 0).toNat = k := by
      rw [List.getD_eq_getElem?_getD, List.getElem?_eq_getElem hl1, hk]; simp
    have hg0 : L.getD 0 0 = L[0] := by
      rw [List.getD_eq_getElem?_getD, List.getElem?_eq_getElem hl0]; simp
    have HFF := Lib.hid (frm_first hL (by omega) : _ → _ → _)
    rw [hg1, hg0] at HFF
    have HP : Hid (∀ (PA : Addr), (2 < c → PA = ⟨b, off + 2, none⟩) → ∀ W, Below w.heap.size w W → Rd W W.heap.size (some PA) (intV .u8 ((L.drop 2).take k))) := Lib.hid fun PA hPA W hb => by
      by_cases h2c : 2 < c
      · rw [hPA h2c]
        exact ((hr.part 2 k).below hb).more hb.size
      · left
        have : L.drop 2 = [] := List.drop_eq_nil_of_le (by omega)
        rw [this]
        simp [intV]
    rw [hk] at hc1
    have HR := Lib.hid hr
    rw [Nat.add_zero] at hc0
    have HLB := Lib.hid hL
    have HG1 := Lib.hid hg1
    obtain ⟨l, hll⟩ : ∃ l, L.length = l := ⟨_, rfl⟩
    have HLL := Lib.hid hll
    obtain ⟨p, hp⟩ : ∃ p, (L.drop 2).take k = p := ⟨_, rfl⟩
    have HPP := Lib.hid hp
    rw [hp] at HP HFF
    obtain ⟨t0, ht0⟩ : ∃ t0, L[0] = t0 := ⟨_, rfl⟩
    rw [ht0] at hc0 HFF hb0
    have HB0 := Lib.hid hb0
    rw [hll] at hc hm h2 HFF ⊢
    clear hr hL hg1 hg0 ht0 hk hb1 hb0 hl1 hl0 hp
    have hl2 : 2 ≤ l := by omega
    clear hll h2
    have HA : Hid (∀ W, Below w.heap.size w W → W.cell? ⟨b, off, none⟩ = some (.int .u8 t0)) := Lib.hid fun W hb => (hb.cell (p := ⟨b, off, none⟩) hbb).trans hc0
    go_enter Try.func95, Try.ntmps95
    go_upto_region 3 with fail
    go_cut [4, 5] (fun v4 v5 wx => v4 = .int .i64 k ∧ ∃ PA, v5 = .slice (some PA) (l - 2) (c - 2) ∧ (2 < c → PA = ⟨b, off + 2, none⟩) ∧ Below w.heap.size w wx)
    case first =>
      rcases (show c = 2 ∨ 2 < c by omega) with rfl | h2c
      · obtain rfl : l = 2 := by omega
        go_quiet (fail)
        go_wp2
        go_meet
        exact ⟨rfl, _, rfl, fun h => absurd h (by omega), below_drewN (Below.refl _ _) _⟩
      · have hn2 : ¬ 2 = c := by omega
        have hn3 : ¬ c = 2 := by omega
        go_quiet (fail)
        go_wp2
        go_meet
        exact ⟨rfl, _, rfl, fun _ => rfl, below_drewN (Below.refl _ _) _⟩
    obtain ⟨rfl, PA, rfl, hPA, hbc⟩ := hcut
    have HRP := Lib.hid (HP.out PA hPA)
    have HB0w := Lib.hid hbc
    have hzc := hbc.size
    clear hPA hbc hc0 hc1
    by_cases hkl : l - 2 < k
    · have hf : frm L = 0 := by
        unfold frm
        rw [HG1.out, HLL.out]
        split
        · rfl
        · rw [if_pos (.inr (by omega))]
      have HV := Lib.hid hf
      have i1 : ((l - 2 : Nat) : Int) < (k : Int) := by omega
      clear hf hkl
      obtain ⟨q, hq⟩ : ∃ q, l - 2 = q := ⟨_, rfl⟩
      rw [hq] at i1 ⊢
      clear hq
      go_wp2_with fail
      exact bodyPost_ret (v := .tuple #[.slice (some ⟨wc.heap.size, 0, none⟩) 0 0, .bool false]) (by simp [results, Try.results95, go_sem]) rfl ⟨_, _, by rw [HV.out]; rfl, HB0w.out.alloc hzc _⟩
    · have hpl : p.length = k := by rw [← HPP.out, List.length_take, List.length_drop, HLL.out]; omega
      have HEF : Hid (∀ W, Below w.heap.size w W → Calls Try.prog 53 #[.int .u8 t0, .slice (some PA) k (c - 2)] W fun e w' => ∃ v, e = .returned (.tuple #[v, .bool (encR t0 p).2]) ∧ w'.ownsRow W.heap.size 5 1 v (encR t0 p).1.length (intV .u8 (encR t0 p).1) ∧ Below W.heap.size W w') := Lib.hid fun W hb => by
        have h := implEncodeFrame_calls t0 (some PA) (c - 2) p W (HRP.out W hb) (fun h => by cases h) (by omega)
        rw [hpl] at h
        exact h
      have HPL := Lib.hid hpl
      have i1 : ¬ ((l - 2 : Nat) : Int) < (k : Int) := by omega
      have i2 : (0 : Int) ≤ k := by omega
      have i3 : (k : Int) ≤ (c - 2 : Nat) := by omega
      have i4 : (0 : Int) < l := by omega
      have i5 : k ≤ c - 2 := by omega
      have i6 : 0 < l := by omega
      have i7 : k ≤ l - 2 := by omega
      obtain ⟨C2, hC2⟩ : ∃ C2, c - 2 = C2 := ⟨_, rfl⟩
      obtain ⟨q, hq⟩ : ∃ q, l - 2 = q := ⟨_, rfl⟩
      rw [hC2] at HEF i3 i5 ⊢
      rw [hq] at i1 i7 HFF ⊢
      clear hpl hkl hC2 hq
      have hc0' : Below w.heap.size w wc.drew := HB0w.out.drew
      go_upto_region 6 with fail
      have hc0 := HA.out _ hc0'
      go_region_held3 (fun W => W.cell? ⟨b, off, none⟩ = some (.int .u8 t0))
        (first | (with_reducible exact hc0) | (with_reducible exact HA.out _ hc2))
        (first | (go_at_call 53; (with_reducible refine (HEF.out _ hc0').mono ?_); rintro e w2 ⟨v2, rfl, ho2, hb2⟩; have hc2 := hc0'.trans (hb2.mono hc0'.size)))
      have HB2 := Lib.hid hc2
      by_cases h30 : 30 < k
      · have HE : Hid (encR t0 p = ([], false)) := Lib.hid (by rw [encR, HPL.out, if_pos h30])
        have hf : frm L = 0 := by
          unfold frm
          rw [HG1.out]
          split
          · rfl
          · rw [if_pos (.inl h30)]
        have HV := Lib.hid hf
        rw [HE.out]
        clear hb2 hc2 hc0 ho2 hf hc0'
        go_wp2_with fail
        exact bodyPost_ret (v := .tuple #[.slice (some ⟨w2.heap.size, 0, none⟩) 0 0, .bool false]) (by simp [results, Try.results95, go_sem]) rfl ⟨_, _, by rw [HV.out]; rfl, HB2.out.alloc HB2.out.size _⟩
      · have HE : Hid (encR t0 p = (frameL t0 p, true)) := Lib.hid (by rw [encR, HPL.out, if_neg h30])
        obtain ⟨_, h2p, h3p⟩ := HFF.out i7 (by omega)
        have hFl : (frameL t0 p).length = k + 3 := by
          simp only [frameL, bodyL, List.length_append, List.length_cons, List.length_nil, HPL.out]
        have hFB : ∀ z ∈ frameL t0 p, IsB z := frame_isB HB0.out (fun z hz => by
          rw [← HPP.out] at hz
          exact HLB.out z (List.mem_of_mem_drop (List.mem_of_mem_take hz))) (by rw [HPL.out]; omega)
        have HPX := Lib.hid ((prefix_bytes (frameL t0 p) L hFB HLB.out).trans h2p)
        have H3P := Lib.hid h3p
        rw [HE.out] at ho2
        rw [HE.out]
        dsimp only at ho2 ⊢
        obtain ⟨F, hF⟩ : ∃ F, frameL t0 p = F := ⟨_, rfl⟩
        rw [hF] at ho2 HPX hFl
        obtain ⟨AF, cF, rfl⟩ := own_form ho2
        have HRF := Lib.hid (Rd.of_own ho2)
        rw [hFl]
        have HHP := Lib.hid (Try.bytes_HasPrefix_all (some ⟨b, off, none⟩) AF l c (k + 3) cF L F w2 HLL.out hFl hc (by have h := bytesIn9 (HR.out.below hc2); rw [HLL.out] at h; exact h) (by have h := bytesIn9 HRF.out; rw [hFl] at h; exact h))
        rw [HPX.out] at HHP
        clear hb2 hc2 hc0 ho2 h2p h3p hFB hF hFl hc0'
        by_cases hz : frm L = 0
        · have HV := Lib.hid hz
          have hd : decide (frm L ≠ 0) = false := by simp [hz]
          rw [hd] at HHP
          clear hz hd
          go_wp2_with fail
          refine HHP.out.mono ?_
          rintro e w3 ⟨rfl, rfl⟩
          go_wp2_with fail
          exact bodyPost_ret (v := .tuple #[.slice (some ⟨w3.heap.size, 0, none⟩) 0 0, .bool false]) (by simp [results, Try.results95, go_sem]) rfl ⟨_, _, by rw [HV.out]; rfl, HB2.out.alloc HB2.out.size _⟩
        · have HV := Lib.hid (H3P.out hz)
          have HD : Hid (decide (frm L ≠ 0) = true) := Lib.hid (by simp [hz])
          rw [HD.out] at HHP
          clear hz
          go_wp2_with fail
          refine HHP.out.mono ?_
          rintro e w3 ⟨rfl, rfl⟩
          go_wp2_with fail
          exact bodyPost_ret (v := .tuple #[.slice AF (k + 3) cF, .bool true]) (by simp [results, Try.results95, go_sem]) rfl ⟨AF, cF, by rw [HD.out, HV.out], HB2.out⟩
end Go.Proofs.Ytoelagfcapdfpaa
