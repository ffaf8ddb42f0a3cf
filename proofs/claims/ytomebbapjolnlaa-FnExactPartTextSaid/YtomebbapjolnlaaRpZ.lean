/-
  A braid of windows cut in two (impl).
-/
import Derived.Test.YtomebbapjolnlaaRpZ0
import Derived.Test.YtomebbapjolnlaaRpN
namespace Go.Proofs.Ytomebbapjolnlaa
open Go.RowKit

set_option maxRecDepth 100000 in
set_option maxHeartbeats 1600000 in
theorem implBraidCut_calls (A : Option Addr) (c : Nat) (L : List Win) (i : Int) (w : World) (hr : Rd w w.heap.size A (strV1 L)) (hl : L.length ≤ 12) (hwf : ∀ x ∈ L, 0 ≤ x.start ∧ x.start ≤ 64 ∧ 0 ≤ x.cap ∧ x.cap ≤ 64) (hq : Tiny L) (hi : 0 ≤ i ∧ i ≤ 1000) (hne : i ≠ rpLen L) :
    Calls Try.prog 152 #[.slice A L.length c, .int .i64 i] w fun e w' => ∃ u v, e = .returned (.tuple #[u, v]) ∧ Str w' w'.heap.size 2 u (splitR L i).1 ∧ Str w' w'.heap.size 2 v (splitR L i).2 ∧ Below w.heap.size w w' := by
  obtain ⟨i0, hi0, hz, hz1, hz2⟩ := info_parts info_strand
  have hia := hi.1
  have hib := hi.2
  have HX := Lib.hid hr
  have HQ := Lib.hid hq
  have HWF := Lib.hid hwf
  have hs0 : S2 w ((w.alloc (.cells #[] 95)).alloc (.cells #[] 95)) 0 w.heap.size 0 [] 0 (w.heap.size + 1) 0 [] := by
    have o1 := World.ownsRow_made (base := w.heap.size) (e := 95) (size := 1) w #[] 0 (Nat.le_refl _) (Nat.zero_le _) rfl
    have o2 := World.ownsRow_made (base := w.heap.size) (e := 95) (size := 1) (w.alloc (.cells #[] 95)) #[] 0 (by simp) (Nat.zero_le _) rfl
    have o2' : ((w.alloc (.cells #[] 95)).alloc (.cells #[] 95)).ownsRow w.heap.size 95 1 (.slice (some ⟨w.heap.size + 1, 0, none⟩) 0 0) 0 [] := by simpa using o2
    exact ⟨by (repeat (first | (with_reducible exact Below.refl _ _) | (with_reducible refine Below.drew ?_) | ((with_reducible refine Below.alloc ?_ ?hB _); case hB => (first | (with_reducible exact Nat.le_refl _) | omega | (simp; done) | (simp; omega))) | ((with_reducible refine Below.setCell ?_ ?hB _); case hB => (first | (with_reducible exact Nat.le_refl _) | omega | (simp; done) | (simp; omega))))), OwnS.new (o1.alloc _), OwnS.new o2', by omega⟩
  have HS0 := Lib.hid hs0
  obtain ⟨w1, hw1⟩ : ∃ w1, (w.alloc (.cells #[] 95)).alloc (.cells #[] 95) = w1 := ⟨_, rfl⟩
  rw [hw1] at HS0
  have HW1 := Lib.hid hw1
  obtain ⟨t, ht⟩ : ∃ t, rpLen L = t := ⟨_, rfl⟩
  have HT := Lib.hid ht
  have ht1 : t ≤ 768 := by have h1 := rpLen_bounds (L := L) hq; rw [ht] at h1; omega
  have hnt : i ≠ t := by rw [← ht]; exact hne
  clear hr hs0 hw1 ht hq hwf hi hne
  go_enter Try.func152, Try.ntmps152
  go_upto_region 2 with fail
  rw [HW1.out]
  go_wp2_with fail
  go_loopw [1, 6, 7, 16] (fun ii p q n wr => ∃ (j g1 c1 g2 c2 : Nat) (cs1 cs2 : List Value), j ≤ L.length ∧ n = .int .i64 j ∧ ii = .int .i64 (i - rpLen (L.take j)) ∧ p = .slice (some ⟨g1, 0, none⟩) j c1 ∧ q = .slice (some ⟨g2, 0, none⟩) j c2 ∧ S2 w wr j g1 c1 cs1 j g2 c2 cs2 ∧ FlatL cs1 (splitTo i t L j).1 ∧ FlatL cs2 (splitTo i t L j).2) (fun _ _ _ n _ => L.length - (intOf n).toNat)
  case atStart => exact ⟨0, _, _, _, _, [], [], Nat.zero_le _, rfl, by simp [rpLen], rfl, rfl, HS0.out, FlatL.nil, FlatL.nil⟩
  case round =>
    obtain ⟨j, g1, c1, g2, c2, cs1, cs2, hj, rfl, rfl, rfl, rfl, hs, hf1, hf2⟩ := hrel
    have HS := Lib.hid hs
    have HF1 := Lib.hid hf1
    have HF2 := Lib.hid hf2
    clear hs hf1 hf2
    by_cases hlt : j < L.length
    · obtain ⟨b, off, rfl, hbb, hc⟩ := (HX.out.below HS.out.b).at_ (k := j) (by rw [strV1_len]; exact hlt)
      have hst := splitTo_step i t L j hlt
      have hx0 := HQ.out L[j] (List.getElem_mem hlt)
      have hx1 := HWF.out L[j] (List.getElem_mem hlt)
      have hd := rp_le HQ.out j
      have HDL := Lib.hid (rpLen_take L j hlt)
      have hcw := cutOne_W (i := i) (t := t) (d := rpLen (L.take j)) (x := L[j]) hx0.1 hnt
      rw [hcw] at hst
      have HST := Lib.hid hst
      have hce : (strV1 L)[j]'(by rw [strV1_len]; exact hlt) = .iface 90 (.agg #[.int .i64 L[j].arr, .int .i64 L[j].start, .int .i64 L[j].len, .int .i64 L[j].cap]) := by simp [strV1, winI]
      rw [hce] at hc
      clear hst hcw hce
      generalize L[j] = x at *
      obtain ⟨d, hdd⟩ : ∃ d, rpLen (L.take j) = d := ⟨_, rfl⟩
      rw [hdd] at HST HDL hd ⊢
      clear hdd
      have hsub : IntKind.i64.wrap (i - d - x.len) = i - d - x.len := IntWalk.i64_in _ (by omega)
      have HC := Lib.hid (winCut_calls x (i - d) wr ⟨hx1.1, hx1.2.1⟩ hx0 hx1.2.2)
      have HLN := Lib.hid (fun W => winLength_calls x W)
      have hm : ∀ w : World, (method 269 90 (.agg #[.int .i64 x.arr, .int .i64 x.start, .int .i64 x.len, .int .i64 x.cap]) "loop.example/g01179/impl.cut").run Try.prog w = .ok (150, .agg #[.int .i64 x.arr, .int .i64 x.start, .int .i64 x.len, .int .i64 x.cap]) w := fun _ => by kernel_rfl
      go_wp2_with fail
      refine HC.out.mono ?_
      rintro e w2 ⟨u, v, rfl, hu, hv, hb2⟩
      obtain ⟨t1, x1, rfl⟩ := hu.form
      obtain ⟨t2, x2, rfl⟩ := hv.form
      have HU := Lib.hid (HF1.out.snoc hu)
      have HV := Lib.hid (HF2.out.snoc hv)
      have hs2 := HS.out.below hb2
      have HS2 := Lib.hid hs2
      have HO1 := Lib.hid hs2.o1.1
      have hz2' := hs2.b.size
      clear hu hv hb2 hs2 hm
      have hr1 := run_strand1
      go_upto_region 7 with (first | (at_builtin; refine wpList_append_own_at _ rfl _ _ 112 rfl w.heap.size 95 i0 _ 1 16 Try.underlying112 hi0 hz hz1 hz2 rfl (by decide) _ _ _ rfl (HO1.out.alloc _) ⟨w2.heap.size, 0, none⟩ 1 1 [.iface t1 x1] rfl rfl (cell_one_new _ _ _) (by simp [Value.oneCell']) (by simp only [maxLen]; omega) (by omega) (by simp; omega) ?_; intro v6 w6 hown6 hgrow6 _ hat6; obtain ⟨g6, c6, rfl⟩ := own_some0 hown6 (by omega); have HN6 := Lib.hid hown6; have HG6 : Hid ((w2.alloc (.cells #[.iface t1 x1] 95)).grownBy w6 (some g1)) := Lib.hid hgrow6; have HA6 : Hid (g6 = g1 ∨ g6 = (w2.alloc (.cells #[.iface t1 x1] 95)).heap.size) := Lib.hid (by rcases hat6 with h | h; exact .inl (Option.some.inj (show some g6 = some g1 from h)); exact .inr (Option.some.inj (show some g6 = some _ from h))); have HSA := Lib.hid ((HS2.out.below ((Below.refl _ _).alloc (Nat.le_refl _) (.cells #[.iface t1 x1] 95))).add HN6.out HG6.out HA6.out); have HO6 := Lib.hid HSA.out.o2.1; have hz6' := HSA.out.b.size; clear hown6 hgrow6 hat6) | (at_builtin; refine wpList_append_own_at _ rfl _ _ 112 rfl w.heap.size 95 i0 _ 1 16 Try.underlying112 hi0 hz hz1 hz2 rfl (by decide) _ _ _ rfl (HO6.out.alloc _) ⟨w6.heap.size, 0, none⟩ 1 1 [.iface t2 x2] rfl rfl (cell_one_new _ _ _) (by simp [Value.oneCell']) (by simp only [maxLen]; omega) (by omega) (by simp; omega) ?_; intro v7 w7 hown7 hgrow7 _ hat7; obtain ⟨g7, c7, rfl⟩ := own_some0 hown7 (by omega); have HN7 := Lib.hid hown7; have HG7 : Hid ((w6.alloc (.cells #[.iface t2 x2] 95)).grownBy w7 (some g2)) := Lib.hid hgrow7; have HA7 : Hid (g7 = g2 ∨ g7 = (w6.alloc (.cells #[.iface t2 x2] 95)).heap.size) := Lib.hid (by rcases hat7 with h | h; exact .inl (Option.some.inj (show some g7 = some g2 from h)); exact .inr (Option.some.inj (show some g7 = some _ from h))); clear hown7 hgrow7 hat7))
      have HSB := Lib.hid ((HSA.out.swap.below ((Below.refl _ _).alloc (Nat.le_refl _) (.cells #[.iface t2 x2] 95))).add HN7.out HG7.out HA7.out)
      have hm2 : ∀ w : World, (method 269 90 (.agg #[.int .i64 x.arr, .int .i64 x.start, .int .i64 x.len, .int .i64 x.cap]) "loop.example/g01179/impl.length").run Try.prog w = .ok (151, .agg #[.int .i64 x.arr, .int .i64 x.start, .int .i64 x.len, .int .i64 x.cap]) w := fun _ => by kernel_rfl
      go_wp2_with fail
      refine (HLN.out _).mono ?_
      rintro e w8 ⟨rfl, hb8⟩
      have HS8 := Lib.hid ((HSB.out.swap).below hb8)
      clear hb8 hm2
      go_wp2_with fail
      go_roundw
      case rel => exact ⟨j + 1, _, _, _, _, _, _, by omega, by go_num, by rw [HDL.out]; go_num, rfl, rfl, HS8.out, by rw [HST.out]; exact HU.out, by rw [HST.out]; exact HV.out⟩
      case measure => simp [intOf]; omega
    · obtain rfl : j = L.length := by omega
      have HE1 := Lib.hid (show splitR L i = splitTo i t L L.length by rw [splitR, HT.out])
      go_wp2_with fail
      refine bodyPost_ret (v := .tuple #[.iface 112 (.slice (some ⟨g1, 0, none⟩) L.length c1), .iface 112 (.slice (some ⟨g2, 0, none⟩) L.length c2)]) (by simp [results, Try.results152, go_sem]) rfl ⟨_, _, rfl, by rw [HE1.out]; exact ownS_str HS.out.o1 HF1.out hl, by rw [HE1.out]; exact ownS_str HS.out.o2 HF2.out hl, HS.out.b⟩
end Go.Proofs.Ytomebbapjolnlaa
