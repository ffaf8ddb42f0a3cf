/-
  Frames: l9Check, EncodeFrame of both.
-/
import Derived.Test.YtoelagfcapdfpaaIsB
import Derived.Test.YtoelagfcapdfpaaOver
import Derived.Test.YtoelagfcapdfpaaBytes
namespace Go.Proofs.Ytoelagfcapdfpaa
open Go.RowKit

/-- The exclusive or of bytes. -/
def xorL (xs : List Int) : Int := xs.foldl (fun c z => bits .xor .u8 c z) 0
theorem xorL_snoc {xs : List Int} {k : Nat} (h : k < xs.length) : xorL (xs.take (k + 1)) = bits .xor .u8 (xorL (xs.take k)) xs[k] := by
  unfold xorL
  rw [List.take_succ_eq_append_getElem h, List.foldl_append]
  rfl
def bodyL (t : Int) (p : List Int) : List Int := t :: (p.length : Int) :: p
/-- A frame. -/
def frameL (t : Int) (p : List Int) : List Int := bodyL t p ++ [xorL (bodyL t p)]
/-- What EncodeFrame answers. -/
def encR (t : Int) (p : List Int) : List Int × Bool := if 30 < p.length then ([], false) else (frameL t p, true)
theorem encR_small (t : Int) (p : List Int) : (encR t p).1.length ≤ 33 := by
  unfold encR
  split
  · exact Nat.zero_le _
  · simp only [frameL, bodyL, List.length_append, List.length_cons, List.length_nil]
    omega

set_option maxRecDepth 100000 in
theorem specCheck_calls (A : Option Addr) (c : Nat) (xs : List Int) (w : World) (hr : Rd w w.heap.size A (intV .u8 xs)) (hn : xs.length ≤ 4096) :
    Calls Try.prog 92 #[.slice A xs.length c] w fun e w' => e = .returned (.int .u8 (xorL xs)) ∧ w' = w := by
  have HR := Lib.hid hr
  clear hr
  go_enter Try.func92, Try.ntmps92
  go_wp2
  go_loopw [3, 4] (fun v i wr => ∃ k : Nat, k ≤ xs.length ∧ v = .int .u8 (xorL (xs.take k)) ∧ i = .int .i64 k ∧ wr = w) (fun _ i _ => xs.length - (intOf i).toNat)
  case atStart => exact ⟨0, Nat.zero_le _, by rw [List.take_zero]; rfl, rfl, rfl⟩
  case round =>
    obtain ⟨k, hk, rfl, rfl, rfl⟩ := hrel
    by_cases hlt : k < xs.length
    · obtain ⟨b, off, rfl, hbb, hc⟩ := HR.out.int hlt
      have HS := Lib.hid (xorL_snoc hlt)
      generalize xs[k] = z at *
      generalize xorL (xs.take k) = x at *
      go_wp2
      go_roundw
      case rel => exact ⟨k + 1, by omega, by rw [HS.out], by go_num, by first | rfl | trivial⟩
      case measure => simp [intOf]; omega
    · obtain rfl : k = xs.length := by omega
      rw [List.take_length]
      go_wp2
      go_ret
      exact ⟨rfl, rfl⟩

theorem own_lit {base : Nat} {e : TypeId} (w : World) (cs : List Value) (hb : base ≤ w.heap.size) (hm : cs.length ≤ maxLen) : (w.alloc (.cells cs.toArray e)).ownsRow base e 1 (.slice (some ⟨w.heap.size, 0, none⟩) cs.length cs.length) cs.length cs :=
  ⟨by rw [Nat.mul_one], .inr ⟨w.heap.size, cs.length, cs.toArray, rfl, hb, heap_alloc_new w _, Nat.le_refl _, hm, by simp, by simp⟩⟩

/-- A row that is read, as what is appended. -/
theorem src_news {w W : World} {b off : Nat} {spot : Option _} {p : List Int} (hr : Rd w w.heap.size (some ⟨b, off, spot⟩) (intV .u8 p)) (hb : Below w.heap.size w W) : ∀ (j : Nat) (u : Value), (intV .u8 p)[j]? = some u → W.cell? ((⟨b, off, spot⟩ : Addr).add j) = some u := fun j u hu => by
  rcases hr.below hb with h | ⟨b2, off2, e, _, hc⟩
  · rw [h] at hu; cases hu
  · rw [show (⟨b, off, spot⟩ : Addr) = ⟨b2, off2, none⟩ from Option.some.inj e, Addr.add_mid]
    exact hc j u hu
set_option maxRecDepth 100000 in
set_option maxHeartbeats 800000 in
theorem specEncodeFrame_calls (t : Int) (A : Option Addr) (c : Nat) (p : List Int) (w : World) (hr : Rd w w.heap.size A (intV .u8 p)) (hA : A = none → c = 0) (hn : p.length ≤ 1048576) :
    Calls Try.prog 51 #[.int .u8 t, .slice A p.length c] w fun e w' => ∃ v, e = .returned (.tuple #[v, .bool (encR t p).2]) ∧ w'.ownsRow w.heap.size 5 1 v (encR t p).1.length (intV .u8 (encR t p).1) ∧ Below w.heap.size w w' := by
  obtain ⟨i0, hi0, hz, hz1, hz2⟩ := info_parts info_u8
  have HR := Lib.hid hr
  clear hr
  by_cases h30 : 30 < p.length
  · have HV : Hid (encR t p = ([], false)) := Lib.hid (by rw [encR, if_pos h30])
    have HO := Lib.hid (World.ownsRow_made (base := w.heap.size) (e := 5) (size := 1) w #[] 0 (Nat.le_refl _) (Nat.zero_le _) rfl)
    go_enter Try.func51, Try.ntmps51
    go_wp2_with fail
    refine bodyPost_ret (v := .tuple #[.slice (some ⟨w.heap.size, 0, none⟩) 0 0, .bool false]) (by simp [results, Try.results51, go_sem]) rfl ⟨_, by rw [HV.out], by rw [HV.out]; exact HO.out, (Below.refl _ _).alloc (Nat.le_refl _) _⟩
  · have HV : Hid (encR t p = (frameL t p, true)) := Lib.hid (by rw [encR, if_neg h30])
    have HO : Hid ((w.alloc (.cells #[.int .u8 t, .int .u8 (p.length : Int)] 5)).ownsRow w.heap.size 5 1 (.slice (some ⟨w.heap.size, 0, none⟩) 2 2) 2 [.int .u8 t, .int .u8 (p.length : Int)]) := Lib.hid (own_lit w [.int .u8 t, .int .u8 (p.length : Int)] (Nat.le_refl _) (by simp [maxLen]))
    have h0 : (0 : Int) ≤ p.length := by omega
    have h1 : (p.length : Int) ≤ 30 := by omega
    have HF : Hid (frameL t p = (t :: (p.length : Int) :: p) ++ [xorL (t :: (p.length : Int) :: p)]) := Lib.hid rfl
    have HL : Hid ((t :: (p.length : Int) :: p).length = 2 + p.length) := Lib.hid (by simp only [List.length_cons]; omega)
    have HI : Hid (intV .u8 (t :: (p.length : Int) :: p) = [.int .u8 t, .int .u8 (p.length : Int)] ++ intV .u8 p) := Lib.hid (by simp [intV])
    obtain ⟨q, hq⟩ : ∃ q, t :: (p.length : Int) :: p = q := ⟨_, rfl⟩
    rw [hq] at HF HL HI
    clear hq
    go_enter Try.func51, Try.ntmps51
    go_upto_region 3 with fail
    go_cut [6] (fun v wx => ∃ g cap, v = .slice (some ⟨g, 0, none⟩) q.length cap ∧ wx.ownsRow w.heap.size 5 1 (.slice (some ⟨g, 0, none⟩) q.length cap) q.length (intV .u8 q) ∧ Below w.heap.size w wx)
    case first =>
      rcases A with _ | ⟨b, off, spot⟩
      · obtain rfl : c = 0 := hA rfl
        obtain rfl : p = [] := by
          rcases HR.out with h | ⟨b, off, e, _⟩
          · simpa [intV] using h
          · cases e
        go_wp2_with ((at_builtin; refine wpList_append_own_none _ rfl _ _ 64 rfl w.heap.size 5 i0 1 Try.underlying64 hi0 _ _ _ rfl HO.out rfl ?_))
        go_meet
        exact ⟨w.heap.size, 2, by rw [HL.out]; rfl, by rw [HL.out, HI.out]; exact HO.out, (Below.refl _ _).alloc (Nat.le_refl _) _⟩
      · have HS := Lib.hid (src_news HR.out ((Below.refl w.heap.size w).alloc (Nat.le_refl _) (.cells #[.int .u8 t, .int .u8 (p.length : Int)] 5)))
        have H1 := Lib.hid (one_intV p)
        go_wp2_with ((at_builtin; refine wpList_append_own _ rfl _ _ 64 rfl w.heap.size 5 i0 _ 1 1 Try.underlying64 hi0 hz hz1 hz2 rfl (by decide) _ _ _ rfl HO.out ⟨b, off, spot⟩ p.length c (intV .u8 p) rfl (by rw [intV_len, Nat.mul_one]) HS.out H1.out (by simp only [maxLen]; omega) (by omega) (by first | omega | (simp; done) | (simp; omega)) ?_; intro v4 w4 hown4 hgrow _))
        obtain ⟨g4, k4, rfl⟩ := own_some hown4 (by omega)
        go_meet
        exact ⟨g4, k4, by rw [HL.out], by rw [HL.out, HI.out]; exact hown4, below_own2 ((Below.refl _ _).alloc (Nat.le_refl _) _) HO.out hgrow (by simp)⟩
    obtain ⟨g, cap, rfl, ho, hb⟩ := hcut
    have HO5 := Lib.hid ho
    have HB5 := Lib.hid hb
    have hs5 := hb.size
    have hcap := own_cap ho
    have HC := Lib.hid (specCheck_calls (some ⟨g, 0, none⟩) cap q wc (Rd.of_own ho) (by have := HL.out; omega))
    have hql : q.length ≤ 32 := by have := HL.out; omega
    obtain ⟨n, hn5⟩ : ∃ n, q.length = n := ⟨_, rfl⟩
    have HE : Hid (frameL t p = q ++ [xorL q]) := HF
    have HN : Hid ((frameL t p).length = n + 1) := Lib.hid (by rw [HE.out, List.length_append, hn5]; rfl)
    have HIV : Hid (intV .u8 (frameL t p) = intV .u8 q ++ [.int .u8 (xorL q)]) := Lib.hid (by rw [HE.out]; simp [intV])
    rw [hn5] at HC HO5 hql ⊢
    generalize xorL q = x at *
    clear ho hb hn5
    go_wp2_with fail
    refine HC.out.mono ?_
    rintro e w6 ⟨rfl, rfl⟩
    go_wp2_with ((at_builtin; refine wpList_append_own _ rfl _ _ 64 rfl w.heap.size 5 i0 _ 1 1 Try.underlying64 hi0 hz hz1 hz2 rfl (by decide) _ _ _ rfl (HO5.out.alloc _) ⟨w6.heap.size, 0, none⟩ 1 1 [.int .u8 x] rfl rfl (cell_one_new _ _ _) (by simp [Value.oneCell']) (by simp only [maxLen]; omega) (by omega) (by simp; omega) ?_; intro v7 w7 hown7 hgrow _))
    have HB7 : Hid (Below w.heap.size w w7) := below_own2 (HB5.out.alloc hs5 _) (HO5.out.alloc _) hgrow (by simp; omega)
    refine bodyPost_ret (v := .tuple #[v7, .bool true]) (by simp [results, Try.results51, go_sem]) rfl ⟨_, by rw [HV.out], ?_, HB7.out⟩
    rw [HV.out]
    show w7.ownsRow w.heap.size 5 1 v7 (frameL t p).length (intV .u8 (frameL t p))
    rw [HN.out, HIV.out]
    exact hown7
set_option maxRecDepth 100000 in
set_option maxHeartbeats 800000 in
theorem implEncodeFrame_calls (t : Int) (A : Option Addr) (c : Nat) (p : List Int) (w : World) (hr : Rd w w.heap.size A (intV .u8 p)) (hA : A = none → c = 0) (hn : p.length ≤ 1048576) :
    Calls Try.prog 53 #[.int .u8 t, .slice A p.length c] w fun e w' => ∃ v, e = .returned (.tuple #[v, .bool (encR t p).2]) ∧ w'.ownsRow w.heap.size 5 1 v (encR t p).1.length (intV .u8 (encR t p).1) ∧ Below w.heap.size w w' := by
  obtain ⟨i0, hi0, hz, hz1, hz2⟩ := info_parts info_u8
  have HR := Lib.hid hr
  clear hr
  by_cases h30 : 30 < p.length
  · have HV : Hid (encR t p = ([], false)) := Lib.hid (by rw [encR, if_pos h30])
    have HO := Lib.hid (World.ownsRow_made (base := w.heap.size) (e := 5) (size := 1) w #[] 0 (Nat.le_refl _) (Nat.zero_le _) rfl)
    go_enter Try.func53, Try.ntmps53
    go_wp2_with fail
    refine bodyPost_ret (v := .tuple #[.slice (some ⟨w.heap.size, 0, none⟩) 0 0, .bool false]) (by simp [results, Try.results53, go_sem]) rfl ⟨_, by rw [HV.out], by rw [HV.out]; exact HO.out, (Below.refl _ _).alloc (Nat.le_refl _) _⟩
  · have HV : Hid (encR t p = (frameL t p, true)) := Lib.hid (by rw [encR, if_neg h30])
    have HO : Hid ((w.alloc (.cells #[.int .u8 t, .int .u8 (p.length : Int)] 5)).ownsRow w.heap.size 5 1 (.slice (some ⟨w.heap.size, 0, none⟩) 2 2) 2 [.int .u8 t, .int .u8 (p.length : Int)]) := Lib.hid (own_lit w [.int .u8 t, .int .u8 (p.length : Int)] (Nat.le_refl _) (by simp [maxLen]))
    have h0 : (0 : Int) ≤ p.length := by omega
    have h1 : (p.length : Int) ≤ 30 := by omega
    have HF : Hid (frameL t p = (t :: (p.length : Int) :: p) ++ [xorL (t :: (p.length : Int) :: p)]) := Lib.hid rfl
    have HL : Hid ((t :: (p.length : Int) :: p).length = 2 + p.length) := Lib.hid (by simp only [List.length_cons]; omega)
    have HI : Hid (intV .u8 (t :: (p.length : Int) :: p) = [.int .u8 t, .int .u8 (p.length : Int)] ++ intV .u8 p) := Lib.hid (by simp [intV])
    obtain ⟨q, hq⟩ : ∃ q, t :: (p.length : Int) :: p = q := ⟨_, rfl⟩
    rw [hq] at HF HL HI
    clear hq
    go_enter Try.func53, Try.ntmps53
    go_upto_region 3 with fail
    go_cut [6] (fun v wx => ∃ g cap, v = .slice (some ⟨g, 0, none⟩) q.length cap ∧ wx.ownsRow w.heap.size 5 1 (.slice (some ⟨g, 0, none⟩) q.length cap) q.length (intV .u8 q) ∧ Below w.heap.size w wx)
    case first =>
      rcases A with _ | ⟨b, off, spot⟩
      · obtain rfl : c = 0 := hA rfl
        obtain rfl : p = [] := by
          rcases HR.out with h | ⟨b, off, e, _⟩
          · simpa [intV] using h
          · cases e
        go_wp2_with ((at_builtin; refine wpList_append_own_none _ rfl _ _ 64 rfl w.heap.size 5 i0 1 Try.underlying64 hi0 _ _ _ rfl HO.out rfl ?_))
        go_meet
        exact ⟨w.heap.size, 2, by rw [HL.out]; rfl, by rw [HL.out, HI.out]; exact HO.out, (Below.refl _ _).alloc (Nat.le_refl _) _⟩
      · have HS := Lib.hid (src_news HR.out ((Below.refl w.heap.size w).alloc (Nat.le_refl _) (.cells #[.int .u8 t, .int .u8 (p.length : Int)] 5)))
        have H1 := Lib.hid (one_intV p)
        go_wp2_with ((at_builtin; refine wpList_append_own _ rfl _ _ 64 rfl w.heap.size 5 i0 _ 1 1 Try.underlying64 hi0 hz hz1 hz2 rfl (by decide) _ _ _ rfl HO.out ⟨b, off, spot⟩ p.length c (intV .u8 p) rfl (by rw [intV_len, Nat.mul_one]) HS.out H1.out (by simp only [maxLen]; omega) (by omega) (by first | omega | (simp; done) | (simp; omega)) ?_; intro v4 w4 hown4 hgrow _))
        obtain ⟨g4, k4, rfl⟩ := own_some hown4 (by omega)
        go_meet
        exact ⟨g4, k4, by rw [HL.out], by rw [HL.out, HI.out]; exact hown4, below_own2 ((Below.refl _ _).alloc (Nat.le_refl _) _) HO.out hgrow (by simp)⟩
    obtain ⟨g, cap, rfl, ho, hb⟩ := hcut
    have HO5 := Lib.hid ho
    have HB5 := Lib.hid hb
    have hs5 := hb.size
    have hcap := own_cap ho
    have HR5 := Lib.hid (Rd.of_own ho)
    have HQ := Lib.hid (fun (k : Nat) (h : k < q.length) => xorL_snoc h)
    have HQE := Lib.hid (List.take_length (l := q))
    have hql : q.length ≤ 32 := by have := HL.out; omega
    obtain ⟨n, hn5⟩ : ∃ n, q.length = n := ⟨_, rfl⟩
    have HE : Hid (frameL t p = q ++ [xorL q]) := HF
    have HN : Hid ((frameL t p).length = n + 1) := Lib.hid (by rw [HE.out, List.length_append, hn5]; rfl)
    have HIV : Hid (intV .u8 (frameL t p) = intV .u8 q ++ [.int .u8 (xorL q)]) := Lib.hid (by rw [HE.out]; simp [intV])
    have HN5 := Lib.hid hn5
    rw [hn5] at HO5 hql ⊢
    clear ho hb hn5
    go_wp2_with fail
    go_loopw [7, 23] (fun v i wr => ∃ k : Nat, k ≤ n ∧ v = .int .u8 (xorL (q.take k)) ∧ i = .int .i64 k ∧ wr = wc) (fun _ i _ => n - (intOf i).toNat)
    case atStart => exact ⟨0, Nat.zero_le _, by rw [List.take_zero]; rfl, rfl, by first | rfl | trivial⟩
    case round =>
      obtain ⟨k, hk, rfl, rfl, rfl⟩ := hrel
      by_cases hlt : k < n
      · have hlq : k < q.length := by have := HN5.out; omega
        obtain ⟨b5, off5, he5, hbb, hc5⟩ := HR5.out.int hlq
        injection he5 with he5
        injection he5 with he5 he6
        subst he5
        subst he6
        rw [Nat.zero_add] at hc5
        have HS := Lib.hid (HQ.out k hlq)
        generalize q[k] = z at *
        generalize xorL (q.take k) = x at *
        go_wp2_with fail
        go_roundw
        case rel => exact ⟨k + 1, by omega, by rw [HS.out], by go_num, by first | rfl | trivial⟩
        case measure => simp [intOf]; omega
      · obtain rfl : k = n := by omega
        have HX : Hid (xorL (q.take k) = xorL q) := Lib.hid (by rw [← HN5.out, HQE.out])
        rw [HX.out]
        generalize xorL q = x at *
        go_wp2_with ((at_builtin; refine wpList_append_own _ rfl _ _ 64 rfl w.heap.size 5 i0 _ 1 1 Try.underlying64 hi0 hz hz1 hz2 rfl (by decide) _ _ _ rfl (HO5.out.alloc _) ⟨wr.heap.size, 0, none⟩ 1 1 [.int .u8 x] rfl rfl (cell_one_new _ _ _) (by simp [Value.oneCell']) (by simp only [maxLen]; omega) (by omega) (by simp; omega) ?_; intro v7 w7 hown7 hgrow _))
        have HB7 : Hid (Below w.heap.size w w7) := below_own2 (HB5.out.alloc hs5 _) (HO5.out.alloc _) hgrow (by simp; omega)
        refine bodyPost_ret (v := .tuple #[v7, .bool true]) (by simp [results, Try.results53, go_sem]) rfl ⟨_, by rw [HV.out], ?_, HB7.out⟩
        rw [HV.out]
        show w7.ownsRow w.heap.size 5 1 v7 (frameL t p).length (intV .u8 (frameL t p))
        rw [HN.out, HIV.out]
        exact hown7
/-- A row of the call's own without a block is nil. -/
theorem own_zero {w : World} {base n : Nat} {e : TypeId} {v : Value} {xs : List Value} (h : w.ownsRow base e 1 v n xs) : v = .slice none 0 0 ∨ ∃ g c, v = .slice (some ⟨g, 0, none⟩) n c := by
  rcases h.2 with ⟨hv, _⟩ | ⟨g, cap, cur, hv, _⟩
  · exact .inl hv
  · exact .inr ⟨g, cap, hv⟩
theorem own_none_cap {A : Option Addr} {n c k : Nat} (h : Value.slice A n c = .slice none 0 0 ∨ ∃ g c2, Value.slice A n c = .slice (some ⟨g, 0, none⟩) k c2) : A = none → c = 0 := fun hA => by
  rcases h with h | ⟨g, c2, h⟩
  · injection h
  · injection h with h1
    rw [hA] at h1
    cases h1
end Go.Proofs.Ytoelagfcapdfpaa
