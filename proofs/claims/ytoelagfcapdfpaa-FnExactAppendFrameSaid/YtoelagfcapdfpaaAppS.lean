/-
  What appending answers; l2Append of spec.
-/
import Derived.Test.YtoelagfcapdfpaaNewI
import Derived.Test.YtoelagfcapdfpaaOver
import Derived.Test.YtoelagfcapdfpaaBytes
import Derived.Test.YtoelagfcapdfpaaCopyL
import Derived.Test.YtoelagfcapdfpaaOpen
namespace Go.Proofs.Ytoelagfcapdfpaa
open Go.RowKit

theorem kc4 {w : World} {b o g : Nat} {u v0 v1 v2 v3 : Value} (h : w.cell? ⟨b, o, none⟩ = some u) (hn : b ≠ g) : ((((w.setCell ⟨g, 0, none⟩ v0).setCell ⟨g, 1, none⟩ v1).setCell ⟨g, 2, none⟩ v2).setCell ⟨g, 3, none⟩ v3).cell? ⟨b, o, none⟩ = some u :=
  kc1 (kc1 (kc1 (kc1 h hn) hn) hn) hn
theorem kc5 {w : World} {b o g k i : Nat} {u v v0 v1 v2 v3 : Value} (h : w.cell? ⟨b, o, none⟩ = some u) (hn : b ≠ g) (hk : b ≠ k) : (((((w.setCell ⟨k, i, none⟩ v).setCell ⟨g, 0, none⟩ v0).setCell ⟨g, 1, none⟩ v1).setCell ⟨g, 2, none⟩ v2).setCell ⟨g, 3, none⟩ v3).cell? ⟨b, o, none⟩ = some u :=
  kc4 (kc1 h hk) hn
theorem own_sz {F : World} {lo lo' hi : Nat} {v : Value} {m : List (List Int)} (h : OwnM F lo hi v m) (hs : F.heap.size = hi) (hl : lo' ≤ lo) : OwnM F lo' F.heap.size v m := by
  subst hs
  exact h.mono hl (Nat.le_refl _)
theorem own_fin5c {w : World} {lo lo' k g : Nat} {v u v0 v1 v2 v3 : Value} {m : List (List Int)} (h : OwnM w lo w.heap.size v m) (hk : k < lo) (hg : g < lo) (hl : lo' ≤ lo) :
    OwnM (((((w.setCell ⟨k, 0, none⟩ u).setCell ⟨g, 0, none⟩ v0).setCell ⟨g, 1, none⟩ v1).setCell ⟨g, 2, none⟩ v2).setCell ⟨g, 3, none⟩ v3) lo' (((((w.setCell ⟨k, 0, none⟩ u).setCell ⟨g, 0, none⟩ v0).setCell ⟨g, 1, none⟩ v1).setCell ⟨g, 2, none⟩ v2).setCell ⟨g, 3, none⟩ v3).heap.size v m := by
  have h5 := own_setC (i := 3) (u := v3) (own_setC (i := 2) (u := v2) (own_setC (i := 1) (u := v1) (own_setC (i := 0) (u := v0) (own_setC (i := 0) (u := u) h (.inl hk)) (.inl hg)) (.inl hg)) (.inl hg)) (.inl hg)
  exact own_sz h5 (by rw [World.size_setCell, World.size_setCell, World.size_setCell, World.size_setCell, World.size_setCell]) hl
def lenV : Value → Nat
  | .slice _ n _ => n
  | _ => 0
/-- What appending to a window of a memory answers. -/
def appR (m : List (List Int)) (n s l c : Nat) (xs : List Int) : List (List Int) × Win × Bool :=
  if l + xs.length ≤ c then (m.set n (over (m.getD n []) (s + l) xs), ⟨n, s, (l : Int) + xs.length, c⟩, true)
  else if 64 < l + xs.length ∨ m.length = 16 then ([], ⟨0, 0, 0, 0⟩, false)
  else (m ++ [wb m n s l ++ xs ++ List.replicate (min (max (2 * c) (l + xs.length)) 64 - (l + xs.length)) 0], ⟨m.length, 0, (l : Int) + xs.length, (min (max (2 * c) (l + xs.length)) 64 : Nat)⟩, true)
theorem appR_small {m : List (List Int)} {n s l c : Nat} {xs : List Int} (hm : MemOK m) (hn : n < m.length) (hl : l ≤ c) (hc : s + c ≤ m[n].length) : Small (appR m n s l c xs).1 := by
  unfold appR
  split
  · rename_i h
    rw [getD_eq hn]
    exact small_set hm (by rw [over_len (by omega)]; exact (hm.2 _ (List.getElem_mem hn)).2)
  · split
    · exact ⟨by simp, fun r hr => by simp at hr⟩
    · rename_i h1 h2
      have := hm.1
      exact small_snoc hm (by omega) (by simp [wb_len hn (show s + l ≤ m[n].length by omega)]; omega)

/-- A memory, a window and the answer's two blocks, as a function has them. -/
structure MWMW (W : World) (g : Nat) (A : Option Addr) (n c : Nat) (a s l k : Int) : Prop where
  mw : MW W g A n c a s l k
  resM : W.heap[g + 1 + 1]? = some (.cells #[.slice none 0 0] 31)
  resW : W.heap[g + 1 + 1 + 1]? = some (.cells #[.int .i64 0, .int .i64 0, .int .i64 0, .int .i64 0] 33)
theorem MWMW.below {W W' : World} {g : Nat} {A : Option Addr} {n c : Nat} {a s l k : Int} (h : MWMW W g A n c a s l k) (hb : Below W.heap.size W W') : MWMW W' g A n c a s l k :=
  ⟨h.mw.below hb, (hb.block _ (Array.getElem?_eq_some_iff.1 h.resM).1).trans h.resM, (hb.block _ (Array.getElem?_eq_some_iff.1 h.resW).1).trans h.resW⟩
theorem enterMWMW (A : Option Addr) (n c : Nat) (a s l k : Int) (w : World) :
    ∃ w0, (((w.alloc (.cells #[.slice A n c] 31)).alloc (.cells #[.int .i64 a, .int .i64 s, .int .i64 l, .int .i64 k] 33)).alloc (.cells #[.slice none 0 0] 31)).alloc (.cells #[.int .i64 0, .int .i64 0, .int .i64 0, .int .i64 0] 33) = w0 ∧ Below w.heap.size w w0 ∧ w0.heap.size = w.heap.size + 4 ∧ MWMW w0 w.heap.size A n c a s l k := by
  obtain ⟨w1, hw1, hb1, hz1, hmw⟩ := enterMWM A n c a s l k w
  refine ⟨_, rfl, ?_, ?_, ?_⟩ <;> rw [hw1]
  · exact hb1.alloc hb1.size _
  · simp; omega
  · have h := hmw.below ((Below.refl _ _).alloc (Nat.le_refl _) (.cells #[.int .i64 0, .int .i64 0, .int .i64 0, .int .i64 0] 33))
    refine ⟨h.mw, h.res, ?_⟩
    have := heap_alloc_new w1 (.cells #[.int .i64 0, .int .i64 0, .int .i64 0, .int .i64 0] 33)
    rw [hz1] at this
    exact this

set_option maxRecDepth 100000 in
set_option maxHeartbeats 6400000 in
theorem specAppend_calls (A : Option Addr) (cm : Nat) (m : List (List Int)) (n s l c : Nat) (LA : Option Addr) (lc : Nat) (xs : List Int) (w : World) (hr : Rd2 w w.heap.size A m) (hok : MemOK m) (hn : n < m.length) (hlc : l ≤ c) (hsc : s + c ≤ m[n].length) (hxs : xs.length ≤ 2097152) (hxc : xs.length ≤ lc) (hlr : Rd w w.heap.size LA (intV .u8 xs)) :
    Calls Try.prog 100 #[.agg #[.slice A m.length cm], .agg #[.int .i64 n, .int .i64 s, .int .i64 l, .int .i64 c], .slice LA xs.length lc] w fun e w' => ∃ v, e = .returned (.tuple #[.agg #[v], .agg #[.int .i64 (appR m n s l c xs).2.1.arr, .int .i64 (appR m n s l c xs).2.1.start, .int .i64 (appR m n s l c xs).2.1.len, .int .i64 (appR m n s l c xs).2.1.cap], .bool (appR m n s l c xs).2.2]) ∧ OwnM w' w.heap.size w'.heap.size v (appR m n s l c xs).1 ∧ Below w.heap.size w w' := by
  obtain ⟨w0, hw0, hb0, hz0, hmw⟩ := enterMWMW A m.length cm n s l c w
  obtain ⟨i0, hi0, hz, hz1, hz2⟩ := info_parts info_u8
  have h64 := (hok.2 m[n] (List.getElem_mem hn)).2
  have h1 := (hok.2 m[n] (List.getElem_mem hn)).1
  have h16 := hok.1
  have HOK := Lib.hid hok
  have HB := Lib.hid hb0
  have HR := Lib.hid hr
  have HLR := Lib.hid hlr
  have HW := Lib.hid hw0
  have HMW := Lib.hid hmw
  have HRM : Hid (∀ W, Calls Try.prog 115 #[.agg #[.int .i64 n, .int .i64 s, .int .i64 l, .int .i64 c]] W fun e w' => e = .returned (.int .i64 ((c : Int) - l)) ∧ Below W.heap.size W w') := Lib.hid fun W => by
    have hc64 : c ≤ 64 := by omega
    have hl64 : l ≤ 64 := by omega
    have h0 : (0 : Int) ≤ (l : Int) := by omega
    have h2 : (l : Int) ≤ 64 := by omega
    have h3 : (0 : Int) ≤ (c : Int) := by omega
    have h4 : (c : Int) ≤ 64 := by omega
    clear hr hb0 hmw hw0 hok hlr HMW HW HR HLR HB HOK
    go_enter Try.func115, Try.ntmps115
    go_wp2_with fail
    go_ret
    exact ⟨rfl, by (repeat (first | (with_reducible exact Below.refl _ _) | (with_reducible refine Below.drew ?_) | ((with_reducible refine Below.alloc ?_ ?hB _); case hB => (first | (with_reducible exact Nat.le_refl _) | omega | (simp; done) | (simp; omega))) | ((with_reducible refine Below.setCell ?_ ?hB _); case hB => (first | (with_reducible exact Nat.le_refl _) | omega | (simp; done) | (simp; omega)))))⟩
  have HA : Hid (∀ W, Below w0.heap.size w0 W → W.cell? ⟨w.heap.size, 0, none⟩ = some (.slice A m.length cm) ∧ W.cell? ⟨w.heap.size + 1, 0, none⟩ = some (.int .i64 n) ∧ W.cell? ⟨w.heap.size + 1, 1, none⟩ = some (.int .i64 s) ∧ W.cell? ⟨w.heap.size + 1, 2, none⟩ = some (.int .i64 l) ∧ W.cell? ⟨w.heap.size + 1, 3, none⟩ = some (.int .i64 c)) := Lib.hid fun W hb => by
    have h := HMW.out.below hb
    obtain ⟨d0, d1, d2, d3⟩ := four_cells h.mw.win
    exact ⟨one_cell h.mw.mem, d0, d1, d2, d3⟩
  obtain ⟨c1, d0, d1, d2, d3⟩ := HA.out w0 (Below.refl _ _)
  clear hr hb0 hmw hw0 hok hlr
  go_enter Try.func100, Try.ntmps100
  go_wp2_with fail
  rw [HW.out]
  refine (HRM.out _).mono ?_
  rintro e w2 ⟨rfl, hb2⟩
  have HB2 := Lib.hid (HB.out.trans (hb2.mono HB.out.size))
  have HB02 := Lib.hid hb2
  have HMW2 := Lib.hid (HMW.out.below hb2)
  have hs02 := hb2.size
  have hs0 := HB.out.size
  clear hb2 c1 d0 d1 d2 d3
  have r0 := one_cell HMW2.out.resM
  have rf := one_frozen HMW2.out.resM
  obtain ⟨q0, q1, q2, q3⟩ := four_cells HMW2.out.resW
  obtain ⟨f0, f1, f2, f3⟩ := oneM HMW2.out.resW
  by_cases hroom : l + xs.length ≤ c
  · have hle : (xs.length : Int) ≤ (c : Int) - l := by omega
    have HV : Hid (appR m n s l c xs = (m.set n (over m[n] (s + l) xs), ⟨n, s, (l : Int) + xs.length, c⟩, true)) := Lib.hid (by rw [appR, if_pos hroom, getD_eq hn])
    have HWR := Lib.hid (fun W (hb : Below w2.heap.size w2 W) => specWrite_calls A cm m n s l l c LA lc xs W ((HR.out.below (HB2.out.trans (hb.mono HB2.out.size))).more (Nat.le_trans HB2.out.size hb.size)) HOK.out hn (by omega) ((HLR.out.below (HB2.out.trans (hb.mono HB2.out.size))).more (Nat.le_trans HB2.out.size hb.size)))
    have HSL : Hid (∀ W, Calls Try.prog 98 #[.agg #[.int .i64 n, .int .i64 s, .int .i64 l, .int .i64 c], .int .i64 0, .int .i64 (l + xs.length), .int .i64 c] W fun e w' => e = .returned (.agg #[.int .i64 n, .int .i64 s, .int .i64 (l + xs.length), .int .i64 c]) ∧ Below W.heap.size W w') := Lib.hid fun W => by
      have h := specSlice_calls n s l c 0 (l + xs.length) c W (by omega) (by omega) (by omega) (by omega)
      simpa using h
    have HA2 := Lib.hid (fun W (hb : Below w2.heap.size w2 W) => HA.out W (HB02.out.trans (hb.mono HB02.out.size)))
    have hc0 := (Below.refl w2.heap.size w2).drew
    have hwl : IntKind.i64.wrap ((l : Int) + xs.length) = l + xs.length := by simp [IntKind.wrap, IntKind.bits, IntKind.signed]; omega
    go_upto_region 2 with fail
    clear r0 rf q0 q1 q2 q3 f0 f1 f2 f3
    obtain ⟨c1, d0, d1, d2, d3⟩ := HA2.out w2.drew hc0
    go_region_held3 (fun W => W.cell? ⟨w.heap.size, 0, none⟩ = some (.slice A m.length cm) ∧ W.cell? ⟨w.heap.size + 1, 0, none⟩ = some (.int .i64 n) ∧ W.cell? ⟨w.heap.size + 1, 1, none⟩ = some (.int .i64 s) ∧ W.cell? ⟨w.heap.size + 1, 2, none⟩ = some (.int .i64 l) ∧ W.cell? ⟨w.heap.size + 1, 3, none⟩ = some (.int .i64 c))
      (first | (with_reducible exact ⟨c1, d0, d1, d2, d3⟩) | (with_reducible exact HA2.out _ hc3) | (with_reducible exact HA2.out _ hc4) | (have h5 := HA2.out _ hc4; (with_reducible exact ⟨kd1 h5.1 (by omega), kd1 h5.2.1 (by omega), kd1 h5.2.2.1 (by omega), kd1 h5.2.2.2.1 (by omega), kd1 h5.2.2.2.2 (by omega)⟩)) | (have h5 := HA2.out _ hc4; (with_reducible exact ⟨kc1 h5.1 (by omega), kc1 h5.2.1 (by omega), kc1 h5.2.2.1 (by omega), kc1 h5.2.2.2.1 (by omega), kc1 h5.2.2.2.2 (by omega)⟩)) | (have h5 := HA2.out _ hc4; (with_reducible exact ⟨kc5 h5.1 (by omega) (by omega), kc5 h5.2.1 (by omega) (by omega), kc5 h5.2.2.1 (by omega) (by omega), kc5 h5.2.2.2.1 (by omega) (by omega), kc5 h5.2.2.2.2 (by omega) (by omega)⟩)))
      (first | (go_at_call 116; refine (HWR.out _ hc0).mono ?_; rintro e w3 ⟨v, rfl, ho, hb3⟩; obtain ⟨Av, cv, rfl, hcv⟩ := ho.form; rw [List.length_set] at ho; have hc3 := hc0.trans hb3) | (go_at_call 98; refine (HSL.out _).mono ?_; rintro e w4 ⟨rfl, hb4⟩; have hc4 := hc3.trans (hb4.mono hc3.size); have HO4 := Lib.hid (show OwnM w4 w2.heap.size w4.heap.size (.slice Av m.length cv) (m.set n (over m[n] (s + l) xs)) from (ho.below hb4).mono (Nat.le_refl _) hb4.size); have HMW4 := Lib.hid (HMW2.out.below hc4); have r0 := one_cell HMW4.out.resM; have rf := one_frozen HMW4.out.resM; have qq := four_cells HMW4.out.resW; obtain ⟨q0, q1, q2, q3⟩ := qq; have ff := oneM HMW4.out.resW; obtain ⟨f0, f1, f2, f3⟩ := ff))
    have HB4 := Lib.hid (HB2.out.trans (hc4.mono HB2.out.size))
    have hs3 := hb3.size
    have hs4 := hb4.size
    have hs2 : w2.heap.size ≤ w4.heap.size := hc4.size
    clear hb3 hb4 hc3 hc4 ho
    go_wp2_with fail
    refine bodyPost_ret (v := .tuple #[.agg #[.slice Av m.length cv], .agg #[.int .i64 n, .int .i64 s, .int .i64 ((l : Int) + xs.length), .int .i64 c], .bool true]) (by simp [results, Try.results100, go_sem, r0, q0, q1, q2, q3]) rfl ⟨_, by rw [HV.out], ?_, by (repeat (first | (with_reducible exact Below.refl _ _) | (with_reducible refine Below.drew ?_) | ((with_reducible refine Below.alloc ?_ ?hB _); case hB => (first | (with_reducible exact Nat.le_refl _) | omega | (simp; done) | (simp; omega))) | ((with_reducible refine Below.setCell ?_ ?hB _); case hB => (first | (with_reducible exact Nat.le_refl _) | omega | (simp; done) | (simp; omega))))); exact HB4.out⟩
    rw [HV.out]
    with_reducible exact own_fin5c HO4.out (by omega) (by omega) (by omega)
  · have hgt : ¬ (xs.length : Int) ≤ (c : Int) - l := by omega
    by_cases hbig : 64 < l + xs.length
    · have hb : (64 : Int) - l < xs.length := by omega
      have HV : Hid (appR m n s l c xs = ([], ⟨0, 0, 0, 0⟩, false)) := Lib.hid (by rw [appR, if_neg hroom, if_pos (.inl hbig)])
      obtain ⟨c1, d0, d1, d2, d3⟩ := HA.out w2 HB02.out
      go_wp2_with fail
      refine bodyPost_ret (v := .tuple #[.agg #[.slice none 0 0], .agg #[.int .i64 0, .int .i64 0, .int .i64 0, .int .i64 0], .bool false]) (by simp [results, Try.results100, go_sem, r0, q0, q1, q2, q3]) rfl ⟨_, by rw [HV.out], by rw [HV.out]; exact own_none _ _ _, by (repeat (first | (with_reducible exact Below.refl _ _) | (with_reducible refine Below.drew ?_) | ((with_reducible refine Below.alloc ?_ ?hB _); case hB => (first | (with_reducible exact Nat.le_refl _) | omega | (simp; done) | (simp; omega))) | ((with_reducible refine Below.setCell ?_ ?hB _); case hB => (first | (with_reducible exact Nat.le_refl _) | omega | (simp; done) | (simp; omega))))); exact HB2.out⟩
    · have hb : ¬ (64 : Int) - l < xs.length := by omega
      by_cases h16e : m.length = 16
      · have e16 : ((m.length : Int) == 16) = true := by simp; omega
        have HV : Hid (appR m n s l c xs = ([], ⟨0, 0, 0, 0⟩, false)) := Lib.hid (by rw [appR, if_neg hroom, if_pos (.inr h16e)])
        obtain ⟨c1, d0, d1, d2, d3⟩ := HA.out w2 HB02.out
        go_wp2_with fail
        refine bodyPost_ret (v := .tuple #[.agg #[.slice none 0 0], .agg #[.int .i64 0, .int .i64 0, .int .i64 0, .int .i64 0], .bool false]) (by simp [results, Try.results100, go_sem, r0, q0, q1, q2, q3]) rfl ⟨_, by rw [HV.out], by rw [HV.out]; exact own_none _ _ _, by (repeat (first | (with_reducible exact Below.refl _ _) | (with_reducible refine Below.drew ?_) | ((with_reducible refine Below.alloc ?_ ?hB _); case hB => (first | (with_reducible exact Nat.le_refl _) | omega | (simp; done) | (simp; omega))) | ((with_reducible refine Below.setCell ?_ ?hB _); case hB => (first | (with_reducible exact Nat.le_refl _) | omega | (simp; done) | (simp; omega))))); exact HB2.out⟩
      · have e16 : ((m.length : Int) == 16) = false := by simp; omega
        obtain ⟨C, hC⟩ : ∃ C, min (max (2 * c) (l + xs.length)) 64 = C := ⟨_, rfl⟩
        have HV : Hid (appR m n s l c xs = (m ++ [wb m n s l ++ xs ++ List.replicate (C - (l + xs.length)) 0], ⟨m.length, 0, (l : Int) + xs.length, C⟩, true)) := Lib.hid (by rw [appR, if_neg hroom, if_neg (by omega), hC])
        have hC1 : l + xs.length ≤ C := by omega
        have hC2 : C ≤ 64 := by omega
        have hx1 : 1 ≤ xs.length := by omega
        obtain ⟨br, offr, rfl, hbr, hcr⟩ : ∃ br offr, LA = some ⟨br, offr, none⟩ ∧ br < w.heap.size ∧ ∀ j u, (intV .u8 xs)[j]? = some u → w.cell? ⟨br, offr + j, none⟩ = some u := by
          rcases HLR.out with h | ⟨b, off, e, hb, hc⟩
          · have : xs = [] := by simpa [intV] using h
            subst this
            simp at hx1
          · exact ⟨b, off, e, hb, hc⟩
        have HBY := Lib.hid (specBytes_calls A cm m n s l c w2 ((HR.out.below HB2.out).more HB2.out.size) hn h16 (by omega) h64)
        have HMO : Hid (∀ W, Calls Try.prog 119 #[.int .i64 (2 * c), .int .i64 (l + xs.length)] W fun e w' => e = .returned (.int .i64 (max (2 * c) (l + xs.length) : Nat)) ∧ W = w') := Lib.hid fun W => by
          have h := specMost_calls (2 * c) (l + xs.length) W
          rw [show (if ((l : Int) + xs.length) < 2 * c then (2 * (c : Int)) else (l : Int) + xs.length) = (max (2 * c) (l + xs.length) : Nat) by split <;> omega] at h
          exact h
        have HLE : Hid (∀ W, Calls Try.prog 118 #[.int .i64 (max (2 * c) (l + xs.length) : Nat), .int .i64 64] W fun e w' => e = .returned (.int .i64 C) ∧ W = w') := Lib.hid fun W => by
          have h := specLeast_calls (max (2 * c) (l + xs.length) : Nat) 64 W
          rw [show (if ((max (2 * c) (l + xs.length) : Nat) : Int) < 64 then ((max (2 * c) (l + xs.length) : Nat) : Int) else 64) = C by split <;> omega] at h
          exact h
        have HNW := Lib.hid (fun W (hb : Below w2.heap.size w2 W) g cap (ys : List Int) (hy1 : 1 ≤ ys.length) (hy2 : ys.length ≤ 64) (hy3 : ys.length ≤ cap) (hrd : Rd W W.heap.size (some ⟨g, 0, none⟩) (intV .u8 ys)) => specNew_calls A cm m g 0 cap ys ((l : Int) + xs.length) W ((HR.out.below (HB2.out.trans (hb.mono HB2.out.size))).more (Nat.le_trans HB2.out.size hb.size)) HOK.out hrd hy1 hy2 hy3)
        have HWB := Lib.hid (show (wb m n s l).length = l from wb_len hn (by omega))
        have HCR : Hid (∀ W, Below w.heap.size w W → ∀ (j : Nat) (u : Value), (intV .u8 xs)[j]? = some u → W.cell? ((⟨br, offr, none⟩ : Addr).add j) = some u) := Lib.hid fun W hb j u hu => by
          rw [← hcr j u hu, ← hb.cell (p := ⟨br, offr + j, none⟩) hbr]
          simp [Addr.add]
          by_cases h0 : j = 0 <;> simp [h0]
        have i1 : (0 : Int) ≤ c := by omega
        have i2 : (c : Int) ≤ 64 := by omega
        have i3 : (0 : Int) ≤ l := by omega
        have i4 : (l : Int) ≤ 64 := by omega
        have i5 : (xs.length : Int) ≤ 64 := by omega
        have i6 : (0 : Int) ≤ xs.length := by omega
        have HHC := Lib.hid hC
        have H1V := Lib.hid (one_intV xs)
        generalize hM : (max (2 * c) (l + xs.length)) = M at HMO HLE
        obtain ⟨c1, d0, d1, d2, d3⟩ := HA.out w2 HB02.out
        clear hcr hbr hM hC r0 rf q0 q1 q2 q3 f0 f1 f2 f3
        go_wp2_with fail
        refine HBY.out.mono ?_
        rintro e w3 ⟨g3, k3, rfl, ho3, hb3⟩
        have HB3 := Lib.hid hb3
        have HO3 := Lib.hid ho3
        have hkc := own_cap ho3
        have hs3 := hb3.size
        have HS3 := Lib.hid (HCR.out w3 (HB2.out.trans (hb3.mono HB2.out.size)))
        clear ho3 hb3 c1 d0 d1 d2 d3
        go_wp2_with ((at_builtin; refine wpList_append_own _ rfl _ _ 64 rfl w2.heap.size 5 i0 _ 1 1 Try.underlying64 hi0 hz hz1 hz2 rfl (by decide) _ _ _ rfl HO3.out ⟨br, offr, none⟩ xs.length lc (intV .u8 xs) rfl (by rw [intV_len, Nat.mul_one]) HS3.out H1V.out (by simp only [maxLen]; omega) (by omega) (by omega) ?_; intro v4 w4 hown4 hgrow _))
        have HB4 := Lib.hid (below_own2 HB3.out HO3.out hgrow hs3)
        have HO4 : Hid (w4.ownsRow w2.heap.size 5 1 v4 (l + xs.length) (intV .u8 (wb m n s l ++ xs ++ List.replicate 0 0))) := Lib.hid (by
          have e : intV .u8 (wb m n s l ++ xs ++ List.replicate 0 0) = intV .u8 (wb m n s l) ++ intV .u8 xs := by simp [intV]
          rw [e]; exact hown4)
        obtain ⟨g4, k4, rfl⟩ := own_some hown4 (by omega)
        clear hown4 hgrow hkc
        go_wp2_with fail
        go_loopw [10] (fun v wr => ∃ j g cap : Nat, l + xs.length ≤ j ∧ j ≤ C ∧ v = .slice (some ⟨g, 0, none⟩) j cap ∧ wr.ownsRow w2.heap.size 5 1 (.slice (some ⟨g, 0, none⟩) j cap) j (intV .u8 (wb m n s l ++ xs ++ List.replicate (j - (l + xs.length)) 0)) ∧ Below w2.heap.size w2 wr) (fun v _ => C - lenV v)
        case atStart => exact ⟨l + xs.length, g4, k4, Nat.le_refl _, hC1, rfl, by rw [Nat.sub_self]; exact HO4.out, HB4.out⟩
        case round =>
          obtain ⟨j, g5, k5, hj1, hj2, rfl, hown, hbr⟩ := hrel
          have HO5 := Lib.hid hown
          have HB5 := Lib.hid hbr
          have hs5 := hbr.size
          have hkc := own_cap hown
          obtain ⟨c1, d0, d1, d2, d3⟩ := HA.out wr (HB02.out.trans (hbr.mono HB02.out.size))
          clear hown hbr
          by_cases hlt : j < C
          · have hlt2 : (j : Int) < C := by omega
            go_wp2_with (first | (go_at_call 119; refine (HMO.out _).mono ?_; rintro e w6 ⟨rfl, rfl⟩) | (go_at_call 118; refine (HLE.out _).mono ?_; rintro e w6 ⟨rfl, rfl⟩) | (at_builtin; refine wpList_append_own _ rfl _ _ 64 rfl w2.heap.size 5 i0 _ 1 1 Try.underlying64 hi0 hz hz1 hz2 rfl (by decide) _ _ _ rfl (HO5.out.alloc _) ⟨wr.heap.size, 0, none⟩ 1 1 [.int .u8 0] rfl rfl (cell_one_new _ _ _) (by simp [Value.oneCell']) (by simp only [maxLen]; omega) (by omega) (by simp; omega) ?_; intro v6 w6 hown6 hgrow6 _))
            have HB6 : Hid (Below w2.heap.size w2 w6) := below_own2 (HB5.out.alloc hs5 _) (HO5.out.alloc _) hgrow6 (by simp; omega)
            have HO6 : Hid (w6.ownsRow w2.heap.size 5 1 v6 (j + 1) (intV .u8 (wb m n s l ++ xs ++ List.replicate (j + 1 - (l + xs.length)) 0))) := Lib.hid (by
              have e : intV .u8 (wb m n s l ++ xs ++ List.replicate (j + 1 - (l + xs.length)) 0) = intV .u8 (wb m n s l ++ xs ++ List.replicate (j - (l + xs.length)) 0) ++ [.int .u8 0] := by
                rw [show j + 1 - (l + xs.length) = (j - (l + xs.length)) + 1 by omega, List.replicate_succ']
                simp [intV]
              rw [e]; exact hown6)
            obtain ⟨g6, k6, rfl⟩ := own_some hown6 (by omega)
            clear hown6 hgrow6
            go_roundw
            case rel => exact ⟨j + 1, g6, k6, by omega, by omega, rfl, HO6.out, HB6.out⟩
            case measure => simp [lenV]; omega
          · obtain rfl : j = C := by omega
            have hyl : (wb m n s l ++ xs ++ List.replicate (j - (l + xs.length)) 0).length = j := by simp [HWB.out]; omega
            have HYL := Lib.hid hyl
            have HN : Hid (Calls Try.prog 120 #[.agg #[.slice A m.length cm], .slice (some ⟨g5, 0, none⟩) j k5, .int .i64 ((l : Int) + xs.length)] wr fun e w' => ∃ v, e = .returned (.tuple #[.agg #[v], .agg #[.int .i64 m.length, .int .i64 0, .int .i64 ((l : Int) + xs.length), .int .i64 j]]) ∧ OwnM w' wr.heap.size w'.heap.size v (m ++ [wb m n s l ++ xs ++ List.replicate (j - (l + xs.length)) 0]) ∧ Below wr.heap.size wr w') := Lib.hid (by
              have h := HNW.out wr HB5.out g5 k5 _ (by rw [hyl]; omega) (by rw [hyl]; exact hC2) (by rw [hyl]; exact hkc) (Rd.of_own HO5.out)
              rw [hyl] at h
              exact h)
            generalize wb m n s l ++ xs ++ List.replicate (j - (l + xs.length)) 0 = all at *
            clear hyl
            have hnlt : ¬ (j : Int) < j := by omega
            go_wp2_with (first | (go_at_call 119; refine (HMO.out _).mono ?_; rintro e w6 ⟨rfl, rfl⟩) | (go_at_call 118; refine (HLE.out _).mono ?_; rintro e w6 ⟨rfl, rfl⟩) | (go_at_call 120; refine HN.out.mono ?_; rintro e w7 ⟨v7, rfl, ho7, hb7⟩; obtain ⟨A7, k7, rfl, hk7⟩ := ho7.form; rw [List.length_append, List.length_singleton] at ho7; rw [List.length_append, List.length_singleton]; have HO7 := Lib.hid ho7; have HB7 := Lib.hid hb7; clear ho7 hb7))
            obtain ⟨w8, hw8⟩ : ∃ w8, (w7.alloc (.cells #[.slice A7 (m.length + 1) k7] 31)).alloc (.cells #[.int .i64 m.length, .int .i64 0, .int .i64 ((l : Int) + xs.length), .int .i64 j] 33) = w8 := ⟨_, rfl⟩
            rw [hw8]
            have hb8 : Below w7.heap.size w7 w8 := by rw [← hw8]; exact ((Below.refl _ _).alloc (Nat.le_refl _) _).alloc (by simp) _
            have hx1 : w8.heap[w7.heap.size]? = some (.cells #[.slice A7 (m.length + 1) k7] 31) := by rw [← hw8]; exact alloc_old _ (heap_alloc_new _ _)
            have hx2 : w8.heap[w7.heap.size + 1]? = some (.cells #[.int .i64 m.length, .int .i64 0, .int .i64 ((l : Int) + xs.length), .int .i64 j] 33) := by rw [← hw8]; exact heap_alloc_at (by simp)
            have hs7 := HB7.out.size
            have hs8 := hb8.size
            have hb28 := (HB5.out.trans (HB7.out.mono hs5)).trans (hb8.mono (Nat.le_trans hs5 hs7))
            have HMW8 := Lib.hid (HMW2.out.below hb28)
            have HB8 := Lib.hid (HB2.out.trans (hb28.mono HB2.out.size))
            have HO8 := Lib.hid (show OwnM w8 wr.heap.size w8.heap.size (.slice A7 (m.length + 1) k7) (m ++ [all]) from (HO7.out.below hb8).mono (Nat.le_refl _) hs8)
            have x6 := one_cell hx1
            have hy4 := four_cells hx2
            obtain ⟨y0, y1, y2, y3⟩ := hy4
            have x6d : w8.drew.cell? ⟨w7.heap.size, 0, none⟩ = some (.slice A7 (m.length + 1) k7) := x6
            have y0d : w8.drew.cell? ⟨w7.heap.size + 1, 0, none⟩ = some (.int .i64 m.length) := y0
            have y1d : w8.drew.cell? ⟨w7.heap.size + 1, 1, none⟩ = some (.int .i64 0) := y1
            have y2d : w8.drew.cell? ⟨w7.heap.size + 1, 2, none⟩ = some (.int .i64 ((l : Int) + xs.length)) := y2
            have y3d : w8.drew.cell? ⟨w7.heap.size + 1, 3, none⟩ = some (.int .i64 j) := y3
            have r0 := one_cell HMW8.out.resM
            have rf := one_frozen HMW8.out.resM
            obtain ⟨q0, q1, q2, q3⟩ := four_cells HMW8.out.resW
            obtain ⟨f0, f1, f2, f3⟩ := oneM HMW8.out.resW
            clear hb8 hx1 hx2 hw8 hb28 c1 d0 d1 d2 d3
            go_wp2_with fail
            go_region_held3 (fun W => W.cell? ⟨w7.heap.size, 0, none⟩ = some (.slice A7 (m.length + 1) k7) ∧ W.cell? ⟨w7.heap.size + 1, 0, none⟩ = some (.int .i64 m.length) ∧ W.cell? ⟨w7.heap.size + 1, 1, none⟩ = some (.int .i64 0) ∧ W.cell? ⟨w7.heap.size + 1, 2, none⟩ = some (.int .i64 ((l : Int) + xs.length)) ∧ W.cell? ⟨w7.heap.size + 1, 3, none⟩ = some (.int .i64 j))
              (first | (with_reducible exact ⟨x6d, y0d, y1d, y2d, y3d⟩) | (with_reducible exact ⟨kd1 x6 (by omega), kd1 y0 (by omega), kd1 y1 (by omega), kd1 y2 (by omega), kd1 y3 (by omega)⟩) | (with_reducible exact ⟨kd5 x6 (by omega) (by omega), kd5 y0 (by omega) (by omega), kd5 y1 (by omega) (by omega), kd5 y2 (by omega) (by omega), kd5 y3 (by omega) (by omega)⟩) | (with_reducible exact ⟨kd4 x6 (by omega), kd4 y0 (by omega), kd4 y1 (by omega), kd4 y2 (by omega), kd4 y3 (by omega)⟩)) (fail)
            go_wp2_with fail
            refine bodyPost_ret (v := .tuple #[.agg #[.slice A7 (m.length + 1) k7], .agg #[.int .i64 m.length, .int .i64 0, .int .i64 ((l : Int) + xs.length), .int .i64 j], .bool true]) (by simp [results, Try.results100, go_sem, r0, q0, q1, q2, q3]) rfl ⟨_, by rw [HV.out], ?_, by (repeat (first | (with_reducible exact Below.refl _ _) | (with_reducible refine Below.drew ?_) | ((with_reducible refine Below.alloc ?_ ?hB _); case hB => (first | (with_reducible exact Nat.le_refl _) | omega | (simp; done) | (simp; omega))) | ((with_reducible refine Below.setCell ?_ ?hB _); case hB => (first | (with_reducible exact Nat.le_refl _) | omega | (simp; done) | (simp; omega))))); exact HB8.out⟩
            rw [HV.out]
            with_reducible exact own_fin5 HO8.out (by omega) (by omega) (by omega)
end Go.Proofs.Ytoelagfcapdfpaa
