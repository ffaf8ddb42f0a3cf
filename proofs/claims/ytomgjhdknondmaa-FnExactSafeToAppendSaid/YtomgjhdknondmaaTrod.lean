/-
  TroddenBy of spec and impl.
-/
import Derived.Test.YtomgjhdknondmaaNot
import Derived.Test.YtomgjhdknondmaaShr
import Derived.Deep.DeepCutAuto
import Derived.Deep.RegionHeld3
namespace Go.Proofs.Ytomgjhdknondmaa
open Go.RowKit

/-- The places that are written when n bytes are appended to x. -/
def roomW (x : Win) (n : Int) (c : Int) : Win := ⟨x.arr, x.start + x.len, n, c⟩
theorem ovl_roomW (x y : Win) (n c d : Int) : ovl (roomW x n c) y = ovl (roomW x n d) y := rfl
theorem Tame.room {x : Win} {n c : Int} (h : Tame x) (h2 : x.start + x.len ≤ 1000) (h0 : 0 ≤ n) (h1 : n ≤ 1000) (h3 : 0 ≤ c) (h4 : c ≤ 1000) : Tame (roomW x n c) :=
  ⟨by have := h.s0; have := h.l0; unfold roomW; simp only; omega, by unfold roomW; exact h2, h0, h1, h3, h4⟩
def trodB (L : List Win) (i n : Int) (k : Nat) : Bool := decide (0 < ovl (roomW (winAt L i.toNat) n n) (winAt L k))
/-- On which windows it treads to append n bytes. -/
def trodTo (L : List Win) (i n : Int) : List Int := if n ≤ (winAt L i.toNat).cap - (winAt L i.toNat).len then idxsTo (trodB L i n) L.length else []
theorem trodTo_len (L : List Win) (i n : Int) : (trodTo L i n).length ≤ L.length := by
  unfold trodTo
  split
  · exact idxsTo_len _ _
  · simp
/-- There is a window with a number. -/
def NumOK (m : List (List Int)) (L : List Win) (i : Int) : Prop := Watched m L ∧ 0 ≤ i ∧ i < L.length
instance (m : List (List Int)) (L : List Win) (i : Int) : Decidable (NumOK m L i) := by unfold NumOK; exact inferInstance
def trodR (m : List (List Int)) (L : List Win) (i n : Int) : List Int × Bool := if NumOK m L i ∧ 0 ≤ n then (trodTo L i n, true) else ([], false)
theorem trodR_small (m : List (List Int)) (L : List Win) (i n : Int) : (trodR m L i n).1.length ≤ 2097152 := by
  unfold trodR
  split
  · rename_i h
    have := trodTo_len L i n
    have := h.1.1.2.1
    simp only
    omega
  · simp
/-- What a watched window is like. -/
theorem win_bounds {m : List (List Int)} {x : Win} (h : WinOK m x) : 0 ≤ x.start ∧ 0 ≤ x.len ∧ x.len ≤ x.cap ∧ x.start + x.cap ≤ 64 := by
  obtain ⟨n, s, l, c, rfl, hnl, hlc, hsc, h1, h64, h16⟩ := h.nat
  simp only
  omega

theorem specNumber_calls (A : Option Addr) (c : Nat) (m : List (List Int)) (B : Option Addr) (k : Nat) (L : List Win) (i : Int) (w : World) (hr : Rd2 w w.heap.size A m) (hn : m.length ≤ maxLen) (hx : RdW w w.heap.size B L) (hl : L.length ≤ maxLen) :
    Calls Try.prog 113 #[.agg #[.slice A m.length c], .slice B L.length k, .int .i64 i] w fun e w' => e = .returned (.bool (decide (NumOK m L i))) ∧ Below w.heap.size w w' := by
  obtain ⟨w0, hw0⟩ : ∃ w0, (w.alloc (.cells #[.slice A m.length c] 26)) = w0 := ⟨_, rfl⟩
  have hb0 : Below w.heap.size w w0 := by rw [← hw0]; exact (Below.refl _ _).alloc (Nat.le_refl _) _
  have HC := Lib.hid (specWatched_calls A c m B k L w0 ((hr.below hb0).more hb0.size) hn ((hx.below hb0).more hb0.size) hl)
  have HB := Lib.hid hb0
  have HW := Lib.hid hw0
  clear hr hx hb0 hw0
  go_enter Try.func113, Try.ntmps113
  go_wp2_with fail
  rw [HW.out]
  refine HC.out.mono ?_
  rintro e w2 ⟨rfl, hb2⟩
  have HB2 := Lib.hid (HB.out.trans (hb2.mono HB.out.size))
  clear hb2
  by_cases hw : Watched m L
  · rw [show decide (Watched m L) = true from decide_eq_true hw]
    have h12 := hw.2.1
    have HP := Lib.hid (specIn_calls i 0 (L.length - 1) w2)
    have HD : Hid (decide (NumOK m L i) = decide (0 ≤ i ∧ i ≤ (L.length : Int) - 1)) := Lib.hid (decide_eq_decide.2 ⟨fun h => ⟨h.2.1, by have := h.2.2; omega⟩, fun h => ⟨hw, h.1, by omega⟩⟩)
    clear hw
    go_wp2_with fail
    refine HP.out.mono ?_
    rintro e w3 ⟨rfl, rfl⟩
    go_wp2_with fail
    go_ret
    exact ⟨ret_bool (by rw [HD.out, ← Bool.decide_and]), HB2.out⟩
  · rw [show decide (Watched m L) = false from decide_eq_false hw]
    have HD := Lib.hid (show decide (NumOK m L i) = false from decide_eq_false fun h => hw h.1)
    clear hw
    go_wp2_with fail
    go_ret
    exact ⟨ret_bool HD.out.symm, HB2.out⟩

theorem hasWatched_calls (A : Option Addr) (c : Nat) (m : List (List Int)) (B : Option Addr) (k : Nat) (L : List Win) (i : Int) (w : World) (hr : Rd2 w w.heap.size A m) (hn : m.length ≤ maxLen) (hx : RdW w w.heap.size B L) (hl : L.length ≤ maxLen) (hwa : ∀ x ∈ L, WArg x) :
    Calls Try.prog 112 #[.agg #[.slice A m.length c], .slice B L.length k, .int .i64 i] w fun e w' => e = .returned (.bool (decide (NumOK m L i))) ∧ Below w.heap.size w w' := by
  obtain ⟨w0, hw0⟩ : ∃ w0, (w.alloc (.cells #[.slice A m.length c] 26)) = w0 := ⟨_, rfl⟩
  have hb0 : Below w.heap.size w w0 := by rw [← hw0]; exact (Below.refl _ _).alloc (Nat.le_refl _) _
  have HC := Lib.hid (isWatched_calls A c m B k L w0 ((hr.below hb0).more hb0.size) hn ((hx.below hb0).more hb0.size) hwa hl)
  have HB := Lib.hid hb0
  have HW := Lib.hid hw0
  clear hr hx hb0 hw0
  by_cases h0 : 0 ≤ i
  · by_cases h1 : i < L.length
    · have HD : Hid (decide (NumOK m L i) = decide (Watched m L)) := Lib.hid (decide_eq_decide.2 ⟨fun h => h.1, fun h => ⟨h, h0, h1⟩⟩)
      go_enter Try.func112, Try.ntmps112
      go_wp2_with fail
      rw [HW.out]
      refine HC.out.mono ?_
      rintro e w2 ⟨rfl, hb2⟩
      have HB2 := Lib.hid (HB.out.trans (hb2.mono HB.out.size))
      clear hb2
      go_wp2_with fail
      go_ret
      exact ⟨ret_bool HD.out.symm, HB2.out⟩
    · have HD := Lib.hid (show decide (NumOK m L i) = false from decide_eq_false fun h => h1 h.2.2)
      have h1' : (L.length : Int) ≤ i := by omega
      clear h1
      go_enter Try.func112, Try.ntmps112
      go_wp2_with fail
      go_ret
      exact ⟨ret_bool HD.out.symm, by rw [HW.out]; exact HB.out⟩
  · have HD := Lib.hid (show decide (NumOK m L i) = false from decide_eq_false fun h => h0 h.2.1)
    have h0' : i < 0 := by omega
    clear h0
    go_enter Try.func112, Try.ntmps112
    go_wp2_with fail
    go_ret
    exact ⟨ret_bool HD.out.symm, by rw [HW.out]; exact HB.out⟩

theorem specRoom_calls (x : Win) (w : World) (hx : Tame x) :
    Calls Try.prog 116 #[.agg #[.int .i64 x.arr, .int .i64 x.start, .int .i64 x.len, .int .i64 x.cap]] w fun e w' => e = .returned (.int .i64 (x.cap - x.len)) ∧ Below w.heap.size w w' := by
  obtain ⟨n, s, l, c⟩ := x
  obtain ⟨x1, x2, x3, x4, x5, x6⟩ := hx
  dsimp only at *
  go_enter Try.func116, Try.ntmps116
  go_wp2_with fail
  go_ret
  exact ⟨rfl, by (repeat (first | (with_reducible exact Below.refl _ _) | (with_reducible refine Below.drew ?_) | ((with_reducible refine Below.alloc ?_ ?hB _); case hB => (first | (with_reducible exact Nat.le_refl _) | omega | (simp; done) | (simp; omega))) | ((with_reducible refine Below.setCell ?_ ?hB _); case hB => (first | (with_reducible exact Nat.le_refl _) | omega | (simp; done) | (simp; omega)))))⟩

set_option maxRecDepth 100000 in
set_option maxHeartbeats 3200000 in
theorem specTrodden_calls (B : Option Addr) (ck : Nat) (L : List Win) (j : Nat) (n : Int) (w : World) (hx : RdW w w.heap.size B L) (hw : ∀ x ∈ L, ∃ m, WinOK m x) (hl : L.length ≤ 12) (hj : j < L.length) (hn : 0 ≤ n) :
    Calls Try.prog 114 #[.slice B L.length ck, .int .i64 j, .int .i64 n] w fun e w' => ∃ g cap, e = .returned (.slice (some ⟨g, 0, none⟩) (trodTo L j n).length cap) ∧ w'.ownsRow w.heap.size 3 1 (.slice (some ⟨g, 0, none⟩) (trodTo L j n).length cap) (trodTo L j n).length (intV .i64 (trodTo L j n)) ∧ Below w.heap.size w w' := by
  obtain ⟨i0, hi0, hz, hz1, hz2⟩ := info_parts info_int
  obtain ⟨w3, hw3⟩ : ∃ w3, w.alloc (.cells #[] 3) = w3 := ⟨_, rfl⟩
  have HB3 := Lib.hid (show Below w.heap.size w w3 by rw [← hw3]; exact (Below.refl _ _).alloc (Nat.le_refl _) _)
  have HO3 : Hid (w3.ownsRow w.heap.size 3 1 (.slice (some ⟨w.heap.size, 0, none⟩) 0 0) 0 []) := Lib.hid (by rw [← hw3]; exact World.ownsRow_made (base := w.heap.size) (e := 3) (size := 1) w #[] 0 (Nat.le_refl _) (Nat.zero_le _) rfl)
  have HX := Lib.hid hx
  have HWK := Lib.hid hw
  have HW := Lib.hid hw3
  obtain ⟨y, hy⟩ : ∃ y, L[j] = y := ⟨_, rfl⟩
  obtain ⟨my, hym⟩ := hw L[j] (List.getElem_mem hj)
  obtain ⟨yb1, yb2, yb3, yb4⟩ := win_bounds hym
  have hty := hym.tame
  obtain ⟨b, off, rfl, hbb, e0, e1, e2, e3⟩ := (hx.below HB3.out).at_ hj
  rw [hy] at yb1 yb2 yb3 yb4 hty e0 e1 e2 e3
  have hwj : winAt L (j : Int).toNat = y := by rw [Int.toNat_natCast, winAt_eq hj, hy]
  have HTT : Hid (trodTo L j n = if n ≤ y.cap - y.len then idxsTo (trodB L j n) L.length else []) := Lib.hid (by rw [trodTo, hwj])
  have HTB : Hid (∀ k (hk : k < L.length), trodB L j n k = decide (0 < ovl (roomW y n n) L[k])) := Lib.hid (fun k hk => by rw [trodB, hwj, winAt_eq hk])
  have HR := Lib.hid (specRoom_calls y w3 hty)
  have HY := Lib.hid hy
  clear hx hw hw3 hy hym hwj
  go_enter Try.func114, Try.ntmps114
  go_upto_region 2 with fail
  rw [HW.out]
  go_wp2_with fail
  refine HR.out.mono ?_
  rintro e w4 ⟨rfl, hb4⟩
  have HB4 := Lib.hid (HB3.out.trans (hb4.mono HB3.out.size))
  have HO4 := Lib.hid (own_below HO3.out hb4)
  clear e0 e1 e2 e3
  by_cases hroom : n ≤ y.cap - y.len
  · have hnb : n ≤ 64 := by omega
    rw [if_pos hroom] at HTT
    have HS := Lib.hid (fun W => specSlice_calls y.arr y.start y.len y.cap y.len (y.len + n) y.cap W (by omega) (by omega) (by omega) (by omega))
    rw [show y.len + n - y.len = n by omega] at HS
    have HA : Hid (∀ W, Below w4.heap.size w4 W → W.cell? ⟨b, off + j * 4, none⟩ = some (.int .i64 y.arr) ∧ W.cell? ⟨b, off + j * 4 + 1, none⟩ = some (.int .i64 y.start) ∧ W.cell? ⟨b, off + j * 4 + 2, none⟩ = some (.int .i64 y.len) ∧ W.cell? ⟨b, off + j * 4 + 3, none⟩ = some (.int .i64 y.cap)) := Lib.hid fun W hb => by
      obtain ⟨b', off', e, _, q0, q1, q2, q3⟩ := (HX.out.below (HB4.out.trans (hb.mono HB4.out.size))).at_ hj
      injection e with e
      injection e with e1 e2
      subst e1; subst e2
      rw [HY.out] at q0 q1 q2 q3
      exact ⟨q0, q1, q2, q3⟩
    have hng : ¬ y.cap - y.len < n := by omega
    have i1 : y.len + n ≤ 200 := by omega
    have i2 : 0 ≤ y.len + n := by omega
    have hwr : IntKind.i64.wrap (y.len + n) = y.len + n := by simp [IntKind.wrap, IntKind.bits, IntKind.signed]; omega
    clear hroom
    have pc0 := (Below.refl w4.heap.size w4).drew
    have pq0 := pc0.size
    obtain ⟨e0, e1, e2, e3⟩ := HA.out w4.drew pc0
    clear hb4
    go_upto_region 4 with fail
    go_cut [8] (fun s8 wx => ∃ g, s8 = .pointer (some ⟨g, 0, none⟩) ∧ wx.heap[g]? = some (.cells #[.int .i64 y.arr, .int .i64 (y.start + y.len), .int .i64 n, .int .i64 (y.cap - y.len)] 28) ∧ Below w4.heap.size w4 wx)
    case first =>
      go_region_held3 (fun W => W.cell? ⟨b, off + j * 4, none⟩ = some (.int .i64 y.arr) ∧ W.cell? ⟨b, off + j * 4 + 1, none⟩ = some (.int .i64 y.start) ∧ W.cell? ⟨b, off + j * 4 + 2, none⟩ = some (.int .i64 y.len) ∧ W.cell? ⟨b, off + j * 4 + 3, none⟩ = some (.int .i64 y.cap))
        (first | (with_reducible exact ⟨e0, e1, e2, e3⟩) | exact HA.out _ (by (repeat (first | (with_reducible exact Below.refl _ _) | (with_reducible refine Below.drew ?_) | ((with_reducible refine Below.alloc ?_ ?hB _); case hB => (first | (with_reducible exact Nat.le_refl _) | omega | (simp; done) | (simp; omega))) | ((with_reducible refine Below.setCell ?_ ?hB _); case hB => (first | (with_reducible exact Nat.le_refl _) | omega | (simp; done) | (simp; omega))))); (first | done | exact pc5)) | exact HA.out _ (by (repeat (first | (with_reducible exact Below.refl _ _) | (with_reducible refine Below.drew ?_) | ((with_reducible refine Below.alloc ?_ ?hB _); case hB => (first | (with_reducible exact Nat.le_refl _) | omega | (simp; done) | (simp; omega))) | ((with_reducible refine Below.setCell ?_ ?hB _); case hB => (first | (with_reducible exact Nat.le_refl _) | omega | (simp; done) | (simp; omega))))); (first | done | exact pc0)) | fail)
        ((go_at_call 125; with_reducible refine (HS.out _).mono ?_; rintro e w5 ⟨rfl, pb5⟩; have pc5 : Below w4.heap.size w4 w5 := below_step (by (repeat (first | (with_reducible exact Below.refl _ _) | (with_reducible refine Below.drew ?_) | ((with_reducible refine Below.alloc ?_ ?hB _); case hB => (first | (with_reducible exact Nat.le_refl _) | omega | (simp; done) | (simp; omega))) | ((with_reducible refine Below.setCell ?_ ?hB _); case hB => (first | (with_reducible exact Nat.le_refl _) | omega | (simp; done) | (simp; omega))))); (first | done | exact pc0)) pb5; have pq5 := pc5.size; (first | (with_reducible have z0 := Lib.hid (show w5.heap[w4.heap.size]? = some (.cells #[.int .i64 0, .int .i64 0, .int .i64 0, .int .i64 0] 28) from box_new_d pb5)) | (with_reducible have z0 := Lib.hid (show w5.heap[w4.heap.size]? = some (.cells #[.int .i64 0, .int .i64 0, .int .i64 0, .int .i64 0] 28) from box_new pb5)) | skip); (try (have zX := four_cells z0.out; obtain ⟨zc0, zc1, zc2, zc3⟩ := zX)); (try (have zX := four_frozen z0.out; obtain ⟨zf0, zf1, zf2, zf3⟩ := zX)); (try have zl := (Array.getElem?_eq_some_iff.1 z0.out).1); clear pb5))
      all_goals (go_wp2_with fail)
      all_goals go_meet
      all_goals (first | (have zz := z0.out; exact ⟨w4.heap.size, rfl, by with_reducible exact four_set z0.out, by (repeat (first | (with_reducible exact Below.refl _ _) | (with_reducible refine Below.drew ?_) | ((with_reducible refine Below.alloc ?_ ?hB _); case hB => (first | (with_reducible exact Nat.le_refl _) | omega | (simp; done) | (simp; omega))) | ((with_reducible refine Below.setCell ?_ ?hB _); case hB => (first | (with_reducible exact Nat.le_refl _) | omega | (simp; done) | (simp; omega))))); (first | done | exact pc5)⟩) | (exact ⟨w5.heap.size, rfl, by with_reducible exact heap_alloc_new _ _, by (repeat (first | (with_reducible exact Below.refl _ _) | (with_reducible refine Below.drew ?_) | ((with_reducible refine Below.alloc ?_ ?hB _); case hB => (first | (with_reducible exact Nat.le_refl _) | omega | (simp; done) | (simp; omega))) | ((with_reducible refine Below.setCell ?_ ?hB _); case hB => (first | (with_reducible exact Nat.le_refl _) | omega | (simp; done) | (simp; omega))))); (first | done | exact pc5)⟩))
    case rest =>
      obtain ⟨g5, rfl, hx5, hb5⟩ := hcut
      obtain ⟨w5, hw5⟩ : ∃ w5, w5 = wc := ⟨_, rfl⟩
      subst hw5
      have HB5 := Lib.hid (HB4.out.trans (hb5.mono HB4.out.size))
      have HO5 := Lib.hid (own_below HO4.out hb5)
      have HX5 := Lib.hid hx5
      have htr : Tame (roomW y n (y.cap - y.len)) := hty.room (by omega) hn (by omega) (by omega) (by omega)
      have HTR := Lib.hid htr
      obtain ⟨p, hp⟩ : ∃ p, trodB L j n = p := ⟨_, rfl⟩
      rw [hp] at HTB HTT
      clear hb5 hx5 e0 e1 e2 e3 pc0 hp htr
      go_wp2_with fail
      go_loopw [7, 9] (fun v i wr => ∃ k : Nat, k ≤ L.length ∧ i = .int .i64 k ∧ wr.ownsRow w.heap.size 3 1 v (idxsTo p k).length (intV .i64 (idxsTo p k)) ∧ Below w.heap.size w wr ∧ wr.heap[g5]? = some (.cells #[.int .i64 y.arr, .int .i64 (y.start + y.len), .int .i64 n, .int .i64 (y.cap - y.len)] 28) ∧ ∃ g cap, v = .slice (some ⟨g, 0, none⟩) (idxsTo p k).length cap) (fun _ i _ => L.length - (intOf i).toNat)
      case atStart => exact ⟨0, Nat.zero_le _, rfl, by simpa [idxsTo, intV] using HO5.out, HB5.out, HX5.out, _, _, rfl⟩
      case round =>
        obtain ⟨k, hk, rfl, hown, hbr, hgx, gv, cv, rfl⟩ := hrel
        have HO := Lib.hid hown
        have HBR := Lib.hid hbr
        have HGX := Lib.hid hgx
        have hbs := hbr.size
        have hlen := idxsTo_len p k
        clear hown hbr hgx
        by_cases hlt : k < L.length
        · obtain ⟨b', off', he', hbb', e0, e1, e2, e3⟩ := (HX.out.below HBR.out).at_ hlt
          injection he' with he'
          injection he' with q1 q2
          subst q1; subst q2
          obtain ⟨d0, d1, d2, d3⟩ := four_cells HGX.out
          obtain ⟨mk, hmk⟩ := HWK.out L[k] (List.getElem_mem hlt)
          have HOV := Lib.hid (fun W => specOvl_calls (roomW y n (y.cap - y.len)) L[k] W HTR.out hmk.tame)
          unfold roomW at HOV
          have HQ := Lib.hid (HTB.out k hlt)
          have HQE := Lib.hid (show ovl ⟨y.arr, y.start + y.len, n, y.cap - y.len⟩ L[k] = ovl (roomW y n n) L[k] from rfl)
          rw [HQE.out] at HOV
          generalize ovl (roomW y n n) L[k] = q at *
          generalize L[k] = x at *
          have HA8 := Lib.hid (fun W (h : Below wr.heap.size wr W) => show W.cell? ⟨g5, 0, none⟩ = some (.int .i64 y.arr) ∧ W.cell? ⟨g5, 1, none⟩ = some (.int .i64 (y.start + y.len)) ∧ W.cell? ⟨g5, 2, none⟩ = some (.int .i64 n) ∧ W.cell? ⟨g5, 3, none⟩ = some (.int .i64 (y.cap - y.len)) ∧ W.cell? ⟨b, off + k * 4, none⟩ = some (.int .i64 x.arr) ∧ W.cell? ⟨b, off + k * 4 + 1, none⟩ = some (.int .i64 x.start) ∧ W.cell? ⟨b, off + k * 4 + 2, none⟩ = some (.int .i64 x.len) ∧ W.cell? ⟨b, off + k * 4 + 3, none⟩ = some (.int .i64 x.cap)
            from ⟨(h.cell (cell_lt d0)).trans d0, (h.cell (cell_lt d1)).trans d1, (h.cell (cell_lt d2)).trans d2, (h.cell (cell_lt d3)).trans d3, (h.cell (cell_lt e0)).trans e0, (h.cell (cell_lt e1)).trans e1, (h.cell (cell_lt e2)).trans e2, (h.cell (cell_lt e3)).trans e3⟩)
          clear hmk
          rcases hpk : p k with _ | _
          · have HSN := Lib.hid (idxsTo_no hpk)
            have hq0 : ¬ 0 < q := by have := HQ.out; rw [hpk] at this; exact of_decide_eq_false this.symm
            clear hpk
            go_wp2_with fail
            go_region_held3 (fun W => W.cell? ⟨g5, 0, none⟩ = some (.int .i64 y.arr) ∧ W.cell? ⟨g5, 1, none⟩ = some (.int .i64 (y.start + y.len)) ∧ W.cell? ⟨g5, 2, none⟩ = some (.int .i64 n) ∧ W.cell? ⟨g5, 3, none⟩ = some (.int .i64 (y.cap - y.len)) ∧ W.cell? ⟨b, off + k * 4, none⟩ = some (.int .i64 x.arr) ∧ W.cell? ⟨b, off + k * 4 + 1, none⟩ = some (.int .i64 x.start) ∧ W.cell? ⟨b, off + k * 4 + 2, none⟩ = some (.int .i64 x.len) ∧ W.cell? ⟨b, off + k * 4 + 3, none⟩ = some (.int .i64 x.cap))
              (first | exact ⟨d0, d1, d2, d3, e0, e1, e2, e3⟩ | exact HA8.out _ hc6)
              ((go_at_call 79; refine (HOV.out _).mono ?_; rintro e w6 ⟨rfl, hb6⟩; have hc6 : Below wr.heap.size wr w6 := ⟨hb6.os, hb6.tape, hb6.output, hb6.size, hb6.block⟩))
            have HB6 := Lib.hid (HBR.out.trans (hc6.mono hbs))
            have HO6 := Lib.hid (own_below HO.out hc6)
            have HG6 := Lib.hid ((hc6.block _ (Array.getElem?_eq_some_iff.1 HGX.out).1).trans HGX.out)
            clear hb6 hc6 e0 e1 e2 e3 d0 d1 d2 d3
            go_wp2_with fail
            go_roundw
            case rel => exact ⟨k + 1, by omega, by go_num, by rw [HSN.out]; exact HO6.out, HB6.out, HG6.out, by rw [HSN.out]; exact ⟨_, _, rfl⟩⟩
            case measure => simp [intOf]; omega
          · have HSN := Lib.hid (idxsTo_yes hpk)
            have hq0 : 0 < q := by have := HQ.out; rw [hpk] at this; exact of_decide_eq_true this.symm
            clear hpk
            go_wp2_with fail
            go_region_held3 (fun W => W.cell? ⟨g5, 0, none⟩ = some (.int .i64 y.arr) ∧ W.cell? ⟨g5, 1, none⟩ = some (.int .i64 (y.start + y.len)) ∧ W.cell? ⟨g5, 2, none⟩ = some (.int .i64 n) ∧ W.cell? ⟨g5, 3, none⟩ = some (.int .i64 (y.cap - y.len)) ∧ W.cell? ⟨b, off + k * 4, none⟩ = some (.int .i64 x.arr) ∧ W.cell? ⟨b, off + k * 4 + 1, none⟩ = some (.int .i64 x.start) ∧ W.cell? ⟨b, off + k * 4 + 2, none⟩ = some (.int .i64 x.len) ∧ W.cell? ⟨b, off + k * 4 + 3, none⟩ = some (.int .i64 x.cap))
              (first | exact ⟨d0, d1, d2, d3, e0, e1, e2, e3⟩ | exact HA8.out _ hc6)
              ((go_at_call 79; refine (HOV.out _).mono ?_; rintro e w6 ⟨rfl, hb6⟩; have hc6 : Below wr.heap.size wr w6 := ⟨hb6.os, hb6.tape, hb6.output, hb6.size, hb6.block⟩))
            have HB6 := Lib.hid (HBR.out.trans (hc6.mono hbs))
            have HO6 := Lib.hid (own_below HO.out hc6)
            have HG6 := Lib.hid ((hc6.block _ (Array.getElem?_eq_some_iff.1 HGX.out).1).trans HGX.out)
            have hbs6 := HB6.out.size
            clear hb6 hc6 e0 e1 e2 e3 d0 d1 d2 d3
            go_wp2_with ((at_builtin; refine wpList_append_own _ rfl _ _ 39 rfl w.heap.size 3 i0 _ 1 8 Try.underlying39 hi0 hz hz1 hz2 rfl (by decide) _ _ _ rfl (HO6.out.alloc _) ⟨w6.heap.size, 0, none⟩ 1 1 [.int .i64 k] rfl rfl (cell_one_new _ _ _) (by simp [Value.oneCell']) (by simp only [maxLen]; omega) (by omega) (by simp; omega) ?_; intro v' w7 hown7 hgrow _))
            have HB7 : Hid (Below w.heap.size w w7) := below_own0 (HB6.out.alloc hbs6 _) (HO6.out.alloc _) hgrow (by simp; omega)
            have HL7 := Lib.hid (show (idxsTo p (k + 1)).length = (idxsTo p k).length + 1 by rw [HSN.out]; simp)
            have HO7 : Hid (w7.ownsRow w.heap.size 3 1 v' (idxsTo p (k + 1)).length (intV .i64 (idxsTo p (k + 1)))) := Lib.hid (by
              rw [HL7.out, show intV .i64 (idxsTo p (k + 1)) = intV .i64 (idxsTo p k) ++ [.int .i64 k] by rw [HSN.out]; simp [intV]]; exact hown7)
            have HG7 : Hid (w7.heap[g5]? = some (.cells #[.int .i64 y.arr, .int .i64 (y.start + y.len), .int .i64 n, .int .i64 (y.cap - y.len)] 28)) := Lib.hid (by
              have h1 := alloc_old (.cells #[.int .i64 k] 3) HG6.out
              exact block_grown hgrow h1 (ne_some (own_far (HO6.out.alloc _) h1 (by decide))))
            have HF7 := Lib.hid (own_some0 HO7.out (by rw [HL7.out]; omega))
            clear hown7 hgrow
            go_roundw
            case rel => exact ⟨k + 1, by omega, by go_num, HO7.out, HB7.out, HG7.out, HF7.out⟩
            case measure => simp [intOf]; omega
        · obtain rfl : k = L.length := by omega
          go_wp2_with fail
          go_ret
          rw [HTT.out]
          exact ⟨_, _, rfl, HO.out, HBR.out⟩
  · rw [if_neg hroom] at HTT
    have hng : y.cap - y.len < n := by omega
    clear hroom
    go_wp2_with fail
    go_ret
    rw [HTT.out]
    exact ⟨_, _, rfl, HO4.out, HB4.out⟩
end Go.Proofs.Ytomgjhdknondmaa
