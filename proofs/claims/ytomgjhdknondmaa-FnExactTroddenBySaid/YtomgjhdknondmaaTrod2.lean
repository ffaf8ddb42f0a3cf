/-
  TroddenBy of spec and impl, whole.
-/
import Derived.Test.YtomgjhdknondmaaTrod
namespace Go.Proofs.Ytomgjhdknondmaa
open Go.RowKit

set_option maxRecDepth 100000 in
set_option maxHeartbeats 800000 in
theorem specTroddenBy_calls (A : Option Addr) (c : Nat) (m : List (List Int)) (B : Option Addr) (k : Nat) (L : List Win) (i n : Int) (w : World) (hr : Rd2 w w.heap.size A m) (hn : m.length ≤ maxLen) (hx : RdW w w.heap.size B L) (hl : L.length ≤ maxLen) :
    Calls Try.prog 55 #[.agg #[.slice A m.length c], .slice B L.length k, .int .i64 i, .int .i64 n] w fun e w' => ∃ v, e = .returned (.tuple #[v, .bool (trodR m L i n).2]) ∧ w'.ownsRow w.heap.size 3 1 v (trodR m L i n).1.length (intV .i64 (trodR m L i n).1) ∧ Below w.heap.size w w' := by
  obtain ⟨w0, hw0⟩ : ∃ w0, (w.alloc (.cells #[.slice A m.length c] 26)) = w0 := ⟨_, rfl⟩
  have hb0 : Below w.heap.size w w0 := by rw [← hw0]; exact (Below.refl _ _).alloc (Nat.le_refl _) _
  have HC := Lib.hid (specNumber_calls A c m B k L i w0 ((hr.below hb0).more hb0.size) hn ((hx.below hb0).more hb0.size) hl)
  have HX := Lib.hid hx
  have HB := Lib.hid hb0
  have HW := Lib.hid hw0
  clear hr hx hb0 hw0
  go_enter Try.func55, Try.ntmps55
  go_wp2_with fail
  rw [HW.out]
  refine HC.out.mono ?_
  rintro e w2 ⟨rfl, hb2⟩
  have HB2 := Lib.hid (HB.out.trans (hb2.mono HB.out.size))
  clear hb2
  by_cases hw : NumOK m L i
  · rw [show decide (NumOK m L i) = true from decide_eq_true hw]
    by_cases h0 : 0 ≤ n
    · have HV := Lib.hid (show trodR m L i n = (trodTo L i n, true) by rw [trodR, if_pos ⟨hw, h0⟩])
      obtain ⟨j, rfl⟩ : ∃ j : Nat, i = j := ⟨i.toNat, by have := hw.2.1; omega⟩
      have hj : j < L.length := by have := hw.2.2; omega
      have HN := Lib.hid (specTrodden_calls B k L j n w2 ((HX.out.below HB2.out).more HB2.out.size) (fun x hx => ⟨m, hw.1.2.2 x hx⟩) hw.1.2.1 hj h0)
      clear hw
      go_wp2_with fail
      refine HN.out.mono ?_
      rintro e w4 ⟨g4, cv, rfl, ho, hb4⟩
      have HO := Lib.hid (own_mono0 ho HB2.out.size)
      have HB4 := Lib.hid (HB2.out.trans (hb4.mono HB2.out.size))
      clear ho hb4
      go_wp2_with fail
      go_ret2
      exact ⟨_, by rw [HV.out]; rfl, by rw [HV.out]; exact HO.out, HB4.out⟩
    · have HV := Lib.hid (show trodR m L i n = ([], false) by rw [trodR, if_neg (fun h => h0 h.2)])
      have HO := Lib.hid (World.ownsRow_made (base := w.heap.size) (e := 3) (size := 1) w2 #[] 0 HB2.out.size (Nat.zero_le _) rfl)
      have hng : n < 0 := by omega
      clear hw h0
      go_wp2_with fail
      go_ret2
      exact ⟨_, by rw [HV.out]; rfl, by rw [HV.out]; exact HO.out, by have hs := HB2.out.size; (repeat (first | (with_reducible exact Below.refl _ _) | (with_reducible refine Below.drew ?_) | ((with_reducible refine Below.alloc ?_ ?hB _); case hB => (first | (with_reducible exact Nat.le_refl _) | omega | (simp; done) | (simp; omega))) | ((with_reducible refine Below.setCell ?_ ?hB _); case hB => (first | (with_reducible exact Nat.le_refl _) | omega | (simp; done) | (simp; omega))))); exact HB2.out⟩
  · rw [show decide (NumOK m L i) = false from decide_eq_false hw]
    have HV := Lib.hid (show trodR m L i n = ([], false) by rw [trodR, if_neg (fun h => hw h.1)])
    have HO := Lib.hid (World.ownsRow_made (base := w.heap.size) (e := 3) (size := 1) w2 #[] 0 HB2.out.size (Nat.zero_le _) rfl)
    clear hw
    go_wp2_with fail
    go_ret2
    exact ⟨_, by rw [HV.out]; rfl, by rw [HV.out]; exact HO.out, by have hs := HB2.out.size; (repeat (first | (with_reducible exact Below.refl _ _) | (with_reducible refine Below.drew ?_) | ((with_reducible refine Below.alloc ?_ ?hB _); case hB => (first | (with_reducible exact Nat.le_refl _) | omega | (simp; done) | (simp; omega))) | ((with_reducible refine Below.setCell ?_ ?hB _); case hB => (first | (with_reducible exact Nat.le_refl _) | omega | (simp; done) | (simp; omega))))); exact HB2.out⟩

set_option maxRecDepth 100000 in
set_option maxHeartbeats 1600000 in
theorem implTroddenBy_calls (A : Option Addr) (c : Nat) (m : List (List Int)) (B : Option Addr) (k : Nat) (L : List Win) (i n : Int) (w : World) (hr : Rd2 w w.heap.size A m) (hn : m.length ≤ maxLen) (hx : RdW w w.heap.size B L) (hl : L.length ≤ maxLen) (hwa : ∀ x ∈ L, WArg x) :
    Calls Try.prog 54 #[.agg #[.slice A m.length c], .slice B L.length k, .int .i64 i, .int .i64 n] w fun e w' => ∃ v, e = .returned (.tuple #[v, .bool (trodR m L i n).2]) ∧ w'.ownsRow w.heap.size 3 1 v (trodR m L i n).1.length (intV .i64 (trodR m L i n).1) ∧ Below w.heap.size w w' := by
  obtain ⟨w0, hw0⟩ : ∃ w0, (w.alloc (.cells #[.slice A m.length c] 26)) = w0 := ⟨_, rfl⟩
  have hb0 : Below w.heap.size w w0 := by rw [← hw0]; exact (Below.refl _ _).alloc (Nat.le_refl _) _
  have HC := Lib.hid (hasWatched_calls A c m B k L i w0 ((hr.below hb0).more hb0.size) hn ((hx.below hb0).more hb0.size) hl hwa)
  have HX := Lib.hid hx
  have HB := Lib.hid hb0
  have HW := Lib.hid hw0
  clear hr hx hb0 hw0
  go_enter Try.func54, Try.ntmps54
  go_wp2_with fail
  rw [HW.out]
  refine HC.out.mono ?_
  rintro e w2 ⟨rfl, hb2⟩
  have HB2 := Lib.hid (HB.out.trans (hb2.mono HB.out.size))
  clear hb2
  by_cases hw : NumOK m L i
  · rw [show decide (NumOK m L i) = true from decide_eq_true hw]
    by_cases h0 : 0 ≤ n
    · have HV := Lib.hid (show trodR m L i n = (trodTo L i n, true) by rw [trodR, if_pos ⟨hw, h0⟩])
      obtain ⟨j, rfl⟩ : ∃ j : Nat, i = j := ⟨i.toNat, by have := hw.2.1; omega⟩
      have hj : j < L.length := by have := hw.2.2; omega
      have h12 := hw.1.2.1
      have HTM := Lib.hid hw.1.tame
      have hok := hw.1.2.2 L[j] (List.getElem_mem hj)
      obtain ⟨yb1, yb2, yb3, yb4⟩ := win_bounds hok
      have hty := hok.tame
      have hwj : winAt L (j : Int).toNat = L[j] := by rw [Int.toNat_natCast, winAt_eq hj]
      obtain ⟨b, off, rfl, hbb, e0, e1, e2, e3⟩ := (HX.out.below HB2.out).at_ hj
      have HTT : Hid (trodTo L j n = if n ≤ L[j].cap - L[j].len then idxsTo (trodB L j n) L.length else []) := Lib.hid (by rw [trodTo, hwj])
      have HTB : Hid (∀ q (hq : q < L.length), trodB L j n q = decide (0 < ovl (roomW L[j] n n) L[q])) := Lib.hid (fun q hq => by rw [trodB, hwj, winAt_eq hq])
      generalize L[j] = y at *
      have hws : IntKind.i64.wrap (y.cap - y.len) = y.cap - y.len := by simp [IntKind.wrap, IntKind.bits, IntKind.signed]; omega
      clear hw hwj hok
      by_cases hroom : n ≤ y.cap - y.len
      · rw [if_pos hroom] at HTT
        have hng : ¬ y.cap - y.len < n := by omega
        have hnb : n ≤ 64 := by omega
        obtain ⟨w3, hw3⟩ : ∃ w3, (w2.alloc (.cells #[.int .i64 y.arr, .int .i64 y.start, .int .i64 y.len, .int .i64 y.cap] 28)).alloc (.cells #[.int .i64 y.arr, .int .i64 (y.start + y.len), .int .i64 n, .int .i64 n] 28) = w3 := ⟨_, rfl⟩
        have hb3 : Below w2.heap.size w2 w3 := by rw [← hw3]; exact ((Below.refl _ _).alloc (Nat.le_refl _) _).alloc (by simp) _
        have HB3 := Lib.hid (HB2.out.trans (hb3.mono HB2.out.size))
        have HW3 := Lib.hid hw3
        have htr : Tame (roomW y n n) := hty.room (by omega) h0 (by omega) h0 (by omega)
        have HN := Lib.hid (numbersOf_shares_calls (some ⟨b, off, none⟩) k L (roomW y n n) (trodB L j n) w3 ((HX.out.below HB3.out).more HB3.out.size) h12 (fun q hq W => by
          have h := shares_calls (roomW y n n) L[q] W htr (HTM.out _ (List.getElem_mem hq))
          rw [← HTB.out q hq] at h
          exact h))
        have hmf : ∀ (fn : Fn) (first cap : Array Value) (w : World), (Instr.makeFunc fn first cap).run Try.prog w = .ok (.func fn first cap) w := fun _ _ _ _ => rfl
        clear hw3 hb3 htr hroom
        go_wp2_with fail
        rw [HW3.out]
        refine HN.out.mono ?_
        rintro e w4 ⟨g4, cv, rfl, ho, hb4⟩
        have HO := Lib.hid (own_mono0 ho HB3.out.size)
        have HB4 := Lib.hid (HB3.out.trans (hb4.mono HB3.out.size))
        clear ho hb4
        go_wp2_with fail
        go_ret2
        exact ⟨_, by rw [HV.out]; simp only [HTT.out]; rfl, by rw [HV.out]; simp only [HTT.out]; exact HO.out, HB4.out⟩
      · rw [if_neg hroom] at HTT
        have hng : y.cap - y.len < n := by omega
        obtain ⟨w3, hw3⟩ : ∃ w3, (w2.alloc (.cells #[.int .i64 y.arr, .int .i64 y.start, .int .i64 y.len, .int .i64 y.cap] 28)) = w3 := ⟨_, rfl⟩
        have hb3 : Below w2.heap.size w2 w3 := by rw [← hw3]; exact (Below.refl _ _).alloc (Nat.le_refl _) _
        have HB3 := Lib.hid (HB2.out.trans (hb3.mono HB2.out.size))
        have HO := Lib.hid (World.ownsRow_made (base := w.heap.size) (e := 3) (size := 1) w3 #[] 0 HB3.out.size (Nat.zero_le _) rfl)
        have hs3 : w3.heap.size = w2.heap.size + 1 := by rw [← hw3]; simp
        have HS3 := Lib.hid hs3
        have HW3 := Lib.hid hw3
        clear hroom hb3 hw3 hs3
        go_wp2_with fail
        rw [HW3.out]
        go_ret2
        exact ⟨.slice (some ⟨w3.heap.size, 0, none⟩) 0 0, by rw [HV.out, HS3.out]; rfl, by rw [HV.out]; simp only [HTT.out]; exact HO.out, by have hs := HB3.out.size; (repeat (first | (with_reducible exact Below.refl _ _) | (with_reducible refine Below.drew ?_) | ((with_reducible refine Below.alloc ?_ ?hB _); case hB => (first | (with_reducible exact Nat.le_refl _) | omega | (simp; done) | (simp; omega))) | ((with_reducible refine Below.setCell ?_ ?hB _); case hB => (first | (with_reducible exact Nat.le_refl _) | omega | (simp; done) | (simp; omega))))); exact HB3.out⟩
    · have HV := Lib.hid (show trodR m L i n = ([], false) by rw [trodR, if_neg (fun h => h0 h.2)])
      have HO := Lib.hid (World.ownsRow_made (base := w.heap.size) (e := 3) (size := 1) w2 #[] 0 HB2.out.size (Nat.zero_le _) rfl)
      have hng : n < 0 := by omega
      clear hw h0
      go_wp2_with fail
      go_ret2
      exact ⟨_, by rw [HV.out]; rfl, by rw [HV.out]; exact HO.out, by have hs := HB2.out.size; (repeat (first | (with_reducible exact Below.refl _ _) | (with_reducible refine Below.drew ?_) | ((with_reducible refine Below.alloc ?_ ?hB _); case hB => (first | (with_reducible exact Nat.le_refl _) | omega | (simp; done) | (simp; omega))) | ((with_reducible refine Below.setCell ?_ ?hB _); case hB => (first | (with_reducible exact Nat.le_refl _) | omega | (simp; done) | (simp; omega))))); exact HB2.out⟩
  · rw [show decide (NumOK m L i) = false from decide_eq_false hw]
    have HV := Lib.hid (show trodR m L i n = ([], false) by rw [trodR, if_neg (fun h => hw h.1)])
    have HO := Lib.hid (World.ownsRow_made (base := w.heap.size) (e := 3) (size := 1) w2 #[] 0 HB2.out.size (Nat.zero_le _) rfl)
    clear hw
    go_wp2_with fail
    go_ret2
    exact ⟨_, by rw [HV.out]; rfl, by rw [HV.out]; exact HO.out, by have hs := HB2.out.size; (repeat (first | (with_reducible exact Below.refl _ _) | (with_reducible refine Below.drew ?_) | ((with_reducible refine Below.alloc ?_ ?hB _); case hB => (first | (with_reducible exact Nat.le_refl _) | omega | (simp; done) | (simp; omega))) | ((with_reducible refine Below.setCell ?_ ?hB _); case hB => (first | (with_reducible exact Nat.le_refl _) | omega | (simp; done) | (simp; omega))))); exact HB2.out⟩
end Go.Proofs.Ytomgjhdknondmaa
