/-
  NoticedBy of spec and impl.
-/
import Derived.Test.YtomgjhdknondmaaSeen
namespace Go.Proofs.Ytomgjhdknondmaa
open Go.RowKit

theorem Watched.tame {m : List (List Int)} {L : List Win} (h : Watched m L) : ∀ x ∈ L, Tame x := fun x hx => (h.2.2 x hx).tame
/-- What NoticedBy answers. -/
def noticedR (m : List (List Int)) (L : List Win) (ar pl : Int) : List Int × Bool :=
  if Watched m L ∧ PlaceOK m ar pl then (idxsTo (seesB L ar pl) L.length, true) else ([], false)
theorem noticedR_small (m : List (List Int)) (L : List Win) (ar pl : Int) : (noticedR m L ar pl).1.length ≤ 2097152 := by
  unfold noticedR
  split
  · rename_i h
    have h1 := idxsTo_len (seesB L ar pl) L.length
    have h2 := h.1.2.1
    simp only
    omega
  · simp
/-- An answer with an empty list of the call's own. -/
theorem own_mono0 {w : World} {b b' : Nat} {e : TypeId} {s : Nat} {v : Value} {n : Nat} {xs : List Value} (h : w.ownsRow b e s v n xs) (hb : b' ≤ b) : w.ownsRow b' e s v n xs := by
  refine ⟨h.1, ?_⟩
  rcases h.2 with h0 | ⟨g, cap, cur, hv, hg, r⟩
  · exact .inl h0
  · exact .inr ⟨g, cap, cur, hv, Nat.le_trans hb hg, r⟩

set_option maxRecDepth 100000 in
set_option maxHeartbeats 800000 in
theorem specNoticedBy_calls (A : Option Addr) (c : Nat) (m : List (List Int)) (B : Option Addr) (k : Nat) (L : List Win) (ar pl : Int) (w : World) (hr : Rd2 w w.heap.size A m) (hn : m.length ≤ maxLen) (hx : RdW w w.heap.size B L) (hl : L.length ≤ maxLen) :
    Calls Try.prog 41 #[.agg #[.slice A m.length c], .slice B L.length k, .int .i64 ar, .int .i64 pl] w fun e w' => ∃ v, e = .returned (.tuple #[v, .bool (noticedR m L ar pl).2]) ∧ w'.ownsRow w.heap.size 3 1 v (noticedR m L ar pl).1.length (intV .i64 (noticedR m L ar pl).1) ∧ Below w.heap.size w w' := by
  obtain ⟨w0, hw0⟩ : ∃ w0, (w.alloc (.cells #[.slice A m.length c] 26)) = w0 := ⟨_, rfl⟩
  have hb0 : Below w.heap.size w w0 := by rw [← hw0]; exact (Below.refl _ _).alloc (Nat.le_refl _) _
  have hg0 : w0.heap[w.heap.size]? = some (.cells #[.slice A m.length c] 26) := by rw [← hw0]; exact heap_alloc_new _ _
  have HC := Lib.hid (specWatched_calls A c m B k L w0 ((hr.below hb0).more hb0.size) hn ((hx.below hb0).more hb0.size) hl)
  have HR := Lib.hid hr
  have HX := Lib.hid hx
  have HB := Lib.hid hb0
  have HW := Lib.hid hw0
  have HG := Lib.hid hg0
  clear hr hx hb0 hw0 hg0
  go_enter Try.func41, Try.ntmps41
  go_wp2_with fail
  rw [HW.out]
  refine HC.out.mono ?_
  rintro e w2 ⟨rfl, hb2⟩
  have HB2 := Lib.hid (HB.out.trans (hb2.mono HB.out.size))
  have c2 := one_cell ((hb2.block _ (Array.getElem?_eq_some_iff.1 HG.out).1).trans HG.out)
  clear hb2
  by_cases hw : Watched m L
  · rw [show decide (Watched m L) = true from decide_eq_true hw]
    have HWT := Lib.hid hw
    have h12 := hw.2.1
    have HP := Lib.hid (specPlace_calls A c m ar pl w2 ((HR.out.below HB2.out).more HB2.out.size) hw.1)
    clear hw
    by_cases hp : PlaceOK m ar pl
    · rw [show decide (PlaceOK m ar pl) = true from decide_eq_true hp] at HP
      have HV := Lib.hid (show noticedR m L ar pl = (idxsTo (seesB L ar pl) L.length, true) by rw [noticedR, if_pos ⟨HWT.out, hp⟩])
      clear hp
      go_wp2_with fail
      refine HP.out.mono ?_
      rintro e w3 ⟨rfl, hb3⟩
      have HB3 := Lib.hid (HB2.out.trans (hb3.mono HB2.out.size))
      have HN := Lib.hid (specNoticed_calls B k L ar pl w3 ((HX.out.below HB3.out).more HB3.out.size) HWT.out.tame h12)
      clear hb3 c2
      go_wp2_with fail
      refine HN.out.mono ?_
      rintro e w4 ⟨g4, cv, rfl, ho, hb4⟩
      have HO := Lib.hid (own_mono0 ho HB3.out.size)
      have HB4 := Lib.hid (HB3.out.trans (hb4.mono HB3.out.size))
      clear ho hb4
      go_wp2_with fail
      go_ret2
      exact ⟨_, by rw [HV.out]; rfl, by rw [HV.out]; exact HO.out, HB4.out⟩
    · rw [show decide (PlaceOK m ar pl) = false from decide_eq_false hp] at HP
      have HV := Lib.hid (show noticedR m L ar pl = ([], false) by rw [noticedR, if_neg (fun h => hp h.2)])
      clear hp
      go_wp2_with fail
      refine HP.out.mono ?_
      rintro e w3 ⟨rfl, hb3⟩
      have HB3 := Lib.hid (HB2.out.trans (hb3.mono HB2.out.size))
      have HO := Lib.hid (World.ownsRow_made (base := w.heap.size) (e := 3) (size := 1) w3 #[] 0 HB3.out.size (Nat.zero_le _) rfl)
      clear hb3 c2
      go_wp2_with fail
      go_ret2
      exact ⟨_, by rw [HV.out]; rfl, by rw [HV.out]; exact HO.out, by have hs := HB3.out.size; (repeat (first | (with_reducible exact Below.refl _ _) | (with_reducible refine Below.drew ?_) | ((with_reducible refine Below.alloc ?_ ?hB _); case hB => (first | (with_reducible exact Nat.le_refl _) | omega | (simp; done) | (simp; omega))) | ((with_reducible refine Below.setCell ?_ ?hB _); case hB => (first | (with_reducible exact Nat.le_refl _) | omega | (simp; done) | (simp; omega))))); exact HB3.out⟩
  · rw [show decide (Watched m L) = false from decide_eq_false hw]
    have HV := Lib.hid (show noticedR m L ar pl = ([], false) by rw [noticedR, if_neg (fun h => hw h.1)])
    have HO := Lib.hid (World.ownsRow_made (base := w.heap.size) (e := 3) (size := 1) w2 #[] 0 HB2.out.size (Nat.zero_le _) rfl)
    clear hw c2
    go_wp2_with fail
    go_ret2
    exact ⟨_, by rw [HV.out]; rfl, by rw [HV.out]; exact HO.out, by have hs := HB2.out.size; (repeat (first | (with_reducible exact Below.refl _ _) | (with_reducible refine Below.drew ?_) | ((with_reducible refine Below.alloc ?_ ?hB _); case hB => (first | (with_reducible exact Nat.le_refl _) | omega | (simp; done) | (simp; omega))) | ((with_reducible refine Below.setCell ?_ ?hB _); case hB => (first | (with_reducible exact Nat.le_refl _) | omega | (simp; done) | (simp; omega))))); exact HB2.out⟩

set_option maxRecDepth 100000 in
set_option maxHeartbeats 800000 in
theorem implNoticedBy_calls (A : Option Addr) (c : Nat) (m : List (List Int)) (B : Option Addr) (k : Nat) (L : List Win) (ar pl : Int) (w : World) (hr : Rd2 w w.heap.size A m) (hn : m.length ≤ maxLen) (hx : RdW w w.heap.size B L) (hl : L.length ≤ maxLen) (hwa : ∀ x ∈ L, WArg x) :
    Calls Try.prog 39 #[.agg #[.slice A m.length c], .slice B L.length k, .int .i64 ar, .int .i64 pl] w fun e w' => ∃ v, e = .returned (.tuple #[v, .bool (noticedR m L ar pl).2]) ∧ w'.ownsRow w.heap.size 3 1 v (noticedR m L ar pl).1.length (intV .i64 (noticedR m L ar pl).1) ∧ Below w.heap.size w w' := by
  obtain ⟨hb0, g1, g2, g3⟩ := enter2 w (.cells #[.slice A m.length c] 26) (.cells #[.int .i64 ar, .int .i64 pl] 106)
  obtain ⟨w0, hw0⟩ : ∃ w0, (w.alloc (.cells #[.slice A m.length c] 26)).alloc (.cells #[.int .i64 ar, .int .i64 pl] 106) = w0 := ⟨_, rfl⟩
  rw [hw0] at hb0 g1 g2 g3
  have HC := Lib.hid (isWatched_calls A c m B k L w0 ((hr.below hb0).more hb0.size) hn ((hx.below hb0).more hb0.size) hwa hl)
  have HR := Lib.hid hr
  have HX := Lib.hid hx
  have HB := Lib.hid hb0
  have HW := Lib.hid hw0
  have HG := Lib.hid g1
  have HG2 := Lib.hid g2
  clear hr hx hb0 hw0 g1 g2 g3
  go_enter Try.func39, Try.ntmps39
  go_wp2_with fail
  rw [HW.out]
  refine HC.out.mono ?_
  rintro e w2 ⟨rfl, hb2⟩
  have HB2 := Lib.hid (HB.out.trans (hb2.mono HB.out.size))
  have c2 := one_cell ((hb2.block _ (Array.getElem?_eq_some_iff.1 HG.out).1).trans HG.out)
  have gp := (hb2.block _ (Array.getElem?_eq_some_iff.1 HG2.out).1).trans HG2.out
  obtain ⟨p0, p1⟩ := two_cells gp
  have HGP := Lib.hid gp
  clear hb2 gp
  by_cases hw : Watched m L
  · rw [show decide (Watched m L) = true from decide_eq_true hw]
    have HWT := Lib.hid hw
    have h12 := hw.2.1
    have HP := Lib.hid (isOn_calls A c m ar pl w2 ((HR.out.below HB2.out).more HB2.out.size) hw.1)
    clear hw
    by_cases hp : PlaceOK m ar pl
    · rw [show decide (PlaceOK m ar pl) = true from decide_eq_true hp] at HP
      have HV := Lib.hid (show noticedR m L ar pl = (idxsTo (seesB L ar pl) L.length, true) by rw [noticedR, if_pos ⟨HWT.out, hp⟩])
      have hmf : ∀ (fn : Fn) (first cap : Array Value) (w : World), (Instr.makeFunc fn first cap).run Try.prog w = .ok (.func fn first cap) w := fun _ _ _ _ => rfl
      clear hp
      go_wp2_with fail
      refine HP.out.mono ?_
      rintro e w3 ⟨rfl, hb3⟩
      have HB3 := Lib.hid (HB2.out.trans (hb3.mono HB2.out.size))
      have HN := Lib.hid (numbersOf_seenBy_calls B k L ar pl (seesB L ar pl) w3 ((HX.out.below HB3.out).more HB3.out.size) h12 (fun i hi W => by
        have h := seenBy_calls L[i] ar pl W (HWT.out.tame _ (List.getElem_mem hi))
        rw [show decide (SeesP L[i] ar pl) = seesB L ar pl i by rw [seesB, winAt_eq hi]] at h
        exact h))
      clear c2 p0 p1
      obtain ⟨p0, p1⟩ := two_cells ((hb3.block _ (Array.getElem?_eq_some_iff.1 HGP.out).1).trans HGP.out)
      clear hb3
      go_wp2_with fail
      refine HN.out.mono ?_
      rintro e w4 ⟨g4, cv, rfl, ho, hb4⟩
      have HO := Lib.hid (own_mono0 ho HB3.out.size)
      have HB4 := Lib.hid (HB3.out.trans (hb4.mono HB3.out.size))
      clear ho hb4
      go_wp2_with fail
      go_ret2
      exact ⟨_, by rw [HV.out]; rfl, by rw [HV.out]; exact HO.out, HB4.out⟩
    · rw [show decide (PlaceOK m ar pl) = false from decide_eq_false hp] at HP
      have HV := Lib.hid (show noticedR m L ar pl = ([], false) by rw [noticedR, if_neg (fun h => hp h.2)])
      clear hp
      go_wp2_with fail
      refine HP.out.mono ?_
      rintro e w3 ⟨rfl, hb3⟩
      have HB3 := Lib.hid (HB2.out.trans (hb3.mono HB2.out.size))
      have HO := Lib.hid (World.ownsRow_made (base := w.heap.size) (e := 3) (size := 1) w3 #[] 0 HB3.out.size (Nat.zero_le _) rfl)
      clear hb3 c2 p0 p1
      go_wp2_with fail
      go_ret2
      exact ⟨_, by rw [HV.out]; rfl, by rw [HV.out]; exact HO.out, by have hs := HB3.out.size; (repeat (first | (with_reducible exact Below.refl _ _) | (with_reducible refine Below.drew ?_) | ((with_reducible refine Below.alloc ?_ ?hB _); case hB => (first | (with_reducible exact Nat.le_refl _) | omega | (simp; done) | (simp; omega))) | ((with_reducible refine Below.setCell ?_ ?hB _); case hB => (first | (with_reducible exact Nat.le_refl _) | omega | (simp; done) | (simp; omega))))); exact HB3.out⟩
  · rw [show decide (Watched m L) = false from decide_eq_false hw]
    have HV := Lib.hid (show noticedR m L ar pl = ([], false) by rw [noticedR, if_neg (fun h => hw h.1)])
    have HO := Lib.hid (World.ownsRow_made (base := w.heap.size) (e := 3) (size := 1) w2 #[] 0 HB2.out.size (Nat.zero_le _) rfl)
    clear hw c2 p0 p1
    go_wp2_with fail
    go_ret2
    exact ⟨_, by rw [HV.out]; rfl, by rw [HV.out]; exact HO.out, by have hs := HB2.out.size; (repeat (first | (with_reducible exact Below.refl _ _) | (with_reducible refine Below.drew ?_) | ((with_reducible refine Below.alloc ?_ ?hB _); case hB => (first | (with_reducible exact Nat.le_refl _) | omega | (simp; done) | (simp; omega))) | ((with_reducible refine Below.setCell ?_ ?hB _); case hB => (first | (with_reducible exact Nat.le_refl _) | omega | (simp; done) | (simp; omega))))); exact HB2.out⟩
end Go.Proofs.Ytomgjhdknondmaa
