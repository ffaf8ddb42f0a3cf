/-
  l8Count, l8Used of spec; LostBytes of both.
-/
import Derived.Test.YtadmllfcnjekcaaArW
namespace Go.Proofs.Ytadmllfcnjekcaa
open Go.RowKit

def countL (n : Nat) : List Int := (List.range n).map fun (i : Nat) => (i : Int)
theorem countL_len (n : Nat) : (countL n).length = n := by simp [countL]
theorem countL_get {n i : Nat} (h : i < (countL n).length) : (countL n)[i] = (i : Int) := by simp [countL]
theorem intV_snocX (zs : List Int) (z : Int) : intV .i64 zs ++ [.int .i64 z] = intV .i64 (zs ++ [z]) := by simp [intV]
theorem countL_succ (n : Nat) : countL (n + 1) = countL n ++ [(n : Int)] := by simp [countL, List.range_succ]

set_option maxRecDepth 100000 in
set_option maxHeartbeats 1600000 in
theorem specCount_calls (n : Nat) (hn : n ≤ 1000) (w : World) :
    Calls Try.prog 104 #[.int .i64 n] w fun e w' => ∃ v, e = .returned v ∧ w'.ownsRow w.heap.size 3 1 v n (intV .i64 (countL n)) ∧ Below w.heap.size w w' := by
  obtain ⟨i0, hi0, hz, hz1, hz2⟩ := info_parts info_intO
  have HO := Lib.hid (World.ownsRow_made (base := w.heap.size) (e := 3) (size := 1) w #[] 0 (Nat.le_refl _) (Nat.zero_le _) rfl)
  go_enter Try.func104, Try.ntmps104
  go_wp2_with fail
  go_loopw [3, 4] (fun v i wr => ∃ k : Nat, k ≤ n ∧ i = .int .i64 k ∧ wr.ownsRow w.heap.size 3 1 v k (intV .i64 (countL k)) ∧ Below w.heap.size w wr) (fun _ i _ => n - (intOf i).toNat)
  case atStart => exact ⟨0, Nat.zero_le _, rfl, HO.out, (Below.refl _ _).alloc (Nat.le_refl _) _⟩
  case round =>
    obtain ⟨k, hk, rfl, ho, hb⟩ := hrel
    obtain ⟨C, c, rfl⟩ := own_form ho
    have HB := Lib.hid hb
    by_cases hlt : k < n
    · have HN : Hid (∀ (j : Nat) (x : Value), ([.int .i64 (k : Int)] : List Value)[j]? = some x → (wr.alloc (.cells #[.int .i64 (k : Int)] 3)).cell? ((⟨wr.heap.size, 0, none⟩ : Addr).add j) = some x) := Lib.hid fun j x hx => by
        have hj : j = 0 := by have := (List.getElem?_eq_some_iff.1 hx).1; simp at this; exact this
        subst hj
        injection hx with hx
        subst hx
        exact one_cell (heap_alloc_new wr _)
      have H1 := Lib.hid (show ∀ x ∈ ([.int .i64 (k : Int)] : List Value), x.oneCell' = true from fun x hx => by rw [List.mem_singleton.1 hx]; rfl)
      have HOR := Lib.hid (show (wr.alloc (.cells #[.int .i64 (k : Int)] 3)).ownsRow w.heap.size 3 1 (.slice C k c) k (intV .i64 (countL k)) from own_below ho ((Below.refl _ _).alloc (Nat.le_refl _) _))
      have hsz := hb.size
      clear ho hb
      go_wp2_with ((at_builtin; refine wpList_append_own _ rfl _ _ 27 rfl w.heap.size 3 i0 _ 1 8 Try.underlying27 hi0 hz hz1 hz2 rfl (by decide) _ _ _ rfl HOR.out ⟨wr.heap.size, 0, none⟩ 1 1 [.int .i64 (k : Int)] rfl rfl HN.out H1.out (by simp only [maxLen]; omega) (by omega) (by simp; omega) ?_; intro v' w6 hown6 hgrow hnil; rw [intV_snocX, ← countL_succ] at hown6; (have HO6 := Lib.hid hown6); (have HB6 := Lib.hid ((HB.out.alloc hsz _).grown hgrow (Nat.le_trans hsz (by simp)) (fun q hq => (HOR.out.lt q hq).1))); clear hown6 hgrow hnil))
      go_roundw
      case rel => exact ⟨k + 1, by omega, by go_num, HO6.out, HB6.out⟩
      case measure => simp [intOf]; omega
    · obtain rfl : k = n := by omega
      have HO2 := Lib.hid ho
      clear ho hb
      go_wp2_with fail
      go_ret
      exact ⟨_, rfl, HO2.out, HB.out⟩

/-- What l8Used answers. -/
def usedV (l u : Int) (qs : List Ak) : Int := if OkAt l u qs qs.length then usedA u qs else -1
set_option maxRecDepth 100000 in
set_option maxHeartbeats 3200000 in
theorem specUsed_calls (A B : Option Addr) (n cm d : Nat) (g : An) (Z : Option Addr) (kz : Nat) (qs : List Ak) (C : Option Addr) (cn : Nat) (w : World) (hu : 0 ≤ g.us ∧ g.us ≤ g.w.len) (hl : g.w.len ≤ 64) (hy : RdK w w.heap.size Z qs) (hll : qs.length ≤ 6) (ha : AsksOK qs qs.length) (ho : Rd w w.heap.size C (intV .i64 (countL qs.length))) :
    Calls Try.prog 103 #[.agg #[.slice A n cm, .int .i64 g.w.arr, .int .i64 g.w.start, .int .i64 g.w.len, .int .i64 g.w.cap, .int .i64 g.us, .slice B g.ms.length d], .slice Z qs.length kz, .slice C qs.length cn] w fun e w' => e = .returned (.int .i64 (usedV g.w.len g.us qs)) ∧ Below w.heap.size w w' := by
  obtain ⟨w0, hw0, hb0, hz0, hg0⟩ := enterA A B n cm g.ms.length d g w
  have HY := Lib.hid hy
  have HO := Lib.hid ho
  have HA := Lib.hid ha
  have HB := Lib.hid hb0
  have HW := Lib.hid hw0
  have HG := Lib.hid hg0
  obtain ⟨hu0, hu1⟩ := hu
  obtain ⟨c0, d0, d1, d2, d3, d4, d5⟩ := ar_cells hg0
  clear hb0 hg0 hw0 hz0 hy ho ha
  go_enter Try.func103, Try.ntmps103
  go_upto_region 1 with fail
  rw [HW.out]
  go_wp2_with fail
  clear c0 d0 d1 d2 d3 d4 d5
  go_loopw [7, 8] (fun u i wr => ∃ k : Nat, k ≤ qs.length ∧ i = .int .i64 k ∧ u = .int .i64 (usedA g.us (qs.take k)) ∧ Hid (OkAt g.w.len g.us qs k) ∧ Below w0.heap.size w0 wr) (fun _ i _ => qs.length - (intOf i).toNat)
  case atStart => exact ⟨0, Nat.zero_le _, rfl, by rw [List.take_zero, usedA_nil], Lib.hid (OkAt.zero _ _ _), Below.refl _ _⟩
  case round =>
    obtain ⟨k, hk, rfl, rfl, HI, hb⟩ := hrel
    have HBr := Lib.hid hb
    have HBw := Lib.hid (HB.out.trans (hb.mono HB.out.size))
    clear hb
    by_cases hlt : k < qs.length
    · obtain ⟨b, off, rfl, hbb, e0, e1⟩ := (HY.out.on HBw.out).at_ hlt
      obtain ⟨b2, off2, rfl, hbb2, e2⟩ := ((HO.out.below HBw.out).more HBw.out.size).int (i := k) (by rw [countL_len]; exact hlt)
      rw [countL_get] at e2
      have hAk : AskOK qs[k].size qs[k].al := by have := HA.out k hlt; rwa [getD_ak hlt] at this
      have hU := HI.out.used hk hu0 hu1
      have HUT := Lib.hid (usedA_take g.us qs hlt)
      have HIS := Lib.hid (fun (h2 : Fits g.w.len (usedA g.us (qs.take k)) qs[k].size qs[k].al) => HI.out.snoc hlt hAk h2)
      have HNO := Lib.hid (fun (h2 : ¬ Fits g.w.len (usedA g.us (qs.take k)) qs[k].size qs[k].al) => show usedV g.w.len g.us qs = -1 by rw [usedV, if_neg (fun h => h2 (h.at_ (i := k) hlt hlt).2)])
      have HF := Lib.hid (fun W => specFits_calls A B n cm d g (usedA g.us (qs.take k)) qs[k] W (by omega) (by omega) ⟨hAk.2.1, hAk.2.2⟩)
      have HFI := Lib.hid (fun W => specFirst_calls (usedA g.us (qs.take k)) qs[k].al W hU.1 hAk.2.1 (by omega) hAk.2.2)
      have HFR := Lib.hid (fun (h2 : Fits g.w.len (usedA g.us (qs.take k)) qs[k].size qs[k].al) => h2)
      have hrg := upTo_range hU.1 hAk.2.1
      have hsz0 : 0 ≤ qs[k].size := hAk.1
      obtain ⟨wa, hwa⟩ : ∃ wa, wr.alloc (.cells #[.int .i64 qs[k].size, .int .i64 qs[k].al] 52) = wa := ⟨_, rfl⟩
      have hba : Below wr.heap.size wr wa := by rw [← hwa]; exact (Below.refl _ _).alloc (Nat.le_refl _) _
      have hxa : wa.heap[wr.heap.size]? = some (.cells #[.int .i64 qs[k].size, .int .i64 qs[k].al] 52) := by rw [← hwa]; exact heap_alloc_new _ _
      have HWA := Lib.hid hwa
      have HBA := Lib.hid hba
      have HXA := Lib.hid hxa
      have HGA := Lib.hid ((hba.block _ (Array.getElem?_eq_some_iff.1 ((HBr.out.block _ (Array.getElem?_eq_some_iff.1 HG.out).1).trans HG.out)).1).trans ((HBr.out.block _ (Array.getElem?_eq_some_iff.1 HG.out).1).trans HG.out))
      clear hwa hba hxa hAk
      generalize usedA g.us (qs.take k) = U at *
      generalize hge : qs[k] = x at *
      clear hge
      go_upto_region 6 with fail
      rw [HWA.out]
      obtain ⟨y0, y1⟩ := two_cells HXA.out
      obtain ⟨c0, d0, d1, d2, d3, d4, d5⟩ := ar_cells HGA.out
      by_cases hfit : Fits g.w.len U x.size x.al
      · rw [decide_eq_true hfit] at HF
        obtain ⟨hf1, hf2⟩ := HFR.out hfit
        have HSN := Lib.hid (HIS.out hfit)
        generalize upTo U x.al = F at *
        have k0 : IntKind.i64.wrap (F + x.size) = F + x.size := IntWalk.i64_in _ (by omega)
        clear hfit
        go_wp2_with fail
        refine (HF.out _).mono ?_
        rintro e w5 ⟨rfl, hb5⟩
        have HB5 := Lib.hid (HBr.out.trans ((HBA.out.trans (hb5.mono HBA.out.size)).mono HBr.out.size))
        have hx5 := (hb5.block _ (Array.getElem?_eq_some_iff.1 HXA.out).1).trans HXA.out
        clear hb5 y0 y1 c0 d0 d1 d2 d3 d4 d5
        obtain ⟨y0, y1⟩ := two_cells hx5
        clear hx5
        go_wp2_with fail
        go_quiet ((go_at_call 92; exact Calls.quiet_of_same (HFI.out _)))
        go_wp2_with fail
        go_roundw
        case rel => exact ⟨k + 1, by omega, by go_num, by rw [HUT.out], HSN, below_drewN HB5.out _⟩
        case measure => simp [intOf]; omega
      · rw [decide_eq_false hfit] at HF
        have HV := Lib.hid (HNO.out hfit)
        clear hfit
        go_wp2_with fail
        refine (HF.out _).mono ?_
        rintro e w5 ⟨rfl, hb5⟩
        have HB5 := Lib.hid (HBw.out.trans ((HBA.out.trans (hb5.mono HBA.out.size)).mono HBw.out.size))
        clear hb5
        go_wp2_with fail
        go_ret
        exact ⟨ret_int HV.out.symm, HB5.out⟩
    · have he : k = qs.length := by omega
      have HV : Hid (usedV g.w.len g.us qs = usedA g.us qs) := Lib.hid (by rw [usedV, if_pos (by have := HI.out; rwa [he] at this)])
      have HT : Hid (usedA g.us (qs.take k) = usedA g.us qs) := Lib.hid (by rw [he, List.take_length])
      clear he
      rw [HT.out]
      generalize usedA g.us qs = U at *
      go_wp2_with fail
      go_ret
      exact ⟨ret_int HV.out.symm, HBw.out⟩
end Go.Proofs.Ytadmllfcnjekcaa
