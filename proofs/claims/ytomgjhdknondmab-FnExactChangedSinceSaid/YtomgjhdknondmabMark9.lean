/-
  Marks on memories, from greater numbers on.
-/
import Derived.Test.YtomgjhdknondmabMemo
namespace Go.Proofs.Ytomgjhdknondmab
open Go.RowKit

theorem markByteS9_calls (A : Option Addr) (cp base : Nat) (zs : List Int) (k : Nat) (w : World) (ho : w.ownsRow base 5 1 (.slice A zs.length cp) zs.length (intV .u8 zs)) (hn : zs.length ≤ 2097152) (hk : k ≤ 33554432) (hB : base ≤ w.heap.size) :
    Calls Try.prog 83 #[.slice A zs.length cp, .int .i64 k] w fun e w' => e = .returned (.int .i64 (k + zs.length)) ∧ w'.ownsRow base 5 1 (.slice A zs.length cp) zs.length (intV .u8 (marksB k zs.length)) ∧ w.grownBy w' (Value.slice A zs.length cp).ownBlock := by
  have HO := Lib.hid ho
  have HG := Lib.hid (World.grownBy.refl w (Value.slice A zs.length cp).ownBlock)
  clear ho
  go_enter Try.func83, Try.ntmps83
  go_wp2
  go_loopw [1, 5] (fun a i wr => ∃ j : Nat, j ≤ zs.length ∧ i = .int .i64 j ∧ a = .int .i64 (k + j) ∧ wr.ownsRow base 5 1 (.slice A zs.length cp) zs.length (intV .u8 (marksB k j ++ zs.drop j)) ∧ w.grownBy wr (Value.slice A zs.length cp).ownBlock) (fun _ i _ => zs.length - (intOf i).toNat)
  case atStart => exact ⟨0, Nat.zero_le _, rfl, by go_num, by simpa [marksB] using HO.out, HG.out⟩
  case round =>
    obtain ⟨j, hj, rfl, rfl, hown, hg⟩ := hrel
    by_cases hlt : j < zs.length
    · rcases hown.2 with ⟨hv, hn0⟩ | ⟨g, cap, cur, hv, hbg, hh, hnc, hcm, hcs, htk⟩
      · omega
      injection hv with hA _ hcap
      subst hA
      subst hcap
      have HST := Lib.hid (marksB_step k j zs.length zs rfl hlt)
      have hlen : (intV .u8 (marksB k j ++ zs.drop j)).length = zs.length := by simp [intV, marksB]; omega
      have hf1 := hown.frozenAt j
      obtain ⟨u, hc1⟩ : ∃ u, wr.cell? ⟨g, j, none⟩ = some u := ⟨_, by rw [hown.cellAt j (by omega), List.getElem?_eq_getElem (by omega)]⟩
      have h1 := hown.stored j (.int .u8 (((k + j) % 256 : Nat) : Int))
      rw [HST.out] at h1
      have HO2 := Lib.hid h1.1
      have HG2 := Lib.hid (hg.trans h1.2)
      have hbk := byte_of (k + j)
      clear h1 hown hg hh hcs htk hlen
      go_wp2
      go_roundw
      case rel => exact ⟨j + 1, by omega, by go_num, by go_num, HO2.out, HG2.out⟩
      case measure => simp [intOf]; omega
    · obtain rfl : j = zs.length := by omega
      have HO1 := Lib.hid hown
      have HG1 := Lib.hid hg
      clear hown hg
      go_wp2
      go_ret
      exact ⟨rfl, by simpa using HO1.out, HG1.out⟩

theorem markByteSS9_calls (A : Option Addr) (c lo hi : Nat) (m : List (List Int)) (k : Nat) (w : World) (ho : OwnM w lo hi (.slice A m.length c) m) (hn : m.length ≤ 2097152) (hs : total m ≤ 2097152) (hk : k ≤ 16777216) (hB : lo ≤ w.heap.size) :
    Calls Try.prog 91 #[.slice A m.length c, .int .i64 k] w fun e w' => e = .returned (.int .i64 (k + total m)) ∧ OwnM w' lo hi (.slice A m.length c) (marksM k m) ∧ Span lo hi w w' := by
  obtain ⟨hd, hv, hrw⟩ := ho.rows
  have hdl := hrw.len
  have HV := Lib.hid hv
  have HR := Lib.hid hrw
  clear ho hv hrw
  go_enter Try.func91, Try.ntmps91
  go_wp2_with fail
  go_loopw [1, 5] (fun a i wr => ∃ j : Nat, j ≤ m.length ∧ i = .int .i64 j ∧ a = .int .i64 (k + total (m.take j)) ∧ OwnR wr lo hi 52 (.slice A m.length c) hd ∧ Rows wr lo hi hd (markTo k m j) ∧ Span lo hi w wr) (fun _ i _ => m.length - (intOf i).toNat)
  case atStart => exact ⟨0, Nat.zero_le _, rfl, by simp [total], HV.out, HR.out, Span.refl _ _ _⟩
  case round =>
    obtain ⟨j, hj, rfl, rfl, hv, hrw, hsp⟩ := hrel
    have htl := total_le m j
    by_cases hlt : j < m.length
    · obtain ⟨x, hx, hrx⟩ := hrw.row j (by rw [markTo_len]; exact hlt)
      rw [markTo_at k m j hlt] at hrx
      obtain ⟨Ai, ci, rfl⟩ := own_form hrx.1
      have h1 := hv.1
      rw [show hd.length = m.length by omega] at h1
      obtain ⟨b, off, e, hbb, hc⟩ := (Rd.of_own h1).at_ (k := j) (by omega)
      subst e
      have hj2 : j < hd.length := by omega
      rw [List.getElem?_eq_getElem hj2] at hx
      injection hx with hx
      rw [hx] at hc
      have hrl := row_le m m[j] (List.getElem_mem hlt)
      have h2 := hrx.1
      rw [intV_len] at h2 hc
      have HC := Lib.hid (markByteS9_calls Ai ci lo m[j] (k + total (m.take j)) wr h2 (by omega) (by omega) (Nat.le_trans hB hsp.size))
      have HV2 := Lib.hid hv
      have HR2 := Lib.hid hrw
      have HX2 := Lib.hid hrx
      have HS2 := Lib.hid hsp
      have HT := Lib.hid (total_snoc m j hlt)
      have hx' : hd[j]? = some (.slice Ai m[j].length ci) := by rw [List.getElem?_eq_getElem hj2, hx, intV_len]
      have HX3 := Lib.hid hx'
      have HN := Lib.hid (own_ne hv.1 hrx.1 (by decide))
      clear hv hrw hrx hsp h1 h2 hx hx'
      go_wp2_with fail
      refine HC.out.mono ?_
      rintro e w2 ⟨rfl, ho2, hg2⟩
      have hne := HN.out
      rw [intV_len] at hne
      have HV3 := Lib.hid (HV2.out.kept hg2 hne)
      have hor : OwnR w2 lo hi 5 (.slice Ai m[j].length ci) (intV .u8 (marksB (k + total (m.take j)) m[j].length)) :=
        ⟨by rw [intV_len, marksB_len]; exact ho2, fun g hg => by have := HX2.out.2 g; rw [intV_len] at this; exact this hg⟩
      have HR3 := Lib.hid (HR2.out.set HX3.out hor hg2)
      have HS3 := Lib.hid (HS2.out.trans (Span.of_grown (lo := lo) (hi := hi) hg2 (fun g hg => ⟨(hor.1.lt g hg).1, hor.2 g hg⟩)))
      clear ho2 hg2 hne hor
      go_wp2_with fail
      go_roundw
      case rel =>
        refine ⟨j + 1, by omega, by go_num, ?_, HV3.out, ?_, HS3.out⟩
        · rw [HT.out]; push_cast; first | rfl | exact congrArg _ (by omega)
        · rw [markTo, List.getD_eq_getElem?_getD, List.getElem?_eq_getElem hlt]; exact HR3.out
      case measure => simp [intOf]; omega
    · obtain rfl : j = m.length := by omega
      have HV1 := Lib.hid hv
      have HR1 := Lib.hid hrw
      have HS1 := Lib.hid hsp
      clear hv hrw hsp
      go_wp2_with fail
      go_ret
      exact ⟨by first | rfl | (rw [List.take_length]; rfl), HR1.out.own HV1.out, HS1.out⟩

theorem markMemory9_calls (A : Option Addr) (c lo hi : Nat) (m : List (List Int)) (k : Nat) (w : World) (ho : OwnM w lo hi (.slice A m.length c) m) (hn : m.length ≤ 2097152) (hs : total m ≤ 2097152) (hk : k ≤ 16777216) (hB : lo ≤ w.heap.size) (hH : hi ≤ w.heap.size) :
    Calls Try.prog 22 #[.agg #[.slice A m.length c], .int .i64 k] w fun e w' => e = .returned (.int .i64 (k + total m)) ∧ OwnM w' lo hi (.slice A m.length c) (marksM k m) ∧ Span lo hi w w' := by
  obtain ⟨w0, hw0⟩ : ∃ w0, (w.alloc (.cells #[.slice A m.length c] 31)) = w0 := ⟨_, rfl⟩
  have hb0 : Below w.heap.size w w0 := by rw [← hw0]; exact (Below.refl _ _).alloc (Nat.le_refl _) _
  have HC := Lib.hid (markByteSS9_calls A c lo hi m k w0 (ho.below hb0) hn hs hk (Nat.le_trans hB hb0.size))
  have HB := Lib.hid hb0
  have HW := Lib.hid hw0
  clear ho hb0 hw0
  go_enter Try.func22, Try.ntmps22
  go_wp2_with fail
  rw [HW.out]
  refine HC.out.mono ?_
  rintro e w2 ⟨rfl, ho2, hsp⟩
  have HO2 := Lib.hid ho2
  have HS2 := Lib.hid ((Span.of_below (lo := lo) (hi := hi) HB.out).trans hsp)
  clear ho2 hsp
  go_wp2_with fail
  go_ret
  exact ⟨rfl, HO2.out, HS2.out⟩
end Go.Proofs.Ytomgjhdknondmab
