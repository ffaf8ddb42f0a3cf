/-
  The elements of a ring, as the model lists them: l5Bytes of spec; RingBytes of spec.
-/
import Derived.Test.YtlioamjmkaaooaaRgP
import Derived.Test.YtlioamjmkaaooaaBytes
import Derived.Deep.RegionLaw
namespace Go.Proofs.Ytlioamjmkaaooaa
open Go.RowKit

theorem own_monoR {w : World} {b1 b0 n : Nat} {e : TypeId} {v : Value} {xs : List Value} (h : w.ownsRow b1 e 1 v n xs) (hb : b0 ≤ b1) : w.ownsRow b0 e 1 v n xs := by
  refine ⟨h.1, ?_⟩
  rcases h.2 with h0 | ⟨g', cap, cur, r0, hb1, r⟩
  · exact .inl h0
  · exact .inr ⟨g', cap, cur, r0, Nat.le_trans hb hb1, r⟩
theorem ringL_take (m : List (List Int)) (r : Rg) {k : Nat} (h : (k : Int) < r.many) : (ringL m r).take (k + 1) = (ringL m r).take k ++ [elR m r k] := by
  have hl : k < (ringL m r).length := by rw [ringL_len]; omega
  rw [List.take_succ_eq_append_getElem hl]
  congr 2
  simp [ringL]
theorem step_append_ring {P : Program} {ops : Array Oper} {o : Oper} {a : Act} {w : World} {K : Act → World → Prop} {Q : Exit → Act → World → Prop} {E : Prop}
    (hg : o.guard = none) (s x : Operand) (t : TypeId) (hop : o.op = Op.call { callee := Callee.builtin Builtin.append, args := #[s, x], argTypes := #[t, t] })
    (base : Nat) (e : TypeId) (i : TypeInfo) (z : Value) (size bytes : Nat) (h1 : P.underlying t = some (.slice e)) (h2 : P.info? e = some i) (h3 : i.zero = some z) (h4 : i.size = size) (h5 : i.bytes = bytes) (h6 : z.cells.size = size) (h7 : 0 < size)
    (v : Value) (n : Nat) (xs : List Value) (hs : a.eval s = v) (hown : w.ownsRow base e size v n xs)
    (ad : Addr) (m c : Nat) (news : List Value) (hx : a.eval x = .slice (some ad) m c) (hn : news.length = m * size) (hc : ∀ j u, news[j]? = some u → w.cell? (ad.add j) = some u) (h1c : ∀ u ∈ news, u.oneCell' = true)
    (b1 : n + m ≤ maxLen) (b2 : (n + m) * bytes ≤ 140737488355328) (b3 : base ≤ w.heap.size)
    (hK : ∀ v' w', w'.ownsRow base e size v' (n + m) (xs ++ news) → w.grownBy w' v.ownBlock → K (a.put o.dst v') w') :
    if Region.wanted o (yielded ops a.tmps) = true then Oper.wp P o a w K Q else E := by
  have hw : Region.wanted o (yielded ops a.tmps) = true := by simp [Region.wanted, hg]
  rw [if_pos hw]
  obtain ⟨v', w', hrun, r1, r2, _⟩ := run_append_own (P := P) w base t o.type e i z size bytes h1 h2 h3 h4 h5 h6 h7 v n xs hown ad m c news hn hc h1c b1 b2 b3
  unfold Oper.wp
  simp [execOp, hop, resolve, invoke, builtin, hs, hx, hrun, Result.andThen]
  exact hK v' w' r1 r2

set_option maxRecDepth 100000 in
set_option maxHeartbeats 3200000 in
theorem specRBytes_calls (A : Option Addr) (cm : Nat) (m : List (List Int)) (r : Rg) (w : World) (hr : Rd2 w w.heap.size A m) (hok : RgOK m r) :
    Calls Try.prog 65 #[.agg #[.slice A m.length cm], .agg #[.int .i64 r.w.arr, .int .i64 r.w.start, .int .i64 r.w.len, .int .i64 r.w.cap, .int .i64 r.first, .int .i64 r.many]] w fun e w' => ∃ g cap, e = .returned (.slice (some ⟨g, 0, none⟩) r.many.toNat cap) ∧ w'.ownsRow w.heap.size 5 1 (.slice (some ⟨g, 0, none⟩) r.many.toNat cap) r.many.toNat (intV .u8 (ringL m r)) ∧ Below w.heap.size w w' := by
  obtain ⟨w0, hw0, hb0, hz0, hmw⟩ := enterMR A m.length cm r w
  obtain ⟨i0, hi0, hz, hz1, hz2⟩ := info_parts info_u8
  obtain ⟨w3, hw3⟩ : ∃ w3, w0.alloc (.cells #[] 5) = w3 := ⟨_, rfl⟩
  have hb3 : Below w0.heap.size w0 w3 := by rw [← hw3]; exact (Below.refl _ _).alloc (Nat.le_refl _) _
  have HB3 := Lib.hid (hb0.trans (hb3.mono hb0.size))
  have HO3 : Hid (w3.ownsRow w.heap.size 5 1 (.slice (some ⟨w0.heap.size, 0, none⟩) 0 0) 0 []) := Lib.hid (by rw [← hw3]; exact World.ownsRow_made (base := w.heap.size) (e := 5) (size := 1) w0 #[] 0 hb0.size (Nat.zero_le _) rfl)
  have HMW := Lib.hid (hmw.below hb3)
  have HR := Lib.hid hr
  rw [← hw0] at hw3
  have HW := Lib.hid hw3
  have hs0 : w0.heap.size = w.heap.size + 1 + 1 := by omega
  rw [hs0] at HO3
  have HL0 := Lib.hid (show w.heap.size ≤ w3.heap.size from HB3.out.size)
  have HOK := Lib.hid hok
  obtain ⟨_, _, _, _, hl0, hl1, _⟩ := hok.1.small
  obtain ⟨_, h1, h2, h3, h4, h5⟩ := hok
  have hmany : ((r.many.toNat : Nat) : Int) = r.many := by omega
  clear hr hb0 hmw hw0 hw3 hb3 hs0
  go_enter Try.func65, Try.ntmps65
  go_upto_region 2 with fail
  rw [HW.out]
  go_wp2_with fail
  go_loopw [5, 6] (fun v i wr => ∃ k : Nat, k ≤ r.many.toNat ∧ i = .int .i64 k ∧ wr.ownsRow w.heap.size 5 1 v k (intV .u8 ((ringL m r).take k)) ∧ Below w.heap.size w wr ∧ MR wr w.heap.size A m.length cm r ∧ ∃ g cap, v = .slice (some ⟨g, 0, none⟩) k cap) (fun _ i _ => r.many.toNat - (intOf i).toNat)
  case atStart => exact ⟨0, Nat.zero_le _, rfl, by simpa [intV] using HO3.out, HB3.out, HMW.out, _, _, rfl⟩
  case round =>
    obtain ⟨k, hk, rfl, hown, hbr, hmw, gv, cv, rfl⟩ := hrel
    have HM := Lib.hid hmw
    have c0 := one_cell hmw.mem
    obtain ⟨a0, a1, a2, a3, a4, a5⟩ := ring_cells hmw.ring
    have HO := Lib.hid hown
    have HBR := Lib.hid hbr
    have hbs := hbr.size
    clear hown hbr hmw
    by_cases hlt : (k : Int) < r.many
    · have hsl := slotR_lt HOK.out (show (0 : Int) ≤ k by omega)
      have HS := Lib.hid (fun W => specSlot_calls r k W (by omega) (by omega) (by omega))
      have HA := Lib.hid (fun W (hb : Below w.heap.size w W) => specAtW_calls A cm m r.w (slotR r k) W ((HR.out.below hb).more hb.size) HOK.out.1 hsl.1 hsl.2)
      have HSN := Lib.hid (show intV .u8 ((ringL m r).take (k + 1)) = intV .u8 ((ringL m r).take k) ++ [.int .u8 (atW m r.w (slotR r k))] by rw [ringL_take m r hlt, elR_at]; simp [intV])
      have HK : Hid (∀ W, Below wr.heap.size wr W → W.cell? ⟨w.heap.size, 0, none⟩ = some (.slice A m.length cm) ∧ W.cell? ⟨w.heap.size + 1, 0, none⟩ = some (.int .i64 r.w.arr) ∧ W.cell? ⟨w.heap.size + 1, 1, none⟩ = some (.int .i64 r.w.start) ∧ W.cell? ⟨w.heap.size + 1, 2, none⟩ = some (.int .i64 r.w.len) ∧ W.cell? ⟨w.heap.size + 1, 3, none⟩ = some (.int .i64 r.w.cap) ∧ W.cell? ⟨w.heap.size + 1, 4, none⟩ = some (.int .i64 r.first) ∧ W.cell? ⟨w.heap.size + 1, 5, none⟩ = some (.int .i64 r.many)) := Lib.hid fun W h => ⟨one_cell (HM.out.below h).mem, ring_cells (HM.out.below h).ring⟩
      have HKM : Hid (∀ W, MR W w.heap.size A m.length cm r → W.cell? ⟨w.heap.size, 0, none⟩ = some (.slice A m.length cm) ∧ W.cell? ⟨w.heap.size + 1, 0, none⟩ = some (.int .i64 r.w.arr) ∧ W.cell? ⟨w.heap.size + 1, 1, none⟩ = some (.int .i64 r.w.start) ∧ W.cell? ⟨w.heap.size + 1, 2, none⟩ = some (.int .i64 r.w.len) ∧ W.cell? ⟨w.heap.size + 1, 3, none⟩ = some (.int .i64 r.w.cap) ∧ W.cell? ⟨w.heap.size + 1, 4, none⟩ = some (.int .i64 r.first) ∧ W.cell? ⟨w.heap.size + 1, 5, none⟩ = some (.int .i64 r.many)) := Lib.hid fun W h => ⟨one_cell h.mem, ring_cells h.ring⟩
      generalize atW m r.w (slotR r k) = q at *
      generalize slotR r k = sl at *
      have hll : (intV .u8 ((ringL m r).take k)).length = k := by rw [intV_len, List.length_take, ringL_len]; omega
      go_wp2_with fail
      clear c0 a0 a1 a2 a3 a4 a5
      obtain ⟨c0, a0, a1, a2, a3, a4, a5⟩ := HK.out wr.drew (Below.refl _ _).drew
      go_region_held3 (fun W => W.cell? ⟨w.heap.size, 0, none⟩ = some (.slice A m.length cm) ∧ W.cell? ⟨w.heap.size + 1, 0, none⟩ = some (.int .i64 r.w.arr) ∧ W.cell? ⟨w.heap.size + 1, 1, none⟩ = some (.int .i64 r.w.start) ∧ W.cell? ⟨w.heap.size + 1, 2, none⟩ = some (.int .i64 r.w.len) ∧ W.cell? ⟨w.heap.size + 1, 3, none⟩ = some (.int .i64 r.w.cap) ∧ W.cell? ⟨w.heap.size + 1, 4, none⟩ = some (.int .i64 r.first) ∧ W.cell? ⟨w.heap.size + 1, 5, none⟩ = some (.int .i64 r.many))
        (first | (with_reducible exact ⟨c0, a0, a1, a2, a3, a4, a5⟩) | (with_reducible exact HK.out _ hc5) | (with_reducible exact HKM.out _ HM6.out) | (with_reducible exact HK.out _ hc4) | (with_reducible exact HK.out _ hc3))
        (first | (go_at_call 73; (with_reducible refine (HS.out wr.drew).mono ?_); rintro e w3' ⟨rfl, hb3'⟩; have hc3 : Below wr.heap.size wr w3' := (Below.refl _ _).drew.trans hb3') | (go_at_call 76; (with_reducible refine (HA.out w3' (HBR.out.trans (hc3.mono hbs))).mono ?_); rintro e w4 ⟨rfl, hb4⟩; have hc4 : Below wr.heap.size wr w4 := hc3.trans (hb4.mono hc3.size); have hc5 : Below wr.heap.size wr (w4.alloc (.cells #[.int .u8 q] 5)) := hc4.alloc hc4.size _; have HO4 := Lib.hid (own_below HO.out hc4); have hs4 := hc4.size) | (refine step_append_ring rfl (.tmp 14) (.tmp 22) 45 rfl w.heap.size 5 i0 _ 1 1 Try.underlying45 hi0 hz hz1 hz2 rfl (by decide) (.slice (some ⟨gv, 0, none⟩) k cv) k (intV .u8 ((ringL m r).take k)) (by simp [Act.eval]) (HO4.out.alloc _) ⟨w4.heap.size, 0, none⟩ 1 1 [.int .u8 q] (by simp [Act.eval]) rfl (cell_one_new _ _ _) (by simp [Value.oneCell']) (by simp only [maxLen]; omega) (by omega) (by simp; omega) ?_; intro v' w6 hown6 hgrow; have HB6 : Hid (Below w.heap.size w w6) := below_own2 (HBR.out.trans (hc5.mono hbs)) (HO4.out.alloc _) hgrow (by simp; omega); have HO6 : Hid (w6.ownsRow w.heap.size 5 1 v' (k + 1) (intV .u8 ((ringL m r).take (k + 1)))) := Lib.hid (by rw [HSN.out]; exact hown6); have HM6 : Hid (MR w6 w.heap.size A m.length cm r) := Lib.hid (by have ha := HO4.out.alloc (.cells #[.int .u8 q] 5); have h1 := (HM.out.below hc5).mem; have h2 := (HM.out.below hc5).ring; exact ⟨block_grown hgrow h1 (ne_some (own_far ha h1 (by decide))), block_grown hgrow h2 (ne_some (own_far ha h2 (by decide)))⟩); have HF6 := Lib.hid (own_some hown6 (by omega)); clear hown6 hgrow))
      go_wp2_with fail
      go_roundw
      case rel => exact ⟨k + 1, by omega, by go_num, HO6.out, HB6.out, HM6.out, HF6.out⟩
      case measure => simp [intOf]; omega
    · have hkm : k = r.many.toNat := by omega
      have HKE := Lib.hid hkm
      have ht : (ringL m r).take k = ringL m r := by rw [hkm, ← ringL_len m r, List.take_length]
      rw [ht] at HO
      clear hkm ht
      go_wp2_with fail
      go_ret
      have hkm := HKE.out
      subst hkm
      exact ⟨_, _, rfl, HO.out, HBR.out⟩
end Go.Proofs.Ytlioamjmkaaooaa
