/-
  RingBytes of spec and impl.
-/
import Derived.Test.YtlioamjmkaaooaaRgB
import Derived.Test.YtlioamjmkaaooaaRgN
import Derived.Test.YtlioamjmkaaooaaRgR
import Derived.Test.YtlioamjmkaaooaaCopyL
namespace Go.Proofs.Ytlioamjmkaaooaa
open Go.RowKit

set_option maxRecDepth 100000 in
set_option maxHeartbeats 800000 in
theorem specRingBytes_calls (A : Option Addr) (cm : Nat) (m : List (List Int)) (r : Rg) (w : World) (hr : Rd2 w w.heap.size A m) (hn : m.length ≤ maxLen) :
    Calls Try.prog 27 #[.agg #[.slice A m.length cm], .agg #[.int .i64 r.w.arr, .int .i64 r.w.start, .int .i64 r.w.len, .int .i64 r.w.cap, .int .i64 r.first, .int .i64 r.many]] w fun e w' => ∃ v, e = .returned (.tuple #[v, .bool (ringBytesR m r).2]) ∧ w'.ownsRow w.heap.size 5 1 v (ringBytesR m r).1.length (intV .u8 (ringBytesR m r).1) ∧ Below w.heap.size w w' := by
  obtain ⟨w0, hw0, hb0, hz0, hmr⟩ := enterMR A m.length cm r w
  have HC := Lib.hid (specRing_calls A cm m r w0 ((hr.below hb0).more hb0.size) hn)
  have HB := Lib.hid hb0
  have HR := Lib.hid hr
  have HW := Lib.hid hw0
  have HMR := Lib.hid hmr
  have c0 := one_cell hmr.mem
  obtain ⟨a0, a1, a2, a3, a4, a5⟩ := ring_cells hmr.ring
  clear hr hb0 hmr hw0
  go_enter Try.func27, Try.ntmps27
  go_wp2_with fail
  rw [HW.out]
  refine HC.out.mono ?_
  rintro e w2 ⟨rfl, hb2⟩
  have HB2 := Lib.hid (HB.out.trans (hb2.mono HB.out.size))
  have hmr2 := HMR.out.below hb2
  clear hb2 c0 a0 a1 a2 a3 a4 a5
  have c0 := one_cell hmr2.mem
  obtain ⟨a0, a1, a2, a3, a4, a5⟩ := ring_cells hmr2.ring
  clear hmr2
  by_cases hok : RgOK m r
  · have hd : decide (RgOK m r) = true := decide_eq_true hok
    have HV : Hid (ringBytesR m r = (ringL m r, true)) := Lib.hid (by rw [ringBytesR, if_pos hok])
    have HS := Lib.hid (specRBytes_calls A cm m r w2 ((HR.out.below HB2.out).more HB2.out.size) hok)
    clear hok
    go_wp2_with fail
    refine HS.out.mono ?_
    rintro e w4 ⟨g4, cv, rfl, ho, hb4⟩
    have HO := Lib.hid (own_monoR ho HB2.out.size)
    have HB4 := Lib.hid (HB2.out.trans (hb4.mono HB2.out.size))
    clear ho hb4
    go_wp2_with fail
    go_ret2
    exact ⟨_, by rw [HV.out]; rfl, by rw [HV.out]; simp only [ringL_len]; exact HO.out, HB4.out⟩
  · have hd : decide (RgOK m r) = false := decide_eq_false hok
    have HV : Hid (ringBytesR m r = ([], false)) := Lib.hid (by rw [ringBytesR, if_neg hok])
    clear hok
    have HO := Lib.hid (World.ownsRow_made (base := w.heap.size) (e := 5) (size := 1) w2 #[] 0 HB2.out.size (Nat.zero_le _) rfl)
    go_wp2_with fail
    go_ret2
    exact ⟨_, by rw [HV.out]; rfl, by rw [HV.out]; exact HO.out, by have hl := HB2.out.size; (repeat (first | (with_reducible exact Below.refl _ _) | (with_reducible refine Below.drew ?_) | ((with_reducible refine Below.alloc ?_ ?hB _); case hB => (first | (with_reducible exact Nat.le_refl _) | omega | (simp; done) | (simp; omega))) | ((with_reducible refine Below.setCell ?_ ?hB _); case hB => (first | (with_reducible exact Nat.le_refl _) | omega | (simp; done) | (simp; omega))))); exact HB2.out⟩

section
variable {P : Program} {w : World} {ops : Array Oper} {o : Oper} {a : Act} {Q : Exit → Act → World → Prop}
theorem wpList_copy_row0 {rest : List Oper} (hgd : o.guard = none) (d s : Operand) (dT sT : TypeId)
    (ho : o.op = .call { callee := .builtin .copy, args := #[d, s], argTypes := #[dT, sT] }) (hu : P.underlying dT = some (.slice 5)) (hsz : (P.info? 5).map (·.size) = some 1)
    (dp sp : Option Addr) (dLen dCap sLen sCap : Nat) (hd : a.eval d = .slice dp dLen dCap) (hs : a.eval s = .slice sp sLen sCap)
    (g lo cap : Nat) (r : List Int) (hr : w.ownsRow lo 5 1 (.slice (some ⟨g, 0, none⟩) r.length cap) r.length (intV .u8 r))
    (p : Nat) (ys : List Int) (k : Nat) (hk : ys.length = k) (hn : k = Nat.min sLen dLen) (hp : 0 < ys.length → dp = some ⟨g, p, none⟩) (hfit : p + ys.length ≤ r.length)
    (hsrc : 0 < ys.length → ∃ ad, sp = some ad ∧ ∀ j v, (intV .u8 ys)[j]? = some v → w.cell? (ad.add j) = some v)
    (h : ∀ w', w'.ownsRow lo 5 1 (.slice (some ⟨g, 0, none⟩) r.length cap) r.length (intV .u8 (over r p ys)) → w.grownBy w' (some g) → wpList P ops Q rest (a.put o.dst (goInt k)) w') : wpList P ops Q (o :: rest) a w := by
  by_cases h0 : ys.length = 0
  · subst hk
    obtain rfl : ys = [] := List.eq_nil_of_length_eq_zero h0
    refine wpList_copy_nothing hgd d s dT sT ho _ hu hsz dp sp dLen dCap sLen sCap hd hs (by simpa using hn.symm) ?_
    exact h w (by rw [over_nil]; exact hr) (World.grownBy.refl _ _)
  · exact wpList_copy_row hgd d s dT sT ho hu hsz dp sp dLen dCap sLen sCap hd hs g lo cap r hr (by omega) p ys k hk hn hp hfit hsrc h
theorem step_copy_row0 {K : Act → World → Prop} {E : Prop} (hgd : o.guard = none) (d s : Operand) (dT sT : TypeId)
    (ho : o.op = .call { callee := .builtin .copy, args := #[d, s], argTypes := #[dT, sT] }) (hu : P.underlying dT = some (.slice 5)) (hsz : (P.info? 5).map (·.size) = some 1)
    (dp sp : Option Addr) (dLen dCap sLen sCap : Nat) (hd : a.eval d = .slice dp dLen dCap) (hs : a.eval s = .slice sp sLen sCap)
    (g lo cap : Nat) (r : List Int) (hr : w.ownsRow lo 5 1 (.slice (some ⟨g, 0, none⟩) r.length cap) r.length (intV .u8 r))
    (p : Nat) (ys : List Int) (k : Nat) (hk : ys.length = k) (hn : k = Nat.min sLen dLen) (hp : 0 < ys.length → dp = some ⟨g, p, none⟩) (hfit : p + ys.length ≤ r.length)
    (hsrc : 0 < ys.length → ∃ ad, sp = some ad ∧ ∀ j v, (intV .u8 ys)[j]? = some v → w.cell? (ad.add j) = some v)
    (h : ∀ w', w'.ownsRow lo 5 1 (.slice (some ⟨g, 0, none⟩) r.length cap) r.length (intV .u8 (over r p ys)) → w.grownBy w' (some g) → K (a.put o.dst (goInt k)) w') :
    if Region.wanted o (yielded ops a.tmps) = true then Oper.wp P o a w K Q else E := by
  by_cases h0 : ys.length = 0
  · have hw : Region.wanted o (yielded ops a.tmps) = true := by simp [Region.wanted, hgd]
    rw [if_pos hw]
    subst hk
    obtain rfl : ys = [] := List.eq_nil_of_length_eq_zero h0
    have hrun := run_copy_none (P := P) w dT sT o.type _ dp sp dLen dCap sLen sCap hu hsz (by simpa using hn.symm)
    unfold Oper.wp
    simp [execOp, ho, resolve, invoke, builtin, hd, hs, hrun, Result.andThen]
    exact h w (by rw [over_nil]; exact hr) (World.grownBy.refl _ _)
  · exact step_copy_rowm hgd d s dT sT ho hu hsz dp sp dLen dCap sLen sCap hd hs g lo cap r hr (by omega) p ys k hk hn hp hfit hsrc h
end
theorem make_allR (n : Nat) (hn : n ≤ 1000) (W : World) : ∃ w4 : World, (Instr.makeSlice 45 (.int .i64 n) (.int .i64 n)).run Try.prog W = .ok (.slice (some ⟨W.heap.size, 0, none⟩) n n) w4 ∧ w4.ownsRow W.heap.size 5 1 (.slice (some ⟨W.heap.size, 0, none⟩) n n) n (intV .u8 (List.replicate n 0)) ∧ Below W.heap.size W w4 := by
  obtain ⟨i1, hi1, hy0, hy1, hy2⟩ := info_parts info_u8
  obtain ⟨w4, hrun, hown, hg⟩ := run_make_full (P := Try.prog) W W.heap.size 45 5 i1 _ 1 Try.underlying45 hi1 hy0 hy1 .i64 .i64 n (by rw [hy2]; omega) (by simp only [maxLen]; omega) (Nat.le_refl _)
  rw [show (madeCells (Value.int .u8 0).cells (n * 1)).toList = intV .u8 (List.replicate n 0) by rw [Nat.mul_one]; exact (toList_madeCells_one _ _).trans (by simp [intV])] at hown
  exact ⟨w4, hrun, hown, (Below.refl _ _).grown hg (Nat.le_refl _) (by simp)⟩

set_option maxRecDepth 100000 in
set_option maxHeartbeats 3200000 in
theorem implRB_ok (A : Option Addr) (cm : Nat) (m : List (List Int)) (n s l c f q : Nat) (w : World) (hr : Rd2 w w.heap.size A m) (hok : RgOK m ⟨⟨n, s, l, c⟩, f, q⟩) (hx : RArg ⟨⟨n, s, l, c⟩, f, q⟩) :
    Calls Try.prog 28 #[.agg #[.slice A m.length cm], .agg #[.int .i64 n, .int .i64 s, .int .i64 l, .int .i64 c, .int .i64 f, .int .i64 q]] w fun e w' => ∃ v, e = .returned (.tuple #[v, .bool true]) ∧ w'.ownsRow w.heap.size 5 1 v q (intV .u8 (ringL m ⟨⟨n, s, l, c⟩, f, q⟩)) ∧ Below w.heap.size w w' := by
  obtain ⟨n', s', l', c', e, hnl, hlc, hsc, h1m, h64, h16⟩ := hok.1.nat
  simp only [Win.mk.injEq, Int.natCast_inj] at e
  obtain ⟨rfl, rfl, rfl, rfl⟩ := e
  have hn : m.length ≤ maxLen := by simp only [maxLen]; omega
  obtain ⟨k, hk⟩ : ∃ k : Nat, (k : Int) = min (q : Int) ((l : Int) - f) := ⟨(min (q : Int) ((l : Int) - f)).toNat, by have := hok.2.2.2.1; dsimp only at this; omega⟩
  have hpar := ringL_parts hok hk
  simp only [Int.toNat_natCast] at hpar
  obtain ⟨a, ha⟩ : ∃ a : Nat, a = s + f := ⟨_, rfl⟩
  obtain ⟨b, hbk⟩ : ∃ b : Nat, b = q - k := ⟨_, rfl⟩
  rw [← ha, ← hbk] at hpar
  have hh := hok
  obtain ⟨_, g1, g2, g3, g4, g5⟩ := hok
  dsimp only at g1 g2 g3 g4 g5
  have HV : Hid (partsR m ⟨⟨n, s, l, c⟩, f, q⟩ = (⟨n, a, k, k⟩, ⟨n, s, b, b⟩, true)) := Lib.hid (by
    rw [partsR, if_pos hh]
    dsimp only
    rw [← hk, show ((q : Int) - k) = b by omega, show ((s : Int) + f) = a by omega])
  obtain ⟨bA, oA, Ai, ci, rfl, hbA, hcA, hci, hcm, hri⟩ := hr.at_ hnl
  obtain ⟨bR, oR, rfl, hbR, hcR⟩ := hri.int (show 0 < m[n].length by omega)
  obtain ⟨w0, hw0, hb0, hz0, hmr⟩ := enterMR (some ⟨bA, oA, none⟩) m.length cm ⟨⟨n, s, l, c⟩, f, q⟩ w
  have HC := Lib.hid (implRingParts_calls (some ⟨bA, oA, none⟩) cm m ⟨⟨n, s, l, c⟩, f, q⟩ w0 ((hr.below hb0).more hb0.size) hn hx)
  rw [HV.out] at HC
  have HB := Lib.hid hb0
  have HR := Lib.hid hr
  have HRI := Lib.hid hri
  have HCA := Lib.hid hcA
  have HW := Lib.hid hw0
  have HMR := Lib.hid hmr
  have c0 := one_cell hmr.mem
  obtain ⟨a0, a1, a2, a3, a4, a5⟩ := ring_cells hmr.ring
  have e1 : (wb m n a k).length = k := wb_len hnl (by omega)
  have e2 : (wb m n s b).length = b := wb_len hnl (by omega)
  have HL1 := Lib.hid e1
  have HL2 := Lib.hid e2
  have HQ := Lib.hid hpar
  have hkq : k + b = q := by omega
  have hal : a + k ≤ m[n].length := by omega
  have hbl : s + b ≤ m[n].length := by omega
  have hszu : (Try.prog.info? 5).map (·.size) = some 1 := by kernel_rfl
  clear hr hb0 hmr hw0 hri hcA hcR hpar hh hk e1 e2 ha hbk
  go_enter Try.func28, Try.ntmps28
  go_wp2_with fail
  rw [HW.out]
  refine HC.out.mono ?_
  rintro e w2 ⟨rfl, hb2⟩
  have HB2 := Lib.hid (HB.out.trans (hb2.mono HB.out.size))
  have HM2 := Lib.hid (HMR.out.below hb2)
  obtain ⟨w3, hw3⟩ : ∃ w3, (w2.alloc (.cells #[.int .i64 n, .int .i64 a, .int .i64 k, .int .i64 k] 34)).alloc (.cells #[.int .i64 n, .int .i64 s, .int .i64 b, .int .i64 b] 34) = w3 := ⟨_, rfl⟩
  obtain ⟨hb3, y1, y2, hz3⟩ := enter2 w2 (.cells #[.int .i64 n, .int .i64 a, .int .i64 k, .int .i64 k] 34) (.cells #[.int .i64 n, .int .i64 s, .int .i64 b, .int .i64 b] 34)
  rw [hw3] at hb3 y1 y2 hz3
  have HZ3 := Lib.hid hz3
  clear hz3
  have HB3 := Lib.hid (HB2.out.trans (hb3.mono HB2.out.size))
  have HM3 := Lib.hid (HM2.out.below hb3)
  have HW3 := Lib.hid hw3
  obtain ⟨w4, hmk, ho4, hb4⟩ := make_allR q (by omega) w3
  have HB4 := Lib.hid (HB3.out.trans (hb4.mono HB3.out.size))
  have HM4 := Lib.hid (HM3.out.below hb4)
  have HO4 := Lib.hid ho4
  have HY1 := Lib.hid ((hb4.block _ (Array.getElem?_eq_some_iff.1 y1).1).trans y1)
  have HY2 := Lib.hid ((hb4.block _ (Array.getElem?_eq_some_iff.1 y2).1).trans y2)
  clear c0 a0 a1 a2 a3 a4 a5 hb2
  have c0 := one_cell HM3.out.mem
  obtain ⟨a0, a1, a2, a3, a4, a5⟩ := ring_cells HM3.out.ring
  have hb4s := hb4.size
  clear hw3 hb3 y1 y2 ho4 hb4
  go_upto_region 2 with fail
  rw [HW3.out]
  have HSRC : Hid (∀ W, Below w.heap.size w W → ∀ t u o, (0 < u → o = oR + t) → (wb m n t u).length = u → 0 < (wb m n t u).length → ∃ ad, some (⟨bR, o, none⟩ : Addr) = some ad ∧ ∀ j v, (intV .u8 (wb m n t u))[j]? = some v → W.cell? (ad.add j) = some v) := Lib.hid fun W hb t u o ho hl h0 => by
    have hp : Rd W w.heap.size (some ⟨bR, oR + t, none⟩) (intV .u8 (wb m n t u)) := by rw [wb_eq hnl]; exact (HRI.out.below hb).part t u
    obtain ⟨ad, e, h⟩ := rd_src hp h0
    rw [ho (by rw [hl] at h0; exact h0)]
    exact ⟨ad, e, h⟩
  have HSB : Hid (∀ W, Below w.heap.size w W → ∀ t u, t + u ≤ m[n].length → Calls Try.prog 66 #[.agg #[.slice (some ⟨bA, oA, none⟩) m.length cm], .agg #[.int .i64 n, .int .i64 (t : Nat), .int .i64 (u : Nat), .int .i64 (u : Nat)]] W fun e w' => (∃ o, e = .returned (.slice (some ⟨bR, o, none⟩) u u) ∧ (0 < u → o = oR + t)) ∧ Below W.heap.size W w') := Lib.hid fun W hb t u htu =>
    seen_calls bA oA cm m n t u u bR oR ci W hnl h16 (Nat.le_refl _) htu h64 hci hcm ((hb.cell (p := ⟨bA, oA + n, none⟩) hbA).trans HCA.out) (Nat.lt_of_lt_of_le hbA hb.size)
  have HLZ := Lib.hid (show (List.replicate q (0 : Int)).length = q from List.length_replicate)
  have HO4' : Hid (w4.ownsRow w3.heap.size 5 1 (.slice (some ⟨w3.heap.size, 0, none⟩) (List.replicate q (0 : Int)).length q) (List.replicate q (0 : Int)).length (intV .u8 (List.replicate q 0))) := Lib.hid (by rw [HLZ.out]; exact HO4.out)
  have HOV := Lib.hid (over_two (N := q) (xs := wb m n a k) (ys := wb m n s b) (by rw [HL1.out, HL2.out]; exact hkq))
  rw [HL1.out, ← HQ.out] at HOV
  go_upto_region 5 with fail
  clear c0 a0 a1 a2 a3 a4 a5
  have c0 := one_cell HM4.out.mem
  obtain ⟨k0, k1, k2, k3⟩ := four_cells HY1.out
  go_wp2_with fail
  refine (HSB.out w4 HB4.out a k hal).mono ?_
  rintro e w5 ⟨⟨o1, rfl, ho1⟩, hb5⟩
  have HB5 := Lib.hid (HB4.out.trans (hb5.mono HB4.out.size))
  have HM5 := Lib.hid (HM4.out.below hb5)
  have HY5 := Lib.hid ((hb5.block _ (Array.getElem?_eq_some_iff.1 HY2.out).1).trans HY2.out)
  have HR5 := Lib.hid (own_below HO4'.out hb5)
  have HS1 := Lib.hid (HSRC.out w5 HB5.out a k o1 ho1 HL1.out)
  have hfar : w2.heap.size + 2 = w3.heap.size := HZ3.out.symm
  have hs02 := HB2.out.size
  have h3w5 : w3.heap.size ≤ w5.heap.size := by have := HB4.out.size; have := hb5.size; have := hb4s; omega
  clear hb5 c0 k0 k1 k2 k3
  go_wp2_with (refine wpList_copy_row0 rfl _ _ 45 45 rfl Try.underlying45 hszu _ _ q q k k rfl rfl w3.heap.size w3.heap.size q (List.replicate q 0) HR5.out 0 (wb m n a k) k HL1.out (by show k = min k q; omega) (fun _ => rfl) (by rw [HL1.out, HLZ.out]; omega) HS1.out ?_; intro w6 hown6 hg6)
  have HB6 := Lib.hid (HB5.out.grown hg6 HB5.out.size (fun g e => by injection e with e; omega))
  have HM6 : Hid (MR w6 w.heap.size (some ⟨bA, oA, none⟩) m.length cm ⟨⟨n, s, l, c⟩, f, q⟩) := Lib.hid ⟨grown_block hg6 HM5.out.mem (by omega), grown_block hg6 HM5.out.ring (by omega)⟩
  have HY6 := Lib.hid (grown_block hg6 HY5.out (by omega))
  have HZO := Lib.hid (show (over (List.replicate q (0 : Int)) 0 (wb m n a k)).length = q by rw [over_len (by rw [HL1.out, HLZ.out]; omega), HLZ.out])
  have HR6 : Hid (w6.ownsRow w3.heap.size 5 1 (.slice (some ⟨w3.heap.size, 0, none⟩) (over (List.replicate q (0 : Int)) 0 (wb m n a k)).length q) (over (List.replicate q (0 : Int)) 0 (wb m n a k)).length (intV .u8 (over (List.replicate q (0 : Int)) 0 (wb m n a k)))) := Lib.hid (by rw [HZO.out]; rw [HLZ.out] at hown6; exact hown6)
  have h3w6 := Nat.le_trans h3w5 hg6.size
  clear hown6 hg6
  have HK : Hid (∀ W, Below w6.heap.size w6 W → W.cell? ⟨w.heap.size, 0, none⟩ = some (.slice (some ⟨bA, oA, none⟩) m.length cm) ∧ W.cell? ⟨w2.heap.size + 1, 0, none⟩ = some (.int .i64 n) ∧ W.cell? ⟨w2.heap.size + 1, 1, none⟩ = some (.int .i64 s) ∧ W.cell? ⟨w2.heap.size + 1, 2, none⟩ = some (.int .i64 b) ∧ W.cell? ⟨w2.heap.size + 1, 3, none⟩ = some (.int .i64 b)) := Lib.hid fun W h => ⟨one_cell (HM6.out.below h).mem, four_cells ((h.block _ (Array.getElem?_eq_some_iff.1 HY6.out).1).trans HY6.out)⟩
  obtain ⟨c0, k0, k1, k2, k3⟩ := HK.out w6.drew (Below.refl _ _).drew
  have j1 : (0 : Int) ≤ (k : Int) := by omega
  have j2 : (k : Int) ≤ (q : Int) := by omega
  have hqk : q - k = b := by omega
  have HOV2 := HOV
  generalize over (List.replicate q (0 : Int)) 0 (wb m n a k) = Z at *
  rcases (show k = q ∨ k < q by omega) with hq0 | hq0
  all_goals (go_wp2_with fail)
  all_goals (
    go_region_held3 (fun W => W.cell? ⟨w.heap.size, 0, none⟩ = some (.slice (some ⟨bA, oA, none⟩) m.length cm) ∧ W.cell? ⟨w2.heap.size + 1, 0, none⟩ = some (.int .i64 n) ∧ W.cell? ⟨w2.heap.size + 1, 1, none⟩ = some (.int .i64 s) ∧ W.cell? ⟨w2.heap.size + 1, 2, none⟩ = some (.int .i64 b) ∧ W.cell? ⟨w2.heap.size + 1, 3, none⟩ = some (.int .i64 b))
      (first | (with_reducible exact ⟨c0, k0, k1, k2, k3⟩) | (with_reducible exact HK.out _ hc7) | (have h7 := HK.out w7 hc7; exact ⟨grown_cell hg8 h7.1 (by simp; omega), grown_cell hg8 h7.2.1 (by simp; omega), grown_cell hg8 h7.2.2.1 (by simp; omega), grown_cell hg8 h7.2.2.2.1 (by simp; omega), grown_cell hg8 h7.2.2.2.2 (by simp; omega)⟩))
      (first | (go_at_call 66; (with_reducible refine (HSB.out w6.drew HB6.out.drew s b hbl).mono ?_); rintro e w7 ⟨⟨o2, rfl, ho2⟩, hb7⟩; have hc7 : Below w6.heap.size w6 w7 := (Below.refl _ _).drew.trans hb7; have HR7 := Lib.hid (own_below HR6.out hc7); have HB7 := Lib.hid (HB6.out.trans (hc7.mono HB6.out.size)); have HS2 := Lib.hid (HSRC.out w7 HB7.out s b o2 ho2 HL2.out)) | (refine step_copy_row0 (by rfl) _ _ 45 45 (by rfl) Try.underlying45 hszu (some ⟨w3.heap.size, 0, none⟩) _ 0 0 b b (by rfl) (by rfl) w3.heap.size w3.heap.size q Z HR7.out k (wb m n s b) b HL2.out (by show b = min b 0; omega) (fun h0 => by rw [HL2.out] at h0; omega) (by rw [HL2.out, HZO.out]; omega) HS2.out ?_; intro w8 hown8 hg8) | (refine step_copy_row0 (by rfl) _ _ 45 45 (by rfl) Try.underlying45 hszu (some ⟨w3.heap.size, k, none⟩) _ b b b b (by rfl) (by rfl) w3.heap.size w3.heap.size q Z HR7.out k (wb m n s b) b HL2.out (by show b = min b b; omega) (fun _ => rfl) (by rw [HL2.out, HZO.out]; omega) HS2.out ?_; intro w8 hown8 hg8)))
  all_goals (
    have HB8 := Lib.hid (HB7.out.grown hg8 HB7.out.size (fun g e => by injection e with e; omega))
    have HO8 : Hid (w8.ownsRow w.heap.size 5 1 (.slice (some ⟨w3.heap.size, 0, none⟩) q q) q (intV .u8 (ringL m ⟨⟨n, s, l, c⟩, f, q⟩))) := Lib.hid (by rw [HOV2.out, HZO.out] at hown8; exact own_monoR hown8 (by omega))
    clear hown8 hg8
    go_wp2_with fail
    go_ret2
    exact ⟨_, rfl, HO8.out, HB8.out⟩)

set_option maxRecDepth 100000 in
set_option maxHeartbeats 800000 in
theorem implRingBytes_calls (A : Option Addr) (cm : Nat) (m : List (List Int)) (r : Rg) (w : World) (hr : Rd2 w w.heap.size A m) (hn : m.length ≤ maxLen) (hx : RArg r) :
    Calls Try.prog 28 #[.agg #[.slice A m.length cm], .agg #[.int .i64 r.w.arr, .int .i64 r.w.start, .int .i64 r.w.len, .int .i64 r.w.cap, .int .i64 r.first, .int .i64 r.many]] w fun e w' => ∃ v, e = .returned (.tuple #[v, .bool (ringBytesR m r).2]) ∧ w'.ownsRow w.heap.size 5 1 v (ringBytesR m r).1.length (intV .u8 (ringBytesR m r).1) ∧ Below w.heap.size w w' := by
  by_cases hok : RgOK m r
  · have hv : ringBytesR m r = (ringL m r, true) := by rw [ringBytesR, if_pos hok]
    obtain ⟨n, s, l, c, e, _⟩ := hok.1.nat
    obtain ⟨f, hf⟩ := Int.eq_ofNat_of_zero_le hok.2.2.1
    obtain ⟨q, hq⟩ := Int.eq_ofNat_of_zero_le hok.2.2.2.2.1
    obtain ⟨x, rf, rm⟩ := r
    dsimp only at e hf hq
    subst e hf hq
    rw [hv]
    dsimp only
    refine (implRB_ok A cm m n s l c f q w hr hok hx).mono ?_
    rintro e w' ⟨v, rfl, ho, hb⟩
    exact ⟨v, rfl, by rw [ringL_len]; exact ho, hb⟩
  · obtain ⟨w0, hw0, hb0, hz0, hmr⟩ := enterMR A m.length cm r w
    have HC := Lib.hid (implRingParts_calls A cm m r w0 ((hr.below hb0).more hb0.size) hn hx)
    rw [show partsR m r = (⟨0, 0, 0, 0⟩, ⟨0, 0, 0, 0⟩, false) by rw [partsR, if_neg hok]] at HC
    have HV : Hid (ringBytesR m r = ([], false)) := Lib.hid (by rw [ringBytesR, if_neg hok])
    have HB := Lib.hid hb0
    have HW := Lib.hid hw0
    have c0 := one_cell hmr.mem
    obtain ⟨a0, a1, a2, a3, a4, a5⟩ := ring_cells hmr.ring
    clear hr hb0 hmr hw0 hok
    go_enter Try.func28, Try.ntmps28
    go_wp2_with fail
    rw [HW.out]
    refine HC.out.mono ?_
    rintro e w2 ⟨rfl, hb2⟩
    have HB2 := Lib.hid (HB.out.trans (hb2.mono HB.out.size))
    obtain ⟨w3, hw3⟩ : ∃ w3, (w2.alloc (.cells #[.int .i64 0, .int .i64 0, .int .i64 0, .int .i64 0] 34)).alloc (.cells #[.int .i64 0, .int .i64 0, .int .i64 0, .int .i64 0] 34) = w3 := ⟨_, rfl⟩
    have hb3 : Below w2.heap.size w2 w3 := by rw [← hw3]; (repeat (first | (with_reducible exact Below.refl _ _) | (with_reducible refine Below.drew ?_) | ((with_reducible refine Below.alloc ?_ ?hB _); case hB => (first | (with_reducible exact Nat.le_refl _) | omega | (simp; done) | (simp; omega))) | ((with_reducible refine Below.setCell ?_ ?hB _); case hB => (first | (with_reducible exact Nat.le_refl _) | omega | (simp; done) | (simp; omega)))))
    have HB3 := Lib.hid (HB2.out.trans (hb3.mono HB2.out.size))
    have HW3 := Lib.hid hw3
    have HO := Lib.hid (World.ownsRow_made (base := w.heap.size) (e := 5) (size := 1) w3 #[] 0 HB3.out.size (Nat.zero_le _) rfl)
    clear hb2 hb3 hw3 c0 a0 a1 a2 a3 a4 a5
    go_upto_region 2 with fail
    rw [HW3.out]
    go_wp2_with fail
    go_ret2
    exact ⟨_, by rw [HV.out]; rfl, by rw [HV.out]; exact HO.out, by have hl := HB3.out.size; (repeat (first | (with_reducible exact Below.refl _ _) | (with_reducible refine Below.drew ?_) | ((with_reducible refine Below.alloc ?_ ?hB _); case hB => (first | (with_reducible exact Nat.le_refl _) | omega | (simp; done) | (simp; omega))) | ((with_reducible refine Below.setCell ?_ ?hB _); case hB => (first | (with_reducible exact Nat.le_refl _) | omega | (simp; done) | (simp; omega))))); exact HB3.out⟩
end Go.Proofs.Ytlioamjmkaaooaa
