/-
  FnExactAppendFrame: the walk.
-/
import Derived.Test.YtoelagfcapdfpaaBox2
import Derived.Test.YtoelagfcapdfpaaFrA
import Derived.Deep.DeepCutAuto
import Derived.Test.YtoelagfcapdfpaaWaf1
import Derived.Test.YtoelagfcapdfpaaWaf2
import Derived.Test.YtoelagfcapdfpaaWaf3
namespace Go.Proofs.Ytoelagfcapdfpaa
open Go.RowKit

set_option maxRecDepth 100000 in
set_option maxHeartbeats 12800000 in
theorem fnExactAppendFrame_walk (A : Option Addr) (len cap : Nat) (m : List (List Int)) (x : Win) (t : Int) (BL : Option Addr) (lenL capL : Nat) (xs : List Int) (w : World) (h : MArg w A len cap m) (hx : WArg x) (_ht : (Lit.int .u8 t).wf = true) (hL : IntArg .u8 w BL lenL capL xs) :
    Calls Try.prog 17 #[.agg #[.slice A len cap], x.val, .int .u8 t, .slice BL lenL capL] w fun e w' => e = .returned (.bool true) ∧ Below w.heap.size w w' := by
  obtain ⟨rfl, h1, h2, hr, hzz⟩ := h
  obtain ⟨rfl, h3, h4, hrL, hwa⟩ := hL
  have hsm := appFrR_small m x t xs
  obtain ⟨R, q, p, hform⟩ : ∃ (R : List (List Int)) (q : Win) (p : Bool), appFrR m x t xs = (R, q, p) := ⟨_, _, _, rfl⟩
  rw [hform] at hsm
  obtain ⟨hR1, hR2, hR3⟩ := hsm.tot
  unfold Win.val
  obtain ⟨w0, hw0⟩ : ∃ w0, ((w.alloc (.cells #[.slice A m.length cap] 24)).alloc (.cells #[.int .i64 x.arr, .int .i64 x.start, .int .i64 x.len, .int .i64 x.cap] 26)) = w0 := ⟨_, rfl⟩
  have hb0 : Below w.heap.size w w0 := by rw [← hw0]; (repeat (first | (with_reducible exact Below.refl _ _) | (with_reducible refine Below.drew ?_) | ((with_reducible refine Below.alloc ?_ ?hB _); case hB => (first | (with_reducible exact Nat.le_refl _) | omega | (simp; done) | (simp; omega))) | ((with_reducible refine Below.setCell ?_ ?hB _); case hB => (first | (with_reducible exact Nat.le_refl _) | omega | (simp; done) | (simp; omega)))))
  have hg0 : w0.heap[w.heap.size]? = some (.cells #[.slice A m.length cap] 24) := by rw [← hw0]; exact alloc_old _ (heap_alloc_new _ _)
  have hg1 : w0.heap[w.heap.size + 1]? = some (.cells #[.int .i64 x.arr, .int .i64 x.start, .int .i64 x.len, .int .i64 x.cap] 26) := by rw [← hw0]; exact (by simpa using heap_alloc_new (w.alloc (.cells #[.slice A m.length cap] 24)) (.cells #[.int .i64 x.arr, .int .i64 x.start, .int .i64 x.len, .int .i64 x.cap] 26))
  have hlen : m.length ≤ maxLen := by omega
  have HS := Lib.hid (szMemory_calls A cap m w0 1048576 ((hr.below hb0).more hb0.size) hlen (by omega) (by omega))
  have HB := Lib.hid hb0
  have HW := Lib.hid hw0
  have HR := Lib.hid hr
  have HRL := Lib.hid hrL
  have HXx := Lib.hid hx
  have c0 := one_cell hg0
  have HA : Hid (∀ W, Below w0.heap.size w0 W → W.cell? ⟨w.heap.size, 0, none⟩ = some (.slice A m.length cap) ∧ W.cell? ⟨w.heap.size + 1, 0, none⟩ = some (.int .i64 x.arr) ∧ W.cell? ⟨w.heap.size + 1, 1, none⟩ = some (.int .i64 x.start) ∧ W.cell? ⟨w.heap.size + 1, 2, none⟩ = some (.int .i64 x.len) ∧ W.cell? ⟨w.heap.size + 1, 3, none⟩ = some (.int .i64 x.cap)) := Lib.hid fun W hb => by
    obtain ⟨e00, e01, e02, e03⟩ := four_cells ((hb.block _ (Array.getElem?_eq_some_iff.1 hg1).1).trans hg1)
    exact ⟨one_cell ((hb.block _ (Array.getElem?_eq_some_iff.1 hg0).1).trans hg0), e00, e01, e02, e03⟩
  clear hr hrL hwa hb0 hw0 hg0 hg1 hzz hsm hx
  by_cases hbig : 1048576 < xs.length
  · clear HS c0
    go_enter Try.func17, Try.ntmps17
    go_wp2_with fail
    go_ret
    exact ⟨rfl, by rw [HW.out]; exact HB.out⟩
  have hl20 : xs.length ≤ 1048576 := by omega
  go_enter Try.func17, Try.ntmps17
  go_wp2_with fail
  rw [HW.out]
  refine HS.out.mono ?_
  rintro e w1 ⟨⟨r, rfl, hr⟩, hb1⟩
  have HR1 := Lib.hid hr
  have HBw1 := Lib.hid hb1
  clear hb1 c0
  by_cases hneg : r < 0
  · clear hr
    go_wp2_with fail
    go_ret
    exact ⟨rfl, HB.out.trans (HBw1.out.mono HB.out.size)⟩
  · have hsz : m.length ≤ 1048576 ∧ total m ≤ 1048576 := by omega
    have hro : ∀ q ∈ m, q.length ≤ 1048576 := fun q hq => Nat.le_trans (row_le m q hq) hsz.2
    have HMS := Lib.hid (show m.length ≤ 2097152 ∧ total m ≤ 2097152 by omega)
    have HT := Lib.hid (fun W (hb : Below w0.heap.size w0 W) => toMemory_calls A cap m W ((HR.out.below (HB.out.trans (hb.mono HB.out.size))).more (Nat.le_trans HB.out.size hb.size)) hsz.1 hro)
    have HTL := Lib.hid (fun W (hb : Below w0.heap.size w0 W) => toByteS_calls BL capL xs W ((HRL.out.below (HB.out.trans (hb.mono HB.out.size))).more (Nat.le_trans HB.out.size hb.size)) hl20)
    have HSP : Hid (∀ W X kx Y ky, Rd2 W W.heap.size X m → (Y = none → ky = 0) → Rd W W.heap.size Y (intV .u8 xs) → Calls Try.prog 66 #[.agg #[.slice X m.length kx], .agg #[.int .i64 x.arr, .int .i64 x.start, .int .i64 x.len, .int .i64 x.cap], .int .u8 t, .slice Y xs.length ky] W fun e w' => ∃ v, e = .returned (.tuple #[.agg #[v], .agg #[.int .i64 q.arr, .int .i64 q.start, .int .i64 q.len, .int .i64 q.cap], .bool p]) ∧ OwnM w' W.heap.size w'.heap.size v R ∧ Below W.heap.size W w') := Lib.hid (fun W X kx Y ky hx hk hy => by have hq := specAppendFrame_calls X kx m x t Y ky xs W hx hlen (by omega) hk hy; rw [hform] at hq; exact hq)
    have HIP : Hid (∀ W X kx Y ky, Rd2 W W.heap.size X m → (Y = none → ky = 0) → Rd W W.heap.size Y (intV .u8 xs) → Calls Try.prog 67 #[.agg #[.slice X m.length kx], .agg #[.int .i64 x.arr, .int .i64 x.start, .int .i64 x.len, .int .i64 x.cap], .int .u8 t, .slice Y xs.length ky] W fun e w' => ∃ v, e = .returned (.tuple #[.agg #[v], .agg #[.int .i64 q.arr, .int .i64 q.start, .int .i64 q.len, .int .i64 q.cap], .bool p]) ∧ OwnM w' W.heap.size w'.heap.size v R ∧ Below W.heap.size W w') := Lib.hid (fun W X kx Y ky hx hk hy => by have hq := implAppendFrame_calls X kx m x t Y ky xs W hx hlen HXx.out (by omega) hk hy; rw [hform] at hq; exact hq)
    have HE := Lib.hid (fun W X Y cx cy (hx : Rd2 W W.heap.size X m) (hy : Rd2 W W.heap.size Y m) => eqSame_calls X Y cx cy m W hx hy hlen)
    have HEL := Lib.hid (fun W X Y cx cy (hx : Rd W W.heap.size X (intV .u8 xs)) (hy : Rd W W.heap.size Y (intV .u8 xs)) => eqB_calls X Y cx cy W hx hy (show xs.length ≤ 2097152 by omega))
    have HER := Lib.hid (fun W X Y cx cy (hx : Rd2 W W.heap.size X R) (hy : Rd2 W W.heap.size Y R) => eqSame_calls X Y cx cy R W hx hy hR3)
    have hself : (p != p) = false := by simp
    have HEW : Hid (∀ W, Calls Try.prog 39 #[.agg #[.int .i64 q.arr, .int .i64 q.start, .int .i64 q.len, .int .i64 q.cap], .agg #[.int .i64 q.arr, .int .i64 q.start, .int .i64 q.len, .int .i64 q.cap]] W fun e w' => e = .returned (.bool true) ∧ Below W.heap.size W w') := Lib.hid fun W => by have h := eqWindow_calls q q W; rw [show decide (q = q) = true by simp] at h; exact h
    clear hr hsz hro hform hR3
    have HTw1 : Hid (∀ W (hb : Below w1.heap.size w1 W), Calls Try.prog 20 #[.agg #[.slice A m.length cap]] W fun e w' => ∃ v, e = .returned (.agg #[v]) ∧ OwnM w' W.heap.size w'.heap.size v m ∧ Below W.heap.size W w') := Lib.hid fun W hb => HT.out W (HBw1.out.trans (hb.mono HBw1.out.size))
    have HTLw1 : Hid (∀ W (hb : Below w1.heap.size w1 W), Calls Try.prog 52 #[.slice BL xs.length capL] W fun e w' => ∃ v, e = .returned v ∧ w'.ownsRow W.heap.size 5 1 v xs.length (intV .u8 xs) ∧ Below W.heap.size W w') := Lib.hid fun W hb => HTL.out W (HBw1.out.trans (hb.mono HBw1.out.size))
    have HAw1 : Hid (∀ W, Below w1.heap.size w1 W → W.cell? ⟨w.heap.size, 0, none⟩ = some (.slice A m.length cap) ∧ W.cell? ⟨w.heap.size + 1, 0, none⟩ = some (.int .i64 x.arr) ∧ W.cell? ⟨w.heap.size + 1, 1, none⟩ = some (.int .i64 x.start) ∧ W.cell? ⟨w.heap.size + 1, 2, none⟩ = some (.int .i64 x.len) ∧ W.cell? ⟨w.heap.size + 1, 3, none⟩ = some (.int .i64 x.cap)) := Lib.hid fun W hb => HA.out W (HBw1.out.trans (hb.mono HBw1.out.size))
    have HDw1 := HBw1.out.size
    go_upto_region 7 with fail
    have pc0 := (Below.refl w1.heap.size w1).drew
    have pq0 := pc0.size
    obtain ⟨pa0, pa1, pa2, pa3, pa4⟩ := HAw1.out w1.drew pc0
    go_cut [10, 11, 12] (fun s10 s11 s12 wx => ∃ (g10 lo10 hi10 : Nat) (v10 : Value) (g11 : Nat), s10 = .pointer (some ⟨g10, 0, none⟩) ∧ MBox wx w1.heap.size g10 lo10 hi10 v10 R ∧ s11 = .pointer (some ⟨g11, 0, none⟩) ∧ WBox wx w1.heap.size g11 q.arr q.start q.len q.cap ∧ s12 = .bool p ∧ Below w1.heap.size w1 wx)
    case first =>
      exact Waf1_region HSP HTw1 HTLw1 HAw1 pc0 pa0 pa1 pa2 pa3 pa4 (by assumption) (by assumption)
    case rest =>
      obtain ⟨gP, loP, hiP, vP, gWP, rfl, hmP, rfl, hwP, rfl, hb4⟩ := hcut
      obtain ⟨w4, hw4⟩ : ∃ w4, w4 = wc := ⟨_, rfl⟩
      subst hw4
      obtain ⟨AP, cP, rfl, hcP⟩ := hmP.own.form
      have HMP := Lib.hid hmP
      have HWP := Lib.hid hwP
      have HBw4 := Lib.hid (HBw1.out.trans (hb4.mono HBw1.out.size))
      have d4 := (HA.out w4 HBw4.out).1
      clear hmP hwP hb4 hcP
      go_wp2_with fail
      refine (HT.out _ HBw4.out).mono ?_
      rintro e w5 ⟨v5, rfl, ho5, hb5⟩
      obtain ⟨A5, k5, rfl, hk5⟩ := ho5.form
      obtain ⟨w6, hw6⟩ : ∃ w6, w5.alloc (.cells #[.slice A5 m.length k5] 31) = w6 := ⟨_, rfl⟩
      have hb6 : Below w5.heap.size w5 w6 := by rw [← hw6]; exact (Below.refl _ _).alloc (Nat.le_refl _) _
      have hx6 : w6.heap[w5.heap.size]? = some (.cells #[.slice A5 m.length k5] 31) := by rw [← hw6]; exact heap_alloc_new _ _
      have HMX6 := Lib.hid (MBox.mk' (b := w4.heap.size) hx6 (ho5.below hb6) hb5.size (Nat.le_refl _) hb6.size (Nat.le_trans hb5.size hb6.size) (.inr (Nat.le_refl _)))
      have HMP6 := Lib.hid ((HMP.out.below hb5).below hb6)
      have HWP6 := Lib.hid ((HWP.out.below hb5).below hb6)
      have HBw6 := Lib.hid ((HBw4.out.trans (hb5.mono HBw4.out.size)).trans (hb6.mono (Nat.le_trans HBw4.out.size hb5.size)))
      have HW6 := Lib.hid hw6
      have HZ45 := Lib.hid hb5.size
      have HZ56 := Lib.hid (show w5.heap.size < w6.heap.size from (Array.getElem?_eq_some_iff.1 hx6).1)
      clear d4 ho5 hb5 hb6 hw6 hx6 hk5
      go_wp2_with fail
      rw [HW6.out]
      refine (HTL.out _ HBw6.out).mono ?_
      rintro e w7 ⟨v7, rfl, ho7, hb7⟩
      obtain ⟨A7, k7, rfl⟩ := own_form ho7
      have HC7 := Lib.hid (own_none_cap (own_zero ho7))
      have HL7 := Lib.hid (show OwnR w7 w6.heap.size w7.heap.size 5 (.slice A7 xs.length k7) (intV .u8 xs) from OwnR.new (by rw [intV_len]; exact ho7))
      have HZ67 := Lib.hid hb7.size
      have HMX7 := Lib.hid (HMX6.out.below hb7)
      have HMP7 := Lib.hid (HMP6.out.below hb7)
      have HWP7 := Lib.hid (HWP6.out.below hb7)
      have HBw7 := Lib.hid (HBw6.out.trans (hb7.mono HBw6.out.size))
      clear ho7 hb7
      have HA7 : Hid (∀ W, Below w7.heap.size w7 W → W.cell? ⟨w5.heap.size, 0, none⟩ = some (.slice A5 m.length k5) ∧ W.cell? ⟨w.heap.size + 1, 0, none⟩ = some (.int .i64 x.arr) ∧ W.cell? ⟨w.heap.size + 1, 1, none⟩ = some (.int .i64 x.start) ∧ W.cell? ⟨w.heap.size + 1, 2, none⟩ = some (.int .i64 x.len) ∧ W.cell? ⟨w.heap.size + 1, 3, none⟩ = some (.int .i64 x.cap)) := Lib.hid fun W hb => ⟨one_cell ((hb.block _ HMX7.out.gW).trans HMX7.out.box), (HA.out W (HBw7.out.trans (hb.mono HBw7.out.size))).2⟩
      have HI7 : Hid (∀ W, Below w7.heap.size w7 W → Calls Try.prog 67 #[.agg #[.slice A5 m.length k5], .agg #[.int .i64 x.arr, .int .i64 x.start, .int .i64 x.len, .int .i64 x.cap], .int .u8 t, .slice A7 xs.length k7] W fun e w' => ∃ v, e = .returned (.tuple #[.agg #[v], .agg #[.int .i64 q.arr, .int .i64 q.start, .int .i64 q.len, .int .i64 q.cap], .bool p]) ∧ OwnM w' W.heap.size w'.heap.size v R ∧ Below W.heap.size W w') := Lib.hid fun W hb => HIP.out W A5 k5 A7 k7 (HMX7.out.own.below hb).reads HC7.out (OwnR.rd (HL7.out.below hb))
      have HD7 := HBw7.out.size
      go_upto_region 10 with fail
      have qc0 := (Below.refl w7.heap.size w7).drew
      have qq0 := qc0.size
      obtain ⟨qa0, qa1, qa2, qa3, qa4⟩ := HA7.out w7.drew qc0
      go_cut [15, 16, 17] (fun s15 s16 s17 wx => ∃ (g15 lo15 hi15 : Nat) (v15 : Value) (g16 : Nat), s15 = .pointer (some ⟨g15, 0, none⟩) ∧ MBox wx w7.heap.size g15 lo15 hi15 v15 R ∧ s16 = .pointer (some ⟨g16, 0, none⟩) ∧ WBox wx w7.heap.size g16 q.arr q.start q.len q.cap ∧ s17 = .bool p ∧ Below w7.heap.size w7 wx)
      case first =>
        exact Waf2_region (u44 := .bool true) (u45 := .bool true) (u46 := .bool true) (u47 := .bool true) (loP := 0) (hiP := 0) (w6 := w) HA7 HI7 qc0 qa0 qa1 qa2 qa3 qa4 (by assumption) (by assumption)
      case rest =>
        obtain ⟨gQ, loQ, hiQ, vQ, gWQ, rfl, hmQ, rfl, hwQ, rfl, hb8⟩ := hcut
        obtain ⟨w8, hw8⟩ : ∃ w8, w8 = wc := ⟨_, rfl⟩
        subst hw8
        obtain ⟨AQ, cQ, rfl, hcQ⟩ := hmQ.own.form
        have HMQ := Lib.hid hmQ
        have HWQ := Lib.hid hwQ
        have HMP8 := Lib.hid (HMP7.out.below hb8)
        have HWP8 := Lib.hid (HWP7.out.below hb8)
        have HMX8 := Lib.hid (HMX7.out.below hb8)
        have HL8 := Lib.hid (HL7.out.below hb8)
        have HZ78 := Lib.hid hb8.size
        have HBw8 := Lib.hid (HBw7.out.trans (hb8.mono HBw7.out.size))
        have s1 := HMQ.out.cell
        have s2 := HMP8.out.cell
        clear hmQ hwQ hb8 hcQ
        go_wp2_with fail
        refine (HER.out w8 AQ AP cQ cP HMQ.out.own.reads HMP8.out.own.reads).mono ?_
        rintro e w9a ⟨rfl, hb9a⟩
        obtain ⟨t0, t1, t2, t3⟩ := (HWQ.out.below hb9a).cells
        obtain ⟨u0, u1, u2, u3⟩ := (HWP8.out.below hb9a).cells
        go_wp2_with fail
        refine (HEW.out w9a).mono ?_
        rintro e w9 ⟨rfl, hb9b⟩
        have hb9 := hb9a.trans (hb9b.mono hb9a.size)
        clear hb9a hb9b t0 t1 t2 t3 u0 u1 u2 u3
        have HMQ9 := Lib.hid (HMQ.out.below hb9)
        have HWQ9 := Lib.hid (HWQ.out.below hb9)
        have HMP9 := Lib.hid (HMP8.out.below hb9)
        have HWP9 := Lib.hid (HWP8.out.below hb9)
        have HMX9 := Lib.hid (HMX8.out.below hb9)
        have HL9 := Lib.hid (HL8.out.below hb9)
        have HBw9 := Lib.hid (HBw8.out.trans (hb9.mono HBw8.out.size))
        have HZ89 := Lib.hid hb9.size
        clear hb9 s1 s2
        have y1 : w9.drew.cell? ⟨w.heap.size, 0, none⟩ = some (.slice A m.length cap) := (HA.out w9 HBw9.out).1
        have y2 : w9.drew.cell? ⟨w5.heap.size, 0, none⟩ = some (.slice A5 m.length k5) := HMX9.out.cell
        have HD9 := Lib.hid ((Below.refl w9.heap.size w9).drew)
        go_wp2_with fail
        go_region_held3 (fun W => W.cell? ⟨w.heap.size, 0, none⟩ = some (.slice A m.length cap) ∧ W.cell? ⟨w5.heap.size, 0, none⟩ = some (.slice A5 m.length k5))
          (first | exact ⟨y1, y2⟩ | exact ⟨(HA.out _ (HBw9.out.trans (hc9.mono HBw9.out.size))).1, (HMX9.out.below hc9).cell⟩ | exact ⟨(HA.out _ (HBw9.out.trans (hc10.mono HBw9.out.size))).1, (HMX9.out.below hc10).cell⟩)
          (first | (go_at_call 20; refine (HT.out _ HBw9.out.drew).mono ?_; rintro e w10 ⟨v9, rfl, ho9, hb9⟩; obtain ⟨A9, k9, rfl, hk9⟩ := ho9.form; have hc9 := HD9.out.trans hb9) | (go_at_call 24; refine (HE.out w10 A5 A9 k5 k9 (HMX9.out.below hc9).own.reads ho9.reads).mono ?_; rintro e w11 ⟨rfl, hb10⟩; have hc10 := hc9.trans (hb10.mono hc9.size)))
        have HMQ11 := Lib.hid (HMQ9.out.below hc10)
        have HWQ11 := Lib.hid (HWQ9.out.below hc10)
        have HMP11 := Lib.hid (HMP9.out.below hc10)
        have HWP11 := Lib.hid (HWP9.out.below hc10)
        have HMX11 := Lib.hid (HMX9.out.below hc10)
        have HL11 := Lib.hid (HL9.out.below hc10)
        have HBw11 := Lib.hid (HBw9.out.trans (hc10.mono HBw9.out.size))
        have HZ911 := Lib.hid hc10.size
        clear hb9 hb10 hc9 hc10 y1 y2 ho9 hk9
        go_wp2_with fail
        refine (HTL.out _ HBw11.out).mono ?_
        rintro e w12 ⟨v12, rfl, ho12, hb12⟩
        obtain ⟨A12, k12, rfl⟩ := own_form ho12
        have HL12 := Lib.hid (HL11.out.below hb12)
        have HMQ12 := Lib.hid (HMQ11.out.below hb12)
        have HWQ12 := Lib.hid (HWQ11.out.below hb12)
        have HMP12 := Lib.hid (HMP11.out.below hb12)
        have HWP12 := Lib.hid (HWP11.out.below hb12)
        have HMX12 := Lib.hid (HMX11.out.below hb12)
        have HBw12 := Lib.hid (HBw11.out.trans (hb12.mono HBw11.out.size))
        have HZ12 := Lib.hid hb12.size
        have HEL12 := Lib.hid (HEL.out w12 A7 A12 k7 k12 (OwnR.rd HL12.out) (Rd.of_own ho12))
        clear ho12 hb12
        go_wp2_with fail
        refine HEL12.out.mono ?_
        rintro e w13 ⟨rfl, hb13⟩
        have HL13 := Lib.hid (HL12.out.below hb13)
        have HMQ13 := Lib.hid (HMQ12.out.below hb13)
        have HWQ13 := Lib.hid (HWQ12.out.below hb13)
        have HMP13 := Lib.hid (HMP12.out.below hb13)
        have HWP13 := Lib.hid (HWP12.out.below hb13)
        have HMX13 := Lib.hid (HMX12.out.below hb13)
        have HBw13 := Lib.hid (HBw12.out.trans (hb13.mono HBw12.out.size))
        have HZ13 := Lib.hid (show w7.heap.size ≤ w13.heap.size ∧ w6.heap.size ≤ w13.heap.size ∧ w4.heap.size ≤ w13.heap.size ∧ w0.heap.size ≤ w4.heap.size by have := HZ45.out; have := HZ56.out; have := HZ67.out; have := HZ78.out; have := HZ89.out; have := HZ911.out; have := HZ12.out; have := hb13.size; have := HBw4.out.size; omega)
        have HK := Lib.hid (mark1_calls A5 k5 w4.heap.size w5.heap.size m w13 HMX13.out.own HMS.out.1 HMS.out.2 HZ13.out.2.2.1 HMX13.out.hiW)
        have x1 := HMX13.out.cell
        clear hb13
        go_wp2_with fail
        refine HK.out.mono ?_
        rintro e w14 ⟨rfl, ho14, hs14⟩
        have HMP14 := Lib.hid (HMP13.out.span hs14 (.inl HMP.out.hiW) (.inl HMP.out.gW))
        have HWP14 := Lib.hid (HWP13.out.span hs14 (.inl HWP.out.gW))
        have HMQ14 := Lib.hid (HMQ13.out.span hs14 (.inr (by have := HMQ.out.blo; have := HZ56.out; have := HZ67.out; omega)) (.inr (by have := HMQ.out.bg; have := HZ56.out; have := HZ67.out; omega)))
        have HWQ14 := Lib.hid (HWQ13.out.span hs14 (.inr (by have := HWQ.out.bg; have := HZ56.out; have := HZ67.out; omega)))
        have HL14 := Lib.hid (HL13.out.span hs14 (.inr (Nat.le_of_lt HZ56.out)))
        have HBw14 := Lib.hid (HBw13.out.trans ((hs14.below HZ13.out.2.2.1).mono HZ13.out.2.2.2))
        have HZ14 := Lib.hid (Nat.le_trans HZ13.out.1 hs14.size)
        have HK2 : Hid (Calls Try.prog 55 #[.slice A7 xs.length k7, .int .i64 (1 + (total m : Nat))] w14 fun e w' => e = .returned (.int .i64 (1 + (total m : Nat) + (xs.length : Nat))) ∧ Span w6.heap.size w7.heap.size w14 w') := Lib.hid (by
          have h1 := HL14.out.1
          rw [intV_len] at h1
          have hq := markByteS_calls A7 k7 w6.heap.size xs (1 + total m) w14 h1 (by omega) (by have := HMS.out.2; omega) (Nat.le_trans HZ67.out HZ14.out)
          refine hq.mono ?_
          rintro e w' ⟨rfl, h2, hg⟩
          exact ⟨by congr 2, Span.of_grown hg (fun g e => ⟨(h1.lt g e).1, HL14.out.2 g e⟩)⟩)
        clear ho14 hs14 x1
        go_wp2_with fail
        refine HK2.out.mono ?_
        rintro e w15 ⟨rfl, hs15⟩
        have HMP15 := Lib.hid (HMP14.out.span hs15 (.inl (by have := HMP.out.hiW; have := HZ45.out; have := HZ56.out; omega)) (.inl (by have := HMP.out.gW; have := HZ45.out; have := HZ56.out; omega)))
        have HWP15 := Lib.hid (HWP14.out.span hs15 (.inl (by have := HWP.out.gW; have := HZ45.out; have := HZ56.out; omega)))
        have HMQ15 := Lib.hid (HMQ14.out.span hs15 (.inr HMQ.out.blo) (.inr HMQ.out.bg))
        have HWQ15 := Lib.hid (HWQ14.out.span hs15 (.inr HWQ.out.bg))
        have HBw15 := Lib.hid (HBw14.out.trans ((hs15.below (by have := HZ14.out; have := HZ67.out; omega)).mono (by have := HZ13.out.2.2.2; have := HZ45.out; have := HZ56.out; omega)))
        have s1 := HMQ15.out.cell
        have s2 := HMP15.out.cell
        have hpos : ¬ ((1 : Int) + (total m : Nat) + (xs.length : Nat)) < 0 := by omega
        clear hs15
        go_wp2_with fail
        refine (HER.out w15 AQ AP cQ cP HMQ15.out.own.reads HMP15.out.own.reads).mono ?_
        rintro e w16a ⟨rfl, hb16a⟩
        obtain ⟨t0, t1, t2, t3⟩ := (HWQ15.out.below hb16a).cells
        obtain ⟨u0, u1, u2, u3⟩ := (HWP15.out.below hb16a).cells
        go_wp2_with fail
        refine (HEW.out w16a).mono ?_
        rintro e w16 ⟨rfl, hb16b⟩
        have hb16 := hb16a.trans (hb16b.mono hb16a.size)
        clear hb16a hb16b t0 t1 t2 t3 u0 u1 u2 u3
        have HMQ16 := Lib.hid (HMQ15.out.below hb16)
        have HMP16 := Lib.hid (HMP15.out.below hb16)
        have HWP16 := Lib.hid (HWP15.out.below hb16)
        have HBw16 := Lib.hid (HBw15.out.trans (hb16.mono HBw15.out.size))
        have hz16 := HMQ16.out.hiW
        have hlohi := HMQ16.out.loW
        have HKQ := Lib.hid (mark1_calls AQ cQ loQ hiQ R w16 HMQ16.out.own hR1 hR2 hlohi hz16)
        have s3 := HMQ16.out.cell
        clear hb16 s1 s2 hpos
        go_wp2_with fail
        refine HKQ.out.mono ?_
        rintro e w17 ⟨rfl, ho17, hs17⟩
        have HMQ17 := Lib.hid (HMQ16.out.marked hs17 ho17)
        have HMP17 := Lib.hid (HMP16.out.span hs17 (.inl (by have := HMP.out.hiW; have := HMQ.out.blo; have := HZ45.out; have := HZ56.out; have := HZ67.out; omega)) (.inl (by have := HMP.out.gW; have := HMQ.out.blo; have := HZ45.out; have := HZ56.out; have := HZ67.out; omega)))
        have HWP17 := Lib.hid (HWP16.out.span hs17 (.inl (by have := HWP.out.gW; have := HMQ.out.blo; have := HZ45.out; have := HZ56.out; have := HZ67.out; omega)))
        have HBw17 := Lib.hid (HBw16.out.trans ((hs17.below hlohi).mono (by have := HMQ.out.blo; have := HBw7.out.size; omega)))
        have s4 := HMQ17.out.cell
        have HH := Lib.hid (held1_calls AQ cQ loQ hiQ R w17 HMQ17.out.own hR1 hR2)
        have hposR : ¬ ((1 : Int) + (total R : Nat)) < 0 := by omega
        clear ho17 hs17 s3
        go_wp2_with fail
        refine HH.out.mono ?_
        rintro e w18 ⟨rfl, hb18⟩
        have HMQ18 := Lib.hid (HMQ17.out.below hb18)
        have HMP18 := Lib.hid (HMP17.out.below hb18)
        have HWP18 := Lib.hid (HWP17.out.below hb18)
        have HBw18 := Lib.hid (HBw17.out.trans (hb18.mono HBw17.out.size))
        have hselfR : (((1 : Int) + (total R : Nat)) != 1 + (total R : Nat)) = false := by simp
        clear hb18 s4
        have HTw18 : Hid (∀ W (hb : Below w18.heap.size w18 W), Calls Try.prog 20 #[.agg #[.slice A m.length cap]] W fun e w' => ∃ v, e = .returned (.agg #[v]) ∧ OwnM w' W.heap.size w'.heap.size v m ∧ Below W.heap.size W w') := Lib.hid fun W hb => HT.out W (HBw18.out.trans (hb.mono HBw18.out.size))
        have HTLw18 : Hid (∀ W (hb : Below w18.heap.size w18 W), Calls Try.prog 52 #[.slice BL xs.length capL] W fun e w' => ∃ v, e = .returned v ∧ w'.ownsRow W.heap.size 5 1 v xs.length (intV .u8 xs) ∧ Below W.heap.size W w') := Lib.hid fun W hb => HTL.out W (HBw18.out.trans (hb.mono HBw18.out.size))
        have HAw18 : Hid (∀ W, Below w18.heap.size w18 W → W.cell? ⟨w.heap.size, 0, none⟩ = some (.slice A m.length cap) ∧ W.cell? ⟨w.heap.size + 1, 0, none⟩ = some (.int .i64 x.arr) ∧ W.cell? ⟨w.heap.size + 1, 1, none⟩ = some (.int .i64 x.start) ∧ W.cell? ⟨w.heap.size + 1, 2, none⟩ = some (.int .i64 x.len) ∧ W.cell? ⟨w.heap.size + 1, 3, none⟩ = some (.int .i64 x.cap)) := Lib.hid fun W hb => HA.out W (HBw18.out.trans (hb.mono HBw18.out.size))
        have HDw18 := HBw18.out.size
        go_upto_region 30 with fail
        have rc0 := (Below.refl w18.heap.size w18).drew
        have rq0 := rc0.size
        obtain ⟨ra0, ra1, ra2, ra3, ra4⟩ := HAw18.out w18.drew rc0
        go_cut [21, 22, 23] (fun s21 s22 s23 wx => ∃ (g21 lo21 hi21 : Nat) (v21 : Value) (g22 : Nat), s21 = .pointer (some ⟨g21, 0, none⟩) ∧ MBox wx w18.heap.size g21 lo21 hi21 v21 R ∧ s22 = .pointer (some ⟨g22, 0, none⟩) ∧ WBox wx w18.heap.size g22 q.arr q.start q.len q.cap ∧ s23 = .bool p ∧ Below w18.heap.size w18 wx)
        case first =>
          exact Waf3_region (loP := 0) (hiP := 0) (u58 := .bool true) (u59 := .bool true) (u60 := .bool true) (u61 := .bool true) (u62 := .bool true) (u63 := .bool true) (u64 := .bool true) (u65 := .bool true) (u66 := .bool true) (u67 := .bool true) (u68 := .bool true) (u69 := .bool true) (u70 := .bool true) (u71 := .bool true) (u72 := .bool true) (u73 := .bool true) (u74 := .bool true) (u75 := .bool true) (u76 := .bool true) (u77 := .bool true) (u78 := .bool true) (u79 := .bool true) (u80 := .bool true) (u81 := .bool true) (u82 := .bool true) (u83 := .bool true) (u84 := .bool true) (u85 := .bool true) (u86 := .bool true) (u87 := .bool true) (u88 := .bool true) (u89 := .bool true) (u90 := .bool true) (u91 := .bool true) (u92 := .bool true) (u93 := .bool true) (u94 := .bool true) (u95 := .bool true) (u96 := .bool true) (u97 := .bool true) (u98 := .bool true) (u99 := .bool true) (u100 := .bool true) (u101 := .bool true) (u102 := .bool true) (u103 := .bool true) (u104 := .bool true) (u105 := .bool true) (u106 := .bool true) (u107 := .bool true) (u108 := .bool true) (u109 := .bool true) (u110 := .bool true) (u111 := .bool true) (u112 := .bool true) (u113 := .bool true) (u114 := .bool true) (u115 := .bool true) (u116 := .bool true) (u117 := .bool true) (u118 := .bool true) (loQ := 0) (hiQ := 0) (w17 := w) HIP HTw18 HTLw18 HAw18 rc0 ra0 ra1 ra2 ra3 ra4 (by assumption) (by assumption)
        case rest =>
          obtain ⟨gT, loT, hiT, vT, gWT, rfl, hmT, rfl, hwT, rfl, hb19⟩ := hcut
          obtain ⟨w19, hw19⟩ : ∃ w19, w19 = wc := ⟨_, rfl⟩
          subst hw19
          obtain ⟨AT, cT, rfl, hcT⟩ := hmT.own.form
          have HMT := Lib.hid hmT
          have HWT := Lib.hid hwT
          have HMQ19 := Lib.hid (HMQ18.out.below hb19)
          have HMP19 := Lib.hid (HMP18.out.below hb19)
          have HWP19 := Lib.hid (HWP18.out.below hb19)
          have HBw19 := Lib.hid (HBw18.out.trans (hb19.mono HBw18.out.size))
          have s5 := HMT.out.cell
          have s6 := HMP19.out.cell
          clear hmT hwT hb19 hcT
          go_wp2_with fail
          refine (HER.out w19 AT AP cT cP HMT.out.own.reads HMP19.out.own.reads).mono ?_
          rintro e w20a ⟨rfl, hb20a⟩
          obtain ⟨t0, t1, t2, t3⟩ := (HWT.out.below hb20a).cells
          obtain ⟨u0, u1, u2, u3⟩ := (HWP19.out.below hb20a).cells
          go_wp2_with fail
          refine (HEW.out w20a).mono ?_
          rintro e w20 ⟨rfl, hb20b⟩
          have hb20 := hb20a.trans (hb20b.mono hb20a.size)
          clear hb20a hb20b t0 t1 t2 t3 u0 u1 u2 u3
          have HMQ20 := Lib.hid (HMQ19.out.below hb20)
          have HBw20 := Lib.hid (HBw19.out.trans (hb20.mono HBw19.out.size))
          have s7 := HMQ20.out.cell
          have HH2 := Lib.hid (held1_calls AQ cQ loQ hiQ R w20 HMQ20.out.own hR1 hR2)
          clear hb20 s5 s6
          go_wp2_with fail
          refine HH2.out.mono ?_
          rintro e w21 ⟨rfl, hb21⟩
          have HBw21 := Lib.hid (HBw20.out.trans (hb21.mono HBw20.out.size))
          clear hb21 s7
          go_wp2_with fail
          go_ret
          exact ⟨rfl, HB.out.trans (HBw21.out.mono HB.out.size)⟩
end Go.Proofs.Ytoelagfcapdfpaa
