/-
  The drawing for FormatInt, ParseInt, AppendChecksum; vAt.
-/
import Derived.Test.YtnkbpoenncgcnaaDoorDraw
import Derived.Test.YtnkbpoenncgcnaaDoorNum
namespace Go.Proofs.YtnkbpoenncgcnaaDoor
open Go.RowKit

/-- A number of a list is drawn. -/
def OneNum (ts : List Int) (e : Ending) : Prop := ∃ t ∈ ts, e = .returned (.int .i64 t)
theorem among_calls (B n cp m : Nat) (A : Option Addr) (zs : List Int) (ts : List Int) (w : World) (hc : Cur w B A n cp m) (hr : Rd w B A (intV .u8 zs)) (hn : zs.length = n) (hm : n ≤ 65536) (hz : ∀ z ∈ zs, (Lit.int .u8 z).wf = true) (hlim : m ≤ 999999)
    (ht1 : 1 ≤ ts.length) (ht2 : ts.length ≤ 10000) (q : Nat) (hq : ts.length = q) :
    Calls Tryd.prog 21 #[.pointer (some ⟨B, 0, none⟩), .slice (some ⟨w.heap.size, 0, none⟩) q q] (w.alloc (.cells (intV .i64 ts).toArray 3)) fun e w' => OneNum ts e ∧ Cur w' B A n cp (m + 2) ∧ w.grownBy w' (some B) := by
  subst hq
  have hb0 : Below w.heap.size w (w.alloc (.cells (intV .i64 ts).toArray 3)) := (Below.refl _ _).alloc (Nat.le_refl _) _
  have hlt := hc.lt
  have HP := Lib.hid (pick_calls B n cp m A zs ts.length _ (hc.kept hb0) (hr.alloc (Nat.le_of_lt hlt) _) hn hm hz hlim (by omega) (by omega))
  have HG0 := Lib.hid (grown_of_below hb0 (some B))
  have HT := Lib.hid (rd_new w (intV .i64 ts) 3)
  clear hz hn hc hr hb0
  obtain ⟨w0, hw0⟩ : ∃ w0, w.alloc (.cells (intV .i64 ts).toArray 3) = w0 := ⟨_, rfl⟩
  have HSZ : Hid (w0.heap.size = w.heap.size + 1) := by show w0.heap.size = _; rw [← hw0]; simp
  rw [hw0] at HP HG0 HT ⊢
  clear hw0
  go_enter Tryd.func21, Tryd.ntmps21
  go_wp2_with fail
  refine HP.out.mono ?_
  rintro e w1 ⟨⟨r, rfl, hr0, hr1⟩, hcu, hg⟩
  obtain ⟨j, rfl⟩ : ∃ j : Nat, r = j := ⟨r.toNat, by omega⟩
  have hjt : j < ts.length := by omega
  obtain ⟨b, off, hA, hb, hcell⟩ := HT.out.int (i := j) hjt
  injection hA with hA
  injection hA with hb1 ho1
  subst hb1
  subst ho1
  have hc1 : w1.cell? ⟨w.heap.size, 0 + j, none⟩ = some (.int .i64 ts[j]) := by
    rw [← hcell]
    exact World.cell?_of_block (w := w0) (hg.block w.heap.size (by rw [HSZ.out]; omega) (fun e => by injection e with e; omega))
  rw [Nat.zero_add] at hc1
  have HM := Lib.hid (List.getElem_mem (l := ts) (n := j) hjt)
  have HC := Lib.hid hcu
  have HG := Lib.hid (HG0.out.trans hg)
  clear hcell hcu hg
  generalize ts[j] = t at *
  go_wp2_with fail
  go_ret
  exact ⟨⟨t, HM.out, rfl⟩, HC.out, HG.out⟩

theorem drawFormat_calls (n cp : Nat) (A : Option Addr) (zs : List Int) (w : World) (hr : Rd w w.heap.size A (intV .u8 zs)) (hn : zs.length = n) (hm : n ≤ 65536) (hz : ∀ z ∈ zs, (Lit.int .u8 z).wf = true) :
    Calls Tryd.prog 9 #[.slice A n cp] w fun e w' => (∃ t : Int, e = .returned (.int .i64 t) ∧ -2000000 ≤ t ∧ t ≤ 2000000) ∧ Below w.heap.size w w' := by
  have hb0 : Below w.heap.size w (w.alloc (.cells #[.slice A n cp, .int .i64 0, .int .u64 0] 37)) := (Below.refl _ _).alloc (Nat.le_refl _) _
  have HP := Lib.hid (pick_calls w.heap.size n cp 0 A zs 1000 _ (cur_new w A n cp) (hr.below hb0) hn hm hz (by omega) (by omega) (by omega))
  have HAm := Lib.hid (fun (W : World) m ts (hc : Cur W w.heap.size A n cp m) (hr : Rd W w.heap.size A (intV .u8 zs)) h0 h1 h2 q h3 => among_calls w.heap.size n cp m A zs ts W hc hr hn hm hz h0 h1 h2 q h3)
  have HR := Lib.hid hr
  have HB := Lib.hid hb0
  clear hr hn hz hb0
  go_enter Tryd.func9, Tryd.ntmps9
  go_wp2_with fail
  refine HP.out.mono ?_
  rintro e w1 ⟨⟨r, rfl, hr0, hr1⟩, hcu, hg⟩
  have HB1 : Hid (Below w.heap.size w w1) := HB.out.grown hg HB.out.size (fun k e => by cases e; exact Nat.le_refl _)
  have HC1 := Lib.hid hcu
  clear hcu hg
  go_wp2_with fail
  refine (HAm.out w1 2 [0, 1, -1, 10, 999999, -999999, 1000000, -1000000, r - 500] HC1.out (HR.out.below HB1.out) (by omega) (by simp) (by simp) 9 rfl).mono ?_
  rintro e w2 ⟨⟨t, ht, rfl⟩, hcu2, hg2⟩
  have HB2 : Hid (Below w.heap.size w w2) := HB1.out.grown hg2 HB1.out.size (fun k e => by cases e; exact Nat.le_refl _)
  have HBD : Hid (-2000000 ≤ t ∧ t ≤ 2000000) := by
    show -2000000 ≤ t ∧ t ≤ 2000000
    simp only [List.mem_cons, List.not_mem_nil, or_false] at ht
    omega
  clear hcu2 hg2 ht
  go_wp2_with fail
  go_ret
  exact ⟨⟨t, rfl, HBD.out⟩, HB2.out⟩

theorem drawParse_calls (n cp : Nat) (A : Option Addr) (zs : List Int) (w : World) (hr : Rd w w.heap.size A (intV .u8 zs)) (hn : zs.length = n) (hm : n ≤ 65536) (hz : ∀ z ∈ zs, (Lit.int .u8 z).wf = true) :
    Calls Tryd.prog 12 #[.slice A n cp] w fun e w' => (∃ t : ByteArray, e = .returned (.string t) ∧ t.size ≤ 100) ∧ Below w.heap.size w w' := by
  have hb0 : Below w.heap.size w (w.alloc (.cells #[.slice A n cp, .int .i64 0, .int .u64 0] 37)) := (Below.refl _ _).alloc (Nat.le_refl _) _
  have HOn := Lib.hid (one_calls w.heap.size n cp 0 A zs 2 _ (cur_new w A n cp) (hr.below hb0) hn hm hz (by omega) (by omega) (by omega))
  have HPk := Lib.hid (fun (W : World) m q (hc : Cur W w.heap.size A n cp m) (hr : Rd W w.heap.size A (intV .u8 zs)) h1 h2 h3 => pick_calls w.heap.size n cp m A zs q W hc hr hn hm hz h1 h2 h3)
  have HO := Lib.hid (fun (W : World) m k ts (hc : Cur W w.heap.size A n cp m) (hr : Rd W w.heap.size A (intV .u8 zs)) h0 h1 h2 h3 q h4 => of_lit w.heap.size n cp m k A zs ts W hc hr hn hm hz h0 h1 h2 h3 q h4)
  have HN := Lib.hid l1Num_calls
  have HR := Lib.hid hr
  have HB := Lib.hid hb0
  clear hr hn hz hb0
  go_enter Tryd.func12, Tryd.ntmps12
  go_wp2_with fail
  refine HOn.out.mono ?_
  rintro e w1 ⟨⟨b, rfl⟩, hcu, hg⟩
  have HB1 : Hid (Below w.heap.size w w1) := HB.out.grown hg HB.out.size (fun k e => by cases e; exact Nat.le_refl _)
  have HC1 := Lib.hid hcu
  clear hcu hg
  rcases b with _ | _
  · go_wp2_with fail
    refine (HPk.out w1 2 2000 HC1.out (HR.out.below HB1.out) (by omega) (by omega) (by omega)).mono ?_
    rintro e w2 ⟨⟨r, rfl, hr0, hr1⟩, hcu2, hg2⟩
    have HB2 : Hid (Below w.heap.size w w2) := HB1.out.grown hg2 HB1.out.size (fun k e => by cases e; exact Nat.le_refl _)
    clear hcu2 hg2
    go_wp2_with fail
    refine (HN.out (r - 1000) w2 (by omega) (by omega)).mono ?_
    rintro e w3 ⟨rfl, m3, hw3⟩
    have HB3 : Hid (Below w.heap.size w w3) := by rw [hw3]; exact below_drewN HB2.out m3
    have HZ : Hid ((numB (r - 1000)).size ≤ 100) := by
      show (numB (r - 1000)).size ≤ 100
      have h := Lib.itoa_length_le (r - 1000) (by omega) (by omega)
      have e : (numB (r - 1000)).size = (Lib.itoa (r - 1000)).length := rfl
      omega
    clear hw3
    go_wp2_with fail
    go_ret
    exact ⟨⟨_, rfl, HZ.out⟩, HB3.out⟩
  · go_wp2_with fail
    refine (HO.out w1 2 100 [⟨#[]⟩, ⟨#[45]⟩, ⟨#[45, 48]⟩, ⟨#[48, 48]⟩, ⟨#[48, 49]⟩, ⟨#[45, 45, 49]⟩, ⟨#[49, 120]⟩, ⟨#[57, 57, 57, 57, 57, 57]⟩, ⟨#[49, 48, 48, 48, 48, 48, 48]⟩, ⟨#[45, 57, 57, 57, 57, 57, 57]⟩, ⟨#[49, 56, 52, 52, 54, 55, 52, 52, 48, 55, 51, 55, 48, 57, 53, 53, 49, 54, 49, 55]⟩] HC1.out (HR.out.below HB1.out) (by omega) (by decide) (by decide) (by decide) 11 rfl).mono ?_
    rintro e w2 ⟨⟨t, rfl, ht⟩, hcu2, hg2⟩
    have HB2 : Hid (Below w.heap.size w w2) := HB1.out.grown hg2 HB1.out.size (fun k e => by cases e; exact Nat.le_refl _)
    clear hcu2 hg2
    go_wp2_with fail
    go_ret
    exact ⟨⟨t, rfl, ht⟩, HB2.out⟩

theorem drawAppend_calls (n cp : Nat) (A : Option Addr) (zs : List Int) (w : World) (hr : Rd w w.heap.size A (intV .u8 zs)) (hn : zs.length = n) (hm : n ≤ 65536) (hz : ∀ z ∈ zs, (Lit.int .u8 z).wf = true) :
    Calls Tryd.prog 15 #[.slice A n cp] w fun e w' => (∃ t : ByteArray, e = .returned (.string t) ∧ t.size ≤ 5000) ∧ Below w.heap.size w w' := by
  have hb0 : Below w.heap.size w (w.alloc (.cells #[.slice A n cp, .int .i64 0, .int .u64 0] 37)) := (Below.refl _ _).alloc (Nat.le_refl _) _
  have HOn := Lib.hid (one_calls w.heap.size n cp 0 A zs 20 _ (cur_new w A n cp) (hr.below hb0) hn hm hz (by omega) (by omega) (by omega))
  have HPk := Lib.hid (fun (W : World) m q (hc : Cur W w.heap.size A n cp m) (hr : Rd W w.heap.size A (intV .u8 zs)) h1 h2 h3 => pick_calls w.heap.size n cp m A zs q W hc hr hn hm hz h1 h2 h3)
  have HAn := Lib.hid (fun (W : World) m (hc : Cur W w.heap.size A n cp m) (hr : Rd W w.heap.size A (intV .u8 zs)) h1 => any1_calls w.heap.size n cp m A zs W hc hr hn hm hz h1)
  have HMS := Lib.hid made_string
  have HR := Lib.hid hr
  have HB := Lib.hid hb0
  clear hr hn hz hb0
  go_enter Tryd.func15, Tryd.ntmps15
  go_wp2_with fail
  refine HOn.out.mono ?_
  rintro e w1 ⟨⟨b, rfl⟩, hcu, hg⟩
  have HB1 : Hid (Below w.heap.size w w1) := HB.out.grown hg HB.out.size (fun k e => by cases e; exact Nat.le_refl _)
  have HC1 := Lib.hid hcu
  clear hcu hg
  rcases b with _ | _
  · go_wp2_with fail
    refine (HAn.out w1 2 HC1.out (HR.out.below HB1.out) (by omega)).mono ?_
    rintro e w2 ⟨⟨t, rfl, ht⟩, hcu2, hg2⟩
    have HB2 : Hid (Below w.heap.size w w2) := HB1.out.grown hg2 HB1.out.size (fun k e => by cases e; exact Nat.le_refl _)
    clear hcu2 hg2
    go_wp2_with fail
    go_ret
    exact ⟨⟨t, rfl, by omega⟩, HB2.out⟩
  · go_wp2_with fail
    refine (HPk.out w1 2 10 HC1.out (HR.out.below HB1.out) (by omega) (by omega) (by omega)).mono ?_
    rintro e w3 ⟨⟨r, rfl, hr0, hr1⟩, hcu3, hg3⟩
    obtain ⟨d, rfl⟩ : ∃ d : Nat, r = d := ⟨r.toNat, by omega⟩
    have HB3 : Hid (Below w.heap.size w w3) := HB1.out.grown hg3 HB1.out.size (fun k e => by cases e; exact Nat.le_refl _)
    clear hcu3 hg3
    obtain ⟨w4, Z, hZ, hmk, hcv, hb4⟩ := HMS.out w3 (3990 + d) (by omega)
    rw [show ((3990 + d : Nat) : Int) = 3990 + (d : Int) by omega] at hmk
    have HB4 := Lib.hid (HB3.out.trans (hb4.mono HB3.out.size))
    have HZ := Lib.hid hZ
    clear hb4 hZ
    go_wp2_with fail
    go_ret
    exact ⟨⟨Z, rfl, by rw [HZ.out]; omega⟩, HB4.out⟩

/-- What vAt answers. -/
def vAtF (zs : List Int) (n i : Nat) : Int := if i < n then zs.getD i 0 else ((i : Int) * 7 + n) % 256
theorem vAtF_bd (zs : List Int) (n i : Nat) (hn : zs.length = n) (hz : ∀ z ∈ zs, (Lit.int .u8 z).wf = true) : 0 ≤ vAtF zs n i ∧ vAtF zs n i ≤ 255 := by
  unfold vAtF
  split
  · rename_i h
    have e : zs.getD i 0 = zs[i]'(by omega) := by simp [List.getD_eq_getElem?_getD, List.getElem?_eq_getElem (show i < zs.length by omega)]
    rw [e]
    simpa [Lit.wf, IntKind.min, IntKind.max, IntKind.signed, IntKind.bits] using hz zs[i] (List.getElem_mem (by omega))
  · omega
theorem vAt_calls (n cp i : Nat) (A : Option Addr) (zs : List Int) (w : World) (hr : Rd w w.heap.size A (intV .u8 zs)) (hn : zs.length = n) (hm : n ≤ 65536) (hz : ∀ z ∈ zs, (Lit.int .u8 z).wf = true) (hi : i ≤ 1000) :
    Calls Tryd.prog 19 #[.slice A n cp, .int .i64 i] w fun e w' => e = .returned (.int .i64 (vAtF zs n i)) ∧ w' = w := by
  by_cases hin : i < n
  · obtain ⟨b, off, rfl, hb, hc⟩ := hr.int (i := i) (by omega)
    have hw := hz zs[i] (List.getElem_mem (by omega))
    obtain ⟨hw0, hw1⟩ : 0 ≤ zs[i] ∧ zs[i] ≤ 255 := by simpa [Lit.wf, IntKind.min, IntKind.max, IntKind.signed, IntKind.bits] using hw
    have HV : Hid (vAtF zs n i = zs[i]) := by
      show vAtF zs n i = zs[i]
      unfold vAtF
      rw [if_pos hin]
      simp [List.getD_eq_getElem?_getD, List.getElem?_eq_getElem (show i < zs.length by omega)]
    generalize zs[i] = z at *
    clear hr hz hw
    go_enter Tryd.func19, Tryd.ntmps19
    go_wp2
    go_ret
    exact ⟨ret_int HV.out.symm, rfl⟩
  · have HV : Hid (vAtF zs n i = ((i : Int) * 7 + n) % 256) := if_neg hin
    clear hr hz
    go_enter Tryd.func19, Tryd.ntmps19
    go_wp2
    go_ret
    exact ⟨ret_int HV.out.symm, rfl⟩
end Go.Proofs.YtnkbpoenncgcnaaDoor
