/-
  The drawing for LessString and JoinStrings.
-/
import Derived.Test.YtnkbpoenncgcnaaDraw
import Derived.Test.YtnkbpoenncgcnaaSplit
import Derived.OwnWalk
import Derived.Maps.AppendAt
import Derived.Laws.BytesString
namespace Go.Proofs.Ytnkbpoenncgcnaa
open Go.RowKit

theorem drawLess_calls (n cp : Nat) (A : Option Addr) (zs : List Int) (w : World) (hr : Rd w w.heap.size A (intV .u8 zs)) (hn : zs.length = n) (hm : n ≤ 65536) (hz : ∀ z ∈ zs, (Lit.int .u8 z).wf = true) :
    Calls Try.prog 14 #[.slice A n cp] w fun e w' => (∃ s t : ByteArray, e = .returned (.tuple #[.string s, .string t]) ∧ s.size ≤ 10 ∧ t.size ≤ 10) ∧ Below w.heap.size w w' := by
  have hb0 : Below w.heap.size w (w.alloc (.cells #[.slice A n cp, .int .i64 0, .int .u64 0] 44)) := (Below.refl _ _).alloc (Nat.le_refl _) _
  have HA := Lib.hid (any1_calls w.heap.size n cp 0 A zs _ (cur_new w A n cp) (hr.below hb0) hn hm hz (by omega))
  have HO := Lib.hid (fun (W : World) (hc : Cur W w.heap.size A n cp 2) (hr : Rd W w.heap.size A (intV .u8 zs)) => any1_calls w.heap.size n cp 2 A zs W hc hr hn hm hz (by omega))
  have HR := Lib.hid hr
  have HB := Lib.hid hb0
  clear hr hn hz hb0
  go_enter Try.func14, Try.ntmps14
  go_wp2_with fail
  refine HA.out.mono ?_
  rintro e w1 ⟨⟨s, rfl, hs⟩, hcu, hg⟩
  have HB1 : Hid (Below w.heap.size w w1) := HB.out.grown hg HB.out.size (fun k e => by cases e; exact Nat.le_refl _)
  have HC1 := Lib.hid hcu
  clear hcu hg
  go_wp2_with fail
  refine (HO.out w1 HC1.out (HR.out.below HB1.out)).mono ?_
  rintro e w2 ⟨⟨t, rfl, ht⟩, hcu2, hg2⟩
  have HB2 : Hid (Below w.heap.size w w2) := HB1.out.grown hg2 HB1.out.size (fun k e => by cases e; exact Nat.le_refl _)
  clear hcu2 hg2
  go_wp2_with fail
  go_ret2
  exact ⟨⟨s, t, rfl, hs, ht⟩, HB2.out⟩

theorem foldl_push_size (ns : List Int) (b : ByteArray) : (ns.foldl (fun r n => r.push (UInt8.ofNat n.toNat)) b).size = b.size + ns.length := by
  induction ns generalizing b with
  | nil => rfl
  | cons n r ih => rw [List.foldl_cons, ih, ByteArray.size_push, List.length_cons]; omega
theorem info_byte : (Try.prog.info? 5).map (fun i => (i.zero, i.size, i.bytes)) = some (some (.int .u8 0), 1, 1) := by kernel_rfl
/-- string(make([]byte, k)): some string of k bytes. -/
theorem made_string (W : World) (k : Nat) (hk : k ≤ 5000) : ∃ (w' : World) (Z : ByteArray), Z.size = k ∧ (Instr.makeSlice 22 (.int .i64 k) (.int .i64 k)).run Try.prog W = .ok (.slice (some ⟨W.heap.size, 0, none⟩) k k) w' ∧
    (convert 22 9 (.slice (some ⟨W.heap.size, 0, none⟩) k k)).run Try.prog w' = .ok (.string Z) w' ∧ Below W.heap.size W w' := by
  obtain ⟨i0, hi0, hz0, hz1, hz2⟩ := info_parts info_byte
  obtain ⟨w', hrun, hown, hg⟩ := run_make_full (P := Try.prog) W W.heap.size 22 5 i0 _ 1 Try.underlying22 hi0 hz0 hz1 .i64 .i64 k (by rw [hz2]; omega) (by simp only [maxLen]; omega) (Nat.le_refl _)
  rw [show (madeCells (Value.int .u8 0).cells (k * 1)).toList = List.replicate k (.int .u8 0) by rw [Nat.mul_one]; exact toList_madeCells_one _ _] at hown
  refine ⟨w', (List.replicate k 0).foldl (fun r (n : Int) => r.push (UInt8.ofNat n.toNat)) ByteArray.empty, ?_, hrun, ?_, (Below.refl _ _).grown hg (Nat.le_refl _) (by simp)⟩
  rotate_left
  · rw [run_convert_bytes_string _ _ _ 5 _ _ _ Try.underlying22 Try.underlying5 Try.underlying9]
    refine run_bytesToString _ _ _ _ (List.replicate k 0) ?_
    have h := run_loadCells_list (P := Try.prog) (w := w') ⟨W.heap.size, 0, none⟩ (List.replicate k (.int .u8 0)) (hown.cells (g := W.heap.size) rfl)
    rw [List.length_replicate] at h
    rw [h, List.map_replicate]
  · rw [foldl_push_size, List.length_replicate]; simp

/-- A row of strings is no cursor. -/
theorem cur_ne {w : World} {B : Nat} {A : Option Addr} {n cp m base : Nat} {v : Value} {k : Nat} {xs : List Value} (hc : Cur w B A n cp m) (ho : w.ownsRow base 9 1 v k xs) : v.ownBlock = none ∨ v.ownBlock ≠ some B := by
  obtain ⟨a, sd, _, _, _, hh⟩ := hc
  rcases ho.2 with ⟨rfl, _⟩ | ⟨g, cap, cur, rfl, _, hg, _⟩
  · exact .inl rfl
  · right
    intro e
    have e : g = B := by simpa [Value.ownBlock] using e
    subst e
    rw [hg] at hh
    injection hh with hh
    injection hh with _ ht
    exact absurd ht (by decide)
/-- What DrawJoinStrings draws. -/
def Parts (w w' : World) (e : Ending) : Prop := ∃ (v : Value) (zs : List ByteArray) (t : ByteArray), e = .returned (.tuple #[v, .string t]) ∧ w'.ownsRow w.heap.size 9 1 v zs.length (strV zs) ∧ zs.length ≤ 10 ∧ (∀ z ∈ zs, z.size ≤ 5000) ∧ t.size ≤ 10
set_option maxHeartbeats 800000 in
theorem drawJoin_calls (n cp : Nat) (A : Option Addr) (zs : List Int) (w : World) (hr : Rd w w.heap.size A (intV .u8 zs)) (hn : zs.length = n) (hm : n ≤ 65536) (hz : ∀ z ∈ zs, (Lit.int .u8 z).wf = true) :
    Calls Try.prog 11 #[.slice A n cp] w fun e w' => Parts w w' e ∧ Below w.heap.size w w' := by
  obtain ⟨i0, hi0, hz0, hz1, hz2⟩ := info_parts info_str
  have HPk := Lib.hid (fun (W : World) m q (hc : Cur W w.heap.size A n cp m) (hr : Rd W w.heap.size A (intV .u8 zs)) h1 h2 h3 => pick_calls w.heap.size n cp m A zs q W hc hr hn hm hz h1 h2 h3)
  have HOn := Lib.hid (fun (W : World) m q (hc : Cur W w.heap.size A n cp m) (hr : Rd W w.heap.size A (intV .u8 zs)) h1 h2 h3 => one_calls w.heap.size n cp m A zs q W hc hr hn hm hz h1 h2 h3)
  have HAn := Lib.hid (fun (W : World) m (hc : Cur W w.heap.size A n cp m) (hr : Rd W w.heap.size A (intV .u8 zs)) h1 => any1_calls w.heap.size n cp m A zs W hc hr hn hm hz h1)
  have HO := Lib.hid (fun (W : World) m ts (hc : Cur W w.heap.size A n cp m) (hr : Rd W w.heap.size A (intV .u8 zs)) h0 h1 h2 h3 q h4 => of_lit w.heap.size n cp m 10 A zs ts W hc hr hn hm hz h0 h1 h2 h3 q h4)
  have HR := Lib.hid hr
  have HMS := Lib.hid made_string
  clear hr hn hz
  go_enter Try.func11, Try.ntmps11
  obtain ⟨w0, hw0⟩ : ∃ w0, (w.alloc (.cells #[.slice A n cp, .int .i64 0, .int .u64 0] 44)).alloc (.cells #[] 9) = w0 := ⟨_, rfl⟩
  have HW0 := Lib.hid hw0
  have HB0 : Hid (Below w.heap.size w w0) := by
    show Below w.heap.size w w0
    rw [← hw0]; exact ((Below.refl _ _).alloc (Nat.le_refl _) _).alloc (by simp) _
  have HC0 : Hid (Cur w0 w.heap.size A n cp 0) := by
    show Cur w0 w.heap.size A n cp 0
    rw [← hw0]; exact (cur_new w A n cp).kept ((Below.refl _ _).alloc (Nat.le_refl _) _)
  have HL0 : Hid (w0.ownsRow w.heap.size 9 1 (.slice (some ⟨w.heap.size + 1, 0, none⟩) 0 0) 0 []) := by
    show w0.ownsRow w.heap.size 9 1 (.slice (some ⟨w.heap.size + 1, 0, none⟩) 0 0) 0 []
    rw [← hw0]
    have h := World.ownsRow_made (base := w.heap.size) (e := 9) (size := 1) (w.alloc (.cells #[.slice A n cp, .int .i64 0, .int .u64 0] 44)) #[] 0 (by simp) (Nat.zero_le _) rfl
    rw [World.size_alloc] at h
    exact h
  clear hw0
  go_wp2_with fail
  rw [HW0.out]
  refine (HPk.out w0 0 4 HC0.out (HR.out.below HB0.out) (by omega) (by omega) (by omega)).mono ?_
  rintro e w1 ⟨⟨q, rfl, hq0, hq1⟩, hcu1, hg1⟩
  have HL1 := Lib.hid (HL0.out.kept hg1 (cur_ne HC0.out HL0.out))
  have HB1 : Hid (Below w.heap.size w w1) := HB0.out.grown hg1 HB0.out.size (fun k e => by cases e; exact Nat.le_refl _)
  have HC1 := Lib.hid hcu1
  clear hcu1 hg1 HW0
  go_wp2_with fail
  go_loopw [5, 7] (fun v i wr => ∃ (j : Nat) (ys : List ByteArray), i = .int .i64 j ∧ j ≤ 4 ∧ wr.ownsRow w.heap.size 9 1 v ys.length (strV ys) ∧ ys.length = j ∧ (∀ z ∈ ys, z.size ≤ 5000) ∧ Below w.heap.size w wr ∧ Cur wr w.heap.size A n cp (2 + 2 * j)) (fun _ i _ => 4 - (intOf i).toNat)
  case atStart => exact ⟨0, [], rfl, by omega, HL1.out, rfl, fun z h => (by cases h), HB1.out, HC1.out⟩
  case round =>
    obtain ⟨j, ys, rfl, hj, ho, hyl, hys, hb, hcu⟩ := hrel
    clear HL0 HC0 HB0 HL1 HB1 HC1
    have HYL := Lib.hid hyl
    have HYS := Lib.hid hys
    have HOw := Lib.hid ho
    have HB := Lib.hid hb
    have HC := Lib.hid hcu
    have hy4 : ys.length ≤ 4 := by omega
    clear ho hyl hys hb hcu
    by_cases hlt : (j : Int) < q
    · go_wp2_with fail
      refine (HAn.out wr (2 + 2 * j) HC.out (HR.out.below HB.out) (by omega)).mono ?_
      rintro e w2 ⟨⟨t, rfl, ht⟩, hcu2, hg2⟩
      have HO2 := Lib.hid (HOw.out.kept hg2 (cur_ne HC.out HOw.out))
      have HB2 : Hid (Below w.heap.size w w2) := HB.out.grown hg2 HB.out.size (fun k e => by cases e; exact Nat.le_refl _)
      have HC2 := Lib.hid hcu2
      have hbs2 := HB2.out.size
      clear hcu2 hg2
      go_wp2_with ((at_builtin; refine wpList_append_own _ rfl _ _ 26 rfl w.heap.size 9 i0 _ 1 16 Try.underlying26 hi0 hz0 hz1 hz2 rfl (by decide) _ _ _ rfl (HO2.out.alloc _) ⟨w2.heap.size, 0, none⟩ 1 1 [.string t] rfl rfl (cell_one_new _ _ _) (by simp [Value.oneCell']) (by simp only [maxLen]; omega) (by omega) (by simp; omega) ?_; intro v' w3 hown3 hgrow _))
      have HB3 : Hid (Below w.heap.size w w3) := below_own (HB2.out.alloc hbs2 _) (HO2.out.alloc _) hgrow (by simp; omega)
      have HC3 : Hid (Cur w3 w.heap.size A n cp (2 + 2 * (j + 1))) := (HC2.out.kept ((Below.refl _ _).alloc (Nat.le_refl _) _)).grown hgrow (fun e => by
        rcases cur_ne HC2.out HO2.out with h | h
        · exact absurd (e.trans h) (by simp)
        · exact h e.symm)
      have HO3 : Hid (w3.ownsRow w.heap.size 9 1 v' (ys ++ [t]).length (strV (ys ++ [t]))) := by
        show w3.ownsRow w.heap.size 9 1 v' (ys ++ [t]).length (strV (ys ++ [t]))
        simpa [strV] using hown3
      clear hown3 hgrow
      go_roundw
      case rel => exact ⟨j + 1, ys ++ [t], by go_num, by omega, HO3.out, by rw [List.length_append, HYL.out]; rfl, fun z h => by
        rw [List.mem_append] at h
        rcases h with h | h
        · exact HYS.out z h
        · simp at h; subst h; omega, HB3.out, HC3.out⟩
      case measure => simp [intOf]; omega
    · go_wp2_with fail
      refine (HOn.out wr (2 + 2 * j) 20 HC.out (HR.out.below HB.out) (by omega) (by omega) (by omega)).mono ?_
      rintro e w2 ⟨⟨b, rfl⟩, hcu2, hg2⟩
      have HO2 := Lib.hid (HOw.out.kept hg2 (cur_ne HC.out HOw.out))
      have HB2 : Hid (Below w.heap.size w w2) := HB.out.grown hg2 HB.out.size (fun k e => by cases e; exact Nat.le_refl _)
      have HC2 := Lib.hid hcu2
      clear hcu2 hg2 HOw HB HC
      rcases b with _ | _
      · go_wp2_with fail
        refine (HO.out w2 (2 + 2 * j + 2) [⟨#[44]⟩, ⟨#[59]⟩, ⟨#[59]⟩, ⟨#[]⟩, ⟨#[97, 98]⟩] HC2.out (HR.out.below HB2.out) (by omega) (by decide) (by decide) (by decide) 5 rfl).mono ?_
        rintro e w9 ⟨⟨t, rfl, ht⟩, hcu9, hg9⟩
        have HO9 := Lib.hid (HO2.out.kept hg9 (cur_ne HC2.out HO2.out))
        have HB9 : Hid (Below w.heap.size w w9) := HB2.out.grown hg9 HB2.out.size (fun k e => by cases e; exact Nat.le_refl _)
        clear hcu9 hg9
        go_wp2_with fail
        go_ret2
        exact ⟨⟨_, ys, t, rfl, HO9.out, by omega, HYS.out, ht⟩, HB9.out⟩
      · go_wp2_with fail
        refine (HPk.out w2 (2 + 2 * j + 2) 20 HC2.out (HR.out.below HB2.out) (by omega) (by omega) (by omega)).mono ?_
        rintro e w3 ⟨⟨r, rfl, hr0, hr1⟩, hcu3, hg3⟩
        obtain ⟨d, rfl⟩ : ∃ d : Nat, r = d := ⟨r.toNat, by omega⟩
        have HO3 := Lib.hid (HO2.out.kept hg3 (cur_ne HC2.out HO2.out))
        have HB3 : Hid (Below w.heap.size w w3) := HB2.out.grown hg3 HB2.out.size (fun k e => by cases e; exact Nat.le_refl _)
        have HC3 := Lib.hid hcu3
        clear hcu3 hg3
        obtain ⟨w4, Z, hZ, hmk, hcv, hb4⟩ := HMS.out w3 (3990 + d) (by omega)
        rw [show ((3990 + d : Nat) : Int) = 3990 + (d : Int) by omega] at hmk
        have HO4 := Lib.hid (own_below HO3.out hb4)
        have HB4 := Lib.hid (HB3.out.trans (hb4.mono HB3.out.size))
        have HC4 := Lib.hid (HC3.out.kept hb4)
        have HZ := Lib.hid hZ
        have hbs4 := HB4.out.size
        clear hb4 hZ
        go_wp2_with ((at_builtin; refine wpList_append_own _ rfl _ _ 26 rfl w.heap.size 9 i0 _ 1 16 Try.underlying26 hi0 hz0 hz1 hz2 rfl (by decide) _ _ _ rfl (HO4.out.alloc _) ⟨w4.heap.size, 0, none⟩ 1 1 [.string Z] rfl rfl (cell_one_new _ _ _) (by simp [Value.oneCell']) (by simp only [maxLen]; omega) (by omega) (by simp; omega) ?_; intro v' w5 hown5 hgrow _))
        have HB5 : Hid (Below w.heap.size w w5) := below_own (HB4.out.alloc hbs4 _) (HO4.out.alloc _) hgrow (by simp; omega)
        have HC5 : Hid (Cur w5 w.heap.size A n cp (2 + 2 * j + 2 + 2)) := (HC4.out.kept ((Below.refl _ _).alloc (Nat.le_refl _) _)).grown hgrow (fun e => by
          rcases cur_ne HC4.out HO4.out with h | h
          · exact absurd (e.trans h) (by simp)
          · exact h e.symm)
        have HO5 : Hid (w5.ownsRow w.heap.size 9 1 v' (ys ++ [Z]).length (strV (ys ++ [Z]))) := by
          show w5.ownsRow w.heap.size 9 1 v' (ys ++ [Z]).length (strV (ys ++ [Z]))
          simpa [strV] using hown5
        clear hown5 hgrow hmk hcv
        refine (HO.out w5 (2 + 2 * j + 2 + 2) [⟨#[44]⟩, ⟨#[59]⟩, ⟨#[59]⟩, ⟨#[]⟩, ⟨#[97, 98]⟩] HC5.out (HR.out.below HB5.out) (by omega) (by decide) (by decide) (by decide) 5 rfl).mono ?_
        rintro e w9 ⟨⟨t, rfl, ht⟩, hcu9, hg9⟩
        have HO9 := Lib.hid (HO5.out.kept hg9 (cur_ne HC5.out HO5.out))
        have HB9 : Hid (Below w.heap.size w w9) := HB5.out.grown hg9 HB5.out.size (fun k e => by cases e; exact Nat.le_refl _)
        clear hcu9 hg9
        go_wp2_with fail
        go_ret2
        exact ⟨⟨_, ys ++ [Z], t, rfl, HO9.out, by rw [List.length_append]; show ys.length + 1 ≤ 10; omega, fun z h => by
          rw [List.mem_append] at h
          rcases h with h | h
          · exact HYS.out z h
          · simp at h; subst h; have := HZ.out; omega, ht⟩, HB9.out⟩
end Go.Proofs.Ytnkbpoenncgcnaa
