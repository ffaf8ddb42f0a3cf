/-
  Drawing numbers out of a list, and rows of bytes: among, bytesOf.
-/
import Derived.Test.YtiimbojcnmbebabCur
import Derived.Test.YtiimbojcnmbebabBytes0
import Derived.Deep.LoopGhost
namespace Go.Proofs.Ytiimbojcnmbebab
open Go.RowKit

/-- A byte. -/
def IsBy (z : Int) : Prop := 0 ≤ z ∧ z ≤ 255
/-- A number of a list is drawn. -/
def OneI (ts : List Int) (e : Ending) : Prop := ∃ t ∈ ts, e = .returned (.int .i64 t)
theorem among_calls (B n cp m : Nat) (A : Option Addr) (zs : List Int) (T : Option Addr) (tc : Nat) (ts : List Int) (w : World) (hc : Cur w B A n cp m) (hr : Rd w B A (intV .u8 zs)) (hn : zs.length = n) (hm : n ≤ 65536) (hz : ∀ z ∈ zs, (Lit.int .u8 z).wf = true) (hlim : m ≤ 999999)
    (ht : Rd w w.heap.size T (intV .i64 ts)) (htB : ∀ b o, T = some ⟨b, o, none⟩ → b ≠ B) (ht1 : 1 ≤ ts.length) (ht2 : ts.length ≤ 10000) :
    Calls Try.prog 44 #[.pointer (some ⟨B, 0, none⟩), .slice T ts.length tc] w fun e w' => OneI ts e ∧ Cur w' B A n cp (m + 2) ∧ w.grownBy w' (some B) := by
  have HP := Lib.hid (pick_calls B n cp m A zs ts.length w hc hr hn hm hz hlim (by omega) (by omega))
  have HT := Lib.hid ht
  clear hz hn hc hr ht
  go_enter Try.func44, Try.ntmps44
  go_wp2_with fail
  refine HP.out.mono ?_
  rintro e w1 ⟨⟨r, rfl, hr0, hr1⟩, hcu, hg⟩
  obtain ⟨j, rfl⟩ : ∃ j : Nat, r = j := ⟨r.toNat, by omega⟩
  obtain ⟨b, off, rfl, hb, hcell⟩ := HT.out.int (i := j) (by omega)
  have hc1 : w1.cell? ⟨b, off + j, none⟩ = some (.int .i64 (ts[j]'(by omega))) := by
    rw [← hcell]
    exact World.cell?_of_block (w := w) (hg.block b hb (fun e => htB b off rfl (by injection e)))
  have HM := Lib.hid (List.getElem_mem (l := ts) (n := j) (by omega))
  have HC := Lib.hid hcu
  have HG := Lib.hid hg
  clear hcell hcu hg htB
  generalize ts[j]'(by omega) = t at *
  go_wp2_with fail
  go_ret
  exact ⟨⟨t, HM.out, rfl⟩, HC.out, HG.out⟩
/-- The numbers of a literal list lie in a new block. -/
theorem among_lit (B n cp m : Nat) (A : Option Addr) (zs : List Int) (ts : List Int) (w : World) (hc : Cur w B A n cp m) (hr : Rd w B A (intV .u8 zs)) (hn : zs.length = n) (hm : n ≤ 65536) (hz : ∀ z ∈ zs, (Lit.int .u8 z).wf = true) (hlim : m ≤ 999999)
    (ht1 : 1 ≤ ts.length) (ht2 : ts.length ≤ 10000) (q : Nat) (hq : ts.length = q) :
    Calls Try.prog 44 #[.pointer (some ⟨B, 0, none⟩), .slice (some ⟨w.heap.size, 0, none⟩) q q] (w.alloc (.cells (intV .i64 ts).toArray 3)) fun e w' => OneI ts e ∧ Cur w' B A n cp (m + 2) ∧ w.grownBy w' (some B) := by
  subst hq
  have hb0 : Below w.heap.size w (w.alloc (.cells (intV .i64 ts).toArray 3)) := (Below.refl _ _).alloc (Nat.le_refl _) _
  have hlt := hc.lt
  refine (among_calls B n cp m A zs (some ⟨w.heap.size, 0, none⟩) ts.length ts _ (hc.kept hb0) (hr.alloc (Nat.le_of_lt hlt) _) hn hm hz hlim ((rd_new w (intV .i64 ts) 3).more (by simp)) (fun b o e => by injection e with e; injection e with e; omega) ht1 ht2).mono ?_
  rintro e w' ⟨h1, h2, h3⟩
  exact ⟨h1, h2, (grown_of_below hb0 (some B)).trans h3⟩
theorem Cur.more {w : World} {B : Nat} {A : Option Addr} {n cp m m' : Nat} (h : Cur w B A n cp m) (hm : m ≤ m') : Cur w B A n cp m' := by
  obtain ⟨a, sd, h1, h2⟩ := h
  exact ⟨a, sd, by omega, h2⟩
theorem byte_wrap (t : Int) : IsBy (IntKind.u8.wrap t) := by
  unfold IsBy
  simp [IntKind.wrap, IntKind.bits, IntKind.signed]
  omega
theorem info_int8 : (Try.prog.info? 5).map (fun i => (i.zero, i.size, i.bytes)) = some (some (.int .u8 0), 1, 1) := by kernel_rfl

set_option maxRecDepth 100000 in
set_option maxHeartbeats 1600000 in
theorem bytesOf_calls (B n cp m : Nat) (A : Option Addr) (zs : List Int) (k : Nat) (w : World) (hc : Cur w B A n cp m) (hr : Rd w B A (intV .u8 zs)) (hn : zs.length = n) (hm : n ≤ 65536) (hz : ∀ z ∈ zs, (Lit.int .u8 z).wf = true) (hlim : m + 2 * k ≤ 999990) (hk : k ≤ 100) :
    Calls Try.prog 56 #[.pointer (some ⟨B, 0, none⟩), .int .i64 k] w fun e w' => ∃ (bs : List Int) (g c : Nat), e = .returned (.slice (some ⟨g, 0, none⟩) k c) ∧ bs.length = k ∧ (∀ z ∈ bs, IsBy z) ∧ w'.ownsRow w.heap.size 5 1 (.slice (some ⟨g, 0, none⟩) k c) k (intV .u8 bs) ∧ Cur w' B A n cp (m + 2 * k) ∧ w.grownBy w' (some B) := by
  obtain ⟨i1, hi1, hy0, hy1, hy2⟩ := info_parts info_int8
  have hlt0 := hc.lt
  have HL := Lib.hid (fun (W : World) ts m' (hc : Cur W B A n cp m') (hr : Rd W B A (intV .u8 zs)) h0 h1 h2 q h4 => among_lit B n cp m' A zs ts W hc hr hn hm hz h0 h1 h2 q h4)
  have HC := Lib.hid hc
  have HR := Lib.hid hr
  have HO := Lib.hid (World.ownsRow_made (base := w.heap.size) (e := 5) (size := 1) w #[] 0 (Nat.le_refl _) (Nat.zero_le _) rfl)
  obtain ⟨w1, hw1⟩ : ∃ w1, w.alloc (.cells #[] 5) = w1 := ⟨_, rfl⟩
  have hb1 : Below w.heap.size w w1 := by rw [← hw1]; exact (Below.refl _ _).alloc (Nat.le_refl _) _
  rw [hw1] at HO
  have HB1 := Lib.hid (grown_of_below hb1 (some B))
  have HC1 := Lib.hid (hc.kept hb1)
  have HW := Lib.hid hw1
  have hs1 := hb1.size
  clear hz hn hc hr hw1 hb1
  go_enter Try.func56, Try.ntmps56
  go_upto_region 2 with fail
  rw [HW.out]
  go_wp2_with fail
  go_loopg [5, 6] k (fun g v i wx => ∃ (j : Nat) (bs : List Int) (gv c : Nat), j + g = k ∧ i = .int .i64 j ∧ v = .slice (some ⟨gv, 0, none⟩) j c ∧ bs.length = j ∧ Hid (∀ z ∈ bs, IsBy z) ∧ wx.ownsRow w.heap.size 5 1 (.slice (some ⟨gv, 0, none⟩) j c) j (intV .u8 bs) ∧ Cur wx B A n cp (m + 2 * j) ∧ w.grownBy wx (some B))
  case atStart => exact ⟨0, [], _, _, by omega, rfl, rfl, rfl, Lib.hid (fun z hz => by cases hz), HO.out, HC1.out, HB1.out⟩
  case round =>
    obtain ⟨j, bs, gv, c, hjg, rfl, rfl, hbl, HZ, ho, hcu, hg⟩ := hrel
    have HO1 := Lib.hid ho
    have HCU := Lib.hid hcu
    have HG := Lib.hid hg
    have hgs := hg.size
    have hgv := (ho.lt gv rfl).1
    clear ho hcu hg
    cases gk with
    | zero =>
      obtain rfl : j = k := by omega
      go_wp2_with fail
      go_ret
      exact ⟨bs, gv, c, rfl, hbl, HZ.out, HO1.out, HCU.out, HG.out⟩
    | succ g =>
      go_wp2_with fail
      refine (HL.out wr [0, 1, 2, 3, 65, 66, 255, 16] (m + 2 * j) HCU.out (HR.out.grown HG.out (Nat.le_of_lt hlt0) (fun g e => by injection e with e; omega)) (by omega) (by decide) (by decide) 8 rfl).mono ?_
      rintro e w2 ⟨⟨t, _, rfl⟩, hc2, hg2⟩
      have HC2 := Lib.hid hc2
      have HG2 := Lib.hid (HG.out.trans hg2)
      have hs2 := hg2.size
      have HO2 := Lib.hid (HO1.out.kept hg2 (.inr (by simp [Value.ownBlock]; omega)))
      have HBY := Lib.hid (byte_wrap t)
      clear hc2 hg2
      go_wp2_with ((at_builtin; refine wpList_append_own _ rfl _ _ 22 rfl w.heap.size 5 i1 _ 1 1 Try.underlying22 hi1 hy0 hy1 hy2 rfl (by decide) _ _ _ rfl (HO2.out.alloc _) ⟨w2.heap.size, 0, none⟩ 1 1 [.int .u8 (IntKind.u8.wrap t)] rfl rfl (cell_one_new _ _ _) (by simp [Value.oneCell']) (by simp only [maxLen]; omega) (by omega) (by simp; omega) ?_; intro v' w5 hown5 hgrow hnil5; obtain ⟨g5, c5, rfl⟩ := own_some0 hown5 (Nat.succ_pos _)))
      have HO5 := Lib.hid (show w5.ownsRow w.heap.size 5 1 (.slice (some ⟨g5, 0, none⟩) (j + 1) c5) (j + 1) (intV .u8 (bs ++ [IntKind.u8.wrap t])) by simpa [intV] using hown5)
      have hg5 : w2.grownBy w5 (some gv) := ⟨hgrow.os, hgrow.tape, hgrow.output, by have := hgrow.size; simp at this; omega, fun q hq hn => (hgrow.block q (by simp; omega) hn).trans (((Below.refl w2.heap.size w2).alloc (Nat.le_refl _) _).block q hq)⟩
      have HC5 := Lib.hid (HC2.out.grown hg5 (by have := HC.out.lt; simp; omega))
      have HG5 : Hid (w.grownBy w5 (some B)) := Lib.hid ⟨hg5.os.trans HG2.out.os, hg5.tape.trans HG2.out.tape, hg5.output.trans HG2.out.output, Nat.le_trans HG2.out.size hg5.size, fun q hq hn => (hg5.block q (Nat.lt_of_lt_of_le hq HG2.out.size) (fun e => by injection e with e; omega)).trans (HG2.out.block q hq hn)⟩
      have HZ5 := Lib.hid (show ∀ z ∈ bs ++ [IntKind.u8.wrap t], IsBy z from fun z hz => by
        rcases List.mem_append.1 hz with hz | hz
        · exact HZ.out z hz
        · rw [List.mem_singleton.1 hz]; exact HBY.out)
      have hbl5 : (bs ++ [IntKind.u8.wrap t]).length = j + 1 := by simp [hbl]
      clear hown5 hgrow hnil5 hg5
      go_roundg g
      case measure => omega
      case rel => exact ⟨j + 1, _, g5, c5, by omega, by go_num, rfl, hbl5, HZ5, HO5.out, HC5.out.more (by omega), HG5.out⟩
end Go.Proofs.Ytiimbojcnmbebab
