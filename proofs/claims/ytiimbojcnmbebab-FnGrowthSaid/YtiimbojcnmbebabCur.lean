/-
  The drawing of inputs: the cursor (next, pick, one, of). Only what the law wants: numbers within their bounds.
-/
import Derived.Test.YtiimbojcnmbebabProg
import Derived.Test.YtiimbojcnmbebabBase
import Derived.WalkLawsBesides
import Derived.WalkSpells
import Derived.BigQuiet
import Derived.Deep.QuietTactic
import Derived.Outline
import Derived.Laws.Rows
import Derived.Laws.Bits64b
import Derived.IntWalk
namespace Go.Proofs.Ytiimbojcnmbebab
open Go.RowKit

/-- Block B is a cursor over the bytes at A, advanced at most m times. -/
def Cur (w : World) (B : Nat) (A : Option Addr) (n cp m : Nat) : Prop :=
  ∃ (a : Nat) (sd : Int), a ≤ m ∧ 0 ≤ sd ∧ sd ≤ 18446744073709551615 ∧ w.heap[B]? = some (.cells #[.slice A n cp, .int .i64 a, .int .u64 sd] 63 (0, 0))
theorem Cur.kept {w w' : World} {B : Nat} {A : Option Addr} {n cp m : Nat} (h : Cur w B A n cp m) (hb : Below w.heap.size w w') : Cur w' B A n cp m := by
  obtain ⟨a, sd, h1, h2, h3, hh⟩ := h
  exact ⟨a, sd, h1, h2, h3, (hb.block B (Array.getElem?_eq_some_iff.1 hh).1).trans hh⟩
theorem Cur.grown {w w' : World} {B : Nat} {A : Option Addr} {n cp m : Nat} (h : Cur w B A n cp m) {row : Option Nat} (hg : w.grownBy w' row) (hr : some B ≠ row) : Cur w' B A n cp m := by
  obtain ⟨a, sd, h1, h2, h3, hh⟩ := h
  exact ⟨a, sd, h1, h2, h3, (hg.block B (Array.getElem?_eq_some_iff.1 hh).1 hr).trans hh⟩
theorem Cur.lt {w : World} {B : Nat} {A : Option Addr} {n cp m : Nat} (h : Cur w B A n cp m) : B < w.heap.size := by
  obtain ⟨a, sd, h1, h2, h3, hh⟩ := h
  exact (Array.getElem?_eq_some_iff.1 hh).1

theorem and_255 (E : Int) (h0 : 0 ≤ E) (h1 : E ≤ 18446744073709551615) : 0 ≤ wrap64 (bits .and .u64 E 255) ∧ wrap64 (bits .and .u64 E 255) ≤ 255 := by
  have h := bits_and_u64_nat E.toNat 255 (by omega) (by omega)
  rw [Int.toNat_of_nonneg h0] at h
  have h3 : E.toNat &&& 255 ≤ 255 := Nat.and_le_right
  have h4 : bits .and .u64 E 255 = ((E.toNat &&& 255 : Nat) : Int) := h
  rw [h4]
  generalize E.toNat &&& 255 = q at *
  rw [show wrap64 (q : Int) = (q : Int) by unfold wrap64; omega]
  omega
theorem wrap_u64_bd (x : Int) : 0 ≤ IntKind.u64.wrap x ∧ IntKind.u64.wrap x ≤ 18446744073709551615 := by
  simp [IntKind.wrap, IntKind.bits, IntKind.signed]; omega
theorem and_255_div (x : Int) : 0 ≤ wrap64 (bits .and .u64 (IntKind.u64.wrap x / 1099511627776) 255) ∧ wrap64 (bits .and .u64 (IntKind.u64.wrap x / 1099511627776) 255) ≤ 255 := by
  have h := wrap_u64_bd x
  exact and_255 _ (by omega) (by omega)
theorem cur_end {w : World} {B n cp m a : Nat} {A : Option Addr} {sd : Int} (hh : w.heap[B]? = some (.cells #[.slice A n cp, .int .i64 a, .int .u64 sd] 63 (0, 0))) (h1 : a ≤ m) (x : Int) (q q2 : Nat) :
    Cur ((((w.drewN q).setCell ⟨B, 1, none⟩ (.int .i64 ((a : Int) + 1))).setCell ⟨B, 2, none⟩ (.int .u64 (IntKind.u64.wrap x))).drewN q2) B A n cp (m + 1) ∧ w.grownBy ((((w.drewN q).setCell ⟨B, 1, none⟩ (.int .i64 ((a : Int) + 1))).setCell ⟨B, 2, none⟩ (.int .u64 (IntKind.u64.wrap x))).drewN q2) (some B) := by
  have e1 := heap_setCell_same (w.drewN q) B 1 _ _ (.int .i64 ((a : Int) + 1)) (show (w.drewN q).heap[B]? = _ from hh)
  have e2 := heap_setCell_same _ B 2 _ _ (.int .u64 (IntKind.u64.wrap x)) e1
  refine ⟨⟨a + 1, IntKind.u64.wrap x, by omega, (wrap_u64_bd x).1, (wrap_u64_bd x).2, ?_⟩, rfl, rfl, rfl, by simp, fun k _ hk => ?_⟩
  · refine Eq.trans (show _ = _ from e2) ?_
    congr 2
  · have hkb : k ≠ B := fun e => hk (by rw [e])
    exact (Below.heap_setCell _ _ _ _ hkb).trans (Below.heap_setCell _ _ _ _ hkb)

theorem next_calls (B n cp m : Nat) (A : Option Addr) (zs : List Int) (w : World) (hc : Cur w B A n cp m) (hr : Rd w B A (intV .u8 zs)) (hn : zs.length = n) (hm : n ≤ 65536) (hz : ∀ z ∈ zs, (Lit.int .u8 z).wf = true) (hlim : m ≤ 1000000) :
    Calls Try.prog 86 #[.pointer (some ⟨B, 0, none⟩)] w fun e w' => (∃ r : Int, e = .returned (.int .i64 r) ∧ 0 ≤ r ∧ r ≤ 255) ∧ Cur w' B A n cp (m + 1) ∧ w.grownBy w' (some B) := by
  obtain ⟨a, sd, h1, h2, h3, hh⟩ := hc
  have hlt : B < w.heap.size := (Array.getElem?_eq_some_iff.1 hh).1
  have c0 : w.cell? ⟨B, 0, none⟩ = some (.slice A n cp) := cell_of_row w B 0 _ _ _ hh
  have c1 : w.cell? ⟨B, 1, none⟩ = some (.int .i64 a) := cell_of_row w B 1 _ _ _ hh
  have c2 : w.cell? ⟨B, 2, none⟩ = some (.int .u64 sd) := cell_of_row w B 2 _ _ _ hh
  have f0 : ∀ o, w.frozen? ⟨B, o, none⟩ = false := fun o => by simp [World.frozen?, hh]
  have f1 := f0 1
  have f2 := f0 2
  have HH := Lib.hid hh
  clear hh f0
  by_cases hin : a < n
  · obtain ⟨b, off, rfl, hb, hc⟩ := hr.int (i := a) (by omega)
    have hw := hz zs[a] (List.getElem_mem (by omega))
    obtain ⟨hw0, hw1⟩ : 0 ≤ zs[a] ∧ zs[a] ≤ 255 := by simpa [Lit.wf, IntKind.min, IntKind.max, IntKind.signed, IntKind.bits] using hw
    have hcu : Hid (w.cell? ⟨b, off + a, none⟩ = some (.int .u8 zs[a])) := hc
    generalize zs[a] = z at *
    clear hr hz hw
    go_enter Try.func86, Try.ntmps86
    go_wp2
    go_quiet (fail)
    go_wp2
    go_quiet (fail)
    go_wp2
    go_quiet (fail)
    go_wp2
    go_ret
    obtain ⟨e1, e2⟩ := cur_end HH.out h1 _ _ _
    exact ⟨⟨z, rfl, hw0, hw1⟩, e1, e2⟩
  · go_enter Try.func86, Try.ntmps86
    go_wp2
    go_quiet (fail)
    go_wp2
    go_quiet (fail)
    go_wp2
    go_ret
    obtain ⟨e1, e2⟩ := cur_end HH.out h1 _ _ _
    exact ⟨⟨_, rfl, and_255_div _⟩, e1, e2⟩

/-- A number below n is drawn. -/
def Drawn (n : Int) (e : Ending) : Prop := ∃ r : Int, e = .returned (.int .i64 r) ∧ 0 ≤ r ∧ r < n
theorem pick_calls (B n cp m : Nat) (A : Option Addr) (zs : List Int) (q : Int) (w : World) (hc : Cur w B A n cp m) (hr : Rd w B A (intV .u8 zs)) (hn : zs.length = n) (hm : n ≤ 65536) (hz : ∀ z ∈ zs, (Lit.int .u8 z).wf = true) (hlim : m ≤ 999999) (hq : 1 ≤ q) (hq2 : q ≤ 10000) :
    Calls Try.prog 66 #[.pointer (some ⟨B, 0, none⟩), .int .i64 q] w fun e w' => Drawn q e ∧ Cur w' B A n cp (m + 2) ∧ w.grownBy w' (some B) := by
  have HN := Lib.hid (next_calls B n cp m A zs w hc hr hn hm hz (by omega))
  have HN2 := Lib.hid (fun W (hc : Cur W B A n cp (m + 1)) (hr : Rd W B A (intV .u8 zs)) => next_calls B n cp (m + 1) A zs W hc hr hn hm hz (by omega))
  have HC := Lib.hid hc
  have HR := Lib.hid hr
  clear hz hn hc hr
  by_cases h1 : q ≤ 1
  · go_enter Try.func66, Try.ntmps66
    go_wp2_with fail
    go_ret
    refine ⟨⟨0, rfl, by omega, by omega⟩, ?_, World.grownBy.refl _ _⟩
    obtain ⟨a, sd, g1, g2⟩ := HC.out
    exact ⟨a, sd, by omega, g2⟩
  · by_cases h2 : q ≤ 200
    · go_enter Try.func66, Try.ntmps66
      go_wp2_with (go_at_call 86; refine HN.out.mono ?_; rintro e w1 ⟨⟨r, rfl, hr0, hr1⟩, hcu, hg⟩)
      go_ret
      refine ⟨⟨r % q, rfl, Int.emod_nonneg _ (by omega), Int.emod_lt_of_pos _ (by omega)⟩, ?_, hg⟩
      obtain ⟨a, sd, g1, g2⟩ := hcu
      exact ⟨a, sd, by omega, g2⟩
    · go_enter Try.func66, Try.ntmps66
      go_wp2_with fail
      refine HN.out.mono ?_
      rintro e w1 ⟨⟨r, rfl, hr0, hr1⟩, hcu, hg⟩
      have HR1 := Lib.hid (HR.out.grown hg (Nat.le_of_lt HC.out.lt) (fun g e => by cases e; exact Nat.le_refl _))
      have HC1 := Lib.hid hcu
      have HG1 := Lib.hid hg
      clear hcu hg
      go_wp2_with fail
      refine (HN2.out w1 HC1.out HR1.out).mono ?_
      rintro e w2 ⟨⟨r2, rfl, hr20, hr21⟩, hcu2, hg2⟩
      have HC2 := Lib.hid hcu2
      have HG2 := Lib.hid (HG1.out.trans hg2)
      clear hcu2 hg2
      go_wp2_with fail
      go_ret
      exact ⟨⟨_, rfl, Int.emod_nonneg _ (by omega), Int.emod_lt_of_pos _ (by omega)⟩, HC2.out, HG2.out⟩
theorem one_calls (B n cp m : Nat) (A : Option Addr) (zs : List Int) (q : Int) (w : World) (hc : Cur w B A n cp m) (hr : Rd w B A (intV .u8 zs)) (hn : zs.length = n) (hm : n ≤ 65536) (hz : ∀ z ∈ zs, (Lit.int .u8 z).wf = true) (hlim : m ≤ 999999) (hq : 1 ≤ q) (hq2 : q ≤ 10000) :
    Calls Try.prog 68 #[.pointer (some ⟨B, 0, none⟩), .int .i64 q] w fun e w' => (∃ b, e = .returned (.bool b)) ∧ Cur w' B A n cp (m + 2) ∧ w.grownBy w' (some B) := by
  have HP := Lib.hid (pick_calls B n cp m A zs q w hc hr hn hm hz hlim hq hq2)
  clear hz hn hc hr
  go_enter Try.func68, Try.ntmps68
  go_wp2_with (go_at_call 66; refine HP.out.mono ?_; rintro e w1 ⟨⟨r, rfl, hr0, hr1⟩, hcu, hg⟩)
  go_ret
  exact ⟨⟨_, rfl⟩, hcu, hg⟩
/-- A text of a list is drawn. -/
def OneOf (ts : List ByteArray) (e : Ending) : Prop := ∃ t ∈ ts, e = .returned (.string t)
end Go.Proofs.Ytiimbojcnmbebab
