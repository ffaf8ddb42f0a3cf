/-
  The drawing of chapter 1's inputs: texts of bounded size.
-/
import Derived.Test.YtnkbpoenncgcnaaCur
namespace Go.Proofs.Ytnkbpoenncgcnaa
open Go.RowKit

/-- A short text is drawn. -/
def Short (k : Nat) (e : Ending) : Prop := ∃ t : ByteArray, e = .returned (.string t) ∧ t.size ≤ k
theorem short_of {k : Nat} {ts : List ByteArray} {e : Ending} (h : OneOf ts e) (hk : ∀ t ∈ ts, t.size ≤ k) : Short k e := by
  obtain ⟨t, ht, rfl⟩ := h
  exact ⟨t, rfl, hk t ht⟩
/-- The texts of a literal list lie in a new block. -/
theorem of_lit (B n cp m k : Nat) (A : Option Addr) (zs : List Int) (ts : List ByteArray) (w : World) (hc : Cur w B A n cp m) (hr : Rd w B A (intV .u8 zs)) (hn : zs.length = n) (hm : n ≤ 65536) (hz : ∀ z ∈ zs, (Lit.int .u8 z).wf = true) (hlim : m ≤ 999999)
    (ht1 : 1 ≤ ts.length) (ht2 : ts.length ≤ 10000) (hk : ∀ t ∈ ts, t.size ≤ k) (q : Nat) (hq : ts.length = q) :
    Calls Try.prog 26 #[.pointer (some ⟨B, 0, none⟩), .slice (some ⟨w.heap.size, 0, none⟩) q q] (w.alloc (.cells (strV ts).toArray 9)) fun e w' => Short k e ∧ Cur w' B A n cp (m + 2) ∧ w.grownBy w' (some B) := by
  subst hq
  have hb0 : Below w.heap.size w (w.alloc (.cells (strV ts).toArray 9)) := (Below.refl _ _).alloc (Nat.le_refl _) _
  have hlt := hc.lt
  refine (of_calls B n cp m A zs (some ⟨w.heap.size, 0, none⟩) ts.length ts _ (hc.kept hb0) (hr.alloc (Nat.le_of_lt hlt) _) hn hm hz hlim ((rd_new w (strV ts) 9).more (by simp)) (fun b o e => by injection e with e; injection e with e; omega) ht1 ht2).mono ?_
  rintro e w' ⟨h1, h2, h3⟩
  exact ⟨short_of h1 hk, h2, (grown_of_below hb0 (some B)).trans h3⟩

theorem any1_calls (B n cp m : Nat) (A : Option Addr) (zs : List Int) (w : World) (hc : Cur w B A n cp m) (hr : Rd w B A (intV .u8 zs)) (hn : zs.length = n) (hm : n ≤ 65536) (hz : ∀ z ∈ zs, (Lit.int .u8 z).wf = true) (hlim : m ≤ 999999) :
    Calls Try.prog 25 #[.pointer (some ⟨B, 0, none⟩)] w fun e w' => Short 10 e ∧ Cur w' B A n cp (m + 2) ∧ w.grownBy w' (some B) := by
  have HO := Lib.hid (fun ts h1 h2 h3 q h4 => of_lit B n cp m 10 A zs ts w hc hr hn hm hz hlim h1 h2 h3 q h4)
  clear hc hr hn hz
  go_enter Try.func25, Try.ntmps25
  go_wp2_with fail
  refine (HO.out [⟨#[]⟩, ⟨#[97]⟩, ⟨#[97, 44, 98]⟩, ⟨#[115, 111, 109, 101, 32, 119, 111, 114, 100, 115]⟩, ⟨#[120, 35, 121]⟩, ⟨#[45, 49, 50]⟩, ⟨#[0, 255]⟩, ⟨#[44, 44]⟩, ⟨#[48]⟩] (by decide) (by decide) (by decide) 9 rfl).mono ?_
  rintro e w' ⟨⟨t, rfl, ht⟩, hcu, hg⟩
  go_wp2_with fail
  go_ret
  exact ⟨⟨t, rfl, ht⟩, hcu, hg⟩

/-- A new cursor. -/
theorem cur_new (w : World) (A : Option Addr) (n cp : Nat) : Cur (w.alloc (.cells #[.slice A n cp, .int .i64 0, .int .u64 0] 44)) w.heap.size A n cp 0 :=
  ⟨0, 0, Nat.le_refl _, by omega, by omega, heap_alloc_new w _⟩

theorem drawSplit_calls (n cp : Nat) (A : Option Addr) (zs : List Int) (w : World) (hr : Rd w w.heap.size A (intV .u8 zs)) (hn : zs.length = n) (hm : n ≤ 65536) (hz : ∀ z ∈ zs, (Lit.int .u8 z).wf = true) :
    Calls Try.prog 9 #[.slice A n cp] w fun e w' => (∃ s t : ByteArray, e = .returned (.tuple #[.string s, .string t]) ∧ s.size ≤ 10 ∧ t.size ≤ 10) ∧ Below w.heap.size w w' := by
  have hb0 : Below w.heap.size w (w.alloc (.cells #[.slice A n cp, .int .i64 0, .int .u64 0] 44)) := (Below.refl _ _).alloc (Nat.le_refl _) _
  have HA := Lib.hid (any1_calls w.heap.size n cp 0 A zs _ (cur_new w A n cp) (hr.below hb0) hn hm hz (by omega))
  have HO := Lib.hid (fun (W : World) ts (hc : Cur W w.heap.size A n cp 2) (hr : Rd W w.heap.size A (intV .u8 zs)) h1 h2 h3 q h4 => of_lit w.heap.size n cp 2 10 A zs ts W hc hr hn hm hz (by omega) h1 h2 h3 q h4)
  have HR := Lib.hid hr
  have HB := Lib.hid hb0
  clear hr hn hz hb0
  go_enter Try.func9, Try.ntmps9
  go_wp2_with fail
  refine HA.out.mono ?_
  rintro e w1 ⟨⟨s, rfl, hs⟩, hcu, hg⟩
  have HB1 : Hid (Below w.heap.size w w1) := HB.out.grown hg HB.out.size (fun k e => by cases e; exact Nat.le_refl _)
  have HC1 := Lib.hid hcu
  clear hcu hg
  go_wp2_with fail
  refine (HO.out w1 [⟨#[44]⟩, ⟨#[44]⟩, ⟨#[32]⟩, ⟨#[]⟩, ⟨#[44, 44]⟩] HC1.out (HR.out.below HB1.out) (by decide) (by decide) (by decide) 5 rfl).mono ?_
  rintro e w2 ⟨⟨t, rfl, ht⟩, hcu2, hg2⟩
  have HB2 : Hid (Below w.heap.size w w2) := HB1.out.grown hg2 HB1.out.size (fun k e => by cases e; exact Nat.le_refl _)
  clear hcu2 hg2
  go_wp2_with fail
  go_ret2
  exact ⟨⟨s, t, rfl, hs, ht⟩, HB2.out⟩
end Go.Proofs.Ytnkbpoenncgcnaa
