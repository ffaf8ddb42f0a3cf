/-
  The drawing of chapter 1's inputs: texts of bounded size.
-/
import Derived.Test.YtnkbpoenncgcnaaDoorCur
import Derived.Laws.BytesString
import Derived.Laws.Cells
namespace Go.Proofs.YtnkbpoenncgcnaaDoor
open Go.RowKit

/-- A short text is drawn. -/
def Short (k : Nat) (e : Ending) : Prop := ∃ t : ByteArray, e = .returned (.string t) ∧ t.size ≤ k
theorem short_of {k : Nat} {ts : List ByteArray} {e : Ending} (h : OneOf ts e) (hk : ∀ t ∈ ts, t.size ≤ k) : Short k e := by
  obtain ⟨t, ht, rfl⟩ := h
  exact ⟨t, rfl, hk t ht⟩
/-- The texts of a literal list lie in a new block. -/
theorem of_lit (B n cp m k : Nat) (A : Option Addr) (zs : List Int) (ts : List ByteArray) (w : World) (hc : Cur w B A n cp m) (hr : Rd w B A (intV .u8 zs)) (hn : zs.length = n) (hm : n ≤ 65536) (hz : ∀ z ∈ zs, (Lit.int .u8 z).wf = true) (hlim : m ≤ 999999)
    (ht1 : 1 ≤ ts.length) (ht2 : ts.length ≤ 10000) (hk : ∀ t ∈ ts, t.size ≤ k) (q : Nat) (hq : ts.length = q) :
    Calls Tryd.prog 27 #[.pointer (some ⟨B, 0, none⟩), .slice (some ⟨w.heap.size, 0, none⟩) q q] (w.alloc (.cells (strV ts).toArray 9)) fun e w' => Short k e ∧ Cur w' B A n cp (m + 2) ∧ w.grownBy w' (some B) := by
  subst hq
  have hb0 : Below w.heap.size w (w.alloc (.cells (strV ts).toArray 9)) := (Below.refl _ _).alloc (Nat.le_refl _) _
  have hlt := hc.lt
  refine (of_calls B n cp m A zs (some ⟨w.heap.size, 0, none⟩) ts.length ts _ (hc.kept hb0) (hr.alloc (Nat.le_of_lt hlt) _) hn hm hz hlim ((rd_new w (strV ts) 9).more (by simp)) (fun b o e => by injection e with e; injection e with e; omega) ht1 ht2).mono ?_
  rintro e w' ⟨h1, h2, h3⟩
  exact ⟨short_of h1 hk, h2, (grown_of_below hb0 (some B)).trans h3⟩

theorem any1_calls (B n cp m : Nat) (A : Option Addr) (zs : List Int) (w : World) (hc : Cur w B A n cp m) (hr : Rd w B A (intV .u8 zs)) (hn : zs.length = n) (hm : n ≤ 65536) (hz : ∀ z ∈ zs, (Lit.int .u8 z).wf = true) (hlim : m ≤ 999999) :
    Calls Tryd.prog 29 #[.pointer (some ⟨B, 0, none⟩)] w fun e w' => Short 10 e ∧ Cur w' B A n cp (m + 2) ∧ w.grownBy w' (some B) := by
  have HO := Lib.hid (fun ts h1 h2 h3 q h4 => of_lit B n cp m 10 A zs ts w hc hr hn hm hz hlim h1 h2 h3 q h4)
  clear hc hr hn hz
  go_enter Tryd.func29, Tryd.ntmps29
  go_wp2_with fail
  refine (HO.out [⟨#[]⟩, ⟨#[97]⟩, ⟨#[97, 44, 98]⟩, ⟨#[115, 111, 109, 101, 32, 119, 111, 114, 100, 115]⟩, ⟨#[120, 35, 121]⟩, ⟨#[45, 49, 50]⟩, ⟨#[0, 255]⟩, ⟨#[44, 44]⟩, ⟨#[48]⟩] (by decide) (by decide) (by decide) 9 rfl).mono ?_
  rintro e w' ⟨⟨t, rfl, ht⟩, hcu, hg⟩
  go_wp2_with fail
  go_ret
  exact ⟨⟨t, rfl, ht⟩, hcu, hg⟩

/-- A new cursor. -/
theorem cur_new (w : World) (A : Option Addr) (n cp : Nat) : Cur (w.alloc (.cells #[.slice A n cp, .int .i64 0, .int .u64 0] 37)) w.heap.size A n cp 0 :=
  ⟨0, 0, Nat.le_refl _, by omega, by omega, heap_alloc_new w _⟩

theorem foldl_push_size (ns : List Int) (b : ByteArray) : (ns.foldl (fun r n => r.push (UInt8.ofNat n.toNat)) b).size = b.size + ns.length := by
  induction ns generalizing b with
  | nil => rfl
  | cons n r ih => rw [List.foldl_cons, ih, ByteArray.size_push, List.length_cons]; omega
theorem info_byte : (Tryd.prog.info? 5).map (fun i => (i.zero, i.size, i.bytes)) = some (some (.int .u8 0), 1, 1) := by kernel_rfl
/-- string(make([]byte, k)): some string of k bytes. -/
theorem made_string (W : World) (k : Nat) (hk : k ≤ 5000) : ∃ (w' : World) (Z : ByteArray), Z.size = k ∧ (Instr.makeSlice 22 (.int .i64 k) (.int .i64 k)).run Tryd.prog W = .ok (.slice (some ⟨W.heap.size, 0, none⟩) k k) w' ∧
    (convert 22 9 (.slice (some ⟨W.heap.size, 0, none⟩) k k)).run Tryd.prog w' = .ok (.string Z) w' ∧ Below W.heap.size W w' := by
  obtain ⟨i0, hi0, hz0, hz1, hz2⟩ := info_parts info_byte
  obtain ⟨w', hrun, hown, hg⟩ := run_make_full (P := Tryd.prog) W W.heap.size 22 5 i0 _ 1 Tryd.underlying22 hi0 hz0 hz1 .i64 .i64 k (by rw [hz2]; omega) (by simp only [maxLen]; omega) (Nat.le_refl _)
  rw [show (madeCells (Value.int .u8 0).cells (k * 1)).toList = List.replicate k (.int .u8 0) by rw [Nat.mul_one]; exact toList_madeCells_one _ _] at hown
  refine ⟨w', (List.replicate k 0).foldl (fun r (n : Int) => r.push (UInt8.ofNat n.toNat)) ByteArray.empty, ?_, hrun, ?_, (Below.refl _ _).grown hg (Nat.le_refl _) (by simp)⟩
  rotate_left
  · rw [run_convert_bytes_string _ _ _ 5 _ _ _ Tryd.underlying22 Tryd.underlying5 Tryd.underlying9]
    refine run_bytesToString _ _ _ _ (List.replicate k 0) ?_
    have h := run_loadCells_list (P := Tryd.prog) (w := w') ⟨W.heap.size, 0, none⟩ (List.replicate k (.int .u8 0)) (hown.cells (g := W.heap.size) rfl)
    rw [List.length_replicate] at h
    rw [h, List.map_replicate]
  · rw [foldl_push_size, List.length_replicate]; simp


end Go.Proofs.YtnkbpoenncgcnaaDoor
