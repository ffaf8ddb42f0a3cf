/-
  FnStrings: the walk of the law.
-/
import Derived.Test.YtnkbpoenncgcnaaDoorDrawS
import Derived.Test.YtnkbpoenncgcnaaDoorExParse
import Derived.Test.YtnkbpoenncgcnaaDoorDetect
import Derived.StillTailTactics
import Derived.Lib.ConvBytes
import Derived.Laws.BitsAllLaws
namespace Go.Proofs.YtnkbpoenncgcnaaDoor
open Go.RowKit

theorem formV_form (n : Int) : ∃ (o : ByteArray) (b : Bool), formV n = .tuple #[.string o, .bool b] ∧ ((b = true ∧ o = numB n ∧ -999999 ≤ n ∧ n ≤ 999999) ∨ (b = false ∧ o = ByteArray.empty)) := by
  by_cases h : -999999 ≤ n ∧ n ≤ 999999
  · exact ⟨_, _, formV_yes h.1 h.2, .inl ⟨rfl, rfl, h.1, h.2⟩⟩
  · exact ⟨_, _, formV_no (by omega), .inr ⟨rfl, rfl⟩⟩
theorem numB_inj {a b : Int} (h : numB a = numB b) : a = b := by
  have m0 : ∀ n : Int, n < 0 → (numB n).data.toList.head? = some 45 := fun n hn => by rw [numB_neg hn]; simp
  have m1 : ∀ n : Int, 0 ≤ n → (numB n).data.toList.head? ≠ some 45 := fun n hn e => by
    rw [numB_pos hn, digs_data] at e
    have := isDigs_dec n.toNat 45 (List.mem_of_mem_head? e)
    have e45 : (45 : UInt8).toNat = 45 := rfl
    omega
  by_cases ha : a < 0
  · by_cases hb : b < 0
    · rw [numB_neg ha, numB_neg hb] at h
      have h2 := congrArg (fun s : ByteArray => s.data.toList) h
      simp at h2
      have := digs_inj (a := -a) (b := -b) (by omega) (by omega) (bytes_list_inj (by simpa using h2))
      omega
    · exact absurd (h ▸ m0 a ha) (m1 b (by omega))
  · by_cases hb : b < 0
    · exact absurd (h ▸ m0 b hb : (numB a).data.toList.head? = some 45) (m1 a (by omega))
    · rw [numB_pos (by omega), numB_pos (by omega)] at h
      exact digs_inj (by omega) (by omega) h

theorem foldl_push_list (ns : List Int) (b : ByteArray) : (ns.foldl (fun r n => r.push (UInt8.ofNat n.toNat)) b).data.toList = b.data.toList ++ ns.map (fun n => UInt8.ofNat n.toNat) := by
  induction ns generalizing b with
  | nil => simp
  | cons n r ih => rw [List.foldl_cons, ih, List.map_cons]; simp
/-- The bytes in a block, turned into a string. -/
theorem string_of_cells (W : World) (h cap : Nat) (L : List UInt8) (hc : ∀ j v, L[j]? = some v → W.cell? ⟨h, j, none⟩ = some (.int .u8 v.toNat)) :
    ∃ Z : ByteArray, Z.data.toList = L ∧ (convert 22 9 (.slice (some ⟨h, 0, none⟩) L.length cap)).run Tryd.prog W = .ok (.string Z) W := by
  refine ⟨(L.map fun c => (c.toNat : Int)).foldl (fun r n => r.push (UInt8.ofNat n.toNat)) ByteArray.empty, ?_, ?_⟩
  · rw [foldl_push_list]
    simp [List.map_map, Function.comp_def]
  · rw [run_convert_bytes_string _ _ _ 5 _ _ _ Tryd.underlying22 Tryd.underlying5 Tryd.underlying9]
    refine run_bytesToString _ _ _ _ (L.map fun c => (c.toNat : Int)) ?_
    have hr := run_loadCells_list (P := Tryd.prog) (w := W) ⟨h, 0, none⟩ (L.map fun c => Value.int .u8 (c.toNat : Int)) (fun j v hv => by
      rw [List.getElem?_map] at hv
      obtain ⟨c, hcj, rfl⟩ := Option.map_eq_some_iff.1 hv
      have := hc j c hcj
      simp only [Addr.add]
      by_cases h0 : j = 0
      · subst h0; simpa using this
      · simpa [h0] using this)
    rw [List.length_map] at hr
    rw [hr, List.map_map]
    rfl
/-- []byte(y): a new block that holds the bytes. -/
theorem bytes_of_string (W : World) (y : ByteArray) : ∃ (cap : Nat) (W' : World), (convert 9 22 (.string y)).run Tryd.prog W = .ok (.slice (some ⟨W.heap.size, 0, none⟩) y.size cap) W' ∧
    (∀ j (h : j < y.size), W'.cell? ⟨W.heap.size, j, none⟩ = some (.int .u8 (y[j]).toNat)) ∧ (∀ j, j < y.size → W'.frozen? ⟨W.heap.size, j, none⟩ = false) ∧ W'.heap.size = W.heap.size + 1 ∧ Below W.heap.size W W' := by
  refine ⟨_, Lib.bytesWorld W 5 y, Lib.run_convert_string_bytes W 9 22 5 y Tryd.underlying9 Tryd.underlying22 Tryd.underlying5, ?_, ?_, Lib.bytesWorld_size _ _ _, ?_⟩
  · intro j h
    rw [Lib.bytesWorld_cell W 5 y j h, List.getD_eq_getElem?_getD, List.getElem?_eq_getElem (by simpa using h)]
    rfl
  · intro j h
    have hb : y.size ≤ (Lib.bytesCells W 5 y).size := by
      unfold Lib.bytesCells
      rw [Array.size_append, Array.size_map]
      exact Nat.le_add_right _ _
    simp only [World.frozen?, Lib.bytesWorld_at_new]
    simp
    omega
  · exact ⟨rfl, rfl, rfl, by rw [Lib.bytesWorld_size]; omega, fun k hk => Lib.bytesWorld_at_old W 5 y k hk⟩
/-- A byte that is xored with 1 to 255 is another one. -/
theorem xor_other (c : UInt8) (d : Int) (h0 : 1 ≤ d) (h1 : d ≤ 255) : ∃ e : UInt8, bits .xor .u8 (c.toNat : Int) d = (e.toNat : Int) ∧ e ≠ c := by
  have hc := c.toNat_lt
  have hx := u8_xor_nat c.toNat d.toNat hc (by omega)
  rw [Int.toNat_of_nonneg (by omega)] at hx
  have hlt : c.toNat ^^^ d.toNat < 256 := Nat.xor_lt_two_pow (n := 8) hc (by omega)
  refine ⟨UInt8.ofNat (c.toNat ^^^ d.toNat), ?_, ?_⟩
  · rw [hx]
    congr 1
    rw [UInt8.toNat_ofNat']
    omega
  · intro e
    have e2 := congrArg UInt8.toNat e
    rw [UInt8.toNat_ofNat', Nat.mod_eq_of_lt hlt] at e2
    have e3 : d.toNat = 0 := by
      have := congrArg (fun z => c.toNat ^^^ z) e2
      simpa [← Nat.xor_assoc] using this
    omega
end Go.Proofs.YtnkbpoenncgcnaaDoor
