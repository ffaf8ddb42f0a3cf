/-
  Lists of bytes compared: bytes.Compare of the program's library, l2Order of the model.
-/
import Derived.Test.YtoelagfcapdfpaaIsB
import Derived.Lib.Bytealg
import Derived.BigQuiet
import Derived.Lib.BytesEntry
import Derived.Laws.Externs
namespace Go.Proofs.Ytoelagfcapdfpaa
open Go.RowKit

theorem bytesOf_cons (z : Int) (xs : List Int) : Lib.bytesOf (z :: xs) = UInt8.ofNat z.toNat :: Lib.bytesOf xs := rfl
theorem u8_lt {z b : Int} (hz : IsB z) (hb : IsB b) : (UInt8.ofNat z.toNat < UInt8.ofNat b.toNat) ↔ z < b := by
  obtain ⟨h1, h2⟩ := hz
  obtain ⟨h3, h4⟩ := hb
  rw [UInt8.lt_iff_toNat_lt]
  simp
  omega
/-- How two lists of bytes compare. -/
def cmpI (xs ys : List Int) : Int := Lib.compareBytes (Lib.bytesOf xs) (Lib.bytesOf ys)
theorem cmp_drop : ∀ (i : Nat) (xs ys : List Int), xs.take i = ys.take i → i ≤ xs.length → i ≤ ys.length → cmpI xs ys = cmpI (xs.drop i) (ys.drop i)
  | 0, _, _, _, _, _ => rfl
  | i + 1, [], _, _, h, _ => by simp at h
  | i + 1, _ :: _, [], _, _, h => by simp at h
  | i + 1, x :: xs, y :: ys, h, h1, h2 => by
    rw [List.take_succ_cons, List.take_succ_cons] at h
    injection h with h0 h
    subst h0
    have ih := cmp_drop i xs ys h (by simpa using h1) (by simpa using h2)
    rw [List.drop_succ_cons, List.drop_succ_cons, ← ih]
    unfold cmpI
    rw [bytesOf_cons, bytesOf_cons, Lib.compareBytes]
    simp [UInt8.lt_irrefl]
theorem cmp_at {i : Nat} {xs ys : List Int} (h : xs.take i = ys.take i) (h1 : i < xs.length) (h2 : i < ys.length) (hx : ∀ z ∈ xs, IsB z) (hy : ∀ z ∈ ys, IsB z) :
    (xs[i] < ys[i] → cmpI xs ys = -1) ∧ (ys[i] < xs[i] → cmpI xs ys = 1) := by
  have e : cmpI xs ys = if xs[i] < ys[i] then -1 else if ys[i] < xs[i] then 1 else cmpI (xs.drop (i + 1)) (ys.drop (i + 1)) := by
    rw [cmp_drop i xs ys h (by omega) (by omega), List.drop_eq_getElem_cons h1, List.drop_eq_getElem_cons h2]
    unfold cmpI
    rw [bytesOf_cons, bytesOf_cons, Lib.compareBytes]
    simp only [u8_lt (hx _ (List.getElem_mem h1)) (hy _ (List.getElem_mem h2)), u8_lt (hy _ (List.getElem_mem h2)) (hx _ (List.getElem_mem h1))]
  exact ⟨fun hl => by rw [e, if_pos hl], fun hl => by rw [e, if_neg (by omega), if_pos hl]⟩
theorem cmp_end {i : Nat} {xs ys : List Int} (h : xs.take i = ys.take i) (h1 : i ≤ xs.length) (h2 : i ≤ ys.length) (h3 : ¬ (i < xs.length ∧ i < ys.length)) :
    cmpI xs ys = if xs.length < ys.length then -1 else if ((xs.length : Int) - ys.length) < 1 then (xs.length : Int) - ys.length else 1 := by
  rw [cmp_drop i xs ys h h1 h2]
  have l1 : (xs.drop i).length = xs.length - i := List.length_drop ..
  have l2 : (ys.drop i).length = ys.length - i := List.length_drop ..
  unfold cmpI
  cases hx : xs.drop i with
  | nil =>
    rw [hx] at l1
    simp only [List.length_nil] at l1
    cases hy : ys.drop i with
    | nil =>
      rw [hy] at l2
      simp only [List.length_nil] at l2
      rw [if_neg (by omega), if_pos (by omega)]
      show (0 : Int) = _
      omega
    | cons b bs =>
      rw [hy] at l2
      simp only [List.length_cons] at l2
      rw [if_pos (by omega)]
      rfl
  | cons a rs =>
    rw [hx] at l1
    simp only [List.length_cons] at l1
    cases hy : ys.drop i with
    | nil =>
      rw [hy] at l2
      simp only [List.length_nil] at l2
      rw [if_neg (by omega), if_neg (by omega)]
      rfl
    | cons b bs =>
      rw [hy] at l2
      simp only [List.length_cons] at l2
      omega

section
variable {P : Program} (w : World)
theorem load_bytes (b off n : Nat) (xs : List Int) (hx : xs.length = n) (hc : ∀ i, i < n → w.cell? ⟨b, off + i, none⟩ = some (.int .u8 (xs.getD i 0))) :
    (Extern.Bytes.loadBytes ⟨b, off, none⟩ n .empty).run P w = .ok ⟨(Lib.bytesOf xs).toArray⟩ w := by
  have hl := Lib.run_loadBytesX (P := P) w xs ⟨b, off, none⟩ .empty (fun j x hj => by
    have hjl : j < xs.length := (List.getElem?_eq_some_iff.1 hj).1
    have e : (⟨b, off, none⟩ : Addr).add j = ⟨b, off + j, none⟩ := by unfold Addr.add; split <;> simp_all
    rw [e, hc j (by omega), List.getD_eq_getElem?_getD, hj]
    rfl)
  rw [hx] at hl
  have he : (⟨ByteArray.empty.data ++ (Lib.bytesOf xs).toArray⟩ : ByteArray) = ⟨(Lib.bytesOf xs).toArray⟩ := by
    apply ByteArray.ext
    show (#[] : Array UInt8) ++ (Lib.bytesOf xs).toArray = (Lib.bytesOf xs).toArray
    simp
  rw [he] at hl
  exact hl
theorem run_compareSlices (b off n c b2 off2 n2 c2 : Nat) (xs ys : List Int) (hx : xs.length = n) (hy : ys.length = n2)
    (hc : ∀ i, i < n → w.cell? ⟨b, off + i, none⟩ = some (.int .u8 (xs.getD i 0))) (hd : ∀ i, i < n2 → w.cell? ⟨b2, off2 + i, none⟩ = some (.int .u8 (ys.getD i 0))) :
    (Extern.BytealgCompare.compare #[.slice (some ⟨b, off, none⟩) n c, .slice (some ⟨b2, off2, none⟩) n2 c2]).run P w = .ok (.int .i64 (cmpI xs ys)) w := by
  have h1 := load_bytes (P := P) w b off n xs hx hc
  have h2 := load_bytes (P := P) w b2 off2 n2 ys hy hd
  change Sem.run P (do pure (goInt (Extern.BytealgCompare.cmp (← Extern.Bytes.bytesOf (.slice (some ⟨b, off, none⟩) n c)) (← Extern.Bytes.bytesOf (.slice (some ⟨b2, off2, none⟩) n2 c2))))) w = _
  simp only [Extern.Bytes.bytesOf, Sem.run_bind, Sem.run_pure, h1, h2, Result.andThen]
  rw [Lib.cmp_eq]
  rfl
end
theorem rd_getD {w : World} {B b off : Nat} {zs : List Int} (h : Rd w B (some ⟨b, off, none⟩) (intV .u8 zs)) : ∀ i, i < zs.length → w.cell? ⟨b, off + i, none⟩ = some (.int .u8 (zs.getD i 0)) := fun i hi => by
  obtain ⟨b2, off2, e2, hbb2, hc2⟩ := h.int (i := i) hi
  injection e2 with e2; injection e2 with e2 e3; subst e2; subst e3
  rw [hc2, List.getD_eq_getElem?_getD, List.getElem?_eq_getElem hi]
  rfl
set_option maxRecDepth 100000 in
theorem cmp_calls (b off n c b2 off2 n2 c2 : Nat) (xs ys : List Int) (w : World) (hx : xs.length = n) (hy : ys.length = n2) {B B2 : Nat} (hr : Rd w B (some ⟨b, off, none⟩) (intV .u8 xs)) (hq : Rd w B2 (some ⟨b2, off2, none⟩) (intV .u8 ys)) :
    Calls Try.prog 106 #[.slice (some ⟨b, off, none⟩) n c, .slice (some ⟨b2, off2, none⟩) n2 c2] w fun e w' => e = .returned (.int .i64 (cmpI xs ys)) ∧ w' = w := by
  have HC := Lib.hid (rd_getD hr)
  have HD := Lib.hid (rd_getD hq)
  subst hx
  subst hy
  clear hr hq
  go_enter Try.func106, Try.ntmps106
  go_wp2
  rw [run_callFunc_extern Try.func122 (by kernel_rfl) (by kernel_rfl) (by kernel_rfl) (e := Extern.BytealgCompare.compare) (by kernel_rfl), run_compareSlices w b off xs.length c b2 off2 ys.length c2 xs ys rfl rfl HC.out HD.out]
  simp only [Result.andThen]
  rw [Oper.upon_value]
  go_wp2
  go_ret
  exact ⟨rfl, rfl⟩

end Go.Proofs.Ytoelagfcapdfpaa
