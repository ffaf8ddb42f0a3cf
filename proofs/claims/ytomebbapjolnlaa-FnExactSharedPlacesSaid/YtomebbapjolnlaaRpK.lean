/-
  Windows of a list that see a place: whether there is one, as the library's ContainsFunc finds it.
-/
import Derived.Test.YtomebbapjolnlaaSeen1
namespace Go.Proofs.Ytomebbapjolnlaa
open Go.RowKit

/-- Whether some window of a list sees a place. -/
def anyB (L : List Win) (ar pl : Int) : Bool := decide (0 < (idxsTo (seesB L ar pl) L.length).length)
theorem idxs_none {p : Nat → Bool} {k : Nat} (h : ∀ q, q < k → p q = false) : (idxsTo p k).length = 0 := by
  induction k with
  | zero => rfl
  | succ k ih => rw [idxsTo_no (h k (by omega))]; exact ih fun q hq => h q (by omega)
theorem idxs_some {p : Nat → Bool} {n k : Nat} (h : p k = true) (hk : k < n) : 0 < (idxsTo p n).length := by
  induction n with
  | zero => omega
  | succ n ih =>
    rcases Nat.lt_or_ge k n with h1 | h1
    · have := ih h1
      rcases hp : p n with _ | _
      · rw [idxsTo_no hp]; exact this
      · rw [idxsTo_yes hp]; simp
    · obtain rfl : k = n := by omega
      rw [idxsTo_yes h]; simp

/-- What IndexFunc answers, where it looks for b. -/
def Found (b : Bool) (e : Ending) : Prop := (∃ i : Nat, e = .returned (.int .i64 i) ∧ b = true) ∨ (e = .returned (.int .i64 (-1)) ∧ b = false)

set_option maxRecDepth 100000 in
set_option maxHeartbeats 1600000 in
theorem indexSeen_calls (B : Option Addr) (ck : Nat) (L : List Win) (ar pl : Int) (w : World) (hx : RdW w w.heap.size B L) (ht : ∀ x ∈ L, Tame x) (hl : L.length ≤ 12) :
    Calls Try.prog 124 #[.slice B L.length ck, .func (.func 102) #[.agg #[.int .i64 ar, .int .i64 pl]] #[]] w fun e w' => Found (anyB L ar pl) e ∧ Below w.heap.size w w' := by
  have HX := Lib.hid hx
  have HT := Lib.hid ht
  clear hx ht
  go_enter Try.func124, Try.ntmps124
  go_wp2_with fail
  go_loopw [8] (fun i wr => ∃ k : Nat, k ≤ L.length ∧ i = .int .i64 k ∧ (∀ q, q < k → seesB L ar pl q = false) ∧ Below w.heap.size w wr) (fun i _ => L.length - (intOf i).toNat)
  case atStart => exact ⟨0, Nat.zero_le _, rfl, fun q hq => absurd hq (Nat.not_lt_zero q), Below.refl _ _⟩
  case round =>
    obtain ⟨k, hk, rfl, hno, hbr⟩ := hrel
    have HN := Lib.hid hno
    have HBR := Lib.hid hbr
    clear hno hbr
    by_cases hlt : k < L.length
    · obtain ⟨b, off, rfl, hbb, e0, e1, e2, e3⟩ := (HX.out.below HBR.out).at_ hlt
      have HS := Lib.hid (seenBy_calls L[k] ar pl wr (HT.out _ (List.getElem_mem hlt)))
      have HPK : Hid (decide (SeesP L[k] ar pl) = seesB L ar pl k) := Lib.hid (by rw [seesB, winAt_eq hlt])
      rw [HPK.out] at HS
      generalize L[k] = x at *
      rcases hpk : seesB L ar pl k with _ | _
      · have HSN := Lib.hid (show ∀ q, q < k + 1 → seesB L ar pl q = false from fun q hq => by
          rcases Nat.lt_or_ge q k with h | h
          · exact HN.out q h
          · obtain rfl : q = k := by omega
            exact hpk)
        rw [hpk] at HS
        clear hpk HPK
        go_wp2_with fail
        refine HS.out.mono ?_
        rintro e w4 ⟨rfl, hb4⟩
        have HB4 := Lib.hid (HBR.out.trans (hb4.mono HBR.out.size))
        clear hb4 e0 e1 e2 e3
        go_wp2_with fail
        go_roundw
        case rel => exact ⟨k + 1, by omega, by go_num, HSN.out, HB4.out⟩
        case measure => simp [intOf]; omega
      · have HF := Lib.hid (show anyB L ar pl = true from decide_eq_true (idxs_some hpk hlt))
        rw [hpk] at HS
        clear hpk HPK
        go_wp2_with fail
        refine HS.out.mono ?_
        rintro e w4 ⟨rfl, hb4⟩
        have HB4 := Lib.hid (HBR.out.trans (hb4.mono HBR.out.size))
        clear hb4 e0 e1 e2 e3
        go_wp2_with fail
        go_ret
        exact ⟨.inl ⟨k, rfl, HF.out⟩, HB4.out⟩
    · obtain rfl : k = L.length := by omega
      have HF := Lib.hid (show anyB L ar pl = false from decide_eq_false (by rw [idxs_none HN.out]; omega))
      go_wp2_with fail
      go_ret
      exact ⟨.inr ⟨rfl, HF.out⟩, HBR.out⟩

set_option maxRecDepth 100000 in
theorem anySeen_calls (B : Option Addr) (ck : Nat) (L : List Win) (ar pl : Int) (w : World) (hx : RdW w w.heap.size B L) (ht : ∀ x ∈ L, Tame x) (hl : L.length ≤ 12) :
    Calls Try.prog 101 #[.slice B L.length ck, .func (.func 102) #[.agg #[.int .i64 ar, .int .i64 pl]] #[]] w fun e w' => e = .returned (.bool (anyB L ar pl)) ∧ Below w.heap.size w w' := by
  have HC := Lib.hid (indexSeen_calls B ck L ar pl w hx ht hl)
  clear hx ht
  go_enter Try.func101, Try.ntmps101
  go_wp2_with fail
  refine HC.out.mono ?_
  rintro e w2 ⟨⟨i, rfl, hb⟩ | ⟨rfl, hb⟩, hb2⟩
  · have HB := Lib.hid hb
    have HB2 := Lib.hid hb2
    clear hb hb2
    have hi : (0 : Int) ≤ (i : Int) := by omega
    go_wp2_with fail
    go_ret
    exact ⟨ret_bool (by rw [HB.out]), HB2.out⟩
  · have HB := Lib.hid hb
    have HB2 := Lib.hid hb2
    clear hb hb2
    go_wp2_with fail
    go_ret
    exact ⟨ret_bool (by rw [HB.out]), HB2.out⟩
end Go.Proofs.Ytomebbapjolnlaa
