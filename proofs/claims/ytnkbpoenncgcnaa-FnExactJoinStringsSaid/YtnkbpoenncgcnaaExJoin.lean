/-
  FnExactJoinStrings: the walk of the law.
-/
import Derived.Test.YtnkbpoenncgcnaaJoin2
import Derived.Test.YtnkbpoenncgcnaaStrs
namespace Go.Proofs.Ytnkbpoenncgcnaa
open Go.RowKit

theorem joinV_form (zs : List ByteArray) (sep : ByteArray) : ∃ (o : ByteArray) (b : Bool), joinV zs sep = .tuple #[.string o, .bool b] := by
  unfold joinV
  split
  · split
    · exact ⟨_, _, rfl⟩
    · exact ⟨_, _, rfl⟩
  · exact ⟨_, _, rfl⟩

theorem fnExactJoinStrings_walk (A : Option Addr) (len cap : Nat) (zs : List ByteArray) (sep : ByteArray) (w : World) (ha : StrArg w A len cap zs) (hs : sep.size ≤ maxLen) :
    Calls Try.prog 5 #[.slice A len cap, .string sep] w fun e w' => e = .returned (.bool true) ∧ Below w.heap.size w w' := by
  obtain ⟨rfl, hcap, hmax, hr, hsz⟩ := ha
  have hs' := Lib.hid hs
  unfold maxLen at hs
  have HSZ := Lib.hid (szStringS_calls A cap zs w 1048576 hr hmax hsz (by omega) (by omega))
  have HR := Lib.hid hr
  obtain ⟨o, b, hJ⟩ := joinV_form zs sep
  have HJ := Lib.hid hJ
  clear hr hsz hJ
  go_enter Try.func5, Try.ntmps5
  go_wp2_with (go_at_call 21; refine HSZ.out.mono ?_; rintro e w' ⟨⟨r, rfl, hr⟩, rfl⟩)
  · go_ret
    exact ⟨rfl, Below.refl _ _⟩
  · go_ret
    exact ⟨rfl, Below.refl _ _⟩
  · have hbd : zs.length ≤ 1048576 ∧ sizes zs ≤ 1048576 := by omega
    have hz1 : ∀ z ∈ zs, z.size ≤ 1048576 := fun z h => Nat.le_trans (by
      obtain ⟨i, hi, rfl⟩ := List.getElem_of_mem h
      have a := sizes_snoc zs i hi
      have b := sizes_le zs (i + 1)
      omega) hbd.2
    obtain ⟨hn, _⟩ := hbd
    have HZ1 := Lib.hid hz1
    clear hr hz1
    refine (toStringS_calls A cap zs _ HR.out hn).mono ?_
    rintro e w1 ⟨v1, rfl, ho1, hb1⟩
    obtain ⟨A1, c1, rfl⟩ := own_form ho1
    have HO1 := Lib.hid ho1
    have HB1 := Lib.hid hb1
    clear ho1 hb1
    go_wp2_with fail
    have C2 := specJoin_calls A1 c1 zs sep w1 (Rd.of_own HO1.out) hn HZ1.out hs'.out
    rw [HJ.out] at C2
    refine C2.mono ?_
    clear C2
    rintro e w2 ⟨rfl, n2, hw2⟩
    have HB2 : Hid (Below w.heap.size w w2) := by rw [hw2]; exact below_drewN HB1.out n2
    clear hw2
    go_wp2_with fail
    refine (toStringS_calls A cap zs w2 ((HR.out.below HB2.out).more HB2.out.size) hn).mono ?_
    rintro e w3 ⟨v3, rfl, ho3, hb3⟩
    obtain ⟨A3, c3, rfl⟩ := own_form ho3
    have HO3 := Lib.hid ho3
    have HB3 := Lib.hid (HB2.out.trans (hb3.mono HB2.out.size))
    clear ho3 hb3
    go_wp2_with fail
    have C4 := implJoin_calls A3 c3 zs sep w3 (Rd.of_own HO3.out) (own_cap HO3.out) hn HZ1.out hs'.out
    rw [HJ.out] at C4
    refine C4.mono ?_
    clear C4
    rintro e w4 ⟨rfl, hb4⟩
    have HO4 := Lib.hid (own_below HO3.out hb4)
    have HB4 := Lib.hid (HB3.out.trans (hb4.mono HB3.out.size))
    clear hb4
    go_wp2_with fail
    refine (toStringS_calls A cap zs w4 ((HR.out.below HB4.out).more HB4.out.size) hn).mono ?_
    rintro e w5 ⟨v5, rfl, ho5, hb5⟩
    obtain ⟨A5, c5, rfl⟩ := own_form ho5
    have HO5 := Lib.hid ho5
    have HO45 := Lib.hid (own_below HO4.out hb5)
    have HB5 := Lib.hid (HB4.out.trans (hb5.mono HB4.out.size))
    clear ho5 hb5
    go_wp2_with fail
    have C6 := eqStringS_calls A3 A5 c3 c5 zs zs w5 (Rd.of_own HO45.out) (Rd.of_own HO5.out) hmax hmax
    rw [decide_eq_true rfl] at C6
    refine C6.mono ?_
    clear C6
    rintro e w6 ⟨rfl, n6, hw6⟩
    have HB6 : Hid (Below w.heap.size w w6) := by rw [hw6]; exact below_drewN HB5.out n6
    clear hw6
    go_wp2_with fail
    go_ret
    exact ⟨rfl, HB6.out⟩
end Go.Proofs.Ytnkbpoenncgcnaa
