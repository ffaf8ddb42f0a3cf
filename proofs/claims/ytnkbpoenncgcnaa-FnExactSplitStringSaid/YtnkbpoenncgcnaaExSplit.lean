/-
  FnExactSplitString: the walk of the law.
-/
import Derived.Test.YtnkbpoenncgcnaaSplit3
import Derived.Test.YtnkbpoenncgcnaaStrs
import Derived.Test.YtnkbpoenncgcnaaMark
namespace Go.Proofs.Ytnkbpoenncgcnaa
open Go.RowKit

/-- Rows made one behind the other do not share a block. -/
theorem own_apart {w w1 w2 : World} {base e1 : Nat} {v1 v2 : Value} {n1 n2 : Nat} {xs1 xs2 : List Value} (h1 : w1.ownsRow base e1 1 v1 n1 xs1) (h2 : w2.ownsRow w1.heap.size e1 1 v2 n2 xs2) :
    v1.ownBlock = none ∨ v1.ownBlock ≠ v2.ownBlock := by
  rcases hv : v1.ownBlock with _ | g
  · exact .inl rfl
  · right
    intro e
    have a := (h1.lt g hv).2
    have b := (h2.lt g e.symm).1
    omega

set_option maxHeartbeats 400000 in
theorem fnExactSplitString_walk (s sep : ByteArray) (w : World) (hs : s.size ≤ maxLen) (hp : sep.size ≤ maxLen) :
    Calls Try.prog 4 #[.string s, .string sep] w fun e w' => e = .returned (.bool true) ∧ Below w.heap.size w w' := by
  obtain ⟨zs, b, h⟩ := splitOf_ex s sep
  have hz := splitOf_len h
  have HS := Lib.hid (specSplit_calls s sep zs b w hs hp h)
  have HI := Lib.hid (fun W => implSplit_calls s sep zs b W hs hp h)
  unfold maxLen at hs hp
  clear h
  by_cases hs1 : s.size ≤ 1048576
  · by_cases hp1 : sep.size ≤ 1048576
    · go_enter Try.func4, Try.ntmps4
      go_wp2_with fail
      refine HS.out.mono ?_
      rintro e w1 ⟨v1, rfl, ho1, hb1⟩
      obtain ⟨A1, c1, rfl⟩ := own_form ho1
      have HO1 := Lib.hid ho1
      have HB1 := Lib.hid hb1
      clear ho1 hb1
      go_wp2_with fail
      refine (HI.out w1).mono ?_
      rintro e w2 ⟨v2, rfl, ho2, hb2⟩
      obtain ⟨A2, c2, rfl⟩ := own_form ho2
      have HO12 := Lib.hid (own_below HO1.out hb2)
      have HO2 := Lib.hid ho2
      have HAP := Lib.hid (own_apart (w := w) HO1.out ho2)
      have HB2 := Lib.hid (HB1.out.trans (hb2.mono HB1.out.size))
      have HSZ := Lib.hid hb2.size
      clear ho2 hb2
      go_wp2_with fail
      have C3 := eqStringS_calls A2 A1 c2 c1 zs zs w2 (Rd.of_own HO2.out) (Rd.of_own HO12.out) (by unfold maxLen; omega) (by unfold maxLen; omega)
      rw [decide_eq_true rfl] at C3
      refine C3.mono ?_
      clear C3
      rintro e w3 ⟨rfl, n3, hw3⟩
      have HO13 : Hid (w3.ownsRow w.heap.size 9 1 (.slice A1 zs.length c1) zs.length (strV zs)) := by rw [hw3]; exact own_drewN HO12.out n3
      have HO23 : Hid (w3.ownsRow w1.heap.size 9 1 (.slice A2 zs.length c2) zs.length (strV zs)) := by rw [hw3]; exact own_drewN HO2.out n3
      have HB3 : Hid (Below w.heap.size w w3) := by rw [hw3]; exact below_drewN HB2.out n3
      have HSZ3 : Hid (w1.heap.size ≤ w3.heap.size) := by rw [hw3]; exact HSZ.out
      clear hw3
      go_wp2_with fail
      have C4 := markStringS_calls A2 c2 w1.heap.size zs 1 w3 HO23.out hz (by omega) (by omega) HSZ3.out
      rw [show ((1 : Nat) : Int) = 1 from rfl] at C4
      refine C4.mono ?_
      clear C4
      rintro e w4 ⟨rfl, ho4, hg4⟩
      have HO14 := Lib.hid (HO13.out.kept hg4 HAP.out)
      have HO4 := Lib.hid ho4
      have HB4 : Hid (Below w.heap.size w w4) := HB3.out.grown hg4 HB3.out.size fun k hk => Nat.le_trans HB1.out.size (ho4.lt k hk).1
      clear ho4 hg4
      go_wp2_with fail
      have C5 := heldStringS_calls A2 c2 zs.length 1 w4 (Rd.of_own HO4.out) hz (by omega) (by omega)
      rw [show ((1 : Nat) : Int) = 1 from rfl] at C5
      refine C5.mono ?_
      clear C5
      rintro e w5 ⟨rfl, hb5⟩
      have HO15 := Lib.hid (own_below HO14.out hb5)
      have HO5 := Lib.hid (own_below HO4.out hb5)
      have HB5 := Lib.hid (HB4.out.trans (hb5.mono HB4.out.size))
      clear hb5
      go_wp2_with fail
      refine (HI.out w5).mono ?_
      rintro e w6 ⟨v6, rfl, ho6, hb6⟩
      obtain ⟨A6, c6, rfl⟩ := own_form ho6
      have HO6 := Lib.hid ho6
      have HO16 := Lib.hid (own_below HO15.out hb6)
      have HO56 := Lib.hid (own_below HO5.out hb6)
      have HB6 := Lib.hid (HB5.out.trans (hb6.mono HB5.out.size))
      clear ho6 hb6
      go_wp2_with fail
      have C7 := eqStringS_calls A6 A1 c6 c1 zs zs w6 (Rd.of_own HO6.out) (Rd.of_own HO16.out) (by unfold maxLen; omega) (by unfold maxLen; omega)
      rw [decide_eq_true rfl] at C7
      refine C7.mono ?_
      clear C7
      rintro e w7 ⟨rfl, n7, hw7⟩
      have HO57 : Hid (w7.ownsRow w1.heap.size 9 1 (.slice A2 zs.length c2) zs.length (strV (marks 1 zs.length))) := by rw [hw7]; exact own_drewN HO56.out n7
      have HB7 : Hid (Below w.heap.size w w7) := by rw [hw7]; exact below_drewN HB6.out n7
      clear hw7
      go_wp2_with fail
      have C8 := heldStringS_calls A2 c2 zs.length 1 w7 (Rd.of_own HO57.out) hz (by omega) (by omega)
      rw [show ((1 : Nat) : Int) = 1 from rfl] at C8
      refine C8.mono ?_
      clear C8
      rintro e w8 ⟨rfl, hb8⟩
      have HB8 := Lib.hid (HB7.out.trans (hb8.mono HB7.out.size))
      clear hb8
      go_wp2_with fail
      go_ret
      exact ⟨rfl, HB8.out⟩
    · go_enter Try.func4, Try.ntmps4
      go_wp2_with fail
      go_ret
      exact ⟨rfl, Below.refl _ _⟩
  · go_enter Try.func4, Try.ntmps4
    go_wp2_with fail
    go_ret
    exact ⟨rfl, Below.refl _ _⟩
end Go.Proofs.Ytnkbpoenncgcnaa
