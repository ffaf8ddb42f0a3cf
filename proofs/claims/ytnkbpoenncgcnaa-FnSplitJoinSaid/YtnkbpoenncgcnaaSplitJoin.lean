/-
  FnSplitJoin: the walk of the law.
-/
import Derived.Test.YtnkbpoenncgcnaaDrawJ
import Derived.Test.YtnkbpoenncgcnaaSplit3
import Derived.Test.YtnkbpoenncgcnaaJoin
import Derived.Test.YtnkbpoenncgcnaaJoin2
namespace Go.Proofs.Ytnkbpoenncgcnaa
open Go.RowKit

/-- a stands ahead of b. -/
def lessB (a b : ByteArray) : Bool := Op.bytesLess a.toList b.toList
theorem bytesLess_asymm : ∀ (x y : List UInt8), Op.bytesLess x y = true → Op.bytesLess y x = false
  | _, [], h => by simp [Op.bytesLess] at h
  | [], _ :: _, _ => by simp [Op.bytesLess]
  | a :: x, b :: y, h => by
    simp only [Op.bytesLess, Bool.or_eq_true, Bool.and_eq_true, decide_eq_true_eq, beq_iff_eq, Bool.or_eq_false_iff, Bool.and_eq_false_iff, decide_eq_false_iff_not] at h ⊢
    rcases h with h | ⟨rfl, h⟩
    · refine ⟨fun h2 => ?_, .inl ?_⟩
      · exact absurd (UInt8.lt_trans h h2) (UInt8.lt_irrefl _)
      · rw [beq_eq_false_iff_ne]; rintro rfl; exact absurd h (UInt8.lt_irrefl _)
    · exact ⟨UInt8.lt_irrefl _, .inr (bytesLess_asymm x y h)⟩
theorem lessB_asymm {a b : ByteArray} (h : lessB a b = true) : lessB b a = false := bytesLess_asymm _ _ h
theorem implLess_calls (a b : ByteArray) (w : World) : Calls Try.prog 15 #[.string a, .string b] w fun e w' => e = .returned (.bool (lessB a b)) ∧ w = w' := by
  go_enter Try.func15, Try.ntmps15
  go_wp2
  go_ret
  exact ⟨rfl, rfl⟩
theorem specLess_calls (a b : ByteArray) (w : World) : Calls Try.prog 16 #[.string a, .string b] w fun e w' => e = .returned (.bool (lessB a b)) ∧ w = w' := by
  go_enter Try.func16, Try.ntmps16
  go_wp2
  go_ret
  exact ⟨rfl, rfl⟩
theorem joinV_form' (zs : List ByteArray) (sep : ByteArray) : ∃ (o : ByteArray) (b : Bool), joinV zs sep = .tuple #[.string o, .bool b] := by
  unfold joinV
  split
  · split
    · exact ⟨_, _, rfl⟩
    · exact ⟨_, _, rfl⟩
  · exact ⟨_, _, rfl⟩

set_option maxHeartbeats 1000000 in
set_option maxRecDepth 100000 in
theorem fnSplitJoin_walk (A : Option Addr) (n cp : Nat) (zs : List Int) (w : World) (ha : IntArg .u8 w A n cp zs) :
    Calls Try.prog 3 #[.slice A n cp] w fun e w' => e = .returned (.bool true) ∧ Below w.heap.size w w' := by
  obtain ⟨hn, hcap, hmax, hr, hz⟩ := ha
  unfold maxLen at hmax
  by_cases hm : n ≤ 65536
  · have HD1 := Lib.hid (drawSplit_calls n cp A zs w hr hn hm hz)
    have HD2 := Lib.hid (fun (W : World) (hr : Rd W W.heap.size A (intV .u8 zs)) => drawJoin_calls n cp A zs W hr hn hm hz)
    have HD3 := Lib.hid (fun (W : World) (hr : Rd W W.heap.size A (intV .u8 zs)) => drawLess_calls n cp A zs W hr hn hm hz)
    have HR := Lib.hid hr
    clear hr hz hn
    go_enter Try.func3, Try.ntmps3
    go_wp2_with (go_at_call 8; go_in)
    refine HD1.out.mono ?_
    rintro e w1 ⟨⟨s, sep, rfl, hs, hp⟩, hb1⟩
    have HB1 := Lib.hid hb1
    clear hb1
    obtain ⟨ps, ok, hso⟩ := splitOf_ex s sep
    have hpl := splitOf_len hso
    have HS := Lib.hid (fun W => implSplit_calls s sep ps ok W (by unfold maxLen; omega) (by unfold maxLen; omega) hso)
    have HSO := Lib.hid hso
    clear hso
    go_wp2_with fail
    refine (HS.out w1).mono ?_
    rintro e w2 ⟨v2, rfl, ho2, hb2⟩
    obtain ⟨A2, c2, rfl⟩ := own_form ho2
    have HO2 := Lib.hid ho2
    have HB2 := Lib.hid (HB1.out.trans (hb2.mono HB1.out.size))
    clear ho2 hb2
    go_wp2_with fail
    refine (HD2.out w2 ((HR.out.below HB2.out).more HB2.out.size)).mono ?_
    rintro e w3 ⟨⟨v3, ys, mk, rfl, ho3, hyl, hys, hmk⟩, hb3⟩
    obtain ⟨A3, c3, rfl⟩ := own_form ho3
    have HO23 := Lib.hid (own_below HO2.out hb3)
    have HO3 := Lib.hid ho3
    have HB3 := Lib.hid (HB2.out.trans (hb3.mono HB2.out.size))
    have HYS := Lib.hid hys
    clear ho3 hb3 hys
    obtain ⟨o, b, hJ⟩ := joinV_form' ys mk
    go_wp2_with fail
    have C4 := implJoin_calls A3 c3 ys mk w3 (Rd.of_own HO3.out) (own_cap HO3.out) (by omega) (fun z h => Nat.le_trans (HYS.out z h) (by omega)) (by unfold maxLen; omega)
    rw [hJ] at C4
    have HJ := Lib.hid hJ
    clear hJ
    refine C4.mono ?_
    clear C4
    rintro e w4 ⟨rfl, hb4⟩
    have HO24 := Lib.hid (own_below HO23.out hb4)
    have HO34 := Lib.hid (own_below HO3.out hb4)
    have HB4 := Lib.hid (HB3.out.trans (hb4.mono HB3.out.size))
    clear hb4
    go_wp2_with fail
    have C5 := specJoin_calls A3 c3 ys mk w4 (Rd.of_own HO34.out) (by omega) (fun z h => Nat.le_trans (HYS.out z h) (by omega)) (by unfold maxLen; omega)
    rw [HJ.out] at C5
    refine C5.mono ?_
    clear C5
    rintro e w5 ⟨rfl, n5, hw5⟩
    have HO25 : Hid (w5.ownsRow w1.heap.size 9 1 (.slice A2 ps.length c2) ps.length (strV ps)) := by rw [hw5]; exact own_drewN HO24.out n5
    have HB5 : Hid (Below w.heap.size w w5) := by rw [hw5]; exact below_drewN HB4.out n5
    clear hw5
    go_wp2_with fail
    refine (HD3.out w5 ((HR.out.below HB5.out).more HB5.out.size)).mono ?_
    rintro e w6 ⟨⟨a1, b1, rfl, ha1, hb1⟩, hb6⟩
    have HO26 := Lib.hid (own_below HO25.out hb6)
    have HB6 := Lib.hid (HB5.out.trans (hb6.mono HB5.out.size))
    clear hb6
    have HL := Lib.hid (fun W => implLess_calls a1 b1 W)
    have HLS := Lib.hid (fun W => specLess_calls a1 b1 W)
    have HLR := Lib.hid (fun W => implLess_calls b1 a1 W)
    go_wp2_with fail
    by_cases hx : lessB a1 b1 = true
    · have hy := lessB_asymm hx
      have C1 := HL.out w6
      have C2 := HLS.out w6
      have C3 := HLR.out w6
      rw [hx] at C1 C2
      rw [hy] at C3
      have C1 := Lib.hid C1
      have C2 := Lib.hid C2
      have C3 := Lib.hid C3
      clear hx hy
      refine C1.out.mono ?_
      rintro e w' ⟨rfl, rfl⟩
      go_wp2_with fail
      refine C2.out.mono ?_
      rintro e w' ⟨rfl, rfl⟩
      go_wp2_with fail
      refine C1.out.mono ?_
      rintro e w' ⟨rfl, rfl⟩
      go_wp2_with fail
      refine C3.out.mono ?_
      rintro e w' ⟨rfl, rfl⟩
      have HX := HSO.out
      clear HL HLS HLR HS HD1 HD2 HD3
      rcases HX with ⟨c, hsep, h4, hps, hok⟩ | ⟨hno, hps, hok⟩
      · obtain ⟨j1, j2, j3⟩ := split_join s c h4
        rw [← hps] at j1 j2 j3
        have hJ2 : joinV ps sep = .tuple #[.string s, .bool true] := by rw [hsep, joinV_yes j1, j2]
        have hq : ((sep.size : Int) != 1) = false := by rw [hsep]; rfl
        have hpl2 : ps.length ≤ 1048576 := by omega
        have C9 := fun (W : World) (h : W.ownsRow w1.heap.size 9 1 (.slice A2 ps.length c2) ps.length (strV ps)) => implJoin_calls A2 c2 ps sep W (Rd.of_own h) (own_cap h) hpl2 (fun z h => Nat.le_trans (j3 z h) (by omega)) (by unfold maxLen; omega)
        rw [hJ2] at C9
        have HC9 := Lib.hid C9
        have hself := eq_bool (a := s) rfl
        have hself2 : (s.toList == s.toList) = true := beq_self_eq_true _
        subst hok
        clear C9 hJ2 j1 j2 j3 hps hsep HSO
        go_wp2_with fail
        refine (HC9.out w6 HO26.out).mono ?_
        rintro e w7 ⟨rfl, hb7⟩
        have HB7 := Lib.hid (HB6.out.trans (hb7.mono HB6.out.size))
        clear hb7
        go_wp2_with fail
        go_ret
        exact ⟨rfl, HB7.out⟩
      · have hq : ((sep.size : Int) != 1) = true := bne_iff_ne.2 (by omega)
        have hl0 : ((ps.length : Int) == 0) = true := by rw [hps]; rfl
        subst hok
        clear hps hno HSO
        go_wp2_with fail
        go_ret
        exact ⟨rfl, HB6.out⟩
    · have hx0 : lessB a1 b1 = false := by simpa using hx
      have C1 := HL.out w6
      have C2 := HLS.out w6
      rw [hx0] at C1 C2
      have C1 := Lib.hid C1
      have C2 := Lib.hid C2
      clear hx hx0
      refine C1.out.mono ?_
      rintro e w' ⟨rfl, rfl⟩
      go_wp2_with fail
      refine C2.out.mono ?_
      rintro e w' ⟨rfl, rfl⟩
      go_wp2_with fail
      refine C1.out.mono ?_
      rintro e w' ⟨rfl, rfl⟩
      have HX := HSO.out
      clear HL HLS HLR HS HD1 HD2 HD3
      rcases HX with ⟨c, hsep, h4, hps, hok⟩ | ⟨hno, hps, hok⟩
      · obtain ⟨j1, j2, j3⟩ := split_join s c h4
        rw [← hps] at j1 j2 j3
        have hJ2 : joinV ps sep = .tuple #[.string s, .bool true] := by rw [hsep, joinV_yes j1, j2]
        have hq : ((sep.size : Int) != 1) = false := by rw [hsep]; rfl
        have hpl2 : ps.length ≤ 1048576 := by omega
        have C9 := fun (W : World) (h : W.ownsRow w1.heap.size 9 1 (.slice A2 ps.length c2) ps.length (strV ps)) => implJoin_calls A2 c2 ps sep W (Rd.of_own h) (own_cap h) hpl2 (fun z h => Nat.le_trans (j3 z h) (by omega)) (by unfold maxLen; omega)
        rw [hJ2] at C9
        have HC9 := Lib.hid C9
        have hself := eq_bool (a := s) rfl
        have hself2 : (s.toList == s.toList) = true := beq_self_eq_true _
        subst hok
        clear C9 hJ2 j1 j2 j3 hps hsep HSO
        go_wp2_with fail
        refine (HC9.out w6 HO26.out).mono ?_
        rintro e w7 ⟨rfl, hb7⟩
        have HB7 := Lib.hid (HB6.out.trans (hb7.mono HB6.out.size))
        clear hb7
        go_wp2_with fail
        go_ret
        exact ⟨rfl, HB7.out⟩
      · have hq : ((sep.size : Int) != 1) = true := bne_iff_ne.2 (by omega)
        have hl0 : ((ps.length : Int) == 0) = true := by rw [hps]; rfl
        subst hok
        clear hps hno HSO
        go_wp2_with fail
        go_ret
        exact ⟨rfl, HB6.out⟩
  · clear hr hz hn
    go_enter Try.func3, Try.ntmps3
    go_wp2_with (go_at_call 8; go_in)
    go_ret
    exact ⟨rfl, Below.refl _ _⟩
end Go.Proofs.Ytnkbpoenncgcnaa
