/-
  SplitString of the program: a range over a function.
-/
import Derived.RangeFuncBox
import Derived.RangeFuncLeaves
import Derived.Shelf.Abstract
import Derived.WalkKit
import Derived.OwnWalkIn
import Derived.TacticsInMore
import Derived.LoopNIn
import Derived.LoopIn
import Derived.Maps.AppendAt
import Derived.Sort.QuietIn
import Derived.Maps.OwnIn
import Derived.Test.YtnkbpoenncgcnaaProg
import Derived.Test.YtnkbpoenncgcnaaSplit
namespace Go.Proofs.Ytnkbpoenncgcnaa
open Go.RowKit Go.Shelf

attribute [local go_sem] Oper.semAt_some

/-- What a round that goes on keeps: the two boxes that the iterator reads. -/
def Kp2 (B1 B2 : Nat) (W W' : World) : Prop := W'.heap[B1]? = W.heap[B1]? ∧ W'.heap[B2]? = W.heap[B2]?
theorem Kp2.cell1 {B1 B2 : Nat} {W W' : World} (h : Kp2 B1 B2 W W') : W'.cell? ⟨B1, 0, none⟩ = W.cell? ⟨B1, 0, none⟩ := World.cell?_of_block (w := W) h.1
theorem Kp2.cell2 {B1 B2 : Nat} {W W' : World} (h : Kp2 B1 B2 W W') : W'.cell? ⟨B2, 0, none⟩ = W.cell? ⟨B2, 0, none⟩ := World.cell?_of_block (w := W) h.2
theorem kp2_t {B1 B2 : Nat} {A B C : World} (h : Kp2 B1 B2 A B) (k : Kp2 B1 B2 B C) : Kp2 B1 B2 A C := ⟨k.1.trans h.1, k.2.trans h.2⟩
theorem kp2_b {B1 B2 : Nat} {w : World} (h1 : B1 < w.heap.size) (h2 : B2 < w.heap.size) (W : World) (l : Nat) (o o' : Obj) (hl : w.heap.size ≤ l) (_ : W.heap[l]? = some o) (_ : o.isCells = false) (_ : o.isWalk = false) : Kp2 B1 B2 W (W.putObj l o') :=
  ⟨World.putObj_heap_other (by omega), World.putObj_heap_other (by omega)⟩

set_option maxRecDepth 100000 in
set_option maxHeartbeats 1000000 in
/-- The iterator: the parts, one by one. -/
theorem partsOf1_in (n : Nat) (hn : 1 ≤ n) (l B1 B2 : Nat) (s : ByteArray) (c : UInt8) (hs : s.size ≤ 4000) (J Jx : List ByteArray → World → Prop)
    (hJd : ∀ pre W m, J pre W → J pre (W.drewN m))
    (hY : ∀ pre x W, J pre W → pre.length < (splitF s c).length → YieldAt Fence.wide (n - 1) Try.prog l #[.string x] W fun e W' =>
      (e = .returned (.bool true) ∧ J (pre ++ [x]) W' ∧ Kp2 B1 B2 W W') ∨ (e = .returned (.bool false) ∧ Jx (pre ++ [x]) W'))
    (W : World) (h1 : W.cell? ⟨B1, 0, none⟩ = some (.string s)) (h2 : W.cell? ⟨B2, 0, none⟩ = some (.int .u8 c.toNat)) (h0 : J [] W) :
    CallsIn Fence.wide n Try.prog 36 #[.func (.yield l) #[] #[], .pointer (some ⟨B1, 0, none⟩), .pointer (some ⟨B2, 0, none⟩)] W fun e W' => (∃ v, e = .returned v) ∧
      ((∃ ys, ys = splitF s c ∧ J ys W') ∨ (∃ pre, pre <+: splitF s c ∧ Jx pre W')) := by
  refine callsIn_of_wp Try.func36 rfl trivial ?_ rfl
  simp only [Try.ntmps36, List.size_toArray, List.length_cons, List.length_nil, Nat.reduceAdd, Nat.reduceSub, Array.replicate_succ, Array.replicate_zero, List.push_toArray, List.append_toArray, List.nil_append, List.cons_append]
  gi_wp2
  gi_loopw [4, 8] (fun a i wr => ∃ k : Nat, k ≤ s.size ∧ i = .int .i64 k ∧ a = .int .i64 (stp s c k).2 ∧ J (stp s c k).1 wr ∧ wr.cell? ⟨B1, 0, none⟩ = some (.string s) ∧ wr.cell? ⟨B2, 0, none⟩ = some (.int .u8 c.toNat))
    (fun _ i _ => s.size - (intOf i).toNat)
  case atStart =>
    exact ⟨0, Nat.zero_le _, rfl, rfl, h0, h1, h2⟩
  case round =>
    obtain ⟨k, hk, rfl, rfl, hJ, hc1, hc2⟩ := hrel
    obtain ⟨hl2, hl1⟩ := stp_le s c k
    by_cases hlt : k < s.size
    · by_cases he : s[k] = c
      · have hb : (((s[k]).toNat : Int) != (c.toNat : Int)) = false := by rw [he]; simp
        have HS := Lib.hid (stp_hit hlt he)
        have hltL := stp_lt s c k hk
        have HPX := Lib.hid (stp_pre s c (k + 1) hlt)
        clear he
        gi_wp2
        gi_quiet (fail)
        obtain ⟨fn, tmps, assign, body, hy, hR⟩ := hY (stp s c k).1 (s.extract (stp s c k).2 k) (wr.drewN nq) (hJd _ _ _ hJ) hltL
        gi_wp2
        refine hR.mono ?_
        rintro e W3 (⟨rfl, hJ3, hk3⟩ | ⟨rfl, hJx3⟩)
        · have hd1 : W3.cell? ⟨B1, 0, none⟩ = some (.string s) := hk3.cell1.trans hc1
          have hd2 : W3.cell? ⟨B2, 0, none⟩ = some (.int .u8 c.toNat) := hk3.cell2.trans hc2
          gi_wp2
          go_roundw
          case rel => exact ⟨k + 1, by omega, by go_num, by rw [HS.out]; go_num, by rw [HS.out]; exact hJ3, hd1, hd2⟩
          case measure => simp [intOf]; omega
        · gi_wp2
          refine bodyPost_ret (results_none rfl _ _ _) rfl ?_
          exact ⟨⟨_, rfl⟩, .inr ⟨_, by have := HPX.out; rw [HS.out] at this; exact this, hJx3⟩⟩
      · have hb : (((s[k]).toNat : Int) != (c.toNat : Int)) = true := by
          rw [bne_iff_ne]; intro h; exact he (UInt8.toNat_inj.1 (by omega))
        have HS := Lib.hid (stp_miss hlt he)
        clear he hY
        gi_wp2
        gi_quiet (fail)
        have hJ2 := hJd _ _ nq hJ
        gi_wp2
        go_roundw
        case rel => exact ⟨k + 1, by omega, by go_num, by rw [HS.out], by rw [HS.out]; exact hJ2, hc1, hc2⟩
        case measure => simp [intOf]; omega
    · obtain rfl : k = s.size := by omega
      have hltL := stp_lt s c s.size (Nat.le_refl _)
      have HF : Hid (splitF s c = (stp s c s.size).1 ++ [s.extract (stp s c s.size).2 s.size]) := rfl
      obtain ⟨fn, tmps, assign, body, hy, hR⟩ := hY (stp s c s.size).1 (s.extract (stp s c s.size).2 s.size) wr hJ hltL
      gi_wp2
      refine hR.mono ?_
      rintro e W3 (⟨rfl, hJ3, hk3⟩ | ⟨rfl, hJx3⟩)
      · gi_wp2
        go_end0
        exact ⟨⟨_, rfl⟩, .inl ⟨_, HF.out.symm, hJ3⟩⟩
      · gi_wp2
        go_end0
        exact ⟨⟨_, rfl⟩, .inr ⟨_, by rw [HF.out]; exact List.prefix_refl _, hJx3⟩⟩

/-- The iterator's maker: both arguments are boxed; the function value captures the boxes. -/
theorem partsOf_in (n : Nat) (s : ByteArray) (c : UInt8) (w : World) :
    CallsIn Fence.wide n Try.prog 27 #[.string s, .int .u8 c.toNat] w fun e w' => e = .returned (.func (.func 36) #[] #[.pointer (some ⟨w.heap.size, 0, none⟩), .pointer (some ⟨w.heap.size + 1, 0, none⟩)]) ∧ w' = (w.alloc (.cells #[.string s] 9)).alloc (.cells #[.int .u8 c.toNat] 5) := by
  refine callsIn_of_wp Try.func27 rfl trivial ?_ rfl
  simp only [Try.ntmps27, List.size_toArray, List.length_cons, List.length_nil, Nat.reduceAdd, Nat.reduceSub, Array.replicate_succ, Array.replicate_zero, List.push_toArray, List.append_toArray, List.nil_append, List.cons_append]
  gi_wp2
  go_ret
  exact ⟨rfl, rfl⟩
theorem abides_drewN {J : List ByteArray → World → Prop} {B : Nat} (h : AbidesFrom B J) (pre : List ByteArray) (W : World) (m : Nat) (hJ : J pre W) : J pre (W.drewN m) :=
  h pre W _ none hJ ⟨rfl, rfl, rfl, Nat.le_refl _, fun _ _ _ => rfl⟩ (fun r e => by cases e)
/-- The iterator hands back the parts in order. -/
theorem parts_stops (n : Nat) (hn : 1 ≤ n) (B1 B2 : Nat) (s : ByteArray) (c : UInt8) (hs : s.size ≤ 4000) (w : World) (hb1 : B1 < w.heap.size) (hb2 : B2 < w.heap.size)
    (h1 : w.cell? ⟨B1, 0, none⟩ = some (.string s)) (h2 : w.cell? ⟨B2, 0, none⟩ = some (.int .u8 c.toNat)) :
    SeqStopsK Fence.wide n Try.prog 36 #[.pointer (some ⟨B1, 0, none⟩), .pointer (some ⟨B2, 0, none⟩)] (fun x : ByteArray => #[Value.string x]) (Kp2 B1 B2) (fun ys => ys = splitF s c) (fun pre => pre <+: splitF s c) (splitF s c).length w :=
  fun l J Jx W hW hJ _ hY h0 =>
    partsOf1_in n hn l B1 B2 s c hs J Jx (fun pre W m h => abides_drewN hJ pre W m h) hY W ((hW.cell (p := ⟨B1, 0, none⟩) hb1).trans h1) ((hW.cell (p := ⟨B2, 0, none⟩) hb2).trans h2) h0

set_option maxRecDepth 100000 in
set_option maxHeartbeats 2000000 in
theorem implSplit_in (n : Nat) (hn : 3 ≤ n) (s : ByteArray) (c : UInt8) (hs : s.size ≤ 4000) (w : World) :
    CallsIn Fence.wide n Try.prog 10 #[.string s, .string ⟨#[c]⟩] w fun e W' => ∃ v, e = .returned (.tuple #[v, .bool true]) ∧ W'.ownsRow w.heap.size 9 1 v (splitF s c).length (strV (splitF s c)) ∧ Below w.heap.size w W' := by
  have h1 : 1 ≤ n := by omega
  obtain ⟨i0, hi, hz0, hz1, hz2⟩ := info_parts info_str
  refine callsIn_of_wp_marks Try.func10 rfl trivial ?_ rfl
  simp only [Try.ntmps10, List.size_toArray, List.length_cons, List.length_nil, Nat.reduceAdd, Nat.reduceSub, Array.replicate_succ, Array.replicate_zero, List.push_toArray, List.append_toArray, List.nil_append, List.cons_append]
  have hD : decide ((4000 : Int) < s.size) = false := decide_eq_false (by omega)
  gi_wp2_with (refine ⟨trivial, ?_⟩; gi_at_call 27; refine (partsOf_in (n - 1) s c _).mono ?_; rintro e w' ⟨rfl, rfl⟩)
  have b0 : Below w.heap.size w (w.alloc (.cells #[] 9)) := (Below.refl _ w).alloc (Nat.le_refl _) _
  have bO := Boxed.new (w.alloc (.cells #[] 9)) 26 (.slice (some ⟨w.heap.size, 0, none⟩) 0 0)
  have ho0 : (w.alloc (.cells #[] 9)).ownsRow w.heap.size 9 1 (.slice (some ⟨w.heap.size, 0, none⟩) 0 0) 0 [] := World.ownsRow_made w #[] 0 (Nat.le_refl _) (Nat.zero_le _) rfl
  have b1 := b0.alloc (by simp) (.cells #[.slice (some ⟨w.heap.size, 0, none⟩) 0 0] 26)
  have ho1 := ho0.alloc (.cells #[.slice (some ⟨w.heap.size, 0, none⟩) 0 0] 26)
  rw [World.size_alloc] at bO
  obtain ⟨w2, hw2⟩ : ∃ w2, (w.alloc (.cells #[] 9)).alloc (.cells #[.slice (some ⟨w.heap.size, 0, none⟩) 0 0] 26) = w2 := ⟨_, rfl⟩
  have hsz2 : w2.heap.size = w.heap.size + 2 := by rw [← hw2]; simp
  rw [hw2] at bO b1 ho1 ⊢
  have hc1 : ((w2.alloc (.cells #[.string s] 9)).alloc (.cells #[.int .u8 c.toNat] 5)).cell? ⟨w.heap.size + 2, 0, none⟩ = some (.string s) := by
    have h := (Boxed.new w2 9 (.string s)).alloc (.cells #[.int .u8 c.toNat] 5)
    rw [hsz2] at h
    exact h.cell
  have hc2 : ((w2.alloc (.cells #[.string s] 9)).alloc (.cells #[.int .u8 c.toNat] 5)).cell? ⟨w.heap.size + 2 + 1, 0, none⟩ = some (.int .u8 c.toNat) := by
    have h := Boxed.new (w2.alloc (.cells #[.string s] 9)) 5 (.int .u8 c.toNat)
    rw [World.size_alloc, hsz2] at h
    exact h.cell
  have b3 := (b1.alloc (by omega) (.cells #[.string s] 9)).alloc (by simp; omega) (.cells #[.int .u8 c.toNat] 5)
  have bO3 := (bO.alloc (.cells #[.string s] 9)).alloc (.cells #[.int .u8 c.toNat] 5)
  have ho3 := (ho1.alloc (.cells #[.string s] 9)).alloc (.cells #[.int .u8 c.toNat] 5)
  have hsz4 : ((w2.alloc (.cells #[.string s] 9)).alloc (.cells #[.int .u8 c.toNat] 5)).heap.size = w.heap.size + 4 := by simp; omega
  generalize (w2.alloc (.cells #[.string s] 9)).alloc (.cells #[.int .u8 c.toNat] 5) = w4 at *
  clear hw2 b0 bO ho0 b1 ho1 hsz2
  refine wpIn_rangeFunc_ownG rfl h1 (gf := 36) (lb := #[.pointer (some ⟨w.heap.size + 2, 0, none⟩), .pointer (some ⟨w.heap.size + 2 + 1, 0, none⟩)]) rfl trivial (enters_of Try.func36 (by kernel_rfl) rfl)
    (parts_stops (n - 1) (by omega) (w.heap.size + 2) (w.heap.size + 2 + 1) s c hs w4 (by omega) (by omega) hc1 hc2) kp2_t (kp2_b (by omega) (by omega)) (Below.refl _ _) (fun _ => rfl)
    (fun pre W => (∃ v, Boxed W (w.heap.size + 1) 26 v ∧ W.ownsRow w.heap.size 9 1 v pre.length (strV pre) ∧ (v.ownBlock ≠ some (w.heap.size + 2) ∧ v.ownBlock ≠ some (w.heap.size + 2 + 1))) ∧ (Below w.heap.size w W ∧ w.heap.size + 4 ≤ W.heap.size))
    (fun _ _ _ => False)
    (OwnFrom.and (Own.from (holdsRow_own w.heap.size (w.heap.size + 1) 26 9 1 (fun pre => pre.length) (fun pre => strV pre) (fun _ v => v.ownBlock ≠ some (w.heap.size + 2) ∧ v.ownBlock ≠ some (w.heap.size + 2 + 1))) _) (OwnFrom.and (ownFrom_below (Nat.le_refl _) (by omega)) (fun s A B row hs hg hr => Nat.le_trans hs hg.size)))
    (fun _ _ _ _ _ hs _ _ => hs)
    ⟨⟨_, bO3, ho3, by simp [Value.ownBlock], by simp [Value.ownBlock]; omega⟩, b3, by omega⟩
    (fun x => { tmps := #[.string s, .string ⟨#[c]⟩, undef, undef, .slice none 0 0, .bool false, .pointer (some ⟨w.heap.size + 1, 0, none⟩), .string x, .string s, .int .i64 s.size, .bool false, .bool false, .string ⟨#[c]⟩, .int .i64 1, .bool false, .bool false, undef, .slice (some ⟨w.heap.size, 0, none⟩) 0 0, .string s, .string ⟨#[c]⟩, .int .u8 ((ByteArray.mk #[c])[0]'Nat.zero_lt_one).toNat, .func (.func 36) #[] #[.pointer (some ⟨w.heap.size + 2, 0, none⟩), .pointer (some ⟨w.heap.size + 2 + 1, 0, none⟩)], .string x, undef, undef, undef, undef, undef], defers := [] }) ?assign ?body ?done ?stop
  case assign =>
    intro l x W K hK
    gi_wp2
    exact hK
  case body =>
    rintro l pre x W ⟨⟨v, hv, hrow, hne1, hne2⟩, hB, hsz⟩ hlt
    have hc := hv.cell
    have hpl := splitF_len_le s c
    gi_wp2_with (gi_at_builtin; refine wpListIn_append_own_at _ rfl _ _ 26 rfl w.heap.size 9 i0 _ 1 16 Try.underlying26 hi hz0 hz1 hz2 rfl (by decide) _ _ _ rfl (hrow.alloc _) ⟨W.heap.size, 0, none⟩ 1 1 [.string x] rfl rfl (cell_one_new _ _ _) (by simp [Value.oneCell']) (by simp only [maxLen]; omega) (by omega) (by have := hB.size; simp; omega) ?_; intro v' w1 hown' hgrow _ hat; obtain ⟨g', cap', rfl⟩ := ownsRow_succ hown'; obtain ⟨hv1, hv2, hr2, hk2, hb2⟩ := hv.appended (by decide) hrow hB.size (Nat.le_succ _) hown' hgrow; have hc1 := hv1.cell; have hf1 := hv1.frozen)
    have hs1 := hgrow.size
    rw [World.size_alloc] at hs1
    have k1 : (w1.setCell ⟨w.heap.size + 1, 0, none⟩ (.slice (some ⟨g', 0, none⟩) (pre.length + 1) cap')).heap[w.heap.size + 2]? = W.heap[w.heap.size + 2]? :=
      (Below.heap_setCell w1 _ _ _ (by show w.heap.size + 2 ≠ w.heap.size + 1; omega)).trans ((hgrow.block _ (by rw [World.size_alloc]; omega) hne1.symm).trans (Below.heap_alloc W _ _ (by omega)))
    have k2 : (w1.setCell ⟨w.heap.size + 1, 0, none⟩ (.slice (some ⟨g', 0, none⟩) (pre.length + 1) cap')).heap[w.heap.size + 2 + 1]? = W.heap[w.heap.size + 2 + 1]? :=
      (Below.heap_setCell w1 _ _ _ (by show w.heap.size + 2 + 1 ≠ w.heap.size + 1; omega)).trans ((hgrow.block _ (by rw [World.size_alloc]; omega) hne2.symm).trans (Below.heap_alloc W _ _ (by omega)))
    have n1 : (Value.slice (some ⟨g', 0, none⟩) (pre.length + 1) cap').ownBlock ≠ some (w.heap.size + 2) ∧ (Value.slice (some ⟨g', 0, none⟩) (pre.length + 1) cap').ownBlock ≠ some (w.heap.size + 2 + 1) := by
      rcases hat with hat | hat
      · rw [hat]; exact ⟨hne1, hne2⟩
      · rw [hat, World.size_alloc]; constructor <;> (intro e; injection e with e; omega)
    exact ⟨hk2.from _, ⟨k1, k2⟩, ⟨_, hv2, by simpa [strV] using hr2, n1⟩, hB.trans hb2, by simp; omega⟩
  case done =>
    rintro D ys W hD rfl ⟨⟨v, hv, hrow, _⟩, hB, _⟩ hK
    have hc := hv.cell
    gi_wp2
    refine ⟨by simp, .inl ⟨_, _, rfl, run_takeDeferred hK, ?_⟩⟩
    exact ⟨_, results_tmp2 rfl _ _ _, v, rfl, ownsRow_putObj hrow _ hK rfl, hB.trans (belowK_b (w := w) (Nat.le_refl _) W D _ _ (by omega) hK rfl rfl)⟩
  case stop =>
    rintro D c pre W _ _ h _
    exact h.elim
end Go.Proofs.Ytnkbpoenncgcnaa
