/-
  SafeToAppend of spec and impl.
-/
import Derived.Test.YtomgjhdknondmaaTrod
import Derived.Test.YtomgjhdknondmaaSeen
namespace Go.Proofs.Ytomgjhdknondmaa
open Go.RowKit

/-- The first number below r at which p holds, or r. -/
def firstIn (p : Nat → Bool) (r : Nat) : Nat := ((List.range r).find? p).getD r
theorem firstIn_at {p : Nat → Bool} {r k : Nat} (h : ∀ q, q < k → p q = false) (hk : k < r) (hp : p k = true) : firstIn p r = k := by
  have : (List.range r).find? p = some k := List.find?_range_eq_some.2 ⟨hp, by simpa using hk, fun j hj => by simp [h j hj]⟩
  rw [firstIn, this]
  rfl
theorem firstIn_end {p : Nat → Bool} {r : Nat} (h : ∀ q, q < r → p q = false) : firstIn p r = r := by
  have : (List.range r).find? p = none := List.find?_range_eq_none.2 fun j hj => by simp [h j hj]
  rw [firstIn, this]
  rfl
theorem upto_succ {P : Nat → Prop} {n : Nat} (h : ∀ q, q < n → P q) (hn : P n) : ∀ q, q < n + 1 → P q := fun q hq => by
  rcases Nat.lt_or_ge q n with h1 | h1
  · exact h q h1
  · obtain rfl : q = n := by omega
    exact hn
/-- Some window sees a place. -/
def seenAny (L : List Win) (ar pl : Int) : Bool := decide (∃ k : Nat, k < L.length ∧ SeesP (winAt L k) ar pl)
/-- How many bytes can be appended so that it treads on none. -/
def safeTo (L : List Win) (y : Win) : Nat := firstIn (fun n => seenAny L y.arr (y.start + y.len + n)) (y.cap - y.len).toNat
def safeV (m : List (List Int)) (L : List Win) (i : Int) : Value := if NumOK m L i then .tuple #[.int .i64 (safeTo L (winAt L i.toNat)), .bool true] else .tuple #[.int .i64 0, .bool false]
theorem ovl_pos (x y : Win) : 0 < ovl x y ↔ x.arr = y.arr ∧ max x.start y.start < min (x.start + x.len) (y.start + y.len) := by
  unfold ovl
  split
  · rename_i h; exact ⟨fun q => ⟨h, by omega⟩, fun q => by have := q.2; omega⟩
  · rename_i h; exact ⟨fun q => by omega, fun q => absurd q.1 h⟩
theorem idxsTo_nil {p : Nat → Bool} {k : Nat} : (idxsTo p k).length = 0 ↔ ∀ q, q < k → p q = false := by
  simp [idxsTo, List.filter_eq_nil_iff]
/-- Behind n bytes that tread on none, one more treads on one just if its place is seen. -/
theorem trod_next {L : List Win} {j n : Nat} (hj : j < L.length) (hr : (n : Int) + 1 ≤ L[j].cap - L[j].len) (hb : ∀ x ∈ L, 0 ≤ x.len) (hs : ∀ q : Nat, q < n → seenAny L L[j].arr (L[j].start + L[j].len + q) = false) :
    (trodTo L j ((n : Int) + 1)).length = 0 ↔ seenAny L L[j].arr (L[j].start + L[j].len + n) = false := by
  have hwj : winAt L (j : Int).toNat = L[j] := by rw [Int.toNat_natCast, winAt_eq hj]
  have e : trodTo L j ((n : Int) + 1) = idxsTo (trodB L j ((n : Int) + 1)) L.length := by rw [trodTo, hwj, if_pos hr]
  rw [e, idxsTo_nil]
  have hs2 : ∀ q : Nat, q < n → ∀ k : Nat, k < L.length → ¬ SeesP (winAt L k) L[j].arr (L[j].start + L[j].len + q) := fun q hq k hk hp => by
    have := hs q hq
    unfold seenAny at this
    exact of_decide_eq_false this ⟨k, hk, hp⟩
  unfold seenAny
  rw [decide_eq_false_iff_not]
  constructor
  · rintro h ⟨k, hk, hp⟩
    have h1 := h k hk
    unfold trodB at h1
    rw [hwj, decide_eq_false_iff_not, ovl_pos] at h1
    apply h1
    obtain ⟨p1, p2, p3⟩ := hp
    unfold roomW
    simp only
    exact ⟨p1.symm, by omega⟩
  · intro h k hk
    unfold trodB
    rw [hwj, decide_eq_false_iff_not, ovl_pos]
    unfold roomW
    simp only
    rintro ⟨h1, h2⟩
    have hl : 0 ≤ (winAt L k).len := by rw [winAt_eq hk]; exact hb _ (List.getElem_mem hk)
    by_cases hp : (winAt L k).start ≤ L[j].start + L[j].len + n ∧ L[j].start + L[j].len + n < (winAt L k).start + (winAt L k).len
    · exact h ⟨k, hk, h1.symm, hp.1, hp.2⟩
    · have h3 : ∃ q : Nat, q < n ∧ (winAt L k).start ≤ L[j].start + L[j].len + q ∧ L[j].start + L[j].len + q < (winAt L k).start + (winAt L k).len := by
        refine ⟨(max (L[j].start + L[j].len) (winAt L k).start - (L[j].start + L[j].len)).toNat, ?_, ?_, ?_⟩ <;> omega
      obtain ⟨q, hq, h4, h5⟩ := h3
      exact hs2 q hq k hk ⟨h1.symm, h4, h5⟩

set_option maxRecDepth 100000 in
set_option maxHeartbeats 1600000 in
theorem specSafeToAppend_calls (A : Option Addr) (c : Nat) (m : List (List Int)) (B : Option Addr) (k : Nat) (L : List Win) (i : Int) (w : World) (hr : Rd2 w w.heap.size A m) (hn : m.length ≤ maxLen) (hx : RdW w w.heap.size B L) (hl : L.length ≤ maxLen) :
    Calls Try.prog 57 #[.agg #[.slice A m.length c], .slice B L.length k, .int .i64 i] w fun e w' => e = .returned (safeV m L i) ∧ Below w.heap.size w w' := by
  obtain ⟨w0, hw0⟩ : ∃ w0, (w.alloc (.cells #[.slice A m.length c] 26)) = w0 := ⟨_, rfl⟩
  have hb0 : Below w.heap.size w w0 := by rw [← hw0]; exact (Below.refl _ _).alloc (Nat.le_refl _) _
  have HC := Lib.hid (specNumber_calls A c m B k L i w0 ((hr.below hb0).more hb0.size) hn ((hx.below hb0).more hb0.size) hl)
  have HX := Lib.hid hx
  have HB := Lib.hid hb0
  have HW := Lib.hid hw0
  clear hr hx hb0 hw0
  go_enter Try.func57, Try.ntmps57
  go_wp2_with fail
  rw [HW.out]
  refine HC.out.mono ?_
  rintro e w2 ⟨rfl, hb2⟩
  have HB2 := Lib.hid (HB.out.trans (hb2.mono HB.out.size))
  clear hb2
  by_cases hw : NumOK m L i
  · rw [show decide (NumOK m L i) = true from decide_eq_true hw]
    obtain ⟨j, rfl⟩ : ∃ j : Nat, i = j := ⟨i.toNat, by have := hw.2.1; omega⟩
    have hj : j < L.length := by have := hw.2.2; omega
    have h12 := hw.1.2.1
    have HWK := Lib.hid (fun x (hx : x ∈ L) => (⟨m, hw.1.2.2 x hx⟩ : ∃ m, WinOK m x))
    have hok := hw.1.2.2 L[j] (List.getElem_mem hj)
    have HV := Lib.hid (show safeV m L j = .tuple #[.int .i64 (safeTo L L[j]), .bool true] by rw [safeV, if_pos hw, Int.toNat_natCast, winAt_eq hj])
    have HLN := Lib.hid (fun x (hx : x ∈ L) => (win_bounds (hw.1.2.2 x hx)).2.1)
    obtain ⟨yb1, yb2, yb3, yb4⟩ := win_bounds hok
    have HTY := Lib.hid hok.tame
    have HNX := Lib.hid (fun (n : Nat) hr hs => trod_next (n := n) hj hr HLN.out hs)
    obtain ⟨y, hy⟩ : ∃ y, L[j] = y := ⟨_, rfl⟩
    have HY := Lib.hid hy
    rw [hy] at yb1 yb2 yb3 yb4 HTY HNX HV
    obtain ⟨r, hrm⟩ : ∃ r : Nat, y.cap - y.len = r := ⟨(y.cap - y.len).toNat, by omega⟩
    have HSF : Hid (safeTo L y = firstIn (fun n => seenAny L y.arr (y.start + y.len + n)) r) := Lib.hid (by rw [safeTo, hrm, Int.toNat_natCast])
    have HRM := Lib.hid hrm
    have hr64 : r ≤ 64 := by omega
    clear hw hok hy hrm yb1 yb2 yb3 yb4
    go_wp2_with fail
    go_loopw [8] (fun v wr => ∃ n : Nat, n ≤ r ∧ v = .int .i64 n ∧ (∀ q : Nat, q < n → seenAny L y.arr (y.start + y.len + q) = false) ∧ Below w.heap.size w wr) (fun v _ => r - (intOf v).toNat)
    case atStart => exact ⟨0, Nat.zero_le _, rfl, fun q hq => by omega, HB2.out⟩
    case round =>
      obtain ⟨n, hnr, rfl, hsn, hbr⟩ := hrel
      have HSN := Lib.hid hsn
      have HBR := Lib.hid hbr
      obtain ⟨b, off, rfl, hbb, e0, e1, e2, e3⟩ := (HX.out.below hbr).at_ hj
      rw [HY.out] at e0 e1 e2 e3
      have HRO := Lib.hid (specRoom_calls y wr HTY.out)
      rw [HRM.out] at HRO
      clear hsn hbr
      by_cases hlt : n < r
      · have HT := Lib.hid (fun W (h : Below wr.heap.size wr W) => specTrodden_calls (some ⟨b, off, none⟩) k L j (n + 1) W ((HX.out.below (HBR.out.trans (h.mono HBR.out.size))).more (Nat.le_trans HBR.out.size h.size)) HWK.out h12 hj (by omega))
        have HQ := Lib.hid (HNX.out n (by have := HRM.out; omega) HSN.out)
        rcases hp : seenAny L y.arr (y.start + y.len + n) with _ | _
        · have hlen0 : (trodTo L j ((n : Int) + 1)).length = 0 := HQ.out.2 hp
          rw [hlen0] at HT
          have HP := Lib.hid hp
          clear hp hlen0
          go_wp2_with fail
          refine HRO.out.mono ?_
          rintro e w3 ⟨rfl, hb3⟩
          have HT3 := Lib.hid (HT.out w3 hb3)
          have HB3 := Lib.hid (HBR.out.trans (hb3.mono HBR.out.size))
          clear hb3 e0 e1 e2 e3
          go_wp2_with fail
          refine HT3.out.mono ?_
          rintro e w4 ⟨g4, c4, rfl, _, hb4⟩
          have HB4 := Lib.hid (HB3.out.trans (hb4.mono HB3.out.size))
          clear hb4
          go_wp2_with fail
          go_roundw
          case rel => exact ⟨n + 1, by omega, by go_num, upto_succ HSN.out HP.out, HB4.out⟩
          case measure => simp [intOf]; omega
        · have hlen0 : ¬ (trodTo L j ((n : Int) + 1)).length = 0 := fun h => by rw [HQ.out.1 h] at hp; cases hp
          have HF := Lib.hid (show safeTo L y = n by rw [HSF.out]; exact firstIn_at HSN.out hlt hp)
          obtain ⟨tl, htl⟩ : ∃ tl, (trodTo L j ((n : Int) + 1)).length = tl := ⟨_, rfl⟩
          rw [htl] at HT hlen0
          have htb : ((tl : Int) == 0) = false := by simp; omega
          clear hp htl
          go_wp2_with fail
          refine HRO.out.mono ?_
          rintro e w3 ⟨rfl, hb3⟩
          have HT3 := Lib.hid (HT.out w3 hb3)
          have HB3 := Lib.hid (HBR.out.trans (hb3.mono HBR.out.size))
          clear hb3 e0 e1 e2 e3
          go_wp2_with fail
          refine HT3.out.mono ?_
          rintro e w4 ⟨g4, c4, rfl, _, hb4⟩
          have HB4 := Lib.hid (HB3.out.trans (hb4.mono HB3.out.size))
          clear hb4
          go_wp2_with fail
          go_ret2
          exact ⟨by rw [HV.out, HF.out]; rfl, HB4.out⟩
      · obtain rfl : n = r := by omega
        have HF := Lib.hid (show safeTo L y = n by rw [HSF.out]; exact firstIn_end HSN.out)
        go_wp2_with fail
        refine HRO.out.mono ?_
        rintro e w3 ⟨rfl, hb3⟩
        have HB3 := Lib.hid (HBR.out.trans (hb3.mono HBR.out.size))
        clear hb3 e0 e1 e2 e3
        go_wp2_with fail
        go_ret2
        exact ⟨by rw [HV.out, HF.out]; rfl, HB3.out⟩
  · rw [show decide (NumOK m L i) = false from decide_eq_false hw]
    have HV := Lib.hid (show safeV m L i = .tuple #[.int .i64 0, .bool false] by rw [safeV, if_neg hw])
    clear hw
    go_wp2_with fail
    go_ret2
    exact ⟨by rw [HV.out]; rfl, HB2.out⟩

set_option maxRecDepth 100000 in
set_option maxHeartbeats 800000 in
/-- slices.IndexFunc, handed seenBy: only the sign of what it answers. -/
theorem indexFunc_calls (B : Option Addr) (ck : Nat) (L : List Win) (ar pl : Int) (w : World) (hx : RdW w w.heap.size B L) (ht : ∀ x ∈ L, Tame x) (hl : L.length ≤ 12) :
    Calls Try.prog 139 #[.slice B L.length ck, .func (.func 86) #[.agg #[.int .i64 ar, .int .i64 pl]] #[]] w fun e w' => (∃ q : Int, e = .returned (.int .i64 q) ∧ decide (0 ≤ q) = seenAny L ar pl) ∧ Below w.heap.size w w' := by
  have HX := Lib.hid hx
  have HTM := Lib.hid ht
  clear hx ht
  go_enter Try.func139, Try.ntmps139
  go_wp2_with fail
  go_loopw [8] (fun i wr => ∃ k : Nat, k ≤ L.length ∧ i = .int .i64 k ∧ (∀ q : Nat, q < k → ¬ SeesP (winAt L q) ar pl) ∧ Below w.heap.size w wr) (fun i _ => L.length - (intOf i).toNat)
  case atStart => exact ⟨0, Nat.zero_le _, rfl, fun q hq => by omega, Below.refl _ _⟩
  case round =>
    obtain ⟨k, hk, rfl, hq, hbr⟩ := hrel
    have HQ := Lib.hid hq
    have HBR := Lib.hid hbr
    clear hq hbr
    by_cases hlt : k < L.length
    · obtain ⟨b, off, rfl, hbb, e0, e1, e2, e3⟩ := (HX.out.below HBR.out).at_ hlt
      have HS := Lib.hid (seenBy_calls L[k] ar pl wr (HTM.out _ (List.getElem_mem hlt)))
      have HWE := Lib.hid (winAt_eq hlt)
      generalize L[k] = x at *
      by_cases hs : SeesP x ar pl
      · rw [show decide (SeesP x ar pl) = true from decide_eq_true hs] at HS
        have HD := Lib.hid (show decide ((0 : Int) ≤ k) = seenAny L ar pl by
          unfold seenAny
          rw [decide_eq_true (show (0 : Int) ≤ k by omega), decide_eq_true ⟨k, hlt, by rw [HWE.out]; exact hs⟩])
        clear hs
        go_wp2_with fail
        refine HS.out.mono ?_
        rintro e w4 ⟨rfl, hb4⟩
        have HB4 := Lib.hid (HBR.out.trans (hb4.mono HBR.out.size))
        clear hb4 e0 e1 e2 e3
        go_wp2_with fail
        go_ret
        exact ⟨⟨_, rfl, HD.out⟩, HB4.out⟩
      · rw [show decide (SeesP x ar pl) = false from decide_eq_false hs] at HS
        have HN := Lib.hid hs
        clear hs
        go_wp2_with fail
        refine HS.out.mono ?_
        rintro e w4 ⟨rfl, hb4⟩
        have HB4 := Lib.hid (HBR.out.trans (hb4.mono HBR.out.size))
        clear hb4 e0 e1 e2 e3
        go_wp2_with fail
        go_roundw
        case rel => exact ⟨k + 1, by omega, by go_num, upto_succ HQ.out (by rw [HWE.out]; exact HN.out), HB4.out⟩
        case measure => simp [intOf]; omega
    · obtain rfl : k = L.length := by omega
      have HD := Lib.hid (show decide ((0 : Int) ≤ -1) = seenAny L ar pl by
        unfold seenAny
        rw [decide_eq_false (show ¬ (0 : Int) ≤ -1 by omega), decide_eq_false (fun ⟨q, hq, h⟩ => HQ.out q hq h)])
      go_wp2_with fail
      go_ret
      exact ⟨⟨_, rfl, HD.out⟩, HBR.out⟩

theorem containsFunc_calls (B : Option Addr) (ck : Nat) (L : List Win) (ar pl : Int) (w : World) (hx : RdW w w.heap.size B L) (ht : ∀ x ∈ L, Tame x) (hl : L.length ≤ 12) :
    Calls Try.prog 115 #[.slice B L.length ck, .func (.func 86) #[.agg #[.int .i64 ar, .int .i64 pl]] #[]] w fun e w' => e = .returned (.bool (seenAny L ar pl)) ∧ Below w.heap.size w w' := by
  have HC := Lib.hid (indexFunc_calls B ck L ar pl w hx ht hl)
  clear hx ht
  go_enter Try.func115, Try.ntmps115
  go_wp2_with fail
  refine HC.out.mono ?_
  rintro e w2 ⟨⟨q, rfl, hq⟩, hb2⟩
  have HQ := Lib.hid hq
  have HB2 := Lib.hid hb2
  clear hq hb2
  go_wp2_with fail
  go_ret
  exact ⟨ret_bool HQ.out, HB2.out⟩

set_option maxRecDepth 100000 in
set_option maxHeartbeats 1600000 in
theorem implSafeToAppend_calls (A : Option Addr) (c : Nat) (m : List (List Int)) (B : Option Addr) (k : Nat) (L : List Win) (i : Int) (w : World) (hr : Rd2 w w.heap.size A m) (hn : m.length ≤ maxLen) (hx : RdW w w.heap.size B L) (hl : L.length ≤ maxLen) (hwa : ∀ x ∈ L, WArg x) :
    Calls Try.prog 56 #[.agg #[.slice A m.length c], .slice B L.length k, .int .i64 i] w fun e w' => e = .returned (safeV m L i) ∧ Below w.heap.size w w' := by
  obtain ⟨w0, hw0⟩ : ∃ w0, (w.alloc (.cells #[.slice A m.length c] 26)) = w0 := ⟨_, rfl⟩
  have hb0 : Below w.heap.size w w0 := by rw [← hw0]; exact (Below.refl _ _).alloc (Nat.le_refl _) _
  have HC := Lib.hid (hasWatched_calls A c m B k L i w0 ((hr.below hb0).more hb0.size) hn ((hx.below hb0).more hb0.size) hl hwa)
  have HX := Lib.hid hx
  have HB := Lib.hid hb0
  have HW := Lib.hid hw0
  clear hr hx hb0 hw0
  go_enter Try.func56, Try.ntmps56
  go_wp2_with fail
  rw [HW.out]
  refine HC.out.mono ?_
  rintro e w2 ⟨rfl, hb2⟩
  have HB2 := Lib.hid (HB.out.trans (hb2.mono HB.out.size))
  clear hb2
  by_cases hw : NumOK m L i
  · rw [show decide (NumOK m L i) = true from decide_eq_true hw]
    obtain ⟨j, rfl⟩ : ∃ j : Nat, i = j := ⟨i.toNat, by have := hw.2.1; omega⟩
    have hj : j < L.length := by have := hw.2.2; omega
    have h12 := hw.1.2.1
    have HTM := Lib.hid hw.1.tame
    have hok := hw.1.2.2 L[j] (List.getElem_mem hj)
    have HV := Lib.hid (show safeV m L j = .tuple #[.int .i64 (safeTo L L[j]), .bool true] by rw [safeV, if_pos hw, Int.toNat_natCast, winAt_eq hj])
    obtain ⟨yb1, yb2, yb3, yb4⟩ := win_bounds hok
    obtain ⟨b, off, rfl, hbb, e0, e1, e2, e3⟩ := (HX.out.below HB2.out).at_ hj
    generalize L[j] = y at *
    obtain ⟨r, hrm⟩ : ∃ r : Nat, y.cap = y.len + r := ⟨(y.cap - y.len).toNat, by omega⟩
    have HSF : Hid (safeTo L y = firstIn (fun n => seenAny L y.arr (y.start + y.len + n)) r) := Lib.hid (by rw [safeTo, hrm, show y.len + (r : Int) - y.len = r by omega, Int.toNat_natCast])
    have hr64 : r ≤ 64 := by omega
    have hwr : IntKind.i64.wrap (y.len + (r : Int) - y.len) = r := by rw [show y.len + (r : Int) - y.len = r by omega]; simp [IntKind.wrap, IntKind.bits, IntKind.signed]; omega
    rw [hrm] at e3 yb3 yb4
    obtain ⟨w3, hw3⟩ : ∃ w3, w2.alloc (.cells #[.int .i64 y.arr, .int .i64 y.start, .int .i64 y.len, .int .i64 (y.len + (r : Int))] 28) = w3 := ⟨_, rfl⟩
    have hb3 : Below w2.heap.size w2 w3 := by rw [← hw3]; exact (Below.refl _ _).alloc (Nat.le_refl _) _
    have hg3 : w3.heap[w2.heap.size]? = some (.cells #[.int .i64 y.arr, .int .i64 y.start, .int .i64 y.len, .int .i64 (y.len + (r : Int))] 28) := by rw [← hw3]; exact heap_alloc_new _ _
    have HB3 := Lib.hid (HB2.out.trans (hb3.mono HB2.out.size))
    have HG3 := Lib.hid hg3
    have HW3 := Lib.hid hw3
    have hmf : ∀ (fn : Fn) (first cap : Array Value) (w : World), (Instr.makeFunc fn first cap).run Try.prog w = .ok (.func fn first cap) w := fun _ _ _ _ => rfl
    clear hw hok hrm hb3 hg3 hw3
    go_wp2_with fail
    rw [HW3.out]
    clear e0 e1 e2 e3
    go_loopw [25] (fun v wr => ∃ n : Nat, n ≤ r ∧ v = .int .i64 n ∧ (∀ q : Nat, q < n → seenAny L y.arr (y.start + y.len + q) = false) ∧ Below w.heap.size w wr ∧ wr.heap[w2.heap.size]? = some (.cells #[.int .i64 y.arr, .int .i64 y.start, .int .i64 y.len, .int .i64 (y.len + (r : Int))] 28)) (fun v _ => r - (intOf v).toNat)
    case atStart => exact ⟨0, Nat.zero_le _, rfl, fun q hq => by omega, HB3.out, HG3.out⟩
    case round =>
      obtain ⟨n, hnr, rfl, hsn, hbr, hgr⟩ := hrel
      have HSN := Lib.hid hsn
      have HBR := Lib.hid hbr
      have HGR := Lib.hid hgr
      have hbs := hbr.size
      obtain ⟨d0, d1, d2, d3⟩ := four_cells hgr
      clear hsn hbr hgr
      by_cases hlt : n < r
      · obtain ⟨w4, hw4⟩ : ∃ w4, wr.alloc (.cells #[.int .i64 y.arr, .int .i64 (y.start + y.len + (n : Int))] 106) = w4 := ⟨_, rfl⟩
        have hb4 : Below wr.heap.size wr w4 := by rw [← hw4]; exact (Below.refl _ _).alloc (Nat.le_refl _) _
        have HB4 := Lib.hid (HBR.out.trans (hb4.mono hbs))
        have HG4 := Lib.hid ((hb4.block _ (Array.getElem?_eq_some_iff.1 HGR.out).1).trans HGR.out)
        have HW4 := Lib.hid hw4
        have HN := Lib.hid (containsFunc_calls (some ⟨b, off, none⟩) k L y.arr (y.start + y.len + n) w4 ((HX.out.below HB4.out).more HB4.out.size) HTM.out h12)
        clear hw4 hb4
        rcases hp : seenAny L y.arr (y.start + y.len + n) with _ | _
        · rw [hp] at HN
          have HP := Lib.hid hp
          clear hp
          go_wp2_with fail
          rw [HW4.out]
          refine HN.out.mono ?_
          rintro e w5 ⟨rfl, hb5⟩
          have HB5 := Lib.hid (HB4.out.trans (hb5.mono HB4.out.size))
          have HG5 := Lib.hid ((hb5.block _ (Array.getElem?_eq_some_iff.1 HG4.out).1).trans HG4.out)
          clear hb5 d0 d1 d2 d3
          go_wp2_with fail
          go_roundw
          case rel => exact ⟨n + 1, by omega, by go_num, upto_succ HSN.out HP.out, HB5.out, HG5.out⟩
          case measure => simp [intOf]; omega
        · rw [hp] at HN
          have HF := Lib.hid (show safeTo L y = n by rw [HSF.out]; exact firstIn_at HSN.out hlt hp)
          clear hp
          go_wp2_with fail
          rw [HW4.out]
          refine HN.out.mono ?_
          rintro e w5 ⟨rfl, hb5⟩
          have HB5 := Lib.hid (HB4.out.trans (hb5.mono HB4.out.size))
          clear hb5 d0 d1 d2 d3
          go_wp2_with fail
          go_ret2
          exact ⟨by rw [HV.out, HF.out]; rfl, HB5.out⟩
      · obtain rfl : n = r := by omega
        have HF := Lib.hid (show safeTo L y = n by rw [HSF.out]; exact firstIn_end HSN.out)
        go_wp2_with fail
        go_ret2
        exact ⟨by rw [HV.out, HF.out]; rfl, HBR.out⟩
  · rw [show decide (NumOK m L i) = false from decide_eq_false hw]
    have HV := Lib.hid (show safeV m L i = .tuple #[.int .i64 0, .bool false] by rw [safeV, if_neg hw])
    clear hw
    go_wp2_with fail
    go_ret2
    exact ⟨by rw [HV.out]; rfl, HB2.out⟩
end Go.Proofs.Ytomgjhdknondmaa
