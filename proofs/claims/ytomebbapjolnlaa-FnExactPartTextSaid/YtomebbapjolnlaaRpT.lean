/-
  Strands of impl: what a value of this kind stands for; how long they are.
-/
import Derived.Test.YtomebbapjolnlaaRpF
namespace Go.Proofs.Ytomebbapjolnlaa
open Go.RowKit

def winI (x : Win) : Value := .iface 90 (.agg #[.int .i64 x.arr, .int .i64 x.start, .int .i64 x.len, .int .i64 x.cap])
def brI (A : Option Addr) (n c : Nat) : Value := .iface 112 (.slice A n c)
/-- What a value of the strand kind stands for: a list of windows, at most d braids deep. -/
def Str (w : World) (B : Nat) : Nat → Value → List Win → Prop
  | 0, v, L => ∃ x : Win, v = winI x ∧ L = [x]
  | d + 1, v, L => (∃ x : Win, v = winI x ∧ L = [x]) ∨ ∃ (A : Option Addr) (c : Nat) (vs : List Value) (Ls : List (List Win)), v = brI A vs.length c ∧ Ls.length = vs.length ∧ vs.length ≤ 12 ∧ vs.length ≤ c ∧ Rd w B A vs ∧ (∀ (i : Nat) (u : Value) (Q : List Win), vs[i]? = some u → Ls[i]? = some Q → Str w B d u Q) ∧ L = Ls.flatten
/-- A braid: its elements are at most d braids deep. -/
structure Br (w : World) (B : Nat) (d : Nat) (A : Option Addr) (vs : List Value) (Ls : List (List Win)) : Prop where
  len : Ls.length = vs.length
  few : vs.length ≤ 12
  rd : Rd w B A vs
  el : ∀ (i : Nat) (u : Value) (Q : List Win), vs[i]? = some u → Ls[i]? = some Q → Str w B d u Q
theorem Str.keep {w w' : World} {B : Nat} (hk : ∀ p : Addr, p.block < B → w'.cell? p = w.cell? p) : ∀ {d : Nat} {v : Value} {L : List Win}, Str w B d v L → Str w' B d v L := by
  intro d
  induction d with
  | zero => intro v L h; exact h
  | succ d ih =>
    intro v L h
    rcases h with h | ⟨A, c, vs, Ls, h1, h2, h3, h4, h5, h6, h7⟩
    · exact .inl h
    · exact .inr ⟨A, c, vs, Ls, h1, h2, h3, h4, h5.keep hk, fun i u Q hu hQ => ih (h6 i u Q hu hQ), h7⟩
theorem Str.more {w : World} {B B' : Nat} (hB : B ≤ B') : ∀ {d : Nat} {v : Value} {L : List Win}, Str w B d v L → Str w B' d v L := by
  intro d
  induction d with
  | zero => intro v L h; exact h
  | succ d ih =>
    intro v L h
    rcases h with h | ⟨A, c, vs, Ls, h1, h2, h3, h4, h5, h6, h7⟩
    · exact .inl h
    · exact .inr ⟨A, c, vs, Ls, h1, h2, h3, h4, h5.more hB, fun i u Q hu hQ => ih (h6 i u Q hu hQ), h7⟩
theorem Str.deeper {w : World} {B : Nat} : ∀ {d : Nat} {v : Value} {L : List Win}, Str w B d v L → Str w B (d + 1) v L := by
  intro d
  induction d with
  | zero => intro v L h; exact .inl h
  | succ d ih =>
    intro v L h
    rcases h with h | ⟨A, c, vs, Ls, h1, h2, h3, h4, h5, h6, h7⟩
    · exact .inl h
    · exact .inr ⟨A, c, vs, Ls, h1, h2, h3, h4, h5, fun i u Q hu hQ => ih (h6 i u Q hu hQ), h7⟩
section
variable {w w' : World} {B B' d : Nat} {A : Option Addr} {vs : List Value} {Ls : List (List Win)} {v : Value} {L : List Win}
theorem Str.below (h : Str w B d v L) (hb : Below B w w') : Str w' B d v L := h.keep fun _ hp => hb.cell hp
theorem Br.keep (h : Br w B d A vs Ls) (hk : ∀ p : Addr, p.block < B → w'.cell? p = w.cell? p) : Br w' B d A vs Ls := ⟨h.len, h.few, h.rd.keep hk, fun i u Q hu hQ => (h.el i u Q hu hQ).keep hk⟩
theorem Br.below (h : Br w B d A vs Ls) (hb : Below B w w') : Br w' B d A vs Ls := h.keep fun _ hp => hb.cell hp
theorem Br.more (h : Br w B d A vs Ls) (hB : B ≤ B') : Br w B' d A vs Ls := ⟨h.len, h.few, h.rd.more hB, fun i u Q hu hQ => (h.el i u Q hu hQ).more hB⟩
theorem Br.str (h : Br w B d A vs Ls) {c : Nat} (hc : vs.length ≤ c) : Str w B (d + 1) (brI A vs.length c) Ls.flatten := .inr ⟨A, c, vs, Ls, rfl, h.len, h.few, hc, h.rd, h.el, rfl⟩
end
/-- Modest numbers. -/
def Tiny (L : List Win) : Prop := ∀ x ∈ L, 0 ≤ x.len ∧ x.len ≤ 64
theorem flat_take {Ls : List (List Win)} {k : Nat} (h : k < Ls.length) : (Ls.take (k + 1)).flatten = (Ls.take k).flatten ++ Ls[k] := by
  rw [List.take_succ_eq_append_getElem h, List.flatten_append]; simp
theorem flat_take_len (Ls : List (List Win)) (k : Nat) : (Ls.take k).flatten.length ≤ Ls.flatten.length := by
  have : Ls.flatten = (Ls.take k).flatten ++ (Ls.drop k).flatten := by rw [← List.flatten_append, List.take_append_drop]
  rw [this, List.length_append]; omega
theorem mem_flat {Ls : List (List Win)} {k : Nat} (h : k < Ls.length) {x : Win} (hx : x ∈ Ls[k]) : x ∈ Ls.flatten := List.mem_flatten.2 ⟨_, List.getElem_mem h, hx⟩
theorem mem_flat_take {Ls : List (List Win)} {k : Nat} {x : Win} (hx : x ∈ (Ls.take k).flatten) : x ∈ Ls.flatten := by
  obtain ⟨Q, hQ, hxQ⟩ := List.mem_flatten.1 hx
  exact List.mem_flatten.2 ⟨Q, List.mem_of_mem_take hQ, hxQ⟩

theorem winLength_calls (x : Win) (w : World) :
    Calls Try.prog 151 #[.agg #[.int .i64 x.arr, .int .i64 x.start, .int .i64 x.len, .int .i64 x.cap]] w fun e w' => e = .returned (.int .i64 x.len) ∧ Below w.heap.size w w' := by
  go_enter Try.func151, Try.ntmps151
  go_wp2_with fail
  go_ret
  exact ⟨rfl, by (repeat (first | (with_reducible exact Below.refl _ _) | (with_reducible refine Below.drew ?_) | ((with_reducible refine Below.alloc ?_ ?hB _); case hB => (first | (with_reducible exact Nat.le_refl _) | omega | (simp; done) | (simp; omega))) | ((with_reducible refine Below.setCell ?_ ?hB _); case hB => (first | (with_reducible exact Nat.le_refl _) | omega | (simp; done) | (simp; omega)))))⟩

set_option maxRecDepth 100000 in
/-- The length of a braid, where each element's is known. -/
theorem braidLength_of (A : Option Addr) (c : Nat) (vs : List Value) (Ls : List (List Win)) (w : World) (hlen : Ls.length = vs.length) (hf : vs.length ≤ 12) (hr : Rd w w.heap.size A vs) (ht : Tiny Ls.flatten) (hn : Ls.flatten.length ≤ 1000)
    (hel : ∀ (i : Nat) (u : Value) (Q : List Win), vs[i]? = some u → Ls[i]? = some Q → (∃ x, u = winI x ∧ Q = [x]) ∨ ∃ (A' : Option Addr) (n' c' : Nat), u = brI A' n' c' ∧ ∀ W, Below w.heap.size w W → Calls Try.prog 153 #[.slice A' n' c'] W fun e w' => e = .returned (.int .i64 (rpLen Q)) ∧ Below W.heap.size W w') :
    Calls Try.prog 153 #[.slice A vs.length c] w fun e w' => e = .returned (.int .i64 (rpLen Ls.flatten)) ∧ Below w.heap.size w w' := by
  have HR := Lib.hid hr
  have HT := Lib.hid ht
  have HE := Lib.hid hel
  have HL := Lib.hid hlen
  clear hr ht hel hlen
  go_enter Try.func153, Try.ntmps153
  go_wp2_with fail
  go_loopw [3, 8] (fun s i wr => ∃ j : Nat, j ≤ vs.length ∧ i = .int .i64 j ∧ s = .int .i64 (rpLen (Ls.take j).flatten) ∧ Below w.heap.size w wr) (fun _ i _ => vs.length - (intOf i).toNat)
  case atStart => exact ⟨0, Nat.zero_le _, rfl, by simp [rpLen], Below.refl _ _⟩
  case round =>
    obtain ⟨j, hj, rfl, rfl, hbr⟩ := hrel
    have HBR := Lib.hid hbr
    clear hbr
    by_cases hlt : j < vs.length
    · have hlq : j < Ls.length := by rw [HL.out]; exact hlt
      obtain ⟨b, off, rfl, hbb, hc⟩ := (HR.out.below HBR.out).at_ hlt
      have HS := Lib.hid (flat_take hlq)
      have hb1 := rpLen_bounds (L := (Ls.take j).flatten) fun x hx => HT.out x (mem_flat_take hx)
      have hb2 := rpLen_bounds (L := Ls[j]) fun x hx => HT.out x (mem_flat hlq hx)
      have hl1 := flat_take_len Ls j
      have hl2 := flat_take_len Ls (j + 1)
      rw [HS.out, List.length_append] at hl2
      have hs1 : 0 ≤ rpLen (Ls.take j).flatten ∧ rpLen (Ls.take j).flatten ≤ 64000 := by omega
      have hs2 : 0 ≤ rpLen Ls[j] ∧ rpLen Ls[j] ≤ 64000 := by omega
      have HAP := Lib.hid (rpLen_append (Ls.take j).flatten Ls[j])
      have hel := HE.out j vs[j] Ls[j] (List.getElem?_eq_getElem hlt) (List.getElem?_eq_getElem hlq)
      clear hb1 hb2 hl1 hl2
      generalize Ls[j] = Q at *
      generalize vs[j] = u at *
      obtain ⟨s, hs⟩ : ∃ s, rpLen (Ls.take j).flatten = s := ⟨_, rfl⟩
      rw [hs] at hs1 HAP ⊢
      have h1 := hs1.1
      have h2 := hs1.2
      clear hs hs1
      rcases hel with ⟨x, rfl, rfl⟩ | ⟨A', n', c', rfl, hcall⟩
      · have HC := Lib.hid (fun W => winLength_calls x W)
        have hm : ∀ w : World, (method 269 90 (.agg #[.int .i64 x.arr, .int .i64 x.start, .int .i64 x.len, .int .i64 x.cap]) "loop.example/g01179/impl.length").run Try.prog w = .ok (151, .agg #[.int .i64 x.arr, .int .i64 x.start, .int .i64 x.len, .int .i64 x.cap]) w := fun _ => by kernel_rfl
        have hx1 := hs2.1
        have hx2 := hs2.2
        simp only [rpLen, Int.add_zero] at hx1 hx2 HAP
        clear hs2
        unfold winI at hc
        go_wp2_with fail
        refine (HC.out _).mono ?_
        rintro e w2 ⟨rfl, hb2⟩
        have HB2 := Lib.hid (HBR.out.trans (hb2.mono HBR.out.size))
        clear hb2 hm hc
        go_wp2_with fail
        go_roundw
        case rel => exact ⟨j + 1, by omega, by go_num, by rw [HS.out, HAP.out], HB2.out⟩
        case measure => simp [intOf]; omega
      · have HC := Lib.hid (hcall wr HBR.out)
        have hm : ∀ w : World, (method 269 112 (.slice A' n' c') "loop.example/g01179/impl.length").run Try.prog w = .ok (153, .slice A' n' c') w := fun _ => by kernel_rfl
        obtain ⟨q, hq⟩ : ∃ q, rpLen Q = q := ⟨_, rfl⟩
        rw [hq] at HC HAP hs2
        have hx1 := hs2.1
        have hx2 := hs2.2
        clear hs2 hq hcall
        unfold brI at hc
        go_wp2_with fail
        refine HC.out.mono ?_
        rintro e w2 ⟨rfl, hb2⟩
        have HB2 := Lib.hid (HBR.out.trans (hb2.mono HBR.out.size))
        clear hb2 hm hc
        go_wp2_with fail
        go_roundw
        case rel => exact ⟨j + 1, by omega, by go_num, by rw [HS.out, HAP.out], HB2.out⟩
        case measure => simp [intOf]; omega
    · obtain rfl : j = vs.length := by omega
      have HF := Lib.hid (show Ls.take vs.length = Ls by rw [← HL.out, List.take_length])
      go_wp2_with fail
      go_ret
      exact ⟨ret_int (by rw [HF.out]), HBR.out⟩
/-- The length of a braid. -/
theorem braidLength_calls : ∀ (d : Nat) (A : Option Addr) (c : Nat) (vs : List Value) (Ls : List (List Win)) (w : World), Br w w.heap.size d A vs Ls → Tiny Ls.flatten → Ls.flatten.length ≤ 1000 →
    Calls Try.prog 153 #[.slice A vs.length c] w fun e w' => e = .returned (.int .i64 (rpLen Ls.flatten)) ∧ Below w.heap.size w w' := by
  intro d
  induction d with
  | zero =>
    intro A c vs Ls w h ht hn
    exact braidLength_of A c vs Ls w h.len h.few h.rd ht hn fun i u Q hu hQ => .inl (h.el i u Q hu hQ)
  | succ d ih =>
    intro A c vs Ls w h ht hn
    refine braidLength_of A c vs Ls w h.len h.few h.rd ht hn fun i u Q hu hQ => ?_
    have hi : i < Ls.length := (List.getElem?_eq_some_iff.1 hQ).1
    have hq : Ls[i] = Q := (List.getElem?_eq_some_iff.1 hQ).2
    rcases h.el i u Q hu hQ with h0 | ⟨A', c', vs', Ls', e1, e2, e3, e4, e5, e6, e7⟩
    · exact .inl h0
    · refine .inr ⟨A', vs'.length, c', e1, fun W hb => ?_⟩
      rw [e7]
      have hle : Q.length ≤ Ls.flatten.length := by
        rw [← hq]
        exact (List.sublist_flatten_of_mem (List.getElem_mem hi)).length_le
      refine ih A' c' vs' Ls' W ((Br.mk e2 e3 e5 e6 : Br w w.heap.size d A' vs' Ls').below hb |>.more hb.size) (fun x hx => ht x ?_) (by rw [← e7]; omega)
      rw [← e7, ← hq] at hx
      exact mem_flat hi hx
end Go.Proofs.Ytomebbapjolnlaa
