/-
  copy onto a row of the call's own, also of nothing; a row made; two copies side by side.
-/
import Derived.Test.YtoelagfcapdfpaaCopyL
import Derived.Deep.RegionLaw
namespace Go.Proofs.Ytoelagfcapdfpaa
open Go.RowKit

theorem own_monoR {w : World} {b1 b0 n : Nat} {e : TypeId} {v : Value} {xs : List Value} (h : w.ownsRow b1 e 1 v n xs) (hb : b0 ≤ b1) : w.ownsRow b0 e 1 v n xs := by
  refine ⟨h.1, ?_⟩
  rcases h.2 with h0 | ⟨g', cap, cur, r0, hb1, r⟩
  · exact .inl h0
  · exact .inr ⟨g', cap, cur, r0, Nat.le_trans hb hb1, r⟩
theorem over_two {N : Nat} {xs ys : List Int} (h : xs.length + ys.length = N) : over (over (List.replicate N 0) 0 xs) xs.length ys = xs ++ ys := by
  unfold over
  simp only [List.take_zero, List.nil_append, Nat.zero_add]
  rw [List.take_left, List.drop_eq_nil_of_le (by simp; omega), List.append_nil]
section
variable {P : Program} {w : World} {ops : Array Oper} {o : Oper} {a : Act} {Q : Exit → Act → World → Prop}
theorem wpList_copy_row0 {rest : List Oper} (hgd : o.guard = none) (d s : Operand) (dT sT : TypeId)
    (ho : o.op = .call { callee := .builtin .copy, args := #[d, s], argTypes := #[dT, sT] }) (hu : P.underlying dT = some (.slice 5)) (hsz : (P.info? 5).map (·.size) = some 1)
    (dp sp : Option Addr) (dLen dCap sLen sCap : Nat) (hd : a.eval d = .slice dp dLen dCap) (hs : a.eval s = .slice sp sLen sCap)
    (g lo cap : Nat) (r : List Int) (hr : w.ownsRow lo 5 1 (.slice (some ⟨g, 0, none⟩) r.length cap) r.length (intV .u8 r))
    (p : Nat) (ys : List Int) (k : Nat) (hk : ys.length = k) (hn : k = Nat.min sLen dLen) (hp : 0 < ys.length → dp = some ⟨g, p, none⟩) (hfit : p + ys.length ≤ r.length)
    (hsrc : 0 < ys.length → ∃ ad, sp = some ad ∧ ∀ j v, (intV .u8 ys)[j]? = some v → w.cell? (ad.add j) = some v)
    (h : ∀ w', w'.ownsRow lo 5 1 (.slice (some ⟨g, 0, none⟩) r.length cap) r.length (intV .u8 (over r p ys)) → w.grownBy w' (some g) → wpList P ops Q rest (a.put o.dst (goInt k)) w') : wpList P ops Q (o :: rest) a w := by
  by_cases h0 : ys.length = 0
  · subst hk
    obtain rfl : ys = [] := List.eq_nil_of_length_eq_zero h0
    refine wpList_copy_nothing hgd d s dT sT ho _ hu hsz dp sp dLen dCap sLen sCap hd hs (by simpa using hn.symm) ?_
    exact h w (by rw [over_nil]; exact hr) (World.grownBy.refl _ _)
  · exact wpList_copy_row hgd d s dT sT ho hu hsz dp sp dLen dCap sLen sCap hd hs g lo cap r hr (by omega) p ys k hk hn hp hfit hsrc h
theorem step_copy_row0 {K : Act → World → Prop} {E : Prop} (hgd : o.guard = none) (d s : Operand) (dT sT : TypeId)
    (ho : o.op = .call { callee := .builtin .copy, args := #[d, s], argTypes := #[dT, sT] }) (hu : P.underlying dT = some (.slice 5)) (hsz : (P.info? 5).map (·.size) = some 1)
    (dp sp : Option Addr) (dLen dCap sLen sCap : Nat) (hd : a.eval d = .slice dp dLen dCap) (hs : a.eval s = .slice sp sLen sCap)
    (g lo cap : Nat) (r : List Int) (hr : w.ownsRow lo 5 1 (.slice (some ⟨g, 0, none⟩) r.length cap) r.length (intV .u8 r))
    (p : Nat) (ys : List Int) (k : Nat) (hk : ys.length = k) (hn : k = Nat.min sLen dLen) (hp : 0 < ys.length → dp = some ⟨g, p, none⟩) (hfit : p + ys.length ≤ r.length)
    (hsrc : 0 < ys.length → ∃ ad, sp = some ad ∧ ∀ j v, (intV .u8 ys)[j]? = some v → w.cell? (ad.add j) = some v)
    (h : ∀ w', w'.ownsRow lo 5 1 (.slice (some ⟨g, 0, none⟩) r.length cap) r.length (intV .u8 (over r p ys)) → w.grownBy w' (some g) → K (a.put o.dst (goInt k)) w') :
    if Region.wanted o (yielded ops a.tmps) = true then Oper.wp P o a w K Q else E := by
  by_cases h0 : ys.length = 0
  · have hw : Region.wanted o (yielded ops a.tmps) = true := by simp [Region.wanted, hgd]
    rw [if_pos hw]
    subst hk
    obtain rfl : ys = [] := List.eq_nil_of_length_eq_zero h0
    have hrun := run_copy_none (P := P) w dT sT o.type _ dp sp dLen dCap sLen sCap hu hsz (by simpa using hn.symm)
    unfold Oper.wp
    simp [execOp, ho, resolve, invoke, builtin, hd, hs, hrun, Result.andThen]
    exact h w (by rw [over_nil]; exact hr) (World.grownBy.refl _ _)
  · exact step_copy_rowm hgd d s dT sT ho hu hsz dp sp dLen dCap sLen sCap hd hs g lo cap r hr (by omega) p ys k hk hn hp hfit hsrc h
end
theorem make_allR (n : Nat) (hn : n ≤ 1000) (W : World) : ∃ w4 : World, (Instr.makeSlice 64 (.int .i64 n) (.int .i64 n)).run Try.prog W = .ok (.slice (some ⟨W.heap.size, 0, none⟩) n n) w4 ∧ w4.ownsRow W.heap.size 5 1 (.slice (some ⟨W.heap.size, 0, none⟩) n n) n (intV .u8 (List.replicate n 0)) ∧ Below W.heap.size W w4 := by
  obtain ⟨i1, hi1, hy0, hy1, hy2⟩ := info_parts info_u8
  obtain ⟨w4, hrun, hown, hg⟩ := run_make_full (P := Try.prog) W W.heap.size 64 5 i1 _ 1 Try.underlying64 hi1 hy0 hy1 .i64 .i64 n (by rw [hy2]; omega) (by simp only [maxLen]; omega) (Nat.le_refl _)
  rw [show (madeCells (Value.int .u8 0).cells (n * 1)).toList = intV .u8 (List.replicate n 0) by rw [Nat.mul_one]; exact (toList_madeCells_one _ _).trans (by simp [intV])] at hown
  exact ⟨w4, hrun, hown, (Below.refl _ _).grown hg (Nat.le_refl _) (by simp)⟩

theorem step_append_ring {P : Program} {ops : Array Oper} {o : Oper} {a : Act} {w : World} {K : Act → World → Prop} {Q : Exit → Act → World → Prop} {E : Prop}
    (hg : o.guard = none) (s x : Operand) (t : TypeId) (hop : o.op = Op.call { callee := Callee.builtin Builtin.append, args := #[s, x], argTypes := #[t, t] })
    (base : Nat) (e : TypeId) (i : TypeInfo) (z : Value) (size bytes : Nat) (h1 : P.underlying t = some (.slice e)) (h2 : P.info? e = some i) (h3 : i.zero = some z) (h4 : i.size = size) (h5 : i.bytes = bytes) (h6 : z.cells.size = size) (h7 : 0 < size)
    (v : Value) (n : Nat) (xs : List Value) (hs : a.eval s = v) (hown : w.ownsRow base e size v n xs)
    (ad : Addr) (m c : Nat) (news : List Value) (hx : a.eval x = .slice (some ad) m c) (hn : news.length = m * size) (hc : ∀ j u, news[j]? = some u → w.cell? (ad.add j) = some u) (h1c : ∀ u ∈ news, u.oneCell' = true)
    (b1 : n + m ≤ maxLen) (b2 : (n + m) * bytes ≤ 140737488355328) (b3 : base ≤ w.heap.size)
    (hK : ∀ v' w', w'.ownsRow base e size v' (n + m) (xs ++ news) → w.grownBy w' v.ownBlock → K (a.put o.dst v') w') :
    if Region.wanted o (yielded ops a.tmps) = true then Oper.wp P o a w K Q else E := by
  have hw : Region.wanted o (yielded ops a.tmps) = true := by simp [Region.wanted, hg]
  rw [if_pos hw]
  obtain ⟨v', w', hrun, r1, r2, _⟩ := run_append_own (P := P) w base t o.type e i z size bytes h1 h2 h3 h4 h5 h6 h7 v n xs hown ad m c news hn hc h1c b1 b2 b3
  unfold Oper.wp
  simp [execOp, hop, resolve, invoke, builtin, hs, hx, hrun, Result.andThen]
  exact hK v' w' r1 r2

theorem rd_cells {w : World} {B b o : Nat} {ys : List Int} (h : Rd w B (some ⟨b, o, none⟩) (intV .u8 ys)) : ∀ j u, (intV .u8 ys)[j]? = some u → w.cell? ((⟨b, o, none⟩ : Addr).add j) = some u := by
  rcases h with h | ⟨b', off, e, hb, hc⟩
  · intro j u hu
    rw [h] at hu
    simp at hu
  · injection e with e
    injection e with e1 e2
    subst e1; subst e2
    intro j u hu
    rw [← hc j u hu]
    simp [Addr.add]
    by_cases hj : j = 0 <;> simp [hj]
end Go.Proofs.Ytoelagfcapdfpaa
