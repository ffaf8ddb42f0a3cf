/-
  Drawing a memory.
-/
import Derived.Test.YtmcabnbmjbepjaaDoorDrawM
import Derived.Test.YtmcabnbmjbepjaaDoorBox2
import Derived.Deep.RegionLaw
namespace Go.Proofs.YtmcabnbmjbepjaaDoor
open Go.RowKit

theorem gcomp {w w2 w3 : World} {row row2 : Option Nat} (h1 : w.grownBy w2 row) (h2 : w2.grownBy w3 row2) (h : ∀ g, row2 = some g → row = some g ∨ w.heap.size ≤ g) : w.grownBy w3 row :=
  ⟨h2.os.trans h1.os, h2.tape.trans h1.tape, h2.output.trans h1.output, Nat.le_trans h1.size h2.size, fun k hk hn => by
    rw [h2.block k (Nat.lt_of_lt_of_le hk h1.size) (fun e => by
      rcases h k e.symm with h3 | h3
      · exact hn h3.symm
      · omega), h1.block k hk hn]⟩
theorem Cur.heap_ne {w : World} {B : Nat} {A : Option Addr} {n cp m : Nat} (h : Cur w B A n cp m) : ∃ o : Obj, w.heap[B]? = some o ∧ ∀ cs, o ≠ .cells cs 5 (0, 0) := by
  obtain ⟨a, sd, _, _, _, hh⟩ := h
  exact ⟨_, hh, fun cs e => by injection e with _ e; exact absurd e (by decide)⟩

/-- What one round of the drawing leaves. -/
theorem draw_step {lo gB gR B k n cp m m' b1 : Nat} {u : Value} {A : Option Addr} {w wr w1 w2 : World} {Ao : Option Addr} {co : Nat} {M : List (List Int)} {hd : List Value} {row : List Int} {rl : Nat} {gg cap1 gg2 cap2 : Nat} {o2 : Obj}
    (hrl : row.length = rl) (hlo : w.heap.size ≤ lo) (hlr : lo ≤ wr.heap.size) (hB : B < w.heap.size) (hcu : Cur wr B A n cp m) (hb : w.grownBy wr (some B)) (hgB : w.heap.size ≤ gB) (hgR : w.heap.size ≤ gR) (hgR2 : gR < lo) (hRB : gR ≠ gB) (gr : wr.heap[gR]? = some (.cells #[u] 26))
    (g3 : wr.heap[gB]? = some (.cells #[.slice Ao k co] 26))
    (ho : wr.ownsRow lo 22 1 (.slice Ao k co) k hd) (hrw : Rows wr lo wr.heap.size hd M)
    (hbase : wr.heap.size ≤ b1) (hown1 : w1.ownsRow b1 5 1 (.slice (some ⟨gg, 0, none⟩) rl cap1) rl (intV .u8 row)) (hg1 : wr.grownBy w1 (some B)) (hc1 : Cur w1 B A n cp m') (hb1 : b1 ≤ w1.heap.size)
    (hown2 : w2.ownsRow lo 22 1 (.slice (some ⟨gg2, 0, none⟩) (k + 1) cap2) (k + 1) (hd ++ [.slice (some ⟨gg, 0, none⟩) rl cap1])) (hgrow2 : (w1.alloc o2).grownBy w2 (Value.slice Ao k co).ownBlock) :
    w.grownBy (w2.setCell ⟨gB, 0, none⟩ (.slice (some ⟨gg2, 0, none⟩) (k + 1) cap2)) (some B) ∧
      (w2.setCell ⟨gB, 0, none⟩ (.slice (some ⟨gg2, 0, none⟩) (k + 1) cap2)).heap[gB]? = some (.cells #[.slice (some ⟨gg2, 0, none⟩) (k + 1) cap2] 26) ∧
      (w2.setCell ⟨gB, 0, none⟩ (.slice (some ⟨gg2, 0, none⟩) (k + 1) cap2)).ownsRow lo 22 1 (.slice (some ⟨gg2, 0, none⟩) (k + 1) cap2) (k + 1) (hd ++ [.slice (some ⟨gg, 0, none⟩) rl cap1]) ∧
      Rows (w2.setCell ⟨gB, 0, none⟩ (.slice (some ⟨gg2, 0, none⟩) (k + 1) cap2)) lo (w2.setCell ⟨gB, 0, none⟩ (.slice (some ⟨gg2, 0, none⟩) (k + 1) cap2)).heap.size (hd ++ [.slice (some ⟨gg, 0, none⟩) rl cap1]) (M ++ [row]) ∧
      (w2.setCell ⟨gB, 0, none⟩ (.slice (some ⟨gg2, 0, none⟩) (k + 1) cap2)).heap[gR]? = some (.cells #[u] 26) ∧
      Cur (w2.setCell ⟨gB, 0, none⟩ (.slice (some ⟨gg2, 0, none⟩) (k + 1) cap2)) B A n cp m' := by
  have n3 := ne_some (own_far ho g3 (by decide))
  have l3 := (Array.getElem?_eq_some_iff.1 g3).1
  have s1 := hg1.size
  have s2 : w1.heap.size + 1 ≤ w2.heap.size := by have := hgrow2.size; simpa using this
  have nB : (Value.slice Ao k co).ownBlock ≠ some B := fun e => by have := (ho.lt B e).1; omega
  have hlt : ∀ g, (Value.slice Ao k co).ownBlock = some g → w.heap.size ≤ g := fun g e => Nat.le_trans hlo (ho.lt g e).1
  have e1 : w1.heap[gB]? = some (.cells #[.slice Ao k co] 26) := block_grown hg1 g3 (fun e => by injection e with e; omega)
  have e3 : w2.heap[gB]? = some (.cells #[.slice Ao k co] 26) := block_grown hgrow2 (alloc_old _ e1) n3
  have hn2 : (Value.slice (some ⟨gg2, 0, none⟩) (k + 1) cap2).ownBlock ≠ some gB := ne_some (own_far hown2 e3 (by decide))
  have b2 : w.grownBy w2 (some B) := gcomp (gcomp (gcomp hb hg1 (fun g e => .inl e)) (grown_alloc w1 o2 none) (fun g e => by cases e)) hgrow2 (fun g e => .inr (hlt g e))
  refine ⟨gcomp b2 (grown_setCell _ _ _) (fun g e => by injection e with e; omega), one_set e3, hown2.kept (grown_setCell _ _ _) (.inr hn2), ?_, ?_, ?_⟩
  · rw [World.size_setCell]
    have hnew : OwnR w1 b1 w1.heap.size 5 (.slice (some ⟨gg, 0, none⟩) rl cap1) (intV .u8 row) := OwnR.new (by rw [intV_len, hrl]; exact hown1)
    have r1 := hrw.of_grown hg1 (fun g e => by
      injection e with e
      subst e
      exact .inr hcu.heap_ne)
    have r2 : Rows w1 lo w1.heap.size (hd ++ [.slice (some ⟨gg, 0, none⟩) rl cap1]) (M ++ [row]) := (r1.mono (Nat.le_refl _) hbase).snoc hnew (by omega) hb1
    have r3 : Rows (w1.alloc o2) lo w1.heap.size (hd ++ [.slice (some ⟨gg, 0, none⟩) rl cap1]) (M ++ [row]) := r2.below ((Below.refl _ _).alloc (Nat.le_refl _) _)
    have ho1 : w1.ownsRow lo 22 1 (.slice Ao k co) k hd := ho.kept hg1 (.inr nB)
    have r4 : Rows w2 lo w1.heap.size (hd ++ [.slice (some ⟨gg, 0, none⟩) rl cap1]) (M ++ [row]) := r3.of_grown hgrow2 (fun g e => by
      right
      rcases ho1.2 with ⟨hv, hn⟩ | ⟨g2', cap, cur, hv, _, hg2', _⟩
      · rw [hv] at e; simp [Value.ownBlock] at e
      · rw [hv] at e
        have e : g2' = g := by simpa [Value.ownBlock] using e
        subst e
        refine ⟨_, alloc_old _ hg2', fun cs h => ?_⟩
        injection h with _ h
        exact absurd h (by decide))
    have r5 := r4.of_grown (grown_setCell w2 gB (.slice (some ⟨gg2, 0, none⟩) (k + 1) cap2)) (fun g e => by
      injection e with e
      subst e
      exact .inr ⟨_, e3, fun cs h => by injection h with _ h; exact absurd h (by decide)⟩)
    exact r5.mono (Nat.le_refl _) (by omega)
  · exact block_grown (grown_setCell _ _ _) (block_grown hgrow2 (alloc_old _ (block_grown hg1 gr (fun e => by injection e with e; omega))) (fun e => by have := (ho.lt _ e).1; omega)) (fun e => by injection e with e; omega)
  · exact ((hc1.kept ((Below.refl _ _).alloc (Nat.le_refl _) o2)).grown hgrow2 (fun e => nB e.symm)).grown (grown_setCell _ _ _) (fun e => by injection e with e; omega)

theorem news_two (w : World) (o : Obj) (x : Value) (t : TypeId) : ∀ (j : Nat) (u : Value), [x][j]? = some u → ((w.alloc o).alloc (.cells #[x] t)).cell? ((⟨w.heap.size + 1, 0, none⟩ : Addr).add j) = some u := fun j u hj => by
  have h := cell_one_new (w.alloc o) x t j u hj
  simpa using h
theorem own_one {base : Nat} (w : World) (z : Int) (hb : base ≤ w.heap.size := by omega) : (w.alloc (.cells #[.int .u8 z] 5)).ownsRow base 5 1 (.slice (some ⟨w.heap.size, 0, none⟩) [z].length 1) [z].length (intV .u8 [z]) :=
  ⟨rfl, .inr ⟨w.heap.size, 1, #[.int .u8 z], rfl, hb, heap_alloc_new _ _, Nat.le_refl _, by simp only [maxLen]; omega, rfl, rfl⟩⟩
theorem info_u8s9 : (Tryd.prog.info? 22).map (fun i => (i.zero, i.size, i.bytes)) = some (some (.slice none 0 0), 1, 24) := by kernel_rfl
theorem lens_ok : ∀ t ∈ ([8, 12, 4, 16, 1, 2, 20, 64] : List Int), 0 ≤ t ∧ t ≤ 64 := by decide
theorem nums_ok : ∀ t ∈ ([2, 1, 3, 2, 0, 16] : List Int), 0 ≤ t ∧ t ≤ 16 := by decide
theorem by_snoc {M : List (List Int)} {row : List Int} (h : ∀ r ∈ M, r.length ≤ 65 ∧ ∀ z ∈ r, IsBy z) (h1 : row.length ≤ 65) (h2 : ∀ z ∈ row, IsBy z) : ∀ r ∈ M ++ [row], r.length ≤ 65 ∧ ∀ z ∈ r, IsBy z := fun r hr => by
  rcases List.mem_append.1 hr with hr | hr
  · exact h r hr
  · rw [List.mem_singleton.1 hr]; exact ⟨h1, h2⟩

theorem draw_end {B k n cp m c : Nat} {A A' : Option Addr} {w w5 : World} {M : List (List Int)} {hd : List Value} {u : Value} (hB : B < w.heap.size) (hb : w.grownBy w5 (some B)) (hs : w.heap.size + 1 ≤ w5.heap.size)
    (ho : w5.ownsRow (w.heap.size + 1) 22 1 (.slice A' k c) k hd) (hrw : Rows w5 (w.heap.size + 1) w5.heap.size hd M) (hk : M.length = k) (hcu : Cur w5 B A n cp m) :
    OwnM (w5.setCell ⟨w.heap.size, 0, none⟩ u) w.heap.size (w5.setCell ⟨w.heap.size, 0, none⟩ u).heap.size (.slice A' k c) M ∧ Cur (w5.setCell ⟨w.heap.size, 0, none⟩ u) B A n cp m ∧ w.grownBy (w5.setCell ⟨w.heap.size, 0, none⟩ u) (some B) := by
  have hm : OwnM w5 (w.heap.size + 1) w5.heap.size (.slice A' k c) M := hrw.own ⟨by rw [hrw.len, hk]; exact ho, fun g e => (ho.lt g e).2⟩
  refine ⟨?_, hcu.grown (grown_setCell _ _ _) (fun e => by injection e with e; omega), gcomp hb (grown_setCell _ _ _) (fun g e => .inr (by injection e with e; omega))⟩
  rw [World.size_setCell]
  exact (own_setCell hm (.inl (Nat.lt_succ_self _))).mono (Nat.le_succ _) (Nat.le_refl _)

set_option maxRecDepth 100000 in
set_option maxHeartbeats 6400000 in
theorem memory_calls (B n cp m : Nat) (A : Option Addr) (zs : List Int) (w : World) (hc : Cur w B A n cp m) (hr : Rd w B A (intV .u8 zs)) (hn : zs.length = n) (hm : n ≤ 65536) (hz : ∀ z ∈ zs, (Lit.int .u8 z).wf = true) (hlim : m ≤ 900000) :
    Calls Tryd.prog 34 #[.pointer (some ⟨B, 0, none⟩)] w fun e w' => ∃ (M : List (List Int)) (v : Value), e = .returned (.agg #[v]) ∧ M.length ≤ 17 ∧ (∀ r ∈ M, r.length ≤ 65 ∧ ∀ z ∈ r, IsBy z) ∧ OwnM w' w.heap.size w'.heap.size v M ∧ Cur w' B A n cp (m + 3000) ∧ w.grownBy w' (some B) := by
  obtain ⟨i0, hi0, hz0, hz1, hz2⟩ := info_parts info_u8s9
  have hlt0 := hc.lt
  have HL := Lib.hid (fun (W : World) ts m' (hc : Cur W B A n cp m') (hr : Rd W B A (intV .u8 zs)) h0 h1 h2 q h4 => among_lit B n cp m' A zs ts W hc hr hn hm hz h0 h1 h2 q h4)
  have HBO := Lib.hid (fun (W : World) m' k (hc : Cur W B A n cp m') (hr : Rd W B A (intV .u8 zs)) h1 h2 => bytesOf_calls B n cp m' A zs k W hc hr hn hm hz h1 h2)
  have HPK := Lib.hid (fun (W : World) m' q (hc : Cur W B A n cp m') (hr : Rd W B A (intV .u8 zs)) h1 h2 h3 => pick_calls B n cp m' A zs q W hc hr hn hm hz h1 h2 h3)
  have HR := Lib.hid hr
  obtain ⟨w0, hw0⟩ : ∃ w0, w.alloc (.cells #[.slice none 0 0] 26) = w0 := ⟨_, rfl⟩
  have hb0 : Below w.heap.size w w0 := by rw [← hw0]; exact (Below.refl _ _).alloc (Nat.le_refl _) _
  have gr0 : w0.heap[w.heap.size]? = some (.cells #[.slice none 0 0] 26) := by rw [← hw0]; exact heap_alloc_new _ _
  have hz0s : w0.heap.size = w.heap.size + 1 := by rw [← hw0]; simp
  obtain ⟨w1, hw1⟩ : ∃ w1, (w0.alloc (.cells #[] 22)).alloc (.cells #[.slice (some ⟨w0.heap.size, 0, none⟩) 0 0] 26) = w1 := ⟨_, rfl⟩
  have hb1 : Below w0.heap.size w0 w1 := by rw [← hw1]; exact ((Below.refl _ _).alloc (Nat.le_refl _) _).alloc (by simp) _
  obtain ⟨gB, hgB⟩ : ∃ gB, w0.heap.size + 1 = gB := ⟨_, rfl⟩
  have k3 : w1.heap[gB]? = some (.cells #[.slice (some ⟨w0.heap.size, 0, none⟩) 0 0] 26) := by rw [← hw1, ← hgB]; exact heap_alloc_at (by simp)
  have ko : w1.ownsRow (w.heap.size + 1) 22 1 (.slice (some ⟨w0.heap.size, 0, none⟩) 0 0) 0 [] := by
    rw [← hw1]
    exact (World.ownsRow_made (base := w.heap.size + 1) (e := 22) (size := 1) w0 #[] 0 (by omega) (Nat.zero_le _) rfl).alloc _
  have HG1 := Lib.hid (grown_of_below (hb0.trans (hb1.mono hb0.size)) (some B))
  have HC1 := Lib.hid (hc.kept (hb0.trans (hb1.mono hb0.size)))
  have HK := Lib.hid (And.intro k3 ko)
  have HGR := Lib.hid ((hb1.block _ (Array.getElem?_eq_some_iff.1 gr0).1).trans gr0)
  have HS1 := Lib.hid (show w.heap.size + 1 + 2 ≤ w1.heap.size by have : w1.heap.size = w0.heap.size + 2 := (by rw [← hw1]; simp); omega)
  have hgB1 : w.heap.size + 2 = gB := by omega
  have HW := Lib.hid hw1
  rw [hz0s] at HW
  rw [← hw0] at HW
  clear hz hn hc hr hb0 hb1 k3 ko hw1 gr0
  have HW0 := Lib.hid hw0
  have HGB := Lib.hid hgB
  clear hw0 hgB
  go_enter Tryd.func34, Tryd.ntmps34
  go_upto_region 2 with fail
  rw [HW.out]
  have HRG := Lib.hid (fun (W : World) (h : w.grownBy W (some B)) => (HR.out.grown h (Nat.le_of_lt hlt0) (fun g e => by injection e with e; omega) : Rd W B A (intV .u8 zs)))
  have HAM1 := Lib.hid (HL.out w1 [2, 1, 3, 2, 0, 16] m HC1.out (HRG.out w1 HG1.out) (by omega) (by decide) (by decide) 6 rfl)
  go_wp2_with fail
  refine HAM1.out.mono ?_
  rintro e w2 ⟨⟨t, ht, rfl⟩, hc2, hg2⟩
  obtain ⟨r, rfl⟩ : ∃ r : Nat, t = r := ⟨t.toNat, by have := nums_ok t ht; omega⟩
  have hr16 : r ≤ 16 := by have := nums_ok _ ht; omega
  have NB := Lib.hid (show (some B : Option Nat) ≠ some gB from fun e => by injection e with e; omega)
  have NR := Lib.hid (show (some B : Option Nat) ≠ some w.heap.size from fun e => by injection e with e; omega)
  have HG2 := Lib.hid (gcomp HG1.out hg2 (fun g e => .inl e))
  have HC2 := Lib.hid (hc2.more (show m + 2 ≤ m + 2 + 140 * ([] : List (List Int)).length + 0 by simp))
  have HK2 := Lib.hid (And.intro (block_grown hg2 HK.out.1 NB.out) (HK.out.2.kept hg2 (.inr (by simp [Value.ownBlock]; omega))))
  have HGR2 := Lib.hid (block_grown hg2 HGR.out NR.out)
  have hs2 : w.heap.size + 3 ≤ w2.heap.size := by have := hg2.size; have := HS1.out; omega
  clear hc2 hg2 ht
  go_wp2_with fail
  go_loopg [4] r (fun g s wx => ∃ (M : List (List Int)) (hd : List Value) (Ao : Option Addr) (co : Nat), M.length + g ≤ 16 ∧ s = .int .i64 (g : Nat) ∧ Hid (∀ r ∈ M, r.length ≤ 65 ∧ ∀ z ∈ r, IsBy z) ∧ Hid (w.grownBy wx (some B)) ∧ wx.heap[gB]? = some (.cells #[.slice Ao M.length co] 26) ∧ Hid (wx.heap[w.heap.size]? = some (.cells #[.slice none 0 0] 26)) ∧ Hid (wx.ownsRow (w.heap.size + 1) 22 1 (.slice Ao M.length co) M.length hd) ∧ Hid (Rows wx (w.heap.size + 1) wx.heap.size hd M) ∧ Hid (Cur wx B A n cp (m + 2 + 140 * M.length + 0)) ∧ w.heap.size + 3 ≤ wx.heap.size)
  case atStart => exact ⟨[], [], _, _, by simpa using hr16, rfl, Lib.hid (fun r h => by cases h), HG2, HK2.out.1, HGR2, Lib.hid HK2.out.2, Lib.hid (by simpa using Rows.none_ _ _ _), HC2, hs2⟩
  case round =>
    obtain ⟨M, hd, Ao, co, hcnt, rfl, HZ, HG, h3, HGR, HO, HRW, HCU, hsz⟩ := hrel
    have h3H := Lib.hid h3
    have c3 := one_cell h3
    have f3 := one_frozen h3
    have N3 := Lib.hid (ne_some (own_far HO.out h3 (by decide)))
    have nB := Lib.hid (show (Value.slice Ao M.length co).ownBlock ≠ some B from fun e => by have := (HO.out.lt B e).1; omega)
    clear h3
    cases gk with
    | succ g =>
      have HGD := Lib.hid (gcomp HG.out (grown_of_below (Below.refl wr.heap.size wr).drew none) (fun g e => by cases e))
      have HAM : Hid (Calls Tryd.prog 35 #[.pointer (some ⟨B, 0, none⟩), .slice (some ⟨wr.heap.size, 0, none⟩) 8 8] (wr.alloc (.cells #[.int .i64 8, .int .i64 12, .int .i64 4, .int .i64 16, .int .i64 1, .int .i64 2, .int .i64 20, .int .i64 64] 3)).drew fun e w' => OneI [8, 12, 4, 16, 1, 2, 20, 64] e ∧ Cur w' B A n cp (m + 2 + 140 * M.length + 0 + 2) ∧ wr.drew.grownBy w' (some B)) :=
        Lib.hid (HL.out wr.drew [8, 12, 4, 16, 1, 2, 20, 64] (m + 2 + 140 * M.length + 0) HCU.out (HRG.out wr.drew HGD.out) (by omega) (by decide) (by decide) 8 rfl)
      go_upto_region 5 with fail
      have d3 : wr.drew.cell? ⟨gB, 0, none⟩ = some (.slice Ao M.length co) := c3
      have df : wr.drew.frozen? ⟨gB, 0, none⟩ = false := f3
      have l3 : gB < wr.drew.heap.size := cell_lt c3
      have d3a := cell_alloc d3 (.cells #[.int .i64 8, .int .i64 12, .int .i64 4, .int .i64 16, .int .i64 1, .int .i64 2, .int .i64 20, .int .i64 64] 3)
      have d3b : (wr.alloc (.cells #[.int .i64 8, .int .i64 12, .int .i64 4, .int .i64 16, .int .i64 1, .int .i64 2, .int .i64 20, .int .i64 64] 3)).drew.cell? ⟨gB, 0, none⟩ = some (.slice Ao M.length co) := d3a
      have dsz : wr.drew.heap.size = wr.heap.size := rfl
      go_region_law (first | (go_simp; go_at_call 35; (refine HAM.out.mono ?_); rintro e wa ⟨⟨t, ht, rfl⟩, hca, hga⟩; obtain ⟨k1, rfl⟩ : ∃ k1 : Nat, t = k1 := ⟨t.toNat, by have := lens_ok t ht; omega⟩; have hk1 : k1 ≤ 64 := (by have := lens_ok _ ht; omega); have xa := cell_grown hga d3 NB.out; have xaf := frozen_grown hga df l3 NB.out; have HBO1 := Lib.hid (HBO.out wa _ k1 hca (HRG.out wa (gcomp HGD.out hga (fun g e => .inl e))) (by omega) (by omega)); have HGA := Lib.hid hga; have hsa := hga.size; clear hca hga ht) | (go_simp; go_at_call 42; (refine HBO1.out.mono ?_); rintro e wb ⟨bs, gg, cap1, rfl, rfl, hbz, hown1, hcb, hgb⟩; have xb := cell_grown hgb xa NB.out; have xbf := frozen_grown hgb xaf (cell_lt xa) NB.out; have HBZ := Lib.hid hbz; have HOW1 := Lib.hid hown1; have HCB := Lib.hid hcb; have HGB2 := Lib.hid (gcomp (w := wr) (gcomp (grown_of_below (Below.refl wr.heap.size wr).drew (some B)) HGA.out (fun g e => .inl e)) hgb (fun g e => .inl e)); have HO1 := Lib.hid (((HO.out.kept HGB2.out (.inr nB.out))).alloc (.cells #[.slice (some ⟨gg, 0, none⟩) bs.length cap1] 22)); have hsb := hgb.size; have xbb := cell_alloc xb (.cells #[.slice (some ⟨gg, 0, none⟩) bs.length cap1] 22); clear hown1 hcb hgb hbz) | (refine step_append_lies _ (by rfl) _ _ _ (by rfl) (w.heap.size + 1) 22 i0 _ 1 24 Tryd.underlying24 hi0 hz0 hz1 hz2 rfl (by decide) (.slice Ao M.length co) M.length hd (by rfl) HO1.out ⟨wb.heap.size, 0, none⟩ 1 1 [.slice (some ⟨gg, 0, none⟩) bs.length cap1] (by rfl) (by rfl) (cell_one_new _ _ _) (by simp [Value.oneCell']) (by omega) (by simp only [maxLen]; omega) (by omega) (by simp at hsa hsb ⊢; omega) (wb.heap.size + 1) (by simp) ?_; intro gg2 cap2 w3 hown2 hgrow2 hat2 hlt2; have y3 := cell_grown hgrow2 xbb N3.out; have yf := frozen_grown hgrow2 (frozen_alloc xbf (cell_lt xb) (.cells #[.slice (some ⟨gg, 0, none⟩) bs.length cap1] 22)) (cell_lt xbb) N3.out; have HOW2 := Lib.hid hown2; have HGR2 := Lib.hid hgrow2; clear hat2 hown2 hgrow2))
      all_goals (go_wp2_with fail; go_roundg g; (case measure => omega); (case rel => (have hq := draw_step (lo := w.heap.size + 1) (gR := w.heap.size) (row := bs) rfl (Nat.le_succ _) (by omega) hlt0 HCU.out HG.out (by omega) (Nat.le_refl _) (Nat.lt_succ_self _) (by omega) HGR.out h3H.out HO.out HRW.out (show wr.heap.size ≤ wa.heap.size by omega) HOW1.out HGB2.out HCB.out hsb HOW2.out HGR2.out; exact ⟨M ++ [bs], _, _, _, by simp; omega, by go_num, Lib.hid (by_snoc HZ.out (by omega) HBZ.out), Lib.hid hq.1, by rw [List.length_append, List.length_singleton]; exact hq.2.1, Lib.hid hq.2.2.2.2.1, Lib.hid (by rw [List.length_append, List.length_singleton]; exact hq.2.2.1), Lib.hid hq.2.2.2.1, Lib.hid (hq.2.2.2.2.2.more (by simp; omega)), by have h := HGR2.out.size; rw [World.size_setCell]; simp at h hsa; omega⟩)))
    | zero =>
      have HPK1 := Lib.hid (HPK.out wr _ 50 HCU.out (HRG.out wr HG.out) (by omega) (by omega) (by omega))
      go_wp2_with fail
      refine HPK1.out.mono ?_
      rintro e wp ⟨⟨p, rfl, hp0, hp1⟩, hcp, hgp⟩
      have HGP := Lib.hid (gcomp HG.out hgp (fun g e => .inl e))
      have HCP := Lib.hid hcp
      have HOP := Lib.hid (HO.out.kept hgp (.inr nB.out))
      have HRP := Lib.hid ((HRW.out.of_grown hgp (fun g e => by injection e with e; subst e; exact .inr HCU.out.heap_ne)).mono (Nat.le_refl _) hgp.size)
      have H3P := Lib.hid (block_grown hgp h3H.out NB.out)
      have HGRP := Lib.hid (block_grown hgp HGR.out NR.out)
      have hszp : w.heap.size + 3 ≤ wp.heap.size := by have := hgp.size; omega
      have N3P := N3
      clear hcp hgp c3 f3
      have c3 := one_cell H3P.out
      have f3 := one_frozen H3P.out
      by_cases h0 : p = 0
      · subst h0
        go_upto_region 14 with ((at_builtin; refine wpList_append_own _ rfl _ _ 24 rfl (w.heap.size + 1) 22 i0 _ 1 24 Tryd.underlying24 hi0 hz0 hz1 hz2 rfl (by decide) _ _ _ rfl ((HOP.out.alloc (.cells #[] 5)).alloc (.cells #[.slice (some ⟨wp.heap.size, 0, none⟩) 0 0] 22)) ⟨wp.heap.size + 1, 0, none⟩ 1 1 [.slice (some ⟨wp.heap.size, 0, none⟩) 0 0] rfl rfl (news_two _ _ _ _) (by simp [Value.oneCell']) (by simp only [maxLen]; omega) (by omega) (by simp; omega) ?_; intro v' w5 hown5 hgrow hnil5; obtain ⟨g5, c5, rfl⟩ := own_some0 hown5 (Nat.succ_pos _); have y3 := cell_grown hgrow (cell_alloc (cell_alloc c3 (.cells #[] 5)) (.cells #[.slice (some ⟨wp.heap.size, 0, none⟩) 0 0] 22)) N3P.out; have yf := frozen_grown hgrow (frozen_alloc (frozen_alloc f3 (cell_lt c3) (.cells #[] 5)) (cell_lt (cell_alloc c3 (.cells #[] 5))) (.cells #[.slice (some ⟨wp.heap.size, 0, none⟩) 0 0] 22)) (cell_lt (cell_alloc (cell_alloc c3 (.cells #[] 5)) (.cells #[.slice (some ⟨wp.heap.size, 0, none⟩) 0 0] 22))) N3P.out; have HOW5 := Lib.hid hown5; have HGR5 := Lib.hid hgrow; clear hown5 hgrow hnil5))
        have HQ := Lib.hid (draw_step (lo := w.heap.size + 1) (gR := w.heap.size) (row := []) rfl (Nat.le_succ _) (by omega) hlt0 HCP.out HGP.out (by omega) (Nat.le_refl _) (Nat.lt_succ_self _) (by omega) HGRP.out H3P.out HOP.out HRP.out (Nat.le_refl _) (World.ownsRow_made (base := wp.heap.size) (e := 5) (size := 1) wp #[] 0 (Nat.le_refl _) (Nat.zero_le _) rfl) (grown_alloc _ _ _) (HCP.out.kept ((Below.refl _ _).alloc (Nat.le_refl _) _)) (by simp) HOW5.out HGR5.out)
        have hs6 := HQ.out.1.size
        obtain ⟨w6, hw6⟩ : ∃ w6, w5.setCell ⟨gB, 0, none⟩ (.slice (some ⟨g5, 0, none⟩) (M.length + 1) c5) = w6 := ⟨_, rfl⟩
        rw [hw6] at HQ ⊢
        have r0 := one_cell HQ.out.2.2.2.2.1
        have rf := one_frozen HQ.out.2.2.2.2.1
        have cq5 := one_cell HQ.out.2.1
        have hz6 : w.heap.size + 1 ≤ w6.heap.size := (Array.getElem?_eq_some_iff.1 HQ.out.2.2.2.2.1).1
        clear hw6
        go_wp2_with fail
        refine bodyPost_ret (v := .agg #[.slice (some ⟨g5, 0, none⟩) (M.length + 1) c5]) (by simp [results, Tryd.results34, go_sem, r0, cq5]) rfl ?_
        have hE := draw_end (u := .slice (some ⟨g5, 0, none⟩) (M.length + 1) c5) hlt0 HQ.out.1 hz6 HQ.out.2.2.1 HQ.out.2.2.2.1 (by simp) HQ.out.2.2.2.2.2
        exact ⟨M ++ [[]], _, rfl, by simp; omega, by_snoc HZ.out (by simp) (fun z hz => by cases hz), hE.1, hE.2.1.more (by omega), hE.2.2⟩
      by_cases h1 : p = 1
      · subst h1
        clear h0
        have HGD := Lib.hid (gcomp HGP.out (grown_of_below (Below.refl wp.heap.size wp).drew none) (fun g e => by cases e))
        have HBO1 := Lib.hid (HBO.out wp.drew _ 65 HCP.out (HRG.out wp.drew HGD.out) (by omega) (by omega))
        go_upto_region 10 with fail
        have d3 : wp.drew.cell? ⟨gB, 0, none⟩ = some (.slice Ao M.length co) := c3
        have df : wp.drew.frozen? ⟨gB, 0, none⟩ = false := f3
        have l3 : gB < wp.drew.heap.size := cell_lt c3
        have dsz : wp.drew.heap.size = wp.heap.size := rfl
        go_region_law (first | (go_simp; go_at_call 42; (refine HBO1.out.mono ?_); rintro e wb ⟨bs, gg, cap1, rfl, hbl, hbz, hown1, hcb, hgb⟩; have xb := cell_grown hgb d3 NB.out; have xbf := frozen_grown hgb df l3 NB.out; have HBL := Lib.hid hbl; have HBZ := Lib.hid hbz; have HOW1 := Lib.hid hown1; have HCB := Lib.hid hcb; have HGB2 := Lib.hid (gcomp (w := wp) (grown_of_below (Below.refl wp.heap.size wp).drew (some B)) hgb (fun g e => .inl e)); have HO1 := Lib.hid (((HOP.out.kept HGB2.out (.inr nB.out))).alloc (.cells #[.slice (some ⟨gg, 0, none⟩) 65 cap1] 22)); have hsb := hgb.size; have xbb := cell_alloc xb (.cells #[.slice (some ⟨gg, 0, none⟩) 65 cap1] 22); clear hown1 hcb hgb hbz hbl) | (refine step_append_lies _ (by rfl) _ _ _ (by rfl) (w.heap.size + 1) 22 i0 _ 1 24 Tryd.underlying24 hi0 hz0 hz1 hz2 rfl (by decide) (.slice Ao M.length co) M.length hd (by rfl) HO1.out ⟨wb.heap.size, 0, none⟩ 1 1 [.slice (some ⟨gg, 0, none⟩) 65 cap1] (by rfl) (by rfl) (cell_one_new _ _ _) (by simp [Value.oneCell']) (by omega) (by simp only [maxLen]; omega) (by omega) (by simp at hsb ⊢; omega) (wb.heap.size + 1) (by simp) ?_; intro gg2 cap2 w3 hown2 hgrow2 hat2 hlt2; have y3 := cell_grown hgrow2 xbb N3.out; have yf := frozen_grown hgrow2 (frozen_alloc xbf (cell_lt xb) (.cells #[.slice (some ⟨gg, 0, none⟩) 65 cap1] 22)) (cell_lt xbb) N3.out; have HOW2 := Lib.hid hown2; have HGR2 := Lib.hid hgrow2; clear hat2 hown2 hgrow2))
        all_goals (
          go_upto_region 14 with fail
          have HQ := Lib.hid (draw_step (lo := w.heap.size + 1) (gR := w.heap.size) (row := bs) HBL.out (Nat.le_succ _) (by omega) hlt0 HCP.out HGP.out (by omega) (Nat.le_refl _) (Nat.lt_succ_self _) (by omega) HGRP.out H3P.out HOP.out HRP.out (Nat.le_refl _) HOW1.out HGB2.out HCB.out hsb HOW2.out HGR2.out)
          have hs6 := HQ.out.1.size
          obtain ⟨w6, hw6⟩ : ∃ w6, w3.setCell ⟨gB, 0, none⟩ (.slice (some ⟨gg2, 0, none⟩) (M.length + 1) cap2) = w6 := ⟨_, rfl⟩
          rw [hw6] at HQ ⊢
          have r0 := one_cell HQ.out.2.2.2.2.1
          have rf := one_frozen HQ.out.2.2.2.2.1
          have cq5 := one_cell HQ.out.2.1
          have hz6 : w.heap.size + 1 ≤ w6.heap.size := (Array.getElem?_eq_some_iff.1 HQ.out.2.2.2.2.1).1
          clear hw6
          go_wp2_with fail
          refine bodyPost_ret (v := .agg #[.slice (some ⟨gg2, 0, none⟩) (M.length + 1) cap2]) (by simp [results, Tryd.results34, go_sem, r0, cq5]) rfl ?_
          have hE := draw_end (u := .slice (some ⟨gg2, 0, none⟩) (M.length + 1) cap2) hlt0 HQ.out.1 hz6 HQ.out.2.2.1 HQ.out.2.2.2.1 (by simp) HQ.out.2.2.2.2.2
          exact ⟨M ++ [bs], _, rfl, by simp; omega, by_snoc HZ.out (by have := HBL.out; omega) HBZ.out, hE.1, hE.2.1.more (by omega), hE.2.2⟩)
      by_cases h2 : p = 2
      · subst h2
        clear h0 h1
        have HC2' := Lib.hid (HCP.out.more (show m + 2 + 140 * M.length + 0 + 2 ≤ m + 2 + 140 * M.length + 2 by omega))
        go_wp2_with fail
        go_loopg [] (17 - M.length) (fun g wx => ∃ (M : List (List Int)) (hd : List Value) (Ao : Option Addr) (co : Nat), M.length + g = 17 ∧ Hid (∀ r ∈ M, r.length ≤ 65 ∧ ∀ z ∈ r, IsBy z) ∧ Hid (w.grownBy wx (some B)) ∧ wx.heap[gB]? = some (.cells #[.slice Ao M.length co] 26) ∧ Hid (wx.heap[w.heap.size]? = some (.cells #[.slice none 0 0] 26)) ∧ Hid (wx.ownsRow (w.heap.size + 1) 22 1 (.slice Ao M.length co) M.length hd) ∧ Hid (Rows wx (w.heap.size + 1) wx.heap.size hd M) ∧ Hid (Cur wx B A n cp (m + 2 + 140 * M.length + 2)) ∧ w.heap.size + 3 ≤ wx.heap.size)
        case atStart => exact ⟨M, hd, Ao, co, by omega, HZ, HGP, H3P.out, HGRP, HOP, HRP, HC2', hszp⟩
        case round =>
          clear HZ HGP H3P HGRP HOP HRP HC2' HCP hszp c3 f3 HG h3H HGR HO HRW HCU hsz N3 nB N3P hcnt
          obtain ⟨M, hd, Ao, co, hcnt, HZ, HG, h3, HGR, HO, HRW, HCU, hsz⟩ := hrel
          have h3H := Lib.hid h3
          have c3 := one_cell h3
          have f3 := one_frozen h3
          have N3 := Lib.hid (ne_some (own_far HO.out h3 (by decide)))
          clear h3
          cases gk with
          | zero =>
            have HM := Lib.hid (show M.length = 17 by omega)
            have hge : ¬ ((M.length : Int) < 17) := by omega
            clear hcnt
            go_upto_region 14 with fail
            have r0 := one_cell HGR.out
            have rf := one_frozen HGR.out
            go_wp2_with fail
            refine bodyPost_ret (v := .agg #[.slice Ao M.length co]) (by simp [results, Tryd.results34, go_sem, r0, c3]) rfl ?_
            have hE := draw_end (u := .slice Ao M.length co) hlt0 HG.out (by omega) HO.out HRW.out rfl HCU.out
            exact ⟨M, _, rfl, by have := HM.out; omega, HZ.out, hE.1, hE.2.1.more (by have := HM.out; omega), hE.2.2⟩
          | succ g =>
            go_wp2_with ((at_builtin; refine wpList_append_own _ rfl _ _ 24 rfl (w.heap.size + 1) 22 i0 _ 1 24 Tryd.underlying24 hi0 hz0 hz1 hz2 rfl (by decide) _ _ _ rfl ((HO.out.alloc (.cells #[.int .u8 1] 5)).alloc (.cells #[.slice (some ⟨wr.heap.size, 0, none⟩) 1 1] 22)) ⟨wr.heap.size + 1, 0, none⟩ 1 1 [.slice (some ⟨wr.heap.size, 0, none⟩) 1 1] rfl rfl (news_two _ _ _ _) (by simp [Value.oneCell']) (by simp only [maxLen]; omega) (by omega) (by simp; omega) ?_; intro v' w5 hown5 hgrow hnil5; obtain ⟨g5, c5, rfl⟩ := own_some0 hown5 (Nat.succ_pos _); have y3 := cell_grown hgrow (cell_alloc (cell_alloc c3 (.cells #[.int .u8 1] 5)) (.cells #[.slice (some ⟨wr.heap.size, 0, none⟩) 1 1] 22)) N3.out; have yf := frozen_grown hgrow (frozen_alloc (frozen_alloc f3 (cell_lt c3) (.cells #[.int .u8 1] 5)) (cell_lt (cell_alloc c3 (.cells #[.int .u8 1] 5))) (.cells #[.slice (some ⟨wr.heap.size, 0, none⟩) 1 1] 22)) (cell_lt (cell_alloc (cell_alloc c3 (.cells #[.int .u8 1] 5)) (.cells #[.slice (some ⟨wr.heap.size, 0, none⟩) 1 1] 22))) N3.out; have HOW5 := Lib.hid hown5; have HGR5 := Lib.hid hgrow; clear hown5 hgrow hnil5))
            have HQ := Lib.hid (draw_step (lo := w.heap.size + 1) (gR := w.heap.size) (row := [1]) rfl (Nat.le_succ _) (by omega) hlt0 HCU.out HG.out (by omega) (Nat.le_refl _) (Nat.lt_succ_self _) (by omega) HGR.out h3H.out HO.out HRW.out (Nat.le_refl _) (own_one (base := wr.heap.size) wr 1) (grown_alloc _ _ _) (HCU.out.kept ((Below.refl _ _).alloc (Nat.le_refl _) _)) (by simp) HOW5.out HGR5.out)
            go_roundg g
            case measure => omega
            case rel => exact ⟨M ++ [[1]], _, _, _, by simp; omega, Lib.hid (by_snoc HZ.out (by simp) (fun z hz => by rw [List.mem_singleton.1 hz]; unfold IsBy; omega)), Lib.hid HQ.out.1, by rw [List.length_append, List.length_singleton]; exact HQ.out.2.1, Lib.hid HQ.out.2.2.2.2.1, Lib.hid (by rw [List.length_append, List.length_singleton]; exact HQ.out.2.2.1), Lib.hid HQ.out.2.2.2.1, Lib.hid (HQ.out.2.2.2.2.2.more (by simp; omega)), by have h := HGR5.out.size; rw [World.size_setCell]; simp at h; omega⟩
      · go_upto_region 14 with fail
        have r0 := one_cell HGRP.out
        have rf := one_frozen HGRP.out
        go_wp2_with fail
        refine bodyPost_ret (v := .agg #[.slice Ao M.length co]) (by simp [results, Tryd.results34, go_sem, r0, c3]) rfl ?_
        have hE := draw_end (u := .slice Ao M.length co) hlt0 HGP.out (by omega) HOP.out HRP.out rfl HCP.out
        exact ⟨M, _, rfl, by omega, HZ.out, hE.1, hE.2.1.more (by omega), hE.2.2⟩
end Go.Proofs.YtmcabnbmjbepjaaDoor
