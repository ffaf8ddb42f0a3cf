/-
  Answers about gaps are small; marks on a list from a number on.
-/
import Derived.Test.YtoelagfcapdfpaaGpH
namespace Go.Proofs.Ytoelagfcapdfpaa
open Go.RowKit

theorem small_of {m : List (List Int)} (h : MemOK m) : Small m := ⟨h.1, fun r hr => (h.2 r hr).2⟩
theorem small_nil : Small [] := ⟨by simp, fun r hr => by simp at hr⟩
theorem moveGapR_small (m : List (List Int)) (g : Gp) (p : Int) : Small (moveGapR m g p).1 := by
  unfold moveGapR
  split
  · rename_i h
    obtain ⟨hg, h0, h1⟩ := h
    obtain ⟨n, s, l, c, a, b, hn, rfl, h2, h3, h4, h5, h6, h7, h8⟩ := hg.nat
    simp only [Int.toNat_natCast]
    dsimp only at h1
    exact small_of (moveM_ok hg.1 h2 h3 (by omega)).1
  · exact small_nil
theorem takeBackR_small (m : List (List Int)) (g : Gp) (k : Int) : Small (takeBackR m g k).1 := by
  unfold takeBackR
  split
  · rename_i h
    exact small_of h.1.1.1
  · exact small_nil
theorem takeAheadR_small (m : List (List Int)) (g : Gp) (k : Int) : Small (takeAheadR m g k).1 := by
  unfold takeAheadR
  split
  · rename_i h
    exact small_of h.1.1.1
  · exact small_nil
theorem closeGapR_small (m : List (List Int)) (g : Gp) : Small (closeGapR m g).1 := by
  unfold closeGapR
  split
  · rename_i hg
    obtain ⟨n, s, l, c, a, b, hn, rfl, h2, h3, h4, h5, h6, h7, h8⟩ := hg.nat
    simp only [Int.toNat_natCast]
    exact small_of (moveM_ok hg.1 h2 h3 (by omega)).1
  · exact small_nil
theorem markBk_calls (A : Option Addr) (c lo hi : Nat) (R : List Int) (k : Nat) (kk : Int) (w : World) (ho : OwnR w lo hi 5 (.slice A R.length c) (intV .u8 R)) (hk : kk = (k : Nat)) (hk2 : k ≤ 4194304) (hR : R.length ≤ 2097152) (hB : lo ≤ w.heap.size) :
    Calls Try.prog 55 #[.slice A R.length c, .int .i64 kk] w fun e w' => e = .returned (.int .i64 (kk + R.length)) ∧ OwnR w' lo hi 5 (.slice A R.length c) (intV .u8 (marksB k R.length)) ∧ Span lo hi w w' := by
  subst hk
  have h1 := ho.1
  rw [intV_len] at h1
  refine (markByteS_calls A c lo R k w h1 hR hk2 hB).mono ?_
  rintro e w' ⟨rfl, h2, hg⟩
  exact ⟨rfl, ⟨by rw [intV_len, marksB_len]; exact h2, ho.2⟩, Span.of_grown hg (fun g e => ⟨(h1.lt g e).1, ho.2 g e⟩)⟩
end Go.Proofs.Ytoelagfcapdfpaa
