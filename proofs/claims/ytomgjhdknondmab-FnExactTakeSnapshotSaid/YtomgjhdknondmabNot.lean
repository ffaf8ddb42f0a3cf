/-
  NoticedBy of spec and impl.
-/
import Derived.Test.YtomgjhdknondmabSeen
namespace Go.Proofs.Ytomgjhdknondmab
open Go.RowKit

theorem Watched.tame {m : List (List Int)} {L : List Win} (h : Watched m L) : ∀ x ∈ L, Tame x := fun x hx => (h.2.2 x hx).tame
/-- What NoticedBy answers. -/
def noticedR (m : List (List Int)) (L : List Win) (ar pl : Int) : List Int × Bool :=
  if Watched m L ∧ PlaceOK m ar pl then (idxsTo (seesB L ar pl) L.length, true) else ([], false)
theorem noticedR_small (m : List (List Int)) (L : List Win) (ar pl : Int) : (noticedR m L ar pl).1.length ≤ 2097152 := by
  unfold noticedR
  split
  · rename_i h
    have h1 := idxsTo_len (seesB L ar pl) L.length
    have h2 := h.1.2.1
    simp only
    omega
  · simp
/-- An answer with an empty list of the call's own. -/
theorem own_mono0 {w : World} {b b' : Nat} {e : TypeId} {s : Nat} {v : Value} {n : Nat} {xs : List Value} (h : w.ownsRow b e s v n xs) (hb : b' ≤ b) : w.ownsRow b' e s v n xs := by
  refine ⟨h.1, ?_⟩
  rcases h.2 with h0 | ⟨g, cap, cur, hv, hg, r⟩
  · exact .inl h0
  · exact .inr ⟨g, cap, cur, hv, Nat.le_trans hb hg, r⟩

end Go.Proofs.Ytomgjhdknondmab
