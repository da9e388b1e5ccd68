/- Plain facts on keys as numbers: what two have in common both cover; the root covers all. -/
import Derived.Test.YtackeckfhnpaaaaMeetX
import Derived.Test.YtackeckfhnpaaaaKSame
namespace Go.Proofs.Ytackeckfhnpaaaa
open Go.RowKit

theorem meet_cov {b t p s b' t' p' s' : Int} (h : meetB b t p s b' t' p' s' = true) :
    covB b t p s (max b b') (min t t') (bits .and .i64 p p') 0 = true ∧ covB b' t' p' s' (max b b') (min t t') (bits .and .i64 p p') 0 = true := by
  simp only [meetB, Bool.and_eq_true] at h
  obtain ⟨h1, h2, h3⟩ := h
  obtain ⟨_, k0, k1⟩ := kok_of h3
  exact ⟨cov_mk h1 h3 (by omega) (by omega) (and_left k0 k1), cov_mk h2 h3 (by omega) (by omega) (and_right k0 k1)⟩

theorem root_cov {b t p s : Int} (h : kokB b t p s = true) : covB 0 4096 63 0 b t p s = true := by
  obtain ⟨hb, h0, h1⟩ := kok_of h
  obtain ⟨b0, _, b2⟩ := bok_of hb
  refine cov_mk kok_root h b0 b2 ?_
  rw [and_comm64, i64_and63]
  omega
end Go.Proofs.Ytackeckfhnpaaaa
