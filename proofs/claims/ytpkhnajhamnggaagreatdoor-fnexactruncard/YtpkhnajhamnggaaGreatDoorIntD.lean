/- How long the lists of Run's state are. No condition. -/
import Derived.Test.YtpkhnajhamnggaaGreatDoorIntI
import Derived.Test.YtpkhnajhamnggaaGreatDoorRunC
namespace Go.Proofs.YtpkhnajhamnggaaGreatDoor
open Go.ChangeShapes Go.WideShapes Go.ChangeAt Go.RowKit Go.Joins Go.Deep
set_option maxRecDepth 100000

theorem fold_len (Ls : List In) : ∀ (ms : List Int) (s : Sd), (s.R.length ≤ 24 ∧ s.L.length ≤ 24 ∧ s.G.length ≤ 24) → (ms.foldl (runS1 Ls) s).R.length ≤ 24 ∧ (ms.foldl (runS1 Ls) s).L.length ≤ 24 ∧ (ms.foldl (runS1 Ls) s).G.length ≤ 24
  | [], _, h => h
  | m :: ms, s, h => fold_len Ls ms (runS1 Ls s m) (runS1_len Ls s m h)
theorem runS_len (Ls : List In) (s : Sd) (ms : List Int) : (runS Ls s ms).R.length ≤ 24 ∧ (runS Ls s ms).L.length ≤ 24 ∧ (runS Ls s ms).G.length ≤ 24 := by
  unfold runS
  split
  · rename_i h
    obtain ⟨h8, _, _, hmk, _, _⟩ := sok_parts h
    obtain ⟨h24, h24', _⟩ := mok_parts hmk
    have h0 : s.R.length ≤ 24 ∧ s.L.length ≤ 24 ∧ s.G.length ≤ 24 := ⟨by omega, by omega, by omega⟩
    split
    · exact fold_len Ls ms s h0
    · exact h0
  · simp
end Go.Proofs.YtpkhnajhamnggaaGreatDoor
