/- How long the lists of a step's state are. No condition. -/
import Derived.Test.YtpkhnajhamnggaaGreatDoorStpE
namespace Go.Proofs.YtpkhnajhamnggaaGreatDoor
theorem stpS_len (Ls : List In) (s : Sd) : (stpS Ls s).R.length ≤ 24 ∧ (stpS Ls s).L.length ≤ 24 ∧ (stpS Ls s).G.length ≤ 24 := by
  unfold stpS
  split
  · rename_i h
    obtain ⟨h8, _, _, hmk, _, _⟩ := sok_parts h
    obtain ⟨h24, h24', _⟩ := mok_parts hmk
    simp only [regA_len, memA_len, gonA_len]
    omega
  · simp
end Go.Proofs.YtpkhnajhamnggaaGreatDoor
