/-
  No cell of these rows narrows 'for every input' (looked for: loops, veiled, ifaces, maps, wideKeys, modest, calm, conditions, laid).
  DERIVED. THE GIVEN ROWS OF THIS SEAT. 6 by the template 'for every input the law returns true; each argument reads behind the call as it read before'; 0 by the template 'total and deterministic' (their statements: YtabafekjacjpcaaTotals.lean).
  GIVEN WITH THE SEED: the statements are not yours to turn. If you find one false, say at which input.
  Laid BY PROGRAM, IN A SANDBOX (cutbox-rows.mjs): the forced cells as the released guide's own fill.sh prints them over the translation 7719730758f57aad… (all of the seat's roots in one cut). By AI agents, Wed Nov 11 2026. No macro, syntax, notation, axiom, sorry.
-/
import Derived.Test.YtabafekjacjpcaaChecked
import GoSem.Claim
import GoSem.ClaimJoined
import GoSem.ClaimMapViews
import Derived.JoinedTies
import Derived.KernelRfl
namespace Go.Proofs.Ytabafekjacjpcaa
/- THE CELL 'sum', in the pinned program and in every row, IS THE sha256 OF THE DUMP (.gsa) THAT YtabafekjacjpcaaProg.lean LOADS. Nothing in Lean hashes anything: it is a label: what it is worth is what the hold of that sum in a sandbox is worth. -/
noncomputable def Try.pinned : Pinned := { name := "ytabafekjacjpcaa", sum := "7719730758f57aadc3d6ec27ab15da9fd23c2e39627bc9616665019e83e97a41", checked := Try.checked }
namespace Rows
def none {H : Type} : Left H := { results := [], args := [] }

/-- 'laws.FnDerived': WHATEVER THE INPUT: true; the input reads as it did. -/
def fnDerivedSpec : ChangeSpec := { name := "fnDerived", fn := fun _ => fun
  | [d] => { results := [.lit (.bool true)], args := [d] }
  | _ => none }
def fnDerivedRow : OpenClaim := { program := "ytabafekjacjpcaa", sum := "7719730758f57aadc3d6ec27ab15da9fd23c2e39627bc9616665019e83e97a41", func := "loop.example/g00249/laws.FnDerived", spec := "fnDerived", unfollowed := true, recurses := true, apart := false }
def FnDerivedSaid : Prop := fnDerivedRow.holds Try.pinned (OpenSpec.ofChange fnDerivedSpec)

/-- ITS FALSE NEIGHBOUR: 'it returns false'. Refute it at one input. -/
def fnDerivedWrong : ChangeSpec := { name := "fnDerived", fn := fun _ => fun
  | [d] => { results := [.lit (.bool false)], args := [d] }
  | _ => none }
def FnDerivedWrongFalsely : Prop := fnDerivedRow.holds Try.pinned (OpenSpec.ofChange fnDerivedWrong)

/-- 'laws.FnExactWeaken': WHATEVER THE INPUT: true; the input reads as it did. -/
def fnExactWeakenSpec : ChangeSpec := { name := "fnExactWeaken", fn := fun _ => fun
  | [d1, d2] => { results := [.lit (.bool true)], args := [d1, d2] }
  | _ => none }
def fnExactWeakenRow : OpenClaim := { program := "ytabafekjacjpcaa", sum := "7719730758f57aadc3d6ec27ab15da9fd23c2e39627bc9616665019e83e97a41", func := "loop.example/g00249/laws.FnExactWeaken", spec := "fnExactWeaken", unfollowed := true, recurses := true, apart := false }
def FnExactWeakenSaid : Prop := fnExactWeakenRow.holds Try.pinned (OpenSpec.ofChange fnExactWeakenSpec)

/-- ITS FALSE NEIGHBOUR: 'it returns false'. Refute it at one input. -/
def fnExactWeakenWrong : ChangeSpec := { name := "fnExactWeaken", fn := fun _ => fun
  | [d1, d2] => { results := [.lit (.bool false)], args := [d1, d2] }
  | _ => none }
def FnExactWeakenWrongFalsely : Prop := fnExactWeakenRow.holds Try.pinned (OpenSpec.ofChange fnExactWeakenWrong)

/-- 'laws.FnExactNarrow': WHATEVER THE INPUT: true; the input reads as it did. -/
def fnExactNarrowSpec : ChangeSpec := { name := "fnExactNarrow", fn := fun _ => fun
  | [d1, d2] => { results := [.lit (.bool true)], args := [d1, d2] }
  | _ => none }
def fnExactNarrowRow : OpenClaim := { program := "ytabafekjacjpcaa", sum := "7719730758f57aadc3d6ec27ab15da9fd23c2e39627bc9616665019e83e97a41", func := "loop.example/g00249/laws.FnExactNarrow", spec := "fnExactNarrow", unfollowed := true, recurses := true, apart := false }
def FnExactNarrowSaid : Prop := fnExactNarrowRow.holds Try.pinned (OpenSpec.ofChange fnExactNarrowSpec)

/-- ITS FALSE NEIGHBOUR: 'it returns false'. Refute it at one input. -/
def fnExactNarrowWrong : ChangeSpec := { name := "fnExactNarrow", fn := fun _ => fun
  | [d1, d2] => { results := [.lit (.bool false)], args := [d1, d2] }
  | _ => none }
def FnExactNarrowWrongFalsely : Prop := fnExactNarrowRow.holds Try.pinned (OpenSpec.ofChange fnExactNarrowWrong)

/-- 'laws.FnExactPoint': WHATEVER THE INPUT: true; the input reads as it did. -/
def fnExactPointSpec : ChangeSpec := { name := "fnExactPoint", fn := fun _ => fun
  | [d1, d2] => { results := [.lit (.bool true)], args := [d1, d2] }
  | _ => none }
def fnExactPointRow : OpenClaim := { program := "ytabafekjacjpcaa", sum := "7719730758f57aadc3d6ec27ab15da9fd23c2e39627bc9616665019e83e97a41", func := "loop.example/g00249/laws.FnExactPoint", spec := "fnExactPoint", unfollowed := true, recurses := true, apart := false }
def FnExactPointSaid : Prop := fnExactPointRow.holds Try.pinned (OpenSpec.ofChange fnExactPointSpec)

/-- ITS FALSE NEIGHBOUR: 'it returns false'. Refute it at one input. -/
def fnExactPointWrong : ChangeSpec := { name := "fnExactPoint", fn := fun _ => fun
  | [d1, d2] => { results := [.lit (.bool false)], args := [d1, d2] }
  | _ => none }
def FnExactPointWrongFalsely : Prop := fnExactPointRow.holds Try.pinned (OpenSpec.ofChange fnExactPointWrong)

/-- 'laws.FnExactSealBy': WHATEVER THE INPUT: true; the input reads as it did. -/
def fnExactSealBySpec : ChangeSpec := { name := "fnExactSealBy", fn := fun _ => fun
  | [d1, d2] => { results := [.lit (.bool true)], args := [d1, d2] }
  | _ => none }
def fnExactSealByRow : OpenClaim := { program := "ytabafekjacjpcaa", sum := "7719730758f57aadc3d6ec27ab15da9fd23c2e39627bc9616665019e83e97a41", func := "loop.example/g00249/laws.FnExactSealBy", spec := "fnExactSealBy", unfollowed := true, recurses := true, apart := false }
def FnExactSealBySaid : Prop := fnExactSealByRow.holds Try.pinned (OpenSpec.ofChange fnExactSealBySpec)

/-- ITS FALSE NEIGHBOUR: 'it returns false'. Refute it at one input. -/
def fnExactSealByWrong : ChangeSpec := { name := "fnExactSealBy", fn := fun _ => fun
  | [d1, d2] => { results := [.lit (.bool false)], args := [d1, d2] }
  | _ => none }
def FnExactSealByWrongFalsely : Prop := fnExactSealByRow.holds Try.pinned (OpenSpec.ofChange fnExactSealByWrong)

/-- 'laws.FnExactOpenBy': WHATEVER THE INPUT: true; the input reads as it did. -/
def fnExactOpenBySpec : ChangeSpec := { name := "fnExactOpenBy", fn := fun _ => fun
  | [d1, d2] => { results := [.lit (.bool true)], args := [d1, d2] }
  | _ => none }
def fnExactOpenByRow : OpenClaim := { program := "ytabafekjacjpcaa", sum := "7719730758f57aadc3d6ec27ab15da9fd23c2e39627bc9616665019e83e97a41", func := "loop.example/g00249/laws.FnExactOpenBy", spec := "fnExactOpenBy", unfollowed := true, recurses := true, apart := false }
def FnExactOpenBySaid : Prop := fnExactOpenByRow.holds Try.pinned (OpenSpec.ofChange fnExactOpenBySpec)

/-- ITS FALSE NEIGHBOUR: 'it returns false'. Refute it at one input. -/
def fnExactOpenByWrong : ChangeSpec := { name := "fnExactOpenBy", fn := fun _ => fun
  | [d1, d2] => { results := [.lit (.bool false)], args := [d1, d2] }
  | _ => none }
def FnExactOpenByWrongFalsely : Prop := fnExactOpenByRow.holds Try.pinned (OpenSpec.ofChange fnExactOpenByWrong)

/- THE SECOND FORM. 'bulk': how many values and letters a reading holds, each counted each time it is reached (what is shared counts as often as it is met; a slice's spare places count too). A statement '..UptoSaid' is the law's where the arguments, and the package variables that the reading takes, are together of bulk at most 1048576: NARROWER than '..Said'. Prove '..Said' where nothing that the law and all that it calls make is longer than what came in: it says more and counts as full. Else prove '..UptoSaid'. A law counts once. -/
mutual
def uptoBulk {H : Type} : DataW H → Nat
  | .lit (.string bytes) => bytes.length + 1
  | .lit _ => 1
  | .nil => 1
  | .ptr d => uptoBulk d + 1
  | .slice elems spare => uptoBulkAll elems + uptoBulkAll spare + 1
  | .agg parts => uptoBulkAll parts + 1
  | .iface _ d => uptoBulk d + 1
  | .map entries => uptoBulkEntries entries + 1
  | .held _ => 1
def uptoBulkAll {H : Type} : List (DataW H) → Nat
  | [] => 0
  | d :: r => uptoBulk d + uptoBulkAll r
def uptoBulkEntries {H : Type} : List (Lit × DataW H) → Nat
  | [] => 0
  | x :: r => uptoBulkEntry x + uptoBulkEntries r
def uptoBulkEntry {H : Type} : Lit × DataW H → Nat
  | (.string bytes, d) => bytes.length + uptoBulk d + 1
  | (_, d) => uptoBulk d + 1
 end
def uptoSmall : (H : Type) → List (DataW H) → Bool := fun _ ds => decide (uptoBulkAll ds ≤ 1048576)
def OpenSpec.upto (s : _root_.Go.ChangeSpec) : _root_.Go.OpenSpec := { _root_.Go.OpenSpec.ofChange s with cond := some uptoSmall }

/-- 'laws.FnDerived', WHERE WHAT IT READS IS OF BULK AT MOST 1048576: true; the input reads as it did. -/
def fnDerivedUptoRow : OpenClaim := { program := "ytabafekjacjpcaa", sum := "7719730758f57aadc3d6ec27ab15da9fd23c2e39627bc9616665019e83e97a41", func := "loop.example/g00249/laws.FnDerived", spec := "fnDerived", unfollowed := true, recurses := true, apart := false, narrowed := true }
def FnDerivedUptoSaid : Prop := fnDerivedUptoRow.holds Try.pinned (OpenSpec.upto fnDerivedSpec)

/-- 'laws.FnExactWeaken', WHERE WHAT IT READS IS OF BULK AT MOST 1048576: true; the input reads as it did. -/
def fnExactWeakenUptoRow : OpenClaim := { program := "ytabafekjacjpcaa", sum := "7719730758f57aadc3d6ec27ab15da9fd23c2e39627bc9616665019e83e97a41", func := "loop.example/g00249/laws.FnExactWeaken", spec := "fnExactWeaken", unfollowed := true, recurses := true, apart := false, narrowed := true }
def FnExactWeakenUptoSaid : Prop := fnExactWeakenUptoRow.holds Try.pinned (OpenSpec.upto fnExactWeakenSpec)

/-- 'laws.FnExactNarrow', WHERE WHAT IT READS IS OF BULK AT MOST 1048576: true; the input reads as it did. -/
def fnExactNarrowUptoRow : OpenClaim := { program := "ytabafekjacjpcaa", sum := "7719730758f57aadc3d6ec27ab15da9fd23c2e39627bc9616665019e83e97a41", func := "loop.example/g00249/laws.FnExactNarrow", spec := "fnExactNarrow", unfollowed := true, recurses := true, apart := false, narrowed := true }
def FnExactNarrowUptoSaid : Prop := fnExactNarrowUptoRow.holds Try.pinned (OpenSpec.upto fnExactNarrowSpec)

/-- 'laws.FnExactPoint', WHERE WHAT IT READS IS OF BULK AT MOST 1048576: true; the input reads as it did. -/
def fnExactPointUptoRow : OpenClaim := { program := "ytabafekjacjpcaa", sum := "7719730758f57aadc3d6ec27ab15da9fd23c2e39627bc9616665019e83e97a41", func := "loop.example/g00249/laws.FnExactPoint", spec := "fnExactPoint", unfollowed := true, recurses := true, apart := false, narrowed := true }
def FnExactPointUptoSaid : Prop := fnExactPointUptoRow.holds Try.pinned (OpenSpec.upto fnExactPointSpec)

/-- 'laws.FnExactSealBy', WHERE WHAT IT READS IS OF BULK AT MOST 1048576: true; the input reads as it did. -/
def fnExactSealByUptoRow : OpenClaim := { program := "ytabafekjacjpcaa", sum := "7719730758f57aadc3d6ec27ab15da9fd23c2e39627bc9616665019e83e97a41", func := "loop.example/g00249/laws.FnExactSealBy", spec := "fnExactSealBy", unfollowed := true, recurses := true, apart := false, narrowed := true }
def FnExactSealByUptoSaid : Prop := fnExactSealByUptoRow.holds Try.pinned (OpenSpec.upto fnExactSealBySpec)

/-- 'laws.FnExactOpenBy', WHERE WHAT IT READS IS OF BULK AT MOST 1048576: true; the input reads as it did. -/
def fnExactOpenByUptoRow : OpenClaim := { program := "ytabafekjacjpcaa", sum := "7719730758f57aadc3d6ec27ab15da9fd23c2e39627bc9616665019e83e97a41", func := "loop.example/g00249/laws.FnExactOpenBy", spec := "fnExactOpenBy", unfollowed := true, recurses := true, apart := false, narrowed := true }
def FnExactOpenByUptoSaid : Prop := fnExactOpenByUptoRow.holds Try.pinned (OpenSpec.upto fnExactOpenBySpec)

end Rows
end Go.Proofs.Ytabafekjacjpcaa
