/-
  NARROWER THAN 'FOR EVERY INPUT', by the rows' own cells (each row's printed sentence says how): FnExactStep: ifaces, laid · FnExactRun: ifaces, laid · FnExactPull: ifaces, laid.
  DERIVED. THE GIVEN ROWS OF THIS SEAT. 3 by the template 'for every input the law returns true; each argument reads behind the call as it read before'; 0 by the template 'total and deterministic' (their statements: YtpkhnajhamnggaaGreatDoorTotals.lean).
  GIVEN WITH THE SEED: the statements are not yours to turn. If you find one false, say at which input.
  Laid BY PROGRAM, IN A SANDBOX (cutbox-rows.mjs): the forced cells as the released guide's own fill.sh prints them over the translation 1021004182a5c0c5… (all of the seat's roots in one cut). By AI agents, Wed Nov 11 2026. No macro, syntax, notation, axiom, sorry.
-/
import Derived.Test.YtpkhnajhamnggaaGreatDoorChecked
import GoSem.Claim
import GoSem.ClaimJoined
import GoSem.ClaimMapViews
import Derived.JoinedTies
import Derived.KernelRfl
namespace Go.Proofs.YtpkhnajhamnggaaGreatDoor
/- THE CELL 'sum', in the pinned program and in every row, IS THE sha256 OF THE DUMP (.gsa) THAT YtpkhnajhamnggaaGreatDoorProg.lean LOADS. Nothing in Lean hashes anything: it is a label: what it is worth is what the hold of that sum in a sandbox is worth. -/
noncomputable def Tryz.pinned : Pinned := { name := "ytpkhnajhamnggaagreatdoor", sum := "1021004182a5c0c58f9998ee292ff05472d18d07cb45ddb523b50309f32e2c09", checked := Tryz.checked }
namespace Rows
def none {H : Type} : Left H := { results := [], args := [] }

/- WHAT THE LISTED PACKAGE-LEVEL VARIABLES READ AS WHEN THE CALL BEGINS. Each datum BY PROGRAM (the guide's laid-datum.mjs) off the statement by which the dump's own 'gosem.cut.vars' lays the variable. In a bare row this is a premise. The card (YtpkhnajhamnggaaGreatDoorCards.lean) ties it to the program's text. -/
def laid_loop_example_g00249_impl_errNoKey {H : Type} : DataW H := .iface "*errors.errorString" (.ptr (.agg [.lit (.string [110, 111, 32, 107, 101, 121])]))
def laid_loop_example_g00249_impl_errSealed {H : Type} : DataW H := .iface "*errors.errorString" (.ptr (.agg [.lit (.string [115, 101, 97, 108, 101, 100])]))
def laid_loop_example_g00249_impl_errNoPerm {H : Type} : DataW H := .iface "*errors.errorString" (.ptr (.agg [.lit (.string [110, 111, 116, 32, 97, 108, 108, 32, 112, 101, 114, 109, 115])]))
def laid_loop_example_g00249_impl_errOutside {H : Type} : DataW H := .iface "*errors.errorString" (.ptr (.agg [.lit (.string [111, 117, 116, 32, 111, 102, 32, 98, 111, 117, 110, 100, 115])]))

/-- 'laws.FnExactStep': WHATEVER THE INPUT: true; the input reads as it did. -/
def fnExactStepSpec : ChangeSpec := { name := "fnExactStep", vars := ["loop.example/g00249/impl.errNoKey", "loop.example/g00249/impl.errSealed", "loop.example/g00249/impl.errNoPerm", "loop.example/g00249/impl.errOutside"], fn := fun _ => fun
  | [d1, d2, g1, g2, g3, g4] => { results := [.lit (.bool true)], args := [d1, d2], vars := [g1, g2, g3, g4] }
  | _ => none }
def fnExactStepRow : OpenClaim := { program := "ytpkhnajhamnggaagreatdoor", sum := "1021004182a5c0c58f9998ee292ff05472d18d07cb45ddb523b50309f32e2c09", func := "loop.example/g00249/laws.FnExactStep", spec := "fnExactStep", inPlace := ["internal/reflectlite.TypeOf"], unfollowed := true, recurses := true, named := ["loop.example/g00249/impl.errNoKey", "loop.example/g00249/impl.errSealed", "loop.example/g00249/impl.errNoPerm", "loop.example/g00249/impl.errOutside"], ifaces := true, apart := false, laid := [("loop.example/g00249/impl.errNoKey", laid_loop_example_g00249_impl_errNoKey), ("loop.example/g00249/impl.errSealed", laid_loop_example_g00249_impl_errSealed), ("loop.example/g00249/impl.errNoPerm", laid_loop_example_g00249_impl_errNoPerm), ("loop.example/g00249/impl.errOutside", laid_loop_example_g00249_impl_errOutside)] }
def FnExactStepSaid : Prop := fnExactStepRow.holds Tryz.pinned (OpenSpec.ofChange fnExactStepSpec)

/-- ITS FALSE NEIGHBOUR: 'it returns false'. Refute it at one input. -/
def fnExactStepWrong : ChangeSpec := { name := "fnExactStep", vars := ["loop.example/g00249/impl.errNoKey", "loop.example/g00249/impl.errSealed", "loop.example/g00249/impl.errNoPerm", "loop.example/g00249/impl.errOutside"], fn := fun _ => fun
  | [d1, d2, g1, g2, g3, g4] => { results := [.lit (.bool false)], args := [d1, d2], vars := [g1, g2, g3, g4] }
  | _ => none }
def FnExactStepWrongFalsely : Prop := fnExactStepRow.holds Tryz.pinned (OpenSpec.ofChange fnExactStepWrong)

/-- 'laws.FnExactRun': WHATEVER THE INPUT: true; the input reads as it did. -/
def fnExactRunSpec : ChangeSpec := { name := "fnExactRun", vars := ["loop.example/g00249/impl.errNoKey", "loop.example/g00249/impl.errSealed", "loop.example/g00249/impl.errNoPerm", "loop.example/g00249/impl.errOutside"], fn := fun _ => fun
  | [d1, d2, d3, g1, g2, g3, g4] => { results := [.lit (.bool true)], args := [d1, d2, d3], vars := [g1, g2, g3, g4] }
  | _ => none }
def fnExactRunRow : OpenClaim := { program := "ytpkhnajhamnggaagreatdoor", sum := "1021004182a5c0c58f9998ee292ff05472d18d07cb45ddb523b50309f32e2c09", func := "loop.example/g00249/laws.FnExactRun", spec := "fnExactRun", inPlace := ["internal/reflectlite.TypeOf"], unfollowed := true, recurses := true, named := ["loop.example/g00249/impl.errNoKey", "loop.example/g00249/impl.errSealed", "loop.example/g00249/impl.errNoPerm", "loop.example/g00249/impl.errOutside"], ifaces := true, apart := false, laid := [("loop.example/g00249/impl.errNoKey", laid_loop_example_g00249_impl_errNoKey), ("loop.example/g00249/impl.errSealed", laid_loop_example_g00249_impl_errSealed), ("loop.example/g00249/impl.errNoPerm", laid_loop_example_g00249_impl_errNoPerm), ("loop.example/g00249/impl.errOutside", laid_loop_example_g00249_impl_errOutside)] }
def FnExactRunSaid : Prop := fnExactRunRow.holds Tryz.pinned (OpenSpec.ofChange fnExactRunSpec)

/-- ITS FALSE NEIGHBOUR: 'it returns false'. Refute it at one input. -/
def fnExactRunWrong : ChangeSpec := { name := "fnExactRun", vars := ["loop.example/g00249/impl.errNoKey", "loop.example/g00249/impl.errSealed", "loop.example/g00249/impl.errNoPerm", "loop.example/g00249/impl.errOutside"], fn := fun _ => fun
  | [d1, d2, d3, g1, g2, g3, g4] => { results := [.lit (.bool false)], args := [d1, d2, d3], vars := [g1, g2, g3, g4] }
  | _ => none }
def FnExactRunWrongFalsely : Prop := fnExactRunRow.holds Tryz.pinned (OpenSpec.ofChange fnExactRunWrong)

/-- 'laws.FnExactPull': WHATEVER THE INPUT: true; the input reads as it did. -/
def fnExactPullSpec : ChangeSpec := { name := "fnExactPull", vars := ["loop.example/g00249/impl.errNoKey", "loop.example/g00249/impl.errSealed", "loop.example/g00249/impl.errNoPerm", "loop.example/g00249/impl.errOutside"], fn := fun _ => fun
  | [d1, d2, g1, g2, g3, g4] => { results := [.lit (.bool true)], args := [d1, d2], vars := [g1, g2, g3, g4] }
  | _ => none }
def fnExactPullRow : OpenClaim := { program := "ytpkhnajhamnggaagreatdoor", sum := "1021004182a5c0c58f9998ee292ff05472d18d07cb45ddb523b50309f32e2c09", func := "loop.example/g00249/laws.FnExactPull", spec := "fnExactPull", inPlace := ["internal/reflectlite.TypeOf"], unfollowed := true, recurses := true, named := ["loop.example/g00249/impl.errNoKey", "loop.example/g00249/impl.errSealed", "loop.example/g00249/impl.errNoPerm", "loop.example/g00249/impl.errOutside"], ifaces := true, apart := false, laid := [("loop.example/g00249/impl.errNoKey", laid_loop_example_g00249_impl_errNoKey), ("loop.example/g00249/impl.errSealed", laid_loop_example_g00249_impl_errSealed), ("loop.example/g00249/impl.errNoPerm", laid_loop_example_g00249_impl_errNoPerm), ("loop.example/g00249/impl.errOutside", laid_loop_example_g00249_impl_errOutside)] }
def FnExactPullSaid : Prop := fnExactPullRow.holds Tryz.pinned (OpenSpec.ofChange fnExactPullSpec)

/-- ITS FALSE NEIGHBOUR: 'it returns false'. Refute it at one input. -/
def fnExactPullWrong : ChangeSpec := { name := "fnExactPull", vars := ["loop.example/g00249/impl.errNoKey", "loop.example/g00249/impl.errSealed", "loop.example/g00249/impl.errNoPerm", "loop.example/g00249/impl.errOutside"], fn := fun _ => fun
  | [d1, d2, g1, g2, g3, g4] => { results := [.lit (.bool false)], args := [d1, d2], vars := [g1, g2, g3, g4] }
  | _ => none }
def FnExactPullWrongFalsely : Prop := fnExactPullRow.holds Tryz.pinned (OpenSpec.ofChange fnExactPullWrong)

/- THE SECOND FORM. 'bulk': how many values and letters a reading holds, each counted each time it is reached (what is shared counts as often as it is met; a slice's spare places count too). A statement '..UptoSaid' is the law's where the arguments, and the package variables that the reading takes, are together of bulk at most 1048576: NARROWER than '..Said'. Prove '..Said' where nothing that the law and all that it calls make is longer than what came in: it says more and counts as full. Else prove '..UptoSaid'. A law counts once. -/
mutual
def uptoBulk {H : Type} : DataW H → Nat
  | .lit (.string bytes) => bytes.length + 1
  | .lit _ => 1
  | .nil => 1
  | .ptr d => uptoBulk d + 1
  | .slice elems spare => uptoBulkAll elems + uptoBulkAll spare + 1
  | .agg parts => uptoBulkAll parts + 1
  | .iface _ d => uptoBulk d + 1
  | .map entries => uptoBulkEntries entries + 1
  | .held _ => 1
def uptoBulkAll {H : Type} : List (DataW H) → Nat
  | [] => 0
  | d :: r => uptoBulk d + uptoBulkAll r
def uptoBulkEntries {H : Type} : List (Lit × DataW H) → Nat
  | [] => 0
  | x :: r => uptoBulkEntry x + uptoBulkEntries r
def uptoBulkEntry {H : Type} : Lit × DataW H → Nat
  | (.string bytes, d) => bytes.length + uptoBulk d + 1
  | (_, d) => uptoBulk d + 1
 end
def uptoSmall : (H : Type) → List (DataW H) → Bool := fun _ ds => decide (uptoBulkAll ds ≤ 1048576)
def OpenSpec.upto (s : _root_.Go.ChangeSpec) : _root_.Go.OpenSpec := { _root_.Go.OpenSpec.ofChange s with cond := some uptoSmall }

/-- 'laws.FnExactStep', WHERE WHAT IT READS IS OF BULK AT MOST 1048576: true; the input reads as it did. -/
def fnExactStepUptoRow : OpenClaim := { program := "ytpkhnajhamnggaagreatdoor", sum := "1021004182a5c0c58f9998ee292ff05472d18d07cb45ddb523b50309f32e2c09", func := "loop.example/g00249/laws.FnExactStep", spec := "fnExactStep", inPlace := ["internal/reflectlite.TypeOf"], unfollowed := true, recurses := true, named := ["loop.example/g00249/impl.errNoKey", "loop.example/g00249/impl.errSealed", "loop.example/g00249/impl.errNoPerm", "loop.example/g00249/impl.errOutside"], ifaces := true, apart := false, laid := [("loop.example/g00249/impl.errNoKey", laid_loop_example_g00249_impl_errNoKey), ("loop.example/g00249/impl.errSealed", laid_loop_example_g00249_impl_errSealed), ("loop.example/g00249/impl.errNoPerm", laid_loop_example_g00249_impl_errNoPerm), ("loop.example/g00249/impl.errOutside", laid_loop_example_g00249_impl_errOutside)], narrowed := true }
def FnExactStepUptoSaid : Prop := fnExactStepUptoRow.holds Tryz.pinned (OpenSpec.upto fnExactStepSpec)

/-- 'laws.FnExactRun', WHERE WHAT IT READS IS OF BULK AT MOST 1048576: true; the input reads as it did. -/
def fnExactRunUptoRow : OpenClaim := { program := "ytpkhnajhamnggaagreatdoor", sum := "1021004182a5c0c58f9998ee292ff05472d18d07cb45ddb523b50309f32e2c09", func := "loop.example/g00249/laws.FnExactRun", spec := "fnExactRun", inPlace := ["internal/reflectlite.TypeOf"], unfollowed := true, recurses := true, named := ["loop.example/g00249/impl.errNoKey", "loop.example/g00249/impl.errSealed", "loop.example/g00249/impl.errNoPerm", "loop.example/g00249/impl.errOutside"], ifaces := true, apart := false, laid := [("loop.example/g00249/impl.errNoKey", laid_loop_example_g00249_impl_errNoKey), ("loop.example/g00249/impl.errSealed", laid_loop_example_g00249_impl_errSealed), ("loop.example/g00249/impl.errNoPerm", laid_loop_example_g00249_impl_errNoPerm), ("loop.example/g00249/impl.errOutside", laid_loop_example_g00249_impl_errOutside)], narrowed := true }
def FnExactRunUptoSaid : Prop := fnExactRunUptoRow.holds Tryz.pinned (OpenSpec.upto fnExactRunSpec)

/-- 'laws.FnExactPull', WHERE WHAT IT READS IS OF BULK AT MOST 1048576: true; the input reads as it did. -/
def fnExactPullUptoRow : OpenClaim := { program := "ytpkhnajhamnggaagreatdoor", sum := "1021004182a5c0c58f9998ee292ff05472d18d07cb45ddb523b50309f32e2c09", func := "loop.example/g00249/laws.FnExactPull", spec := "fnExactPull", inPlace := ["internal/reflectlite.TypeOf"], unfollowed := true, recurses := true, named := ["loop.example/g00249/impl.errNoKey", "loop.example/g00249/impl.errSealed", "loop.example/g00249/impl.errNoPerm", "loop.example/g00249/impl.errOutside"], ifaces := true, apart := false, laid := [("loop.example/g00249/impl.errNoKey", laid_loop_example_g00249_impl_errNoKey), ("loop.example/g00249/impl.errSealed", laid_loop_example_g00249_impl_errSealed), ("loop.example/g00249/impl.errNoPerm", laid_loop_example_g00249_impl_errNoPerm), ("loop.example/g00249/impl.errOutside", laid_loop_example_g00249_impl_errOutside)], narrowed := true }
def FnExactPullUptoSaid : Prop := fnExactPullUptoRow.holds Tryz.pinned (OpenSpec.upto fnExactPullSpec)

end Rows
end Go.Proofs.YtpkhnajhamnggaaGreatDoor
