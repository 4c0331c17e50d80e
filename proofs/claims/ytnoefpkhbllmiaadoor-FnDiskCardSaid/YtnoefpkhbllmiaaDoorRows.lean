/-
  NARROWER THAN 'FOR EVERY INPUT', by the rows' own cells (each row's printed sentence says how): FnDisk: ifaces, laid · FnExactAppend: ifaces, laid.
  DERIVED. THE GIVEN ROWS OF THIS SEAT. 2 by the template 'for every input the law returns true; each argument reads behind the call as it read before'; 0 by the template 'total and deterministic' (their statements: YtnoefpkhbllmiaaDoorTotals.lean).
  GIVEN WITH THE SEED: the statements are not yours to turn. If you find one false, say at which input.
  Laid BY PROGRAM, IN A SANDBOX (cutbox-rows.mjs): the forced cells as the released guide's own fill.sh prints them over the translation a282a3a7bf7cc1fd… (all of the seat's roots in one cut). By AI agents, Wed Nov 11 2026. No macro, syntax, notation, axiom, sorry.
-/
import Derived.Test.YtnoefpkhbllmiaaDoorChecked
import GoSem.Claim
import GoSem.ClaimJoined
import GoSem.ClaimMapViews
import Derived.JoinedTies
import Derived.KernelRfl
namespace Go.Proofs.YtnoefpkhbllmiaaDoor
/- THE CELL 'sum', in the pinned program and in every row, IS THE sha256 OF THE DUMP (.gsa) THAT YtnoefpkhbllmiaaDoorProg.lean LOADS. Nothing in Lean hashes anything: it is a label: what it is worth is what the hold of that sum in a sandbox is worth. -/
noncomputable def Tryd.pinned : Pinned := { name := "ytnoefpkhbllmiaadoor", sum := "a282a3a7bf7cc1fd58a3447a13564c0ca0153bbc4c95c908c3d55daec179b5a6", checked := Tryd.checked }
namespace Rows
def none {H : Type} : Left H := { results := [], args := [] }

/- WHAT THE LISTED PACKAGE-LEVEL VARIABLES READ AS WHEN THE CALL BEGINS. Each datum BY PROGRAM (the guide's laid-datum.mjs) off the statement by which the dump's own 'gosem.cut.vars' lays the variable. In a bare row this is a premise. The card (YtnoefpkhbllmiaaDoorCards.lean) ties it to the program's text. -/
def laid_loop_example_g00839_impl_errLong {H : Type} : DataW H := .iface "*errors.errorString" (.ptr (.agg [.lit (.string [109, 111, 114, 101, 32, 116, 104, 97, 110, 32, 97, 110, 121, 32, 99, 97, 108, 108, 32, 116, 97, 107, 101, 115])]))
def laid_loop_example_g00839_impl_errWrong {H : Type} : DataW H := .iface "*errors.errorString" (.ptr (.agg [.lit (.string [116, 104, 101, 32, 100, 105, 115, 107, 32, 105, 115, 32, 110, 111, 116, 32, 114, 105, 103, 104, 116])]))
def laid_loop_example_g00839_impl_errFull {H : Type} : DataW H := .iface "*errors.errorString" (.ptr (.agg [.lit (.string [116, 104, 101, 32, 100, 105, 115, 107, 32, 105, 115, 32, 102, 117, 108, 108])]))

/-- 'laws.FnDisk': WHATEVER THE INPUT: true; the input reads as it did. -/
def fnDiskSpec : ChangeSpec := { name := "fnDisk", vars := ["loop.example/g00839/impl.errLong", "loop.example/g00839/impl.errWrong", "loop.example/g00839/impl.errFull"], fn := fun _ => fun
  | [d1, d2, g1, g2, g3] => { results := [.lit (.bool true)], args := [d1, d2], vars := [g1, g2, g3] }
  | _ => none }
def fnDiskRow : OpenClaim := { program := "ytnoefpkhbllmiaadoor", sum := "a282a3a7bf7cc1fd58a3447a13564c0ca0153bbc4c95c908c3d55daec179b5a6", func := "loop.example/g00839/laws.FnDisk", spec := "fnDisk", inPlace := ["internal/reflectlite.TypeOf"], unfollowed := true, recurses := true, named := ["loop.example/g00839/impl.errLong", "loop.example/g00839/impl.errWrong", "loop.example/g00839/impl.errFull"], ifaces := true, apart := false, laid := [("loop.example/g00839/impl.errLong", laid_loop_example_g00839_impl_errLong), ("loop.example/g00839/impl.errWrong", laid_loop_example_g00839_impl_errWrong), ("loop.example/g00839/impl.errFull", laid_loop_example_g00839_impl_errFull)] }
def FnDiskSaid : Prop := fnDiskRow.holds Tryd.pinned (OpenSpec.ofChange fnDiskSpec)

/-- ITS FALSE NEIGHBOUR: 'it returns false'. Refute it at one input. -/
def fnDiskWrong : ChangeSpec := { name := "fnDisk", vars := ["loop.example/g00839/impl.errLong", "loop.example/g00839/impl.errWrong", "loop.example/g00839/impl.errFull"], fn := fun _ => fun
  | [d1, d2, g1, g2, g3] => { results := [.lit (.bool false)], args := [d1, d2], vars := [g1, g2, g3] }
  | _ => none }
def FnDiskWrongFalsely : Prop := fnDiskRow.holds Tryd.pinned (OpenSpec.ofChange fnDiskWrong)

/-- 'laws.FnExactAppend': WHATEVER THE INPUT: true; the input reads as it did. -/
def fnExactAppendSpec : ChangeSpec := { name := "fnExactAppend", vars := ["loop.example/g00839/impl.errLong", "loop.example/g00839/impl.errWrong", "loop.example/g00839/impl.errFull"], fn := fun _ => fun
  | [d1, d2, g1, g2, g3] => { results := [.lit (.bool true)], args := [d1, d2], vars := [g1, g2, g3] }
  | _ => none }
def fnExactAppendRow : OpenClaim := { program := "ytnoefpkhbllmiaadoor", sum := "a282a3a7bf7cc1fd58a3447a13564c0ca0153bbc4c95c908c3d55daec179b5a6", func := "loop.example/g00839/laws.FnExactAppend", spec := "fnExactAppend", inPlace := ["internal/reflectlite.TypeOf"], unfollowed := true, recurses := true, named := ["loop.example/g00839/impl.errLong", "loop.example/g00839/impl.errWrong", "loop.example/g00839/impl.errFull"], ifaces := true, apart := false, laid := [("loop.example/g00839/impl.errLong", laid_loop_example_g00839_impl_errLong), ("loop.example/g00839/impl.errWrong", laid_loop_example_g00839_impl_errWrong), ("loop.example/g00839/impl.errFull", laid_loop_example_g00839_impl_errFull)] }
def FnExactAppendSaid : Prop := fnExactAppendRow.holds Tryd.pinned (OpenSpec.ofChange fnExactAppendSpec)

/-- ITS FALSE NEIGHBOUR: 'it returns false'. Refute it at one input. -/
def fnExactAppendWrong : ChangeSpec := { name := "fnExactAppend", vars := ["loop.example/g00839/impl.errLong", "loop.example/g00839/impl.errWrong", "loop.example/g00839/impl.errFull"], fn := fun _ => fun
  | [d1, d2, g1, g2, g3] => { results := [.lit (.bool false)], args := [d1, d2], vars := [g1, g2, g3] }
  | _ => none }
def FnExactAppendWrongFalsely : Prop := fnExactAppendRow.holds Tryd.pinned (OpenSpec.ofChange fnExactAppendWrong)

/- THE SECOND FORM. 'bulk': how many values and letters a reading holds, each counted each time it is reached (what is shared counts as often as it is met; a slice's spare places count too). A statement '..UptoSaid' is the law's where the arguments, and the package variables that the reading takes, are together of bulk at most 1048576: NARROWER than '..Said'. Prove '..Said' where nothing that the law and all that it calls make is longer than what came in: it says more and counts as full. Else prove '..UptoSaid'. A law counts once. -/
mutual
def uptoBulk {H : Type} : DataW H → Nat
  | .lit (.string bytes) => bytes.length + 1
  | .lit _ => 1
  | .nil => 1
  | .ptr d => uptoBulk d + 1
  | .slice elems spare => uptoBulkAll elems + uptoBulkAll spare + 1
  | .agg parts => uptoBulkAll parts + 1
  | .iface _ d => uptoBulk d + 1
  | .map entries => uptoBulkEntries entries + 1
  | .held _ => 1
def uptoBulkAll {H : Type} : List (DataW H) → Nat
  | [] => 0
  | d :: r => uptoBulk d + uptoBulkAll r
def uptoBulkEntries {H : Type} : List (Lit × DataW H) → Nat
  | [] => 0
  | x :: r => uptoBulkEntry x + uptoBulkEntries r
def uptoBulkEntry {H : Type} : Lit × DataW H → Nat
  | (.string bytes, d) => bytes.length + uptoBulk d + 1
  | (_, d) => uptoBulk d + 1
 end
def uptoSmall : (H : Type) → List (DataW H) → Bool := fun _ ds => decide (uptoBulkAll ds ≤ 1048576)
def OpenSpec.upto (s : _root_.Go.ChangeSpec) : _root_.Go.OpenSpec := { _root_.Go.OpenSpec.ofChange s with cond := some uptoSmall }

/-- 'laws.FnDisk', WHERE WHAT IT READS IS OF BULK AT MOST 1048576: true; the input reads as it did. -/
def fnDiskUptoRow : OpenClaim := { program := "ytnoefpkhbllmiaadoor", sum := "a282a3a7bf7cc1fd58a3447a13564c0ca0153bbc4c95c908c3d55daec179b5a6", func := "loop.example/g00839/laws.FnDisk", spec := "fnDisk", inPlace := ["internal/reflectlite.TypeOf"], unfollowed := true, recurses := true, named := ["loop.example/g00839/impl.errLong", "loop.example/g00839/impl.errWrong", "loop.example/g00839/impl.errFull"], ifaces := true, apart := false, laid := [("loop.example/g00839/impl.errLong", laid_loop_example_g00839_impl_errLong), ("loop.example/g00839/impl.errWrong", laid_loop_example_g00839_impl_errWrong), ("loop.example/g00839/impl.errFull", laid_loop_example_g00839_impl_errFull)], narrowed := true }
def FnDiskUptoSaid : Prop := fnDiskUptoRow.holds Tryd.pinned (OpenSpec.upto fnDiskSpec)

/-- 'laws.FnExactAppend', WHERE WHAT IT READS IS OF BULK AT MOST 1048576: true; the input reads as it did. -/
def fnExactAppendUptoRow : OpenClaim := { program := "ytnoefpkhbllmiaadoor", sum := "a282a3a7bf7cc1fd58a3447a13564c0ca0153bbc4c95c908c3d55daec179b5a6", func := "loop.example/g00839/laws.FnExactAppend", spec := "fnExactAppend", inPlace := ["internal/reflectlite.TypeOf"], unfollowed := true, recurses := true, named := ["loop.example/g00839/impl.errLong", "loop.example/g00839/impl.errWrong", "loop.example/g00839/impl.errFull"], ifaces := true, apart := false, laid := [("loop.example/g00839/impl.errLong", laid_loop_example_g00839_impl_errLong), ("loop.example/g00839/impl.errWrong", laid_loop_example_g00839_impl_errWrong), ("loop.example/g00839/impl.errFull", laid_loop_example_g00839_impl_errFull)], narrowed := true }
def FnExactAppendUptoSaid : Prop := fnExactAppendUptoRow.holds Tryd.pinned (OpenSpec.upto fnExactAppendSpec)

end Rows
end Go.Proofs.YtnoefpkhbllmiaaDoor
