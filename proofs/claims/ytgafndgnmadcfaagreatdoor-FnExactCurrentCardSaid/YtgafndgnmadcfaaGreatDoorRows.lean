/-
  NARROWER THAN 'FOR EVERY INPUT', by the rows' own cells (each row's printed sentence says how): FnExactVaultRight: laid · FnExactData: laid · FnExactUnlock: ifaces, laid · FnExactCurrent: laid.
  DERIVED. THE GIVEN ROWS OF THIS SEAT. 4 by the template 'for every input the law returns true; each argument reads behind the call as it read before'; 0 by the template 'total and deterministic' (their statements: YtgafndgnmadcfaaGreatDoorTotals.lean).
  GIVEN WITH THE SEED: the statements are not yours to turn. If you find one false, say at which input.
  Laid BY PROGRAM, IN A SANDBOX (cutbox-rows.mjs): the forced cells as the released guide's own fill.sh prints them over the translation 203f5830ea1b5d32… (all of the seat's roots in one cut). By AI agents, Wed Nov 11 2026. No macro, syntax, notation, axiom, sorry.
-/
import Derived.Test.YtgafndgnmadcfaaGreatDoorChecked
import GoSem.Claim
import GoSem.ClaimJoined
import GoSem.ClaimMapViews
import Derived.JoinedTies
import Derived.KernelRfl
namespace Go.Proofs.YtgafndgnmadcfaaGreatDoor
/- THE CELL 'sum', in the pinned program and in every row, IS THE sha256 OF THE DUMP (.gsa) THAT YtgafndgnmadcfaaGreatDoorProg.lean LOADS. Nothing in Lean hashes anything: it is a label: what it is worth is what the hold of that sum in a sandbox is worth. -/
noncomputable def Tryz.pinned : Pinned := { name := "ytgafndgnmadcfaagreatdoor", sum := "203f5830ea1b5d32e6f12f6b465e6b7a970c268e70fd580c3be94e9207fbd19a", checked := Tryz.checked }
namespace Rows
def none {H : Type} : Left H := { results := [], args := [] }

/- WHAT THE LISTED PACKAGE-LEVEL VARIABLES READ AS WHEN THE CALL BEGINS. Each datum BY PROGRAM (the guide's laid-datum.mjs) off the statement by which the dump's own 'gosem.cut.vars' lays the variable. In a bare row this is a premise. The card (YtgafndgnmadcfaaGreatDoorCards.lean) ties it to the program's text. -/
def laid_errors_errorType {H : Type} : DataW H := .iface "internal/reflectlite.rtype" (.agg [.ptr (.lit (.string [101, 114, 114, 111, 114]))])
def laid_loop_example_g00839_impl_errLong {H : Type} : DataW H := .iface "*errors.errorString" (.ptr (.agg [.lit (.string [109, 111, 114, 101, 32, 116, 104, 97, 110, 32, 97, 110, 121, 32, 99, 97, 108, 108, 32, 116, 97, 107, 101, 115])]))
def laid_loop_example_g00839_impl_errWrong {H : Type} : DataW H := .iface "*errors.errorString" (.ptr (.agg [.lit (.string [116, 104, 101, 32, 100, 105, 115, 107, 32, 105, 115, 32, 110, 111, 116, 32, 114, 105, 103, 104, 116])]))
def laid_loop_example_g00839_impl_errFull {H : Type} : DataW H := .iface "*errors.errorString" (.ptr (.agg [.lit (.string [116, 104, 101, 32, 100, 105, 115, 107, 32, 105, 115, 32, 102, 117, 108, 108])]))

/-- 'laws.FnExactVaultRight': WHATEVER THE INPUT: true; the input reads as it did. -/
def fnExactVaultRightSpec : ChangeSpec := { name := "fnExactVaultRight", fn := fun _ => fun
  | [d] => { results := [.lit (.bool true)], args := [d] }
  | _ => none }
def fnExactVaultRightRow : OpenClaim := { program := "ytgafndgnmadcfaagreatdoor", sum := "203f5830ea1b5d32e6f12f6b465e6b7a970c268e70fd580c3be94e9207fbd19a", func := "loop.example/g00839/laws.FnExactVaultRight", spec := "fnExactVaultRight", inPlace := ["internal/reflectlite.ValueOf", "(internal/reflectlite.Value).Type", "(internal/reflectlite.Value).IsNil", "internal/reflectlite.TypeOf", "(internal/reflectlite.Value).Elem", "(internal/reflectlite.Value).Set"], unfollowed := true, recurses := true, named := ["errors.errorType"], apart := false, laid := [("errors.errorType", laid_errors_errorType)] }
def FnExactVaultRightSaid : Prop := fnExactVaultRightRow.holds Tryz.pinned (OpenSpec.ofChange fnExactVaultRightSpec)

/-- ITS FALSE NEIGHBOUR: 'it returns false'. Refute it at one input. -/
def fnExactVaultRightWrong : ChangeSpec := { name := "fnExactVaultRight", fn := fun _ => fun
  | [d] => { results := [.lit (.bool false)], args := [d] }
  | _ => none }
def FnExactVaultRightWrongFalsely : Prop := fnExactVaultRightRow.holds Tryz.pinned (OpenSpec.ofChange fnExactVaultRightWrong)

/-- 'laws.FnExactData': WHATEVER THE INPUT: true; the input reads as it did. -/
def fnExactDataSpec : ChangeSpec := { name := "fnExactData", fn := fun _ => fun
  | [d1, d2] => { results := [.lit (.bool true)], args := [d1, d2] }
  | _ => none }
def fnExactDataRow : OpenClaim := { program := "ytgafndgnmadcfaagreatdoor", sum := "203f5830ea1b5d32e6f12f6b465e6b7a970c268e70fd580c3be94e9207fbd19a", func := "loop.example/g00839/laws.FnExactData", spec := "fnExactData", inPlace := ["internal/reflectlite.ValueOf", "(internal/reflectlite.Value).Type", "(internal/reflectlite.Value).IsNil", "internal/reflectlite.TypeOf", "(internal/reflectlite.Value).Elem", "(internal/reflectlite.Value).Set"], unfollowed := true, recurses := true, named := ["errors.errorType"], apart := false, laid := [("errors.errorType", laid_errors_errorType)] }
def FnExactDataSaid : Prop := fnExactDataRow.holds Tryz.pinned (OpenSpec.ofChange fnExactDataSpec)

/-- ITS FALSE NEIGHBOUR: 'it returns false'. Refute it at one input. -/
def fnExactDataWrong : ChangeSpec := { name := "fnExactData", fn := fun _ => fun
  | [d1, d2] => { results := [.lit (.bool false)], args := [d1, d2] }
  | _ => none }
def FnExactDataWrongFalsely : Prop := fnExactDataRow.holds Tryz.pinned (OpenSpec.ofChange fnExactDataWrong)

/-- 'laws.FnExactUnlock': WHATEVER THE INPUT: true; the input reads as it did. -/
def fnExactUnlockSpec : ChangeSpec := { name := "fnExactUnlock", vars := ["loop.example/g00839/impl.errLong", "loop.example/g00839/impl.errWrong", "loop.example/g00839/impl.errFull"], fn := fun _ => fun
  | [d1, d2, g1, g2, g3] => { results := [.lit (.bool true)], args := [d1, d2], vars := [g1, g2, g3] }
  | _ => none }
def fnExactUnlockRow : OpenClaim := { program := "ytgafndgnmadcfaagreatdoor", sum := "203f5830ea1b5d32e6f12f6b465e6b7a970c268e70fd580c3be94e9207fbd19a", func := "loop.example/g00839/laws.FnExactUnlock", spec := "fnExactUnlock", inPlace := ["internal/reflectlite.ValueOf", "(internal/reflectlite.Value).Type", "(internal/reflectlite.Value).IsNil", "internal/reflectlite.TypeOf", "(internal/reflectlite.Value).Elem", "(internal/reflectlite.Value).Set", "sync/atomic.LoadUint32", "(*internal/sync.Mutex).Lock", "internal/race.Disable", "sync/atomic.CompareAndSwapInt32", "internal/race.Enable", "internal/race.Acquire", "(*internal/sync.Mutex).lockSlow", "internal/sync.runtime_canSpin", "internal/sync.runtime_doSpin", "internal/sync.throw", "internal/sync.runtime_nanotime", "internal/sync.runtime_SemacquireMutex", "sync/atomic.AddInt32", "(*internal/sync.Mutex).Unlock", "internal/race.ReleaseMerge", "(*internal/sync.Mutex).unlockSlow", "internal/sync.fatal", "internal/sync.runtime_Semrelease", "sync/atomic.StoreUint32"], unfollowed := true, recurses := true, named := ["errors.errorType", "loop.example/g00839/impl.errLong", "loop.example/g00839/impl.errWrong", "loop.example/g00839/impl.errFull"], ifaces := true, apart := false, laid := [("errors.errorType", laid_errors_errorType), ("loop.example/g00839/impl.errLong", laid_loop_example_g00839_impl_errLong), ("loop.example/g00839/impl.errWrong", laid_loop_example_g00839_impl_errWrong), ("loop.example/g00839/impl.errFull", laid_loop_example_g00839_impl_errFull)] }
def FnExactUnlockSaid : Prop := fnExactUnlockRow.holds Tryz.pinned (OpenSpec.ofChange fnExactUnlockSpec)

/-- ITS FALSE NEIGHBOUR: 'it returns false'. Refute it at one input. -/
def fnExactUnlockWrong : ChangeSpec := { name := "fnExactUnlock", vars := ["loop.example/g00839/impl.errLong", "loop.example/g00839/impl.errWrong", "loop.example/g00839/impl.errFull"], fn := fun _ => fun
  | [d1, d2, g1, g2, g3] => { results := [.lit (.bool false)], args := [d1, d2], vars := [g1, g2, g3] }
  | _ => none }
def FnExactUnlockWrongFalsely : Prop := fnExactUnlockRow.holds Tryz.pinned (OpenSpec.ofChange fnExactUnlockWrong)

/-- 'laws.FnExactCurrent': WHATEVER THE INPUT: true; the input reads as it did. -/
def fnExactCurrentSpec : ChangeSpec := { name := "fnExactCurrent", fn := fun _ => fun
  | [d1, d2] => { results := [.lit (.bool true)], args := [d1, d2] }
  | _ => none }
def fnExactCurrentRow : OpenClaim := { program := "ytgafndgnmadcfaagreatdoor", sum := "203f5830ea1b5d32e6f12f6b465e6b7a970c268e70fd580c3be94e9207fbd19a", func := "loop.example/g00839/laws.FnExactCurrent", spec := "fnExactCurrent", inPlace := ["internal/reflectlite.ValueOf", "(internal/reflectlite.Value).Type", "(internal/reflectlite.Value).IsNil", "internal/reflectlite.TypeOf", "(internal/reflectlite.Value).Elem", "(internal/reflectlite.Value).Set"], unfollowed := true, recurses := true, named := ["errors.errorType"], apart := false, laid := [("errors.errorType", laid_errors_errorType)] }
def FnExactCurrentSaid : Prop := fnExactCurrentRow.holds Tryz.pinned (OpenSpec.ofChange fnExactCurrentSpec)

/-- ITS FALSE NEIGHBOUR: 'it returns false'. Refute it at one input. -/
def fnExactCurrentWrong : ChangeSpec := { name := "fnExactCurrent", fn := fun _ => fun
  | [d1, d2] => { results := [.lit (.bool false)], args := [d1, d2] }
  | _ => none }
def FnExactCurrentWrongFalsely : Prop := fnExactCurrentRow.holds Tryz.pinned (OpenSpec.ofChange fnExactCurrentWrong)

/- THE SECOND FORM. 'bulk': how many values and letters a reading holds, each counted each time it is reached (what is shared counts as often as it is met; a slice's spare places count too). A statement '..UptoSaid' is the law's where the arguments, and the package variables that the reading takes, are together of bulk at most 1048576: NARROWER than '..Said'. Prove '..Said' where nothing that the law and all that it calls make is longer than what came in: it says more and counts as full. Else prove '..UptoSaid'. A law counts once. -/
mutual
def uptoBulk {H : Type} : DataW H → Nat
  | .lit (.string bytes) => bytes.length + 1
  | .lit _ => 1
  | .nil => 1
  | .ptr d => uptoBulk d + 1
  | .slice elems spare => uptoBulkAll elems + uptoBulkAll spare + 1
  | .agg parts => uptoBulkAll parts + 1
  | .iface _ d => uptoBulk d + 1
  | .map entries => uptoBulkEntries entries + 1
  | .held _ => 1
def uptoBulkAll {H : Type} : List (DataW H) → Nat
  | [] => 0
  | d :: r => uptoBulk d + uptoBulkAll r
def uptoBulkEntries {H : Type} : List (Lit × DataW H) → Nat
  | [] => 0
  | x :: r => uptoBulkEntry x + uptoBulkEntries r
def uptoBulkEntry {H : Type} : Lit × DataW H → Nat
  | (.string bytes, d) => bytes.length + uptoBulk d + 1
  | (_, d) => uptoBulk d + 1
 end
def uptoSmall : (H : Type) → List (DataW H) → Bool := fun _ ds => decide (uptoBulkAll ds ≤ 1048576)
def OpenSpec.upto (s : _root_.Go.ChangeSpec) : _root_.Go.OpenSpec := { _root_.Go.OpenSpec.ofChange s with cond := some uptoSmall }

/-- 'laws.FnExactVaultRight', WHERE WHAT IT READS IS OF BULK AT MOST 1048576: true; the input reads as it did. -/
def fnExactVaultRightUptoRow : OpenClaim := { program := "ytgafndgnmadcfaagreatdoor", sum := "203f5830ea1b5d32e6f12f6b465e6b7a970c268e70fd580c3be94e9207fbd19a", func := "loop.example/g00839/laws.FnExactVaultRight", spec := "fnExactVaultRight", inPlace := ["internal/reflectlite.ValueOf", "(internal/reflectlite.Value).Type", "(internal/reflectlite.Value).IsNil", "internal/reflectlite.TypeOf", "(internal/reflectlite.Value).Elem", "(internal/reflectlite.Value).Set"], unfollowed := true, recurses := true, named := ["errors.errorType"], apart := false, laid := [("errors.errorType", laid_errors_errorType)], narrowed := true }
def FnExactVaultRightUptoSaid : Prop := fnExactVaultRightUptoRow.holds Tryz.pinned (OpenSpec.upto fnExactVaultRightSpec)

/-- 'laws.FnExactData', WHERE WHAT IT READS IS OF BULK AT MOST 1048576: true; the input reads as it did. -/
def fnExactDataUptoRow : OpenClaim := { program := "ytgafndgnmadcfaagreatdoor", sum := "203f5830ea1b5d32e6f12f6b465e6b7a970c268e70fd580c3be94e9207fbd19a", func := "loop.example/g00839/laws.FnExactData", spec := "fnExactData", inPlace := ["internal/reflectlite.ValueOf", "(internal/reflectlite.Value).Type", "(internal/reflectlite.Value).IsNil", "internal/reflectlite.TypeOf", "(internal/reflectlite.Value).Elem", "(internal/reflectlite.Value).Set"], unfollowed := true, recurses := true, named := ["errors.errorType"], apart := false, laid := [("errors.errorType", laid_errors_errorType)], narrowed := true }
def FnExactDataUptoSaid : Prop := fnExactDataUptoRow.holds Tryz.pinned (OpenSpec.upto fnExactDataSpec)

/-- 'laws.FnExactUnlock', WHERE WHAT IT READS IS OF BULK AT MOST 1048576: true; the input reads as it did. -/
def fnExactUnlockUptoRow : OpenClaim := { program := "ytgafndgnmadcfaagreatdoor", sum := "203f5830ea1b5d32e6f12f6b465e6b7a970c268e70fd580c3be94e9207fbd19a", func := "loop.example/g00839/laws.FnExactUnlock", spec := "fnExactUnlock", inPlace := ["internal/reflectlite.ValueOf", "(internal/reflectlite.Value).Type", "(internal/reflectlite.Value).IsNil", "internal/reflectlite.TypeOf", "(internal/reflectlite.Value).Elem", "(internal/reflectlite.Value).Set", "sync/atomic.LoadUint32", "(*internal/sync.Mutex).Lock", "internal/race.Disable", "sync/atomic.CompareAndSwapInt32", "internal/race.Enable", "internal/race.Acquire", "(*internal/sync.Mutex).lockSlow", "internal/sync.runtime_canSpin", "internal/sync.runtime_doSpin", "internal/sync.throw", "internal/sync.runtime_nanotime", "internal/sync.runtime_SemacquireMutex", "sync/atomic.AddInt32", "(*internal/sync.Mutex).Unlock", "internal/race.ReleaseMerge", "(*internal/sync.Mutex).unlockSlow", "internal/sync.fatal", "internal/sync.runtime_Semrelease", "sync/atomic.StoreUint32"], unfollowed := true, recurses := true, named := ["errors.errorType", "loop.example/g00839/impl.errLong", "loop.example/g00839/impl.errWrong", "loop.example/g00839/impl.errFull"], ifaces := true, apart := false, laid := [("errors.errorType", laid_errors_errorType), ("loop.example/g00839/impl.errLong", laid_loop_example_g00839_impl_errLong), ("loop.example/g00839/impl.errWrong", laid_loop_example_g00839_impl_errWrong), ("loop.example/g00839/impl.errFull", laid_loop_example_g00839_impl_errFull)], narrowed := true }
def FnExactUnlockUptoSaid : Prop := fnExactUnlockUptoRow.holds Tryz.pinned (OpenSpec.upto fnExactUnlockSpec)

/-- 'laws.FnExactCurrent', WHERE WHAT IT READS IS OF BULK AT MOST 1048576: true; the input reads as it did. -/
def fnExactCurrentUptoRow : OpenClaim := { program := "ytgafndgnmadcfaagreatdoor", sum := "203f5830ea1b5d32e6f12f6b465e6b7a970c268e70fd580c3be94e9207fbd19a", func := "loop.example/g00839/laws.FnExactCurrent", spec := "fnExactCurrent", inPlace := ["internal/reflectlite.ValueOf", "(internal/reflectlite.Value).Type", "(internal/reflectlite.Value).IsNil", "internal/reflectlite.TypeOf", "(internal/reflectlite.Value).Elem", "(internal/reflectlite.Value).Set"], unfollowed := true, recurses := true, named := ["errors.errorType"], apart := false, laid := [("errors.errorType", laid_errors_errorType)], narrowed := true }
def FnExactCurrentUptoSaid : Prop := fnExactCurrentUptoRow.holds Tryz.pinned (OpenSpec.upto fnExactCurrentSpec)

end Rows
end Go.Proofs.YtgafndgnmadcfaaGreatDoor
