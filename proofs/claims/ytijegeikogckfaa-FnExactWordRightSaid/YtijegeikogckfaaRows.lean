/-
  No cell of these rows narrows 'for every input' (looked for: loops, veiled, ifaces, maps, wideKeys, modest, calm, conditions, laid).
  DERIVED. THE GIVEN ROWS OF THIS SEAT. 4 by the template 'for every input the law returns true; each argument reads behind the call as it read before'; 0 by the template 'total and deterministic' (their statements: YtijegeikogckfaaTotals.lean).
  GIVEN WITH THE SEED: the statements are not yours to turn. If you find one false, say at which input.
  Laid BY PROGRAM, IN A SANDBOX (cutbox-rows.mjs): the forced cells as the released guide's own fill.sh prints them over the translation 9d316879a79d7bd8… (all of the seat's roots in one cut). By AI agents, Wed Nov 11 2026. No macro, syntax, notation, axiom, sorry.
-/
import Derived.Test.YtijegeikogckfaaChecked
import GoSem.Claim
import GoSem.ClaimJoined
import GoSem.ClaimMapViews
import Derived.JoinedTies
import Derived.KernelRfl
namespace Go.Proofs.Ytijegeikogckfaa
/- THE CELL 'sum', in the pinned program and in every row, IS THE sha256 OF THE DUMP (.gsa) THAT YtijegeikogckfaaProg.lean LOADS. Nothing in Lean hashes anything: it is a label: what it is worth is what the hold of that sum in a sandbox is worth. -/
noncomputable def Try.pinned : Pinned := { name := "ytijegeikogckfaa", sum := "9d316879a79d7bd8c274a80a24e2b21be745692d2f824690f158363e8d4bec9b", checked := Try.checked }
namespace Rows
def none {H : Type} : Left H := { results := [], args := [] }

/-- 'laws.FnExactWordRight': WHATEVER THE INPUT: true; the input reads as it did. -/
def fnExactWordRightSpec : ChangeSpec := { name := "fnExactWordRight", fn := fun _ => fun
  | [d] => { results := [.lit (.bool true)], args := [d] }
  | _ => none }
def fnExactWordRightRow : OpenClaim := { program := "ytijegeikogckfaa", sum := "9d316879a79d7bd8c274a80a24e2b21be745692d2f824690f158363e8d4bec9b", func := "loop.example/g00839/laws.FnExactWordRight", spec := "fnExactWordRight", apart := false }
def FnExactWordRightSaid : Prop := fnExactWordRightRow.holds Try.pinned (OpenSpec.ofChange fnExactWordRightSpec)

/-- ITS FALSE NEIGHBOUR: 'it returns false'. Refute it at one input. -/
def fnExactWordRightWrong : ChangeSpec := { name := "fnExactWordRight", fn := fun _ => fun
  | [d] => { results := [.lit (.bool false)], args := [d] }
  | _ => none }
def FnExactWordRightWrongFalsely : Prop := fnExactWordRightRow.holds Try.pinned (OpenSpec.ofChange fnExactWordRightWrong)

/-- 'laws.FnExactBookRight': WHATEVER THE INPUT: true; the input reads as it did. -/
def fnExactBookRightSpec : ChangeSpec := { name := "fnExactBookRight", fn := fun _ => fun
  | [d] => { results := [.lit (.bool true)], args := [d] }
  | _ => none }
def fnExactBookRightRow : OpenClaim := { program := "ytijegeikogckfaa", sum := "9d316879a79d7bd8c274a80a24e2b21be745692d2f824690f158363e8d4bec9b", func := "loop.example/g00839/laws.FnExactBookRight", spec := "fnExactBookRight", apart := false }
def FnExactBookRightSaid : Prop := fnExactBookRightRow.holds Try.pinned (OpenSpec.ofChange fnExactBookRightSpec)

/-- ITS FALSE NEIGHBOUR: 'it returns false'. Refute it at one input. -/
def fnExactBookRightWrong : ChangeSpec := { name := "fnExactBookRight", fn := fun _ => fun
  | [d] => { results := [.lit (.bool false)], args := [d] }
  | _ => none }
def FnExactBookRightWrongFalsely : Prop := fnExactBookRightRow.holds Try.pinned (OpenSpec.ofChange fnExactBookRightWrong)

/-- 'laws.FnExactDeedRight': WHATEVER THE INPUT: true; the input reads as it did. -/
def fnExactDeedRightSpec : ChangeSpec := { name := "fnExactDeedRight", fn := fun _ => fun
  | [d] => { results := [.lit (.bool true)], args := [d] }
  | _ => none }
def fnExactDeedRightRow : OpenClaim := { program := "ytijegeikogckfaa", sum := "9d316879a79d7bd8c274a80a24e2b21be745692d2f824690f158363e8d4bec9b", func := "loop.example/g00839/laws.FnExactDeedRight", spec := "fnExactDeedRight", unfollowed := true, recurses := true, apart := false }
def FnExactDeedRightSaid : Prop := fnExactDeedRightRow.holds Try.pinned (OpenSpec.ofChange fnExactDeedRightSpec)

/-- ITS FALSE NEIGHBOUR: 'it returns false'. Refute it at one input. -/
def fnExactDeedRightWrong : ChangeSpec := { name := "fnExactDeedRight", fn := fun _ => fun
  | [d] => { results := [.lit (.bool false)], args := [d] }
  | _ => none }
def FnExactDeedRightWrongFalsely : Prop := fnExactDeedRightRow.holds Try.pinned (OpenSpec.ofChange fnExactDeedRightWrong)

/-- 'laws.FnExactTxBytes': WHATEVER THE INPUT: true; the input reads as it did. -/
def fnExactTxBytesSpec : ChangeSpec := { name := "fnExactTxBytes", fn := fun _ => fun
  | [d] => { results := [.lit (.bool true)], args := [d] }
  | _ => none }
def fnExactTxBytesRow : OpenClaim := { program := "ytijegeikogckfaa", sum := "9d316879a79d7bd8c274a80a24e2b21be745692d2f824690f158363e8d4bec9b", func := "loop.example/g00839/laws.FnExactTxBytes", spec := "fnExactTxBytes", unfollowed := true, recurses := true, apart := false }
def FnExactTxBytesSaid : Prop := fnExactTxBytesRow.holds Try.pinned (OpenSpec.ofChange fnExactTxBytesSpec)

/-- ITS FALSE NEIGHBOUR: 'it returns false'. Refute it at one input. -/
def fnExactTxBytesWrong : ChangeSpec := { name := "fnExactTxBytes", fn := fun _ => fun
  | [d] => { results := [.lit (.bool false)], args := [d] }
  | _ => none }
def FnExactTxBytesWrongFalsely : Prop := fnExactTxBytesRow.holds Try.pinned (OpenSpec.ofChange fnExactTxBytesWrong)

/- THE SECOND FORM. 'bulk': how many values and letters a reading holds, each counted each time it is reached (what is shared counts as often as it is met; a slice's spare places count too). A statement '..UptoSaid' is the law's where the arguments, and the package variables that the reading takes, are together of bulk at most 1048576: NARROWER than '..Said'. Prove '..Said' where nothing that the law and all that it calls make is longer than what came in: it says more and counts as full. Else prove '..UptoSaid'. A law counts once. -/
mutual
def uptoBulk {H : Type} : DataW H → Nat
  | .lit (.string bytes) => bytes.length + 1
  | .lit _ => 1
  | .nil => 1
  | .ptr d => uptoBulk d + 1
  | .slice elems spare => uptoBulkAll elems + uptoBulkAll spare + 1
  | .agg parts => uptoBulkAll parts + 1
  | .iface _ d => uptoBulk d + 1
  | .map entries => uptoBulkEntries entries + 1
  | .held _ => 1
def uptoBulkAll {H : Type} : List (DataW H) → Nat
  | [] => 0
  | d :: r => uptoBulk d + uptoBulkAll r
def uptoBulkEntries {H : Type} : List (Lit × DataW H) → Nat
  | [] => 0
  | x :: r => uptoBulkEntry x + uptoBulkEntries r
def uptoBulkEntry {H : Type} : Lit × DataW H → Nat
  | (.string bytes, d) => bytes.length + uptoBulk d + 1
  | (_, d) => uptoBulk d + 1
 end
def uptoSmall : (H : Type) → List (DataW H) → Bool := fun _ ds => decide (uptoBulkAll ds ≤ 1048576)
def OpenSpec.upto (s : _root_.Go.ChangeSpec) : _root_.Go.OpenSpec := { _root_.Go.OpenSpec.ofChange s with cond := some uptoSmall }

/-- 'laws.FnExactWordRight', WHERE WHAT IT READS IS OF BULK AT MOST 1048576: true; the input reads as it did. -/
def fnExactWordRightUptoRow : OpenClaim := { program := "ytijegeikogckfaa", sum := "9d316879a79d7bd8c274a80a24e2b21be745692d2f824690f158363e8d4bec9b", func := "loop.example/g00839/laws.FnExactWordRight", spec := "fnExactWordRight", apart := false, narrowed := true }
def FnExactWordRightUptoSaid : Prop := fnExactWordRightUptoRow.holds Try.pinned (OpenSpec.upto fnExactWordRightSpec)

/-- 'laws.FnExactBookRight', WHERE WHAT IT READS IS OF BULK AT MOST 1048576: true; the input reads as it did. -/
def fnExactBookRightUptoRow : OpenClaim := { program := "ytijegeikogckfaa", sum := "9d316879a79d7bd8c274a80a24e2b21be745692d2f824690f158363e8d4bec9b", func := "loop.example/g00839/laws.FnExactBookRight", spec := "fnExactBookRight", apart := false, narrowed := true }
def FnExactBookRightUptoSaid : Prop := fnExactBookRightUptoRow.holds Try.pinned (OpenSpec.upto fnExactBookRightSpec)

/-- 'laws.FnExactDeedRight', WHERE WHAT IT READS IS OF BULK AT MOST 1048576: true; the input reads as it did. -/
def fnExactDeedRightUptoRow : OpenClaim := { program := "ytijegeikogckfaa", sum := "9d316879a79d7bd8c274a80a24e2b21be745692d2f824690f158363e8d4bec9b", func := "loop.example/g00839/laws.FnExactDeedRight", spec := "fnExactDeedRight", unfollowed := true, recurses := true, apart := false, narrowed := true }
def FnExactDeedRightUptoSaid : Prop := fnExactDeedRightUptoRow.holds Try.pinned (OpenSpec.upto fnExactDeedRightSpec)

/-- 'laws.FnExactTxBytes', WHERE WHAT IT READS IS OF BULK AT MOST 1048576: true; the input reads as it did. -/
def fnExactTxBytesUptoRow : OpenClaim := { program := "ytijegeikogckfaa", sum := "9d316879a79d7bd8c274a80a24e2b21be745692d2f824690f158363e8d4bec9b", func := "loop.example/g00839/laws.FnExactTxBytes", spec := "fnExactTxBytes", unfollowed := true, recurses := true, apart := false, narrowed := true }
def FnExactTxBytesUptoSaid : Prop := fnExactTxBytesUptoRow.holds Try.pinned (OpenSpec.upto fnExactTxBytesSpec)

end Rows
end Go.Proofs.Ytijegeikogckfaa
