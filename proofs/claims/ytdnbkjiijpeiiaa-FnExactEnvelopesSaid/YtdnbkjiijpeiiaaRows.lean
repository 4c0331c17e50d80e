/-
  No cell of these rows narrows 'for every input' (looked for: loops, veiled, ifaces, maps, wideKeys, modest, calm, conditions, laid).
  DERIVED. THE GIVEN ROWS OF THIS SEAT. 3 by the template 'for every input the law returns true; each argument reads behind the call as it read before'; 0 by the template 'total and deterministic' (their statements: YtdnbkjiijpeiiaaTotals.lean).
  GIVEN WITH THE SEED: the statements are not yours to turn. If you find one false, say at which input.
  Laid BY PROGRAM, IN A SANDBOX (cutbox-rows.mjs): the forced cells as the released guide's own fill.sh prints them over the translation aa203cf23d4c67a1… (all of the seat's roots in one cut). By AI agents, Wed Nov 11 2026. No macro, syntax, notation, axiom, sorry.
-/
import Derived.Test.YtdnbkjiijpeiiaaChecked
import GoSem.Claim
import GoSem.ClaimJoined
import GoSem.ClaimMapViews
import Derived.JoinedTies
import Derived.KernelRfl
namespace Go.Proofs.Ytdnbkjiijpeiiaa
/- THE CELL 'sum', in the pinned program and in every row, IS THE sha256 OF THE DUMP (.gsa) THAT YtdnbkjiijpeiiaaProg.lean LOADS. Nothing in Lean hashes anything: it is a label: what it is worth is what the hold of that sum in a sandbox is worth. -/
noncomputable def Try.pinned : Pinned := { name := "ytdnbkjiijpeiiaa", sum := "aa203cf23d4c67a18d3d9bd7e4fcb9a90e33c6ec88f6b822bf9e1599858fea05", checked := Try.checked }
namespace Rows
def none {H : Type} : Left H := { results := [], args := [] }

/-- 'laws.FnExactEnvRight': WHATEVER THE INPUT: true; the input reads as it did. -/
def fnExactEnvRightSpec : ChangeSpec := { name := "fnExactEnvRight", fn := fun _ => fun
  | [d] => { results := [.lit (.bool true)], args := [d] }
  | _ => none }
def fnExactEnvRightRow : OpenClaim := { program := "ytdnbkjiijpeiiaa", sum := "aa203cf23d4c67a18d3d9bd7e4fcb9a90e33c6ec88f6b822bf9e1599858fea05", func := "loop.example/g00839/laws.FnExactEnvRight", spec := "fnExactEnvRight", apart := false }
def FnExactEnvRightSaid : Prop := fnExactEnvRightRow.holds Try.pinned (OpenSpec.ofChange fnExactEnvRightSpec)

/-- ITS FALSE NEIGHBOUR: 'it returns false'. Refute it at one input. -/
def fnExactEnvRightWrong : ChangeSpec := { name := "fnExactEnvRight", fn := fun _ => fun
  | [d] => { results := [.lit (.bool false)], args := [d] }
  | _ => none }
def FnExactEnvRightWrongFalsely : Prop := fnExactEnvRightRow.holds Try.pinned (OpenSpec.ofChange fnExactEnvRightWrong)

/-- 'laws.FnExactEnvBytes': WHATEVER THE INPUT: true; the input reads as it did. -/
def fnExactEnvBytesSpec : ChangeSpec := { name := "fnExactEnvBytes", fn := fun _ => fun
  | [d] => { results := [.lit (.bool true)], args := [d] }
  | _ => none }
def fnExactEnvBytesRow : OpenClaim := { program := "ytdnbkjiijpeiiaa", sum := "aa203cf23d4c67a18d3d9bd7e4fcb9a90e33c6ec88f6b822bf9e1599858fea05", func := "loop.example/g00839/laws.FnExactEnvBytes", spec := "fnExactEnvBytes", apart := false }
def FnExactEnvBytesSaid : Prop := fnExactEnvBytesRow.holds Try.pinned (OpenSpec.ofChange fnExactEnvBytesSpec)

/-- ITS FALSE NEIGHBOUR: 'it returns false'. Refute it at one input. -/
def fnExactEnvBytesWrong : ChangeSpec := { name := "fnExactEnvBytes", fn := fun _ => fun
  | [d] => { results := [.lit (.bool false)], args := [d] }
  | _ => none }
def FnExactEnvBytesWrongFalsely : Prop := fnExactEnvBytesRow.holds Try.pinned (OpenSpec.ofChange fnExactEnvBytesWrong)

/-- 'laws.FnExactEnvelopes': WHATEVER THE INPUT: true; the input reads as it did. -/
def fnExactEnvelopesSpec : ChangeSpec := { name := "fnExactEnvelopes", fn := fun _ => fun
  | [d1, d2, d3, d4] => { results := [.lit (.bool true)], args := [d1, d2, d3, d4] }
  | _ => none }
def fnExactEnvelopesRow : OpenClaim := { program := "ytdnbkjiijpeiiaa", sum := "aa203cf23d4c67a18d3d9bd7e4fcb9a90e33c6ec88f6b822bf9e1599858fea05", func := "loop.example/g00839/laws.FnExactEnvelopes", spec := "fnExactEnvelopes", apart := false }
def FnExactEnvelopesSaid : Prop := fnExactEnvelopesRow.holds Try.pinned (OpenSpec.ofChange fnExactEnvelopesSpec)

/-- ITS FALSE NEIGHBOUR: 'it returns false'. Refute it at one input. -/
def fnExactEnvelopesWrong : ChangeSpec := { name := "fnExactEnvelopes", fn := fun _ => fun
  | [d1, d2, d3, d4] => { results := [.lit (.bool false)], args := [d1, d2, d3, d4] }
  | _ => none }
def FnExactEnvelopesWrongFalsely : Prop := fnExactEnvelopesRow.holds Try.pinned (OpenSpec.ofChange fnExactEnvelopesWrong)

/- THE SECOND FORM. 'bulk': how many values and letters a reading holds, each counted each time it is reached (what is shared counts as often as it is met; a slice's spare places count too). A statement '..UptoSaid' is the law's where the arguments, and the package variables that the reading takes, are together of bulk at most 1048576: NARROWER than '..Said'. Prove '..Said' where nothing that the law and all that it calls make is longer than what came in: it says more and counts as full. Else prove '..UptoSaid'. A law counts once. -/
mutual
def uptoBulk {H : Type} : DataW H → Nat
  | .lit (.string bytes) => bytes.length + 1
  | .lit _ => 1
  | .nil => 1
  | .ptr d => uptoBulk d + 1
  | .slice elems spare => uptoBulkAll elems + uptoBulkAll spare + 1
  | .agg parts => uptoBulkAll parts + 1
  | .iface _ d => uptoBulk d + 1
  | .map entries => uptoBulkEntries entries + 1
  | .held _ => 1
def uptoBulkAll {H : Type} : List (DataW H) → Nat
  | [] => 0
  | d :: r => uptoBulk d + uptoBulkAll r
def uptoBulkEntries {H : Type} : List (Lit × DataW H) → Nat
  | [] => 0
  | x :: r => uptoBulkEntry x + uptoBulkEntries r
def uptoBulkEntry {H : Type} : Lit × DataW H → Nat
  | (.string bytes, d) => bytes.length + uptoBulk d + 1
  | (_, d) => uptoBulk d + 1
 end
def uptoSmall : (H : Type) → List (DataW H) → Bool := fun _ ds => decide (uptoBulkAll ds ≤ 1048576)
def OpenSpec.upto (s : _root_.Go.ChangeSpec) : _root_.Go.OpenSpec := { _root_.Go.OpenSpec.ofChange s with cond := some uptoSmall }

/-- 'laws.FnExactEnvRight', WHERE WHAT IT READS IS OF BULK AT MOST 1048576: true; the input reads as it did. -/
def fnExactEnvRightUptoRow : OpenClaim := { program := "ytdnbkjiijpeiiaa", sum := "aa203cf23d4c67a18d3d9bd7e4fcb9a90e33c6ec88f6b822bf9e1599858fea05", func := "loop.example/g00839/laws.FnExactEnvRight", spec := "fnExactEnvRight", apart := false, narrowed := true }
def FnExactEnvRightUptoSaid : Prop := fnExactEnvRightUptoRow.holds Try.pinned (OpenSpec.upto fnExactEnvRightSpec)

/-- 'laws.FnExactEnvBytes', WHERE WHAT IT READS IS OF BULK AT MOST 1048576: true; the input reads as it did. -/
def fnExactEnvBytesUptoRow : OpenClaim := { program := "ytdnbkjiijpeiiaa", sum := "aa203cf23d4c67a18d3d9bd7e4fcb9a90e33c6ec88f6b822bf9e1599858fea05", func := "loop.example/g00839/laws.FnExactEnvBytes", spec := "fnExactEnvBytes", apart := false, narrowed := true }
def FnExactEnvBytesUptoSaid : Prop := fnExactEnvBytesUptoRow.holds Try.pinned (OpenSpec.upto fnExactEnvBytesSpec)

/-- 'laws.FnExactEnvelopes', WHERE WHAT IT READS IS OF BULK AT MOST 1048576: true; the input reads as it did. -/
def fnExactEnvelopesUptoRow : OpenClaim := { program := "ytdnbkjiijpeiiaa", sum := "aa203cf23d4c67a18d3d9bd7e4fcb9a90e33c6ec88f6b822bf9e1599858fea05", func := "loop.example/g00839/laws.FnExactEnvelopes", spec := "fnExactEnvelopes", apart := false, narrowed := true }
def FnExactEnvelopesUptoSaid : Prop := fnExactEnvelopesUptoRow.holds Try.pinned (OpenSpec.upto fnExactEnvelopesSpec)

end Rows
end Go.Proofs.Ytdnbkjiijpeiiaa
