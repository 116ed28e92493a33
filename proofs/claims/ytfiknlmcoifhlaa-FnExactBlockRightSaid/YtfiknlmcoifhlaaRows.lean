/-
  NARROWER THAN 'FOR EVERY INPUT', by the rows' own cells (each row's printed sentence says how): FnExactRefsOf: loops · FnExactBlockRight: loops · FnExactSameConfig: loops.
  DERIVED. THE GIVEN ROWS OF THIS SEAT. 4 by the template 'for every input the law returns true; each argument reads behind the call as it read before'; 0 by the template 'total and deterministic' (their statements: YtfiknlmcoifhlaaTotals.lean).
  GIVEN WITH THE SEED: the statements are not yours to turn. If you find one false, say at which input.
  Laid BY PROGRAM, IN A SANDBOX (cutbox-rows.mjs): the forced cells as the released guide's own fill.sh prints them over the translation e1ac0b759f22268d… (all of the seat's roots in one cut). By AI agents, Wed Nov 11 2026. No macro, syntax, notation, axiom, sorry.
-/
import Derived.Test.YtfiknlmcoifhlaaChecked
import GoSem.Claim
import GoSem.ClaimJoined
import GoSem.ClaimMapViews
import Derived.JoinedTies
import Derived.KernelRfl
namespace Go.Proofs.Ytfiknlmcoifhlaa
/- THE CELL 'sum', in the pinned program and in every row, IS THE sha256 OF THE DUMP (.gsa) THAT YtfiknlmcoifhlaaProg.lean LOADS. Nothing in Lean hashes anything: it is a label: what it is worth is what the hold of that sum in a sandbox is worth. -/
noncomputable def Try.pinned : Pinned := { name := "ytfiknlmcoifhlaa", sum := "e1ac0b759f22268d06d46fe018ccdb317a76ccb94cf2cd15f609d4de1fe83c39", checked := Try.checked }
namespace Rows
def none {H : Type} : Left H := { results := [], args := [] }

/-- 'laws.FnExactRefsOf': WHATEVER THE INPUT: true; the input reads as it did. -/
def fnExactRefsOfSpec : ChangeSpec := { name := "fnExactRefsOf", fn := fun _ => fun
  | [d] => { results := [.lit (.bool true)], args := [d] }
  | _ => none }
def fnExactRefsOfRow : OpenClaim := { program := "ytfiknlmcoifhlaa", sum := "e1ac0b759f22268d06d46fe018ccdb317a76ccb94cf2cd15f609d4de1fe83c39", func := "loop.example/g00770/laws.FnExactRefsOf", spec := "fnExactRefsOf", unfollowed := true, recurses := true, loops := true, plainKeys := false, apart := false }
def FnExactRefsOfSaid : Prop := fnExactRefsOfRow.holds Try.pinned (OpenSpec.ofChange fnExactRefsOfSpec)

/-- ITS FALSE NEIGHBOUR: 'it returns false'. Refute it at one input. -/
def fnExactRefsOfWrong : ChangeSpec := { name := "fnExactRefsOf", fn := fun _ => fun
  | [d] => { results := [.lit (.bool false)], args := [d] }
  | _ => none }
def FnExactRefsOfWrongFalsely : Prop := fnExactRefsOfRow.holds Try.pinned (OpenSpec.ofChange fnExactRefsOfWrong)

/-- 'laws.FnExactBlockRight': WHATEVER THE INPUT: true; the input reads as it did. -/
def fnExactBlockRightSpec : ChangeSpec := { name := "fnExactBlockRight", fn := fun _ => fun
  | [d] => { results := [.lit (.bool true)], args := [d] }
  | _ => none }
def fnExactBlockRightRow : OpenClaim := { program := "ytfiknlmcoifhlaa", sum := "e1ac0b759f22268d06d46fe018ccdb317a76ccb94cf2cd15f609d4de1fe83c39", func := "loop.example/g00770/laws.FnExactBlockRight", spec := "fnExactBlockRight", inPlace := ["internal/bytealg.abigen_runtime_cmpstring"], unfollowed := true, recurses := true, loops := true, plainKeys := false, apart := false }
def FnExactBlockRightSaid : Prop := fnExactBlockRightRow.holds Try.pinned (OpenSpec.ofChange fnExactBlockRightSpec)

/-- ITS FALSE NEIGHBOUR: 'it returns false'. Refute it at one input. -/
def fnExactBlockRightWrong : ChangeSpec := { name := "fnExactBlockRight", fn := fun _ => fun
  | [d] => { results := [.lit (.bool false)], args := [d] }
  | _ => none }
def FnExactBlockRightWrongFalsely : Prop := fnExactBlockRightRow.holds Try.pinned (OpenSpec.ofChange fnExactBlockRightWrong)

/-- 'laws.FnExactMoveRight': WHATEVER THE INPUT: true; the input reads as it did. -/
def fnExactMoveRightSpec : ChangeSpec := { name := "fnExactMoveRight", fn := fun _ => fun
  | [d] => { results := [.lit (.bool true)], args := [d] }
  | _ => none }
def fnExactMoveRightRow : OpenClaim := { program := "ytfiknlmcoifhlaa", sum := "e1ac0b759f22268d06d46fe018ccdb317a76ccb94cf2cd15f609d4de1fe83c39", func := "loop.example/g00770/laws.FnExactMoveRight", spec := "fnExactMoveRight", unfollowed := true, recurses := true, plainKeys := false, apart := false }
def FnExactMoveRightSaid : Prop := fnExactMoveRightRow.holds Try.pinned (OpenSpec.ofChange fnExactMoveRightSpec)

/-- ITS FALSE NEIGHBOUR: 'it returns false'. Refute it at one input. -/
def fnExactMoveRightWrong : ChangeSpec := { name := "fnExactMoveRight", fn := fun _ => fun
  | [d] => { results := [.lit (.bool false)], args := [d] }
  | _ => none }
def FnExactMoveRightWrongFalsely : Prop := fnExactMoveRightRow.holds Try.pinned (OpenSpec.ofChange fnExactMoveRightWrong)

/-- 'laws.FnExactSameConfig': WHATEVER THE INPUT: true; the input reads as it did. -/
def fnExactSameConfigSpec : ChangeSpec := { name := "fnExactSameConfig", fn := fun _ => fun
  | [d1, d2] => { results := [.lit (.bool true)], args := [d1, d2] }
  | _ => none }
def fnExactSameConfigRow : OpenClaim := { program := "ytfiknlmcoifhlaa", sum := "e1ac0b759f22268d06d46fe018ccdb317a76ccb94cf2cd15f609d4de1fe83c39", func := "loop.example/g00770/laws.FnExactSameConfig", spec := "fnExactSameConfig", unfollowed := true, recurses := true, loops := true, plainKeys := false, apart := false }
def FnExactSameConfigSaid : Prop := fnExactSameConfigRow.holds Try.pinned (OpenSpec.ofChange fnExactSameConfigSpec)

/-- ITS FALSE NEIGHBOUR: 'it returns false'. Refute it at one input. -/
def fnExactSameConfigWrong : ChangeSpec := { name := "fnExactSameConfig", fn := fun _ => fun
  | [d1, d2] => { results := [.lit (.bool false)], args := [d1, d2] }
  | _ => none }
def FnExactSameConfigWrongFalsely : Prop := fnExactSameConfigRow.holds Try.pinned (OpenSpec.ofChange fnExactSameConfigWrong)

/- THE SECOND FORM. 'bulk': how many values and letters a reading holds, each counted each time it is reached (what is shared counts as often as it is met; a slice's spare places count too). A statement '..UptoSaid' is the law's where the arguments, and the package variables that the reading takes, are together of bulk at most 1048576: NARROWER than '..Said'. Prove '..Said' where nothing that the law and all that it calls make is longer than what came in: it says more and counts as full. Else prove '..UptoSaid'. A law counts once. -/
mutual
def uptoBulk {H : Type} : DataW H → Nat
  | .lit (.string bytes) => bytes.length + 1
  | .lit _ => 1
  | .nil => 1
  | .ptr d => uptoBulk d + 1
  | .slice elems spare => uptoBulkAll elems + uptoBulkAll spare + 1
  | .agg parts => uptoBulkAll parts + 1
  | .iface _ d => uptoBulk d + 1
  | .map entries => uptoBulkEntries entries + 1
  | .held _ => 1
def uptoBulkAll {H : Type} : List (DataW H) → Nat
  | [] => 0
  | d :: r => uptoBulk d + uptoBulkAll r
def uptoBulkEntries {H : Type} : List (Lit × DataW H) → Nat
  | [] => 0
  | x :: r => uptoBulkEntry x + uptoBulkEntries r
def uptoBulkEntry {H : Type} : Lit × DataW H → Nat
  | (.string bytes, d) => bytes.length + uptoBulk d + 1
  | (_, d) => uptoBulk d + 1
 end
def uptoSmall : (H : Type) → List (DataW H) → Bool := fun _ ds => decide (uptoBulkAll ds ≤ 1048576)
def OpenSpec.upto (s : _root_.Go.ChangeSpec) : _root_.Go.OpenSpec := { _root_.Go.OpenSpec.ofChange s with cond := some uptoSmall }

/-- 'laws.FnExactRefsOf', WHERE WHAT IT READS IS OF BULK AT MOST 1048576: true; the input reads as it did. -/
def fnExactRefsOfUptoRow : OpenClaim := { program := "ytfiknlmcoifhlaa", sum := "e1ac0b759f22268d06d46fe018ccdb317a76ccb94cf2cd15f609d4de1fe83c39", func := "loop.example/g00770/laws.FnExactRefsOf", spec := "fnExactRefsOf", unfollowed := true, recurses := true, loops := true, plainKeys := false, apart := false, narrowed := true }
def FnExactRefsOfUptoSaid : Prop := fnExactRefsOfUptoRow.holds Try.pinned (OpenSpec.upto fnExactRefsOfSpec)

/-- 'laws.FnExactBlockRight', WHERE WHAT IT READS IS OF BULK AT MOST 1048576: true; the input reads as it did. -/
def fnExactBlockRightUptoRow : OpenClaim := { program := "ytfiknlmcoifhlaa", sum := "e1ac0b759f22268d06d46fe018ccdb317a76ccb94cf2cd15f609d4de1fe83c39", func := "loop.example/g00770/laws.FnExactBlockRight", spec := "fnExactBlockRight", inPlace := ["internal/bytealg.abigen_runtime_cmpstring"], unfollowed := true, recurses := true, loops := true, plainKeys := false, apart := false, narrowed := true }
def FnExactBlockRightUptoSaid : Prop := fnExactBlockRightUptoRow.holds Try.pinned (OpenSpec.upto fnExactBlockRightSpec)

/-- 'laws.FnExactMoveRight', WHERE WHAT IT READS IS OF BULK AT MOST 1048576: true; the input reads as it did. -/
def fnExactMoveRightUptoRow : OpenClaim := { program := "ytfiknlmcoifhlaa", sum := "e1ac0b759f22268d06d46fe018ccdb317a76ccb94cf2cd15f609d4de1fe83c39", func := "loop.example/g00770/laws.FnExactMoveRight", spec := "fnExactMoveRight", unfollowed := true, recurses := true, plainKeys := false, apart := false, narrowed := true }
def FnExactMoveRightUptoSaid : Prop := fnExactMoveRightUptoRow.holds Try.pinned (OpenSpec.upto fnExactMoveRightSpec)

/-- 'laws.FnExactSameConfig', WHERE WHAT IT READS IS OF BULK AT MOST 1048576: true; the input reads as it did. -/
def fnExactSameConfigUptoRow : OpenClaim := { program := "ytfiknlmcoifhlaa", sum := "e1ac0b759f22268d06d46fe018ccdb317a76ccb94cf2cd15f609d4de1fe83c39", func := "loop.example/g00770/laws.FnExactSameConfig", spec := "fnExactSameConfig", unfollowed := true, recurses := true, loops := true, plainKeys := false, apart := false, narrowed := true }
def FnExactSameConfigUptoSaid : Prop := fnExactSameConfigUptoRow.holds Try.pinned (OpenSpec.upto fnExactSameConfigSpec)

end Rows
end Go.Proofs.Ytfiknlmcoifhlaa
