/-
  NARROWER THAN 'FOR EVERY INPUT', by the rows' own cells (each row's printed sentence says how): FnExactExprRight: loops · FnExactRefsOf: loops.
  DERIVED. THE GIVEN ROWS OF THIS SEAT. 5 by the template 'for every input the law returns true; each argument reads behind the call as it read before'; 0 by the template 'total and deterministic' (their statements: YtnhoknbofmpdbaaTotals.lean).
  GIVEN WITH THE SEED: the statements are not yours to turn. If you find one false, say at which input.
  Laid BY PROGRAM, IN A SANDBOX (cutbox-rows.mjs): the forced cells as the released guide's own fill.sh prints them over the translation 0a5282a826926b23… (all of the seat's roots in one cut). By AI agents, Wed Nov 11 2026. No macro, syntax, notation, axiom, sorry.
-/
import Derived.Test.YtnhoknbofmpdbaaChecked
import GoSem.Claim
import GoSem.ClaimJoined
import GoSem.ClaimMapViews
import Derived.JoinedTies
import Derived.KernelRfl
namespace Go.Proofs.Ytnhoknbofmpdbaa
/- THE CELL 'sum', in the pinned program and in every row, IS THE sha256 OF THE DUMP (.gsa) THAT YtnhoknbofmpdbaaProg.lean LOADS. Nothing in Lean hashes anything: it is a label: what it is worth is what the hold of that sum in a sandbox is worth. -/
noncomputable def Try.pinned : Pinned := { name := "ytnhoknbofmpdbaa", sum := "0a5282a826926b2368d0a1e016a6f77ed423ec219b0b387a493789702a7c215e", checked := Try.checked }
namespace Rows
def none {H : Type} : Left H := { results := [], args := [] }

/-- 'laws.FnExactAddrLess': WHATEVER THE INPUT: true; the input reads as it did. -/
def fnExactAddrLessSpec : ChangeSpec := { name := "fnExactAddrLess", fn := fun _ => fun
  | [d1, d2] => { results := [.lit (.bool true)], args := [d1, d2] }
  | _ => none }
def fnExactAddrLessRow : OpenClaim := { program := "ytnhoknbofmpdbaa", sum := "0a5282a826926b2368d0a1e016a6f77ed423ec219b0b387a493789702a7c215e", func := "loop.example/g00770/laws.FnExactAddrLess", spec := "fnExactAddrLess", unfollowed := true, recurses := true, apart := false }
def FnExactAddrLessSaid : Prop := fnExactAddrLessRow.holds Try.pinned (OpenSpec.ofChange fnExactAddrLessSpec)

/-- ITS FALSE NEIGHBOUR: 'it returns false'. Refute it at one input. -/
def fnExactAddrLessWrong : ChangeSpec := { name := "fnExactAddrLess", fn := fun _ => fun
  | [d1, d2] => { results := [.lit (.bool false)], args := [d1, d2] }
  | _ => none }
def FnExactAddrLessWrongFalsely : Prop := fnExactAddrLessRow.holds Try.pinned (OpenSpec.ofChange fnExactAddrLessWrong)

/-- 'laws.FnExactValueRight': WHATEVER THE INPUT: true; the input reads as it did. -/
def fnExactValueRightSpec : ChangeSpec := { name := "fnExactValueRight", fn := fun _ => fun
  | [d] => { results := [.lit (.bool true)], args := [d] }
  | _ => none }
def fnExactValueRightRow : OpenClaim := { program := "ytnhoknbofmpdbaa", sum := "0a5282a826926b2368d0a1e016a6f77ed423ec219b0b387a493789702a7c215e", func := "loop.example/g00770/laws.FnExactValueRight", spec := "fnExactValueRight", apart := false }
def FnExactValueRightSaid : Prop := fnExactValueRightRow.holds Try.pinned (OpenSpec.ofChange fnExactValueRightSpec)

/-- ITS FALSE NEIGHBOUR: 'it returns false'. Refute it at one input. -/
def fnExactValueRightWrong : ChangeSpec := { name := "fnExactValueRight", fn := fun _ => fun
  | [d] => { results := [.lit (.bool false)], args := [d] }
  | _ => none }
def FnExactValueRightWrongFalsely : Prop := fnExactValueRightRow.holds Try.pinned (OpenSpec.ofChange fnExactValueRightWrong)

/-- 'laws.FnExactSum': WHATEVER THE INPUT: true; the input reads as it did. -/
def fnExactSumSpec : ChangeSpec := { name := "fnExactSum", fn := fun _ => fun
  | [d1, d2] => { results := [.lit (.bool true)], args := [d1, d2] }
  | _ => none }
def fnExactSumRow : OpenClaim := { program := "ytnhoknbofmpdbaa", sum := "0a5282a826926b2368d0a1e016a6f77ed423ec219b0b387a493789702a7c215e", func := "loop.example/g00770/laws.FnExactSum", spec := "fnExactSum", apart := false }
def FnExactSumSaid : Prop := fnExactSumRow.holds Try.pinned (OpenSpec.ofChange fnExactSumSpec)

/-- ITS FALSE NEIGHBOUR: 'it returns false'. Refute it at one input. -/
def fnExactSumWrong : ChangeSpec := { name := "fnExactSum", fn := fun _ => fun
  | [d1, d2] => { results := [.lit (.bool false)], args := [d1, d2] }
  | _ => none }
def FnExactSumWrongFalsely : Prop := fnExactSumRow.holds Try.pinned (OpenSpec.ofChange fnExactSumWrong)

/-- 'laws.FnExactExprRight': WHATEVER THE INPUT: true; the input reads as it did. -/
def fnExactExprRightSpec : ChangeSpec := { name := "fnExactExprRight", fn := fun _ => fun
  | [d] => { results := [.lit (.bool true)], args := [d] }
  | _ => none }
def fnExactExprRightRow : OpenClaim := { program := "ytnhoknbofmpdbaa", sum := "0a5282a826926b2368d0a1e016a6f77ed423ec219b0b387a493789702a7c215e", func := "loop.example/g00770/laws.FnExactExprRight", spec := "fnExactExprRight", unfollowed := true, recurses := true, loops := true, apart := false }
def FnExactExprRightSaid : Prop := fnExactExprRightRow.holds Try.pinned (OpenSpec.ofChange fnExactExprRightSpec)

/-- ITS FALSE NEIGHBOUR: 'it returns false'. Refute it at one input. -/
def fnExactExprRightWrong : ChangeSpec := { name := "fnExactExprRight", fn := fun _ => fun
  | [d] => { results := [.lit (.bool false)], args := [d] }
  | _ => none }
def FnExactExprRightWrongFalsely : Prop := fnExactExprRightRow.holds Try.pinned (OpenSpec.ofChange fnExactExprRightWrong)

/-- 'laws.FnExactRefsOf': WHATEVER THE INPUT: true; the input reads as it did. -/
def fnExactRefsOfSpec : ChangeSpec := { name := "fnExactRefsOf", fn := fun _ => fun
  | [d] => { results := [.lit (.bool true)], args := [d] }
  | _ => none }
def fnExactRefsOfRow : OpenClaim := { program := "ytnhoknbofmpdbaa", sum := "0a5282a826926b2368d0a1e016a6f77ed423ec219b0b387a493789702a7c215e", func := "loop.example/g00770/laws.FnExactRefsOf", spec := "fnExactRefsOf", unfollowed := true, recurses := true, loops := true, apart := false }
def FnExactRefsOfSaid : Prop := fnExactRefsOfRow.holds Try.pinned (OpenSpec.ofChange fnExactRefsOfSpec)

/-- ITS FALSE NEIGHBOUR: 'it returns false'. Refute it at one input. -/
def fnExactRefsOfWrong : ChangeSpec := { name := "fnExactRefsOf", fn := fun _ => fun
  | [d] => { results := [.lit (.bool false)], args := [d] }
  | _ => none }
def FnExactRefsOfWrongFalsely : Prop := fnExactRefsOfRow.holds Try.pinned (OpenSpec.ofChange fnExactRefsOfWrong)

/- THE SECOND FORM. 'bulk': how many values and letters a reading holds, each counted each time it is reached (what is shared counts as often as it is met; a slice's spare places count too). A statement '..UptoSaid' is the law's where the arguments, and the package variables that the reading takes, are together of bulk at most 1048576: NARROWER than '..Said'. Prove '..Said' where nothing that the law and all that it calls make is longer than what came in: it says more and counts as full. Else prove '..UptoSaid'. A law counts once. -/
mutual
def uptoBulk {H : Type} : DataW H → Nat
  | .lit (.string bytes) => bytes.length + 1
  | .lit _ => 1
  | .nil => 1
  | .ptr d => uptoBulk d + 1
  | .slice elems spare => uptoBulkAll elems + uptoBulkAll spare + 1
  | .agg parts => uptoBulkAll parts + 1
  | .iface _ d => uptoBulk d + 1
  | .map entries => uptoBulkEntries entries + 1
  | .held _ => 1
def uptoBulkAll {H : Type} : List (DataW H) → Nat
  | [] => 0
  | d :: r => uptoBulk d + uptoBulkAll r
def uptoBulkEntries {H : Type} : List (Lit × DataW H) → Nat
  | [] => 0
  | x :: r => uptoBulkEntry x + uptoBulkEntries r
def uptoBulkEntry {H : Type} : Lit × DataW H → Nat
  | (.string bytes, d) => bytes.length + uptoBulk d + 1
  | (_, d) => uptoBulk d + 1
 end
def uptoSmall : (H : Type) → List (DataW H) → Bool := fun _ ds => decide (uptoBulkAll ds ≤ 1048576)
def OpenSpec.upto (s : _root_.Go.ChangeSpec) : _root_.Go.OpenSpec := { _root_.Go.OpenSpec.ofChange s with cond := some uptoSmall }

/-- 'laws.FnExactAddrLess', WHERE WHAT IT READS IS OF BULK AT MOST 1048576: true; the input reads as it did. -/
def fnExactAddrLessUptoRow : OpenClaim := { program := "ytnhoknbofmpdbaa", sum := "0a5282a826926b2368d0a1e016a6f77ed423ec219b0b387a493789702a7c215e", func := "loop.example/g00770/laws.FnExactAddrLess", spec := "fnExactAddrLess", unfollowed := true, recurses := true, apart := false, narrowed := true }
def FnExactAddrLessUptoSaid : Prop := fnExactAddrLessUptoRow.holds Try.pinned (OpenSpec.upto fnExactAddrLessSpec)

/-- 'laws.FnExactValueRight', WHERE WHAT IT READS IS OF BULK AT MOST 1048576: true; the input reads as it did. -/
def fnExactValueRightUptoRow : OpenClaim := { program := "ytnhoknbofmpdbaa", sum := "0a5282a826926b2368d0a1e016a6f77ed423ec219b0b387a493789702a7c215e", func := "loop.example/g00770/laws.FnExactValueRight", spec := "fnExactValueRight", apart := false, narrowed := true }
def FnExactValueRightUptoSaid : Prop := fnExactValueRightUptoRow.holds Try.pinned (OpenSpec.upto fnExactValueRightSpec)

/-- 'laws.FnExactSum', WHERE WHAT IT READS IS OF BULK AT MOST 1048576: true; the input reads as it did. -/
def fnExactSumUptoRow : OpenClaim := { program := "ytnhoknbofmpdbaa", sum := "0a5282a826926b2368d0a1e016a6f77ed423ec219b0b387a493789702a7c215e", func := "loop.example/g00770/laws.FnExactSum", spec := "fnExactSum", apart := false, narrowed := true }
def FnExactSumUptoSaid : Prop := fnExactSumUptoRow.holds Try.pinned (OpenSpec.upto fnExactSumSpec)

/-- 'laws.FnExactExprRight', WHERE WHAT IT READS IS OF BULK AT MOST 1048576: true; the input reads as it did. -/
def fnExactExprRightUptoRow : OpenClaim := { program := "ytnhoknbofmpdbaa", sum := "0a5282a826926b2368d0a1e016a6f77ed423ec219b0b387a493789702a7c215e", func := "loop.example/g00770/laws.FnExactExprRight", spec := "fnExactExprRight", unfollowed := true, recurses := true, loops := true, apart := false, narrowed := true }
def FnExactExprRightUptoSaid : Prop := fnExactExprRightUptoRow.holds Try.pinned (OpenSpec.upto fnExactExprRightSpec)

/-- 'laws.FnExactRefsOf', WHERE WHAT IT READS IS OF BULK AT MOST 1048576: true; the input reads as it did. -/
def fnExactRefsOfUptoRow : OpenClaim := { program := "ytnhoknbofmpdbaa", sum := "0a5282a826926b2368d0a1e016a6f77ed423ec219b0b387a493789702a7c215e", func := "loop.example/g00770/laws.FnExactRefsOf", spec := "fnExactRefsOf", unfollowed := true, recurses := true, loops := true, apart := false, narrowed := true }
def FnExactRefsOfUptoSaid : Prop := fnExactRefsOfUptoRow.holds Try.pinned (OpenSpec.upto fnExactRefsOfSpec)

end Rows
end Go.Proofs.Ytnhoknbofmpdbaa
