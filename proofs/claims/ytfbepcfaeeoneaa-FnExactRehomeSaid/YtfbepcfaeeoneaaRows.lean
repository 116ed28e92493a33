/-
  No cell of these rows narrows 'for every input' (looked for: loops, veiled, ifaces, maps, wideKeys, modest, calm, conditions, laid).
  DERIVED. THE GIVEN ROWS OF THIS SEAT. 8 by the template 'for every input the law returns true; each argument reads behind the call as it read before'; 0 by the template 'total and deterministic' (their statements: YtfbepcfaeeoneaaTotals.lean).
  GIVEN WITH THE SEED: the statements are not yours to turn. If you find one false, say at which input.
  Laid BY PROGRAM, IN A SANDBOX (cutbox-rows.mjs): the forced cells as the released guide's own fill.sh prints them over the translation 143de7c7a2f94006… (all of the seat's roots in one cut). By AI agents, Wed Nov 11 2026. No macro, syntax, notation, axiom, sorry.
-/
import Derived.Test.YtfbepcfaeeoneaaChecked
import GoSem.Claim
import GoSem.ClaimJoined
import GoSem.ClaimMapViews
import Derived.JoinedTies
import Derived.KernelRfl
namespace Go.Proofs.Ytfbepcfaeeoneaa
/- THE CELL 'sum', in the pinned program and in every row, IS THE sha256 OF THE DUMP (.gsa) THAT YtfbepcfaeeoneaaProg.lean LOADS. Nothing in Lean hashes anything: it is a label: what it is worth is what the hold of that sum in a sandbox is worth. -/
noncomputable def Try.pinned : Pinned := { name := "ytfbepcfaeeoneaa", sum := "143de7c7a2f940063f789e6211bcdfd5a43ed217329afd9fd63a71f34378f4bb", checked := Try.checked }
namespace Rows
def none {H : Type} : Left H := { results := [], args := [] }

/-- 'laws.FnExactWordRight': WHATEVER THE INPUT: true; the input reads as it did. -/
def fnExactWordRightSpec : ChangeSpec := { name := "fnExactWordRight", fn := fun _ => fun
  | [d] => { results := [.lit (.bool true)], args := [d] }
  | _ => none }
def fnExactWordRightRow : OpenClaim := { program := "ytfbepcfaeeoneaa", sum := "143de7c7a2f940063f789e6211bcdfd5a43ed217329afd9fd63a71f34378f4bb", func := "loop.example/g00770/laws.FnExactWordRight", spec := "fnExactWordRight", apart := false }
def FnExactWordRightSaid : Prop := fnExactWordRightRow.holds Try.pinned (OpenSpec.ofChange fnExactWordRightSpec)

/-- ITS FALSE NEIGHBOUR: 'it returns false'. Refute it at one input. -/
def fnExactWordRightWrong : ChangeSpec := { name := "fnExactWordRight", fn := fun _ => fun
  | [d] => { results := [.lit (.bool false)], args := [d] }
  | _ => none }
def FnExactWordRightWrongFalsely : Prop := fnExactWordRightRow.holds Try.pinned (OpenSpec.ofChange fnExactWordRightWrong)

/-- 'laws.FnExactAddrRight': WHATEVER THE INPUT: true; the input reads as it did. -/
def fnExactAddrRightSpec : ChangeSpec := { name := "fnExactAddrRight", fn := fun _ => fun
  | [d] => { results := [.lit (.bool true)], args := [d] }
  | _ => none }
def fnExactAddrRightRow : OpenClaim := { program := "ytfbepcfaeeoneaa", sum := "143de7c7a2f940063f789e6211bcdfd5a43ed217329afd9fd63a71f34378f4bb", func := "loop.example/g00770/laws.FnExactAddrRight", spec := "fnExactAddrRight", unfollowed := true, recurses := true, apart := false }
def FnExactAddrRightSaid : Prop := fnExactAddrRightRow.holds Try.pinned (OpenSpec.ofChange fnExactAddrRightSpec)

/-- ITS FALSE NEIGHBOUR: 'it returns false'. Refute it at one input. -/
def fnExactAddrRightWrong : ChangeSpec := { name := "fnExactAddrRight", fn := fun _ => fun
  | [d] => { results := [.lit (.bool false)], args := [d] }
  | _ => none }
def FnExactAddrRightWrongFalsely : Prop := fnExactAddrRightRow.holds Try.pinned (OpenSpec.ofChange fnExactAddrRightWrong)

/-- 'laws.FnExactAddrText': WHATEVER THE INPUT: true; the input reads as it did. -/
def fnExactAddrTextSpec : ChangeSpec := { name := "fnExactAddrText", fn := fun _ => fun
  | [d] => { results := [.lit (.bool true)], args := [d] }
  | _ => none }
def fnExactAddrTextRow : OpenClaim := { program := "ytfbepcfaeeoneaa", sum := "143de7c7a2f940063f789e6211bcdfd5a43ed217329afd9fd63a71f34378f4bb", func := "loop.example/g00770/laws.FnExactAddrText", spec := "fnExactAddrText", unfollowed := true, recurses := true, apart := false }
def FnExactAddrTextSaid : Prop := fnExactAddrTextRow.holds Try.pinned (OpenSpec.ofChange fnExactAddrTextSpec)

/-- ITS FALSE NEIGHBOUR: 'it returns false'. Refute it at one input. -/
def fnExactAddrTextWrong : ChangeSpec := { name := "fnExactAddrText", fn := fun _ => fun
  | [d] => { results := [.lit (.bool false)], args := [d] }
  | _ => none }
def FnExactAddrTextWrongFalsely : Prop := fnExactAddrTextRow.holds Try.pinned (OpenSpec.ofChange fnExactAddrTextWrong)

/-- 'laws.FnExactAddrLess': WHATEVER THE INPUT: true; the input reads as it did. -/
def fnExactAddrLessSpec : ChangeSpec := { name := "fnExactAddrLess", fn := fun _ => fun
  | [d1, d2] => { results := [.lit (.bool true)], args := [d1, d2] }
  | _ => none }
def fnExactAddrLessRow : OpenClaim := { program := "ytfbepcfaeeoneaa", sum := "143de7c7a2f940063f789e6211bcdfd5a43ed217329afd9fd63a71f34378f4bb", func := "loop.example/g00770/laws.FnExactAddrLess", spec := "fnExactAddrLess", unfollowed := true, recurses := true, apart := false }
def FnExactAddrLessSaid : Prop := fnExactAddrLessRow.holds Try.pinned (OpenSpec.ofChange fnExactAddrLessSpec)

/-- ITS FALSE NEIGHBOUR: 'it returns false'. Refute it at one input. -/
def fnExactAddrLessWrong : ChangeSpec := { name := "fnExactAddrLess", fn := fun _ => fun
  | [d1, d2] => { results := [.lit (.bool false)], args := [d1, d2] }
  | _ => none }
def FnExactAddrLessWrongFalsely : Prop := fnExactAddrLessRow.holds Try.pinned (OpenSpec.ofChange fnExactAddrLessWrong)

/-- 'laws.FnExactSameAddr': WHATEVER THE INPUT: true; the input reads as it did. -/
def fnExactSameAddrSpec : ChangeSpec := { name := "fnExactSameAddr", fn := fun _ => fun
  | [d1, d2] => { results := [.lit (.bool true)], args := [d1, d2] }
  | _ => none }
def fnExactSameAddrRow : OpenClaim := { program := "ytfbepcfaeeoneaa", sum := "143de7c7a2f940063f789e6211bcdfd5a43ed217329afd9fd63a71f34378f4bb", func := "loop.example/g00770/laws.FnExactSameAddr", spec := "fnExactSameAddr", apart := false }
def FnExactSameAddrSaid : Prop := fnExactSameAddrRow.holds Try.pinned (OpenSpec.ofChange fnExactSameAddrSpec)

/-- ITS FALSE NEIGHBOUR: 'it returns false'. Refute it at one input. -/
def fnExactSameAddrWrong : ChangeSpec := { name := "fnExactSameAddr", fn := fun _ => fun
  | [d1, d2] => { results := [.lit (.bool false)], args := [d1, d2] }
  | _ => none }
def FnExactSameAddrWrongFalsely : Prop := fnExactSameAddrRow.holds Try.pinned (OpenSpec.ofChange fnExactSameAddrWrong)

/-- 'laws.FnExactBare': WHATEVER THE INPUT: true; the input reads as it did. -/
def fnExactBareSpec : ChangeSpec := { name := "fnExactBare", fn := fun _ => fun
  | [d] => { results := [.lit (.bool true)], args := [d] }
  | _ => none }
def fnExactBareRow : OpenClaim := { program := "ytfbepcfaeeoneaa", sum := "143de7c7a2f940063f789e6211bcdfd5a43ed217329afd9fd63a71f34378f4bb", func := "loop.example/g00770/laws.FnExactBare", spec := "fnExactBare", unfollowed := true, recurses := true, apart := false }
def FnExactBareSaid : Prop := fnExactBareRow.holds Try.pinned (OpenSpec.ofChange fnExactBareSpec)

/-- ITS FALSE NEIGHBOUR: 'it returns false'. Refute it at one input. -/
def fnExactBareWrong : ChangeSpec := { name := "fnExactBare", fn := fun _ => fun
  | [d] => { results := [.lit (.bool false)], args := [d] }
  | _ => none }
def FnExactBareWrongFalsely : Prop := fnExactBareRow.holds Try.pinned (OpenSpec.ofChange fnExactBareWrong)

/-- 'laws.FnExactUnder': WHATEVER THE INPUT: true; the input reads as it did. -/
def fnExactUnderSpec : ChangeSpec := { name := "fnExactUnder", fn := fun _ => fun
  | [d1, d2] => { results := [.lit (.bool true)], args := [d1, d2] }
  | _ => none }
def fnExactUnderRow : OpenClaim := { program := "ytfbepcfaeeoneaa", sum := "143de7c7a2f940063f789e6211bcdfd5a43ed217329afd9fd63a71f34378f4bb", func := "loop.example/g00770/laws.FnExactUnder", spec := "fnExactUnder", unfollowed := true, recurses := true, apart := false }
def FnExactUnderSaid : Prop := fnExactUnderRow.holds Try.pinned (OpenSpec.ofChange fnExactUnderSpec)

/-- ITS FALSE NEIGHBOUR: 'it returns false'. Refute it at one input. -/
def fnExactUnderWrong : ChangeSpec := { name := "fnExactUnder", fn := fun _ => fun
  | [d1, d2] => { results := [.lit (.bool false)], args := [d1, d2] }
  | _ => none }
def FnExactUnderWrongFalsely : Prop := fnExactUnderRow.holds Try.pinned (OpenSpec.ofChange fnExactUnderWrong)

/-- 'laws.FnExactRehome': WHATEVER THE INPUT: true; the input reads as it did. -/
def fnExactRehomeSpec : ChangeSpec := { name := "fnExactRehome", fn := fun _ => fun
  | [d1, d2, d3] => { results := [.lit (.bool true)], args := [d1, d2, d3] }
  | _ => none }
def fnExactRehomeRow : OpenClaim := { program := "ytfbepcfaeeoneaa", sum := "143de7c7a2f940063f789e6211bcdfd5a43ed217329afd9fd63a71f34378f4bb", func := "loop.example/g00770/laws.FnExactRehome", spec := "fnExactRehome", unfollowed := true, recurses := true, apart := false }
def FnExactRehomeSaid : Prop := fnExactRehomeRow.holds Try.pinned (OpenSpec.ofChange fnExactRehomeSpec)

/-- ITS FALSE NEIGHBOUR: 'it returns false'. Refute it at one input. -/
def fnExactRehomeWrong : ChangeSpec := { name := "fnExactRehome", fn := fun _ => fun
  | [d1, d2, d3] => { results := [.lit (.bool false)], args := [d1, d2, d3] }
  | _ => none }
def FnExactRehomeWrongFalsely : Prop := fnExactRehomeRow.holds Try.pinned (OpenSpec.ofChange fnExactRehomeWrong)

/- THE SECOND FORM. 'bulk': how many values and letters a reading holds, each counted each time it is reached (what is shared counts as often as it is met; a slice's spare places count too). A statement '..UptoSaid' is the law's where the arguments, and the package variables that the reading takes, are together of bulk at most 1048576: NARROWER than '..Said'. Prove '..Said' where nothing that the law and all that it calls make is longer than what came in: it says more and counts as full. Else prove '..UptoSaid'. A law counts once. -/
mutual
def uptoBulk {H : Type} : DataW H → Nat
  | .lit (.string bytes) => bytes.length + 1
  | .lit _ => 1
  | .nil => 1
  | .ptr d => uptoBulk d + 1
  | .slice elems spare => uptoBulkAll elems + uptoBulkAll spare + 1
  | .agg parts => uptoBulkAll parts + 1
  | .iface _ d => uptoBulk d + 1
  | .map entries => uptoBulkEntries entries + 1
  | .held _ => 1
def uptoBulkAll {H : Type} : List (DataW H) → Nat
  | [] => 0
  | d :: r => uptoBulk d + uptoBulkAll r
def uptoBulkEntries {H : Type} : List (Lit × DataW H) → Nat
  | [] => 0
  | x :: r => uptoBulkEntry x + uptoBulkEntries r
def uptoBulkEntry {H : Type} : Lit × DataW H → Nat
  | (.string bytes, d) => bytes.length + uptoBulk d + 1
  | (_, d) => uptoBulk d + 1
 end
def uptoSmall : (H : Type) → List (DataW H) → Bool := fun _ ds => decide (uptoBulkAll ds ≤ 1048576)
def OpenSpec.upto (s : _root_.Go.ChangeSpec) : _root_.Go.OpenSpec := { _root_.Go.OpenSpec.ofChange s with cond := some uptoSmall }

/-- 'laws.FnExactWordRight', WHERE WHAT IT READS IS OF BULK AT MOST 1048576: true; the input reads as it did. -/
def fnExactWordRightUptoRow : OpenClaim := { program := "ytfbepcfaeeoneaa", sum := "143de7c7a2f940063f789e6211bcdfd5a43ed217329afd9fd63a71f34378f4bb", func := "loop.example/g00770/laws.FnExactWordRight", spec := "fnExactWordRight", apart := false, narrowed := true }
def FnExactWordRightUptoSaid : Prop := fnExactWordRightUptoRow.holds Try.pinned (OpenSpec.upto fnExactWordRightSpec)

/-- 'laws.FnExactAddrRight', WHERE WHAT IT READS IS OF BULK AT MOST 1048576: true; the input reads as it did. -/
def fnExactAddrRightUptoRow : OpenClaim := { program := "ytfbepcfaeeoneaa", sum := "143de7c7a2f940063f789e6211bcdfd5a43ed217329afd9fd63a71f34378f4bb", func := "loop.example/g00770/laws.FnExactAddrRight", spec := "fnExactAddrRight", unfollowed := true, recurses := true, apart := false, narrowed := true }
def FnExactAddrRightUptoSaid : Prop := fnExactAddrRightUptoRow.holds Try.pinned (OpenSpec.upto fnExactAddrRightSpec)

/-- 'laws.FnExactAddrText', WHERE WHAT IT READS IS OF BULK AT MOST 1048576: true; the input reads as it did. -/
def fnExactAddrTextUptoRow : OpenClaim := { program := "ytfbepcfaeeoneaa", sum := "143de7c7a2f940063f789e6211bcdfd5a43ed217329afd9fd63a71f34378f4bb", func := "loop.example/g00770/laws.FnExactAddrText", spec := "fnExactAddrText", unfollowed := true, recurses := true, apart := false, narrowed := true }
def FnExactAddrTextUptoSaid : Prop := fnExactAddrTextUptoRow.holds Try.pinned (OpenSpec.upto fnExactAddrTextSpec)

/-- 'laws.FnExactAddrLess', WHERE WHAT IT READS IS OF BULK AT MOST 1048576: true; the input reads as it did. -/
def fnExactAddrLessUptoRow : OpenClaim := { program := "ytfbepcfaeeoneaa", sum := "143de7c7a2f940063f789e6211bcdfd5a43ed217329afd9fd63a71f34378f4bb", func := "loop.example/g00770/laws.FnExactAddrLess", spec := "fnExactAddrLess", unfollowed := true, recurses := true, apart := false, narrowed := true }
def FnExactAddrLessUptoSaid : Prop := fnExactAddrLessUptoRow.holds Try.pinned (OpenSpec.upto fnExactAddrLessSpec)

/-- 'laws.FnExactSameAddr', WHERE WHAT IT READS IS OF BULK AT MOST 1048576: true; the input reads as it did. -/
def fnExactSameAddrUptoRow : OpenClaim := { program := "ytfbepcfaeeoneaa", sum := "143de7c7a2f940063f789e6211bcdfd5a43ed217329afd9fd63a71f34378f4bb", func := "loop.example/g00770/laws.FnExactSameAddr", spec := "fnExactSameAddr", apart := false, narrowed := true }
def FnExactSameAddrUptoSaid : Prop := fnExactSameAddrUptoRow.holds Try.pinned (OpenSpec.upto fnExactSameAddrSpec)

/-- 'laws.FnExactBare', WHERE WHAT IT READS IS OF BULK AT MOST 1048576: true; the input reads as it did. -/
def fnExactBareUptoRow : OpenClaim := { program := "ytfbepcfaeeoneaa", sum := "143de7c7a2f940063f789e6211bcdfd5a43ed217329afd9fd63a71f34378f4bb", func := "loop.example/g00770/laws.FnExactBare", spec := "fnExactBare", unfollowed := true, recurses := true, apart := false, narrowed := true }
def FnExactBareUptoSaid : Prop := fnExactBareUptoRow.holds Try.pinned (OpenSpec.upto fnExactBareSpec)

/-- 'laws.FnExactUnder', WHERE WHAT IT READS IS OF BULK AT MOST 1048576: true; the input reads as it did. -/
def fnExactUnderUptoRow : OpenClaim := { program := "ytfbepcfaeeoneaa", sum := "143de7c7a2f940063f789e6211bcdfd5a43ed217329afd9fd63a71f34378f4bb", func := "loop.example/g00770/laws.FnExactUnder", spec := "fnExactUnder", unfollowed := true, recurses := true, apart := false, narrowed := true }
def FnExactUnderUptoSaid : Prop := fnExactUnderUptoRow.holds Try.pinned (OpenSpec.upto fnExactUnderSpec)

/-- 'laws.FnExactRehome', WHERE WHAT IT READS IS OF BULK AT MOST 1048576: true; the input reads as it did. -/
def fnExactRehomeUptoRow : OpenClaim := { program := "ytfbepcfaeeoneaa", sum := "143de7c7a2f940063f789e6211bcdfd5a43ed217329afd9fd63a71f34378f4bb", func := "loop.example/g00770/laws.FnExactRehome", spec := "fnExactRehome", unfollowed := true, recurses := true, apart := false, narrowed := true }
def FnExactRehomeUptoSaid : Prop := fnExactRehomeUptoRow.holds Try.pinned (OpenSpec.upto fnExactRehomeSpec)

end Rows
end Go.Proofs.Ytfbepcfaeeoneaa
