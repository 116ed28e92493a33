/-
  No cell of these rows narrows 'for every input' (looked for: loops, veiled, ifaces, maps, wideKeys, modest, calm, conditions, laid).
  DERIVED. THE GIVEN ROWS OF THIS SEAT. 3 by the template 'for every input the law returns true; each argument reads behind the call as it read before'; 0 by the template 'total and deterministic' (their statements: YtnjpddbpnmgcpaaGreatTotals.lean).
  GIVEN WITH THE SEED: the statements are not yours to turn. If you find one false, say at which input.
  Laid BY PROGRAM, IN A SANDBOX (cutbox-rows.mjs): the forced cells as the released guide's own fill.sh prints them over the translation a98e0e0bd09e450f… (all of the seat's roots in one cut). By AI agents, Wed Nov 11 2026. No macro, syntax, notation, axiom, sorry.
-/
import Derived.Test.YtnjpddbpnmgcpaaGreatChecked
import GoSem.Claim
import GoSem.ClaimJoined
import GoSem.ClaimMapViews
import Derived.JoinedTies
import Derived.KernelRfl
namespace Go.Proofs.YtnjpddbpnmgcpaaGreat
/- THE CELL 'sum', in the pinned program and in every row, IS THE sha256 OF THE DUMP (.gsa) THAT YtnjpddbpnmgcpaaGreatProg.lean LOADS. Nothing in Lean hashes anything: it is a label: what it is worth is what the hold of that sum in a sandbox is worth. -/
noncomputable def Tryz.pinned : Pinned := { name := "ytnjpddbpnmgcpaagreat", sum := "a98e0e0bd09e450ff5c0939863a8edd2e2becbebc7d015432fd9d4dbafd05d22", checked := Tryz.checked }
namespace Rows
def none {H : Type} : Left H := { results := [], args := [] }

/-- 'laws.FnExactBookAt': WHATEVER THE INPUT: true; the input reads as it did. -/
def fnExactBookAtSpec : ChangeSpec := { name := "fnExactBookAt", fn := fun _ => fun
  | [d1, d2] => { results := [.lit (.bool true)], args := [d1, d2] }
  | _ => none }
def fnExactBookAtRow : OpenClaim := { program := "ytnjpddbpnmgcpaagreat", sum := "a98e0e0bd09e450ff5c0939863a8edd2e2becbebc7d015432fd9d4dbafd05d22", func := "loop.example/g00770/laws.FnExactBookAt", spec := "fnExactBookAt", unfollowed := true, recurses := true, apart := false }
def FnExactBookAtSaid : Prop := fnExactBookAtRow.holds Tryz.pinned (OpenSpec.ofChange fnExactBookAtSpec)

/-- ITS FALSE NEIGHBOUR: 'it returns false'. Refute it at one input. -/
def fnExactBookAtWrong : ChangeSpec := { name := "fnExactBookAt", fn := fun _ => fun
  | [d1, d2] => { results := [.lit (.bool false)], args := [d1, d2] }
  | _ => none }
def FnExactBookAtWrongFalsely : Prop := fnExactBookAtRow.holds Tryz.pinned (OpenSpec.ofChange fnExactBookAtWrong)

/-- 'laws.FnExactBookPut': WHATEVER THE INPUT: true; the input reads as it did. -/
def fnExactBookPutSpec : ChangeSpec := { name := "fnExactBookPut", fn := fun _ => fun
  | [d1, d2] => { results := [.lit (.bool true)], args := [d1, d2] }
  | _ => none }
def fnExactBookPutRow : OpenClaim := { program := "ytnjpddbpnmgcpaagreat", sum := "a98e0e0bd09e450ff5c0939863a8edd2e2becbebc7d015432fd9d4dbafd05d22", func := "loop.example/g00770/laws.FnExactBookPut", spec := "fnExactBookPut", unfollowed := true, recurses := true, apart := false }
def FnExactBookPutSaid : Prop := fnExactBookPutRow.holds Tryz.pinned (OpenSpec.ofChange fnExactBookPutSpec)

/-- ITS FALSE NEIGHBOUR: 'it returns false'. Refute it at one input. -/
def fnExactBookPutWrong : ChangeSpec := { name := "fnExactBookPut", fn := fun _ => fun
  | [d1, d2] => { results := [.lit (.bool false)], args := [d1, d2] }
  | _ => none }
def FnExactBookPutWrongFalsely : Prop := fnExactBookPutRow.holds Tryz.pinned (OpenSpec.ofChange fnExactBookPutWrong)

/-- 'laws.FnExactBookDrop': WHATEVER THE INPUT: true; the input reads as it did. -/
def fnExactBookDropSpec : ChangeSpec := { name := "fnExactBookDrop", fn := fun _ => fun
  | [d1, d2] => { results := [.lit (.bool true)], args := [d1, d2] }
  | _ => none }
def fnExactBookDropRow : OpenClaim := { program := "ytnjpddbpnmgcpaagreat", sum := "a98e0e0bd09e450ff5c0939863a8edd2e2becbebc7d015432fd9d4dbafd05d22", func := "loop.example/g00770/laws.FnExactBookDrop", spec := "fnExactBookDrop", unfollowed := true, recurses := true, apart := false }
def FnExactBookDropSaid : Prop := fnExactBookDropRow.holds Tryz.pinned (OpenSpec.ofChange fnExactBookDropSpec)

/-- ITS FALSE NEIGHBOUR: 'it returns false'. Refute it at one input. -/
def fnExactBookDropWrong : ChangeSpec := { name := "fnExactBookDrop", fn := fun _ => fun
  | [d1, d2] => { results := [.lit (.bool false)], args := [d1, d2] }
  | _ => none }
def FnExactBookDropWrongFalsely : Prop := fnExactBookDropRow.holds Tryz.pinned (OpenSpec.ofChange fnExactBookDropWrong)

/- THE SECOND FORM. 'bulk': how many values and letters a reading holds, each counted each time it is reached (what is shared counts as often as it is met; a slice's spare places count too). A statement '..UptoSaid' is the law's where the arguments, and the package variables that the reading takes, are together of bulk at most 1048576: NARROWER than '..Said'. Prove '..Said' where nothing that the law and all that it calls make is longer than what came in: it says more and counts as full. Else prove '..UptoSaid'. A law counts once. -/
mutual
def uptoBulk {H : Type} : DataW H → Nat
  | .lit (.string bytes) => bytes.length + 1
  | .lit _ => 1
  | .nil => 1
  | .ptr d => uptoBulk d + 1
  | .slice elems spare => uptoBulkAll elems + uptoBulkAll spare + 1
  | .agg parts => uptoBulkAll parts + 1
  | .iface _ d => uptoBulk d + 1
  | .map entries => uptoBulkEntries entries + 1
  | .held _ => 1
def uptoBulkAll {H : Type} : List (DataW H) → Nat
  | [] => 0
  | d :: r => uptoBulk d + uptoBulkAll r
def uptoBulkEntries {H : Type} : List (Lit × DataW H) → Nat
  | [] => 0
  | x :: r => uptoBulkEntry x + uptoBulkEntries r
def uptoBulkEntry {H : Type} : Lit × DataW H → Nat
  | (.string bytes, d) => bytes.length + uptoBulk d + 1
  | (_, d) => uptoBulk d + 1
 end
def uptoSmall : (H : Type) → List (DataW H) → Bool := fun _ ds => decide (uptoBulkAll ds ≤ 1048576)
def OpenSpec.upto (s : _root_.Go.ChangeSpec) : _root_.Go.OpenSpec := { _root_.Go.OpenSpec.ofChange s with cond := some uptoSmall }

/-- 'laws.FnExactBookAt', WHERE WHAT IT READS IS OF BULK AT MOST 1048576: true; the input reads as it did. -/
def fnExactBookAtUptoRow : OpenClaim := { program := "ytnjpddbpnmgcpaagreat", sum := "a98e0e0bd09e450ff5c0939863a8edd2e2becbebc7d015432fd9d4dbafd05d22", func := "loop.example/g00770/laws.FnExactBookAt", spec := "fnExactBookAt", unfollowed := true, recurses := true, apart := false, narrowed := true }
def FnExactBookAtUptoSaid : Prop := fnExactBookAtUptoRow.holds Tryz.pinned (OpenSpec.upto fnExactBookAtSpec)

/-- 'laws.FnExactBookPut', WHERE WHAT IT READS IS OF BULK AT MOST 1048576: true; the input reads as it did. -/
def fnExactBookPutUptoRow : OpenClaim := { program := "ytnjpddbpnmgcpaagreat", sum := "a98e0e0bd09e450ff5c0939863a8edd2e2becbebc7d015432fd9d4dbafd05d22", func := "loop.example/g00770/laws.FnExactBookPut", spec := "fnExactBookPut", unfollowed := true, recurses := true, apart := false, narrowed := true }
def FnExactBookPutUptoSaid : Prop := fnExactBookPutUptoRow.holds Tryz.pinned (OpenSpec.upto fnExactBookPutSpec)

/-- 'laws.FnExactBookDrop', WHERE WHAT IT READS IS OF BULK AT MOST 1048576: true; the input reads as it did. -/
def fnExactBookDropUptoRow : OpenClaim := { program := "ytnjpddbpnmgcpaagreat", sum := "a98e0e0bd09e450ff5c0939863a8edd2e2becbebc7d015432fd9d4dbafd05d22", func := "loop.example/g00770/laws.FnExactBookDrop", spec := "fnExactBookDrop", unfollowed := true, recurses := true, apart := false, narrowed := true }
def FnExactBookDropUptoSaid : Prop := fnExactBookDropUptoRow.holds Tryz.pinned (OpenSpec.upto fnExactBookDropSpec)

end Rows
end Go.Proofs.YtnjpddbpnmgcpaaGreat
