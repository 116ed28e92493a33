/- Plain: values as data; what is right; their texts. No program. A value told, with nothing of what was there turned. Values: what is right, of the program and of the model. -/
import Derived.Test.YtflfnekaiaplfaaAd
import Derived.WalkKit
import Derived.Lib.Hide
import Derived.Lib.Strings
import Derived.Lib.ItoaNum
import Derived.Test.YtflfnekaiaplfaaMem
import Derived.Test.YtflfnekaiaplfaaRows
import Derived.Test.YtflfnekaiaplfaaAdR
import Derived.BigQuiet
import Derived.BigRegion
import Derived.Deep.QuietTactic
import Derived.Outline
namespace Go.Proofs.Ytflfnekaiaplfaa.vl
open Go.RowKit ad
set_option linter.unusedVariables false
set_option linter.unusedSimpArgs false

/-- the data of a value. -/
structure ValD where
  kind : Int
  n : Int
  text : ByteArray

/-- may a byte stand in a value's text? -/
def okC (x : Int) : Prop := (97 ≤ x ∧ x ≤ 122) ∨ (48 ≤ x ∧ x ≤ 57)
def okB (s : ByteArray) (k : Nat) : Prop := ∀ h : k < s.size, okC (s[k].toNat : Int)
def tOk (s : ByteArray) : Prop := s.size ≤ 8 ∧ ∀ k, okB s k
noncomputable def tB (s : ByteArray) : Bool := @decide (tOk s) (Classical.propDecidable _)
theorem tB_no {s : ByteArray} (h : ¬ tOk s) : tB s = false := by simp [tB, h]
theorem tB_yes {s : ByteArray} (h : tOk s) : tB s = true := by simp [tB, h]
theorem tB_iff {s : ByteArray} : tB s = true ↔ tOk s := by simp [tB]
theorem tB_size {s : ByteArray} (h : 8 < s.size) : tB s = false := tB_no (fun hn => by have := hn.1; omega)
theorem tB_at {s : ByteArray} {k : Nat} (hk : k < s.size) (h : ¬ okC (s[k].toNat : Int)) : tB s = false := tB_no (fun hn => h (hn.2 k hk))

noncomputable def valB (v : ValD) : Bool :=
  (v.kind == 1 && decide (-1000000 ≤ v.n) && decide (v.n ≤ 1000000) && v.text.size == 0) || (v.kind == 2 && v.n == 0 && tB v.text)
/-- the text of a right one. -/
def rawV (v : ValD) : List UInt8 := if v.kind = 1 then Lib.itoa v.n else 34 :: (v.text.data.toList ++ [34])
noncomputable def valT (v : ValD) : List UInt8 := if valB v then rawV v else []
end Go.Proofs.Ytflfnekaiaplfaa.vl
namespace Go.Proofs.Ytflfnekaiaplfaa.vl
open Go.RowKit
def Told (w : World) (v : Value) (e : Ending) (w' : World) : Prop := e = .returned v ∧ Below w.heap.size w w'
end Go.Proofs.Ytflfnekaiaplfaa.vl
namespace Go.Proofs.Ytflfnekaiaplfaa.vl
open ad mem
open Go.ChangeShapes Go.WideShapes Go.ChangeAt Go.RowKit Go.Lib
set_option linter.unusedVariables false
set_option linter.unusedSimpArgs false


theorem okC_parts {x : Int} : okC x ↔ (97 ≤ x ∧ x ≤ 122) ∨ (48 ≤ x ∧ x ≤ 57) := Iff.rfl

end Go.Proofs.Ytflfnekaiaplfaa.vl
