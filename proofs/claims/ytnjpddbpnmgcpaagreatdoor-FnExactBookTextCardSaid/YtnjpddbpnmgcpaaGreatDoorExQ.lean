/- The laws' own helpers on expressions: compared. -/
import Derived.Test.YtnjpddbpnmgcpaaGreatDoorExTs
import Derived.Deep.RegionHeld3
namespace Go.Proofs.YtnjpddbpnmgcpaaGreatDoor.ex
open ad mem vl
open Go.ChangeShapes Go.WideShapes Go.ChangeAt Go.RowKit Go.Lib
set_option linter.unusedVariables false
set_option maxRecDepth 8000
set_option linter.unusedSimpArgs false


theorem range12 {w : World} {b o : Nat} {e : ExprD} {pa aa : Option Addr} {pc ac : Nat} (h : w.rangeAt b o (cellsE e pa pc aa ac)) :
    w.cell? ⟨b, o, none⟩ = some (.int .i64 e.kind) ∧ w.cell? ⟨b, o + 1, none⟩ = some (.int .i64 e.val.kind) ∧ w.cell? ⟨b, o + 2, none⟩ = some (.int .i64 e.val.n) ∧ w.cell? ⟨b, o + 3, none⟩ = some (.string e.val.text) ∧ w.cell? ⟨b, o + 4, none⟩ = some (.slice pa e.addr.path.length pc) ∧ w.cell? ⟨b, o + 5, none⟩ = some (.string e.addr.typ) ∧ w.cell? ⟨b, o + 6, none⟩ = some (.string e.addr.nam) ∧ w.cell? ⟨b, o + 7, none⟩ = some (.int .i64 e.addr.kind) ∧ w.cell? ⟨b, o + 8, none⟩ = some (.int .i64 e.addr.n) ∧ w.cell? ⟨b, o + 9, none⟩ = some (.string e.addr.key) ∧ w.cell? ⟨b, o + 10, none⟩ = some (.string e.prop) ∧ w.cell? ⟨b, o + 11, none⟩ = some (.slice aa e.args.length ac) :=
  ⟨h 0 _ rfl, h 1 _ rfl, h 2 _ rfl, h 3 _ rfl, h 4 _ rfl, h 5 _ rfl, h 6 _ rfl, h 7 _ rfl, h 8 _ rfl, h 9 _ rfl, h 10 _ rfl, h 11 _ rfl⟩

end Go.Proofs.YtnjpddbpnmgcpaaGreatDoor.ex
