/- What the cards' lists of the library's variables give the walks: the table of powers and the two errors. -/
import Derived.Test.YtnhoknbofmpdbaaDoorLaid
import Derived.Test.YtnhoknbofmpdbaaDoorPar
namespace Go.Proofs.YtnhoknbofmpdbaaDoor.laide
open Go.ChangeShapes Go.WideShapes Go.ChangeAt Go.RowKit Go.Lib
set_option linter.unusedVariables false
set_option maxRecDepth 8000

noncomputable def start (os : Os) : World := World.doorLaid Tryd.prog 20000 os
structure Met2 (w : World) : Prop where
  tab : vl.Tab w
  errs : par.Errs w
/-- a variable that reads as an error holds an interface value. -/
theorem iface_of {w : World} {fuel : Nat} {t : TypeId} {ms : Array (String × TypeId)} {cs : List Value} {nm : String} {d : DataW Unit} {p : List MemPlace} (ht : Tryd.prog.underlying t = some (.interface ms))
    (h : DataW.trod (fun _ => ()) Tryd.prog w 0 (fun _ => true) false fuel t cs = some (.iface nm d, p)) : ∃ u v, cs = [.iface u v] := by
  cases fuel with
  | zero => simp [DataW.trod] at h
  | succ n =>
    unfold DataW.trod at h
    rw [ht] at h
    split at h <;> simp_all
theorem gS : Tryd.prog.globalNamed "strconv.ErrSyntax" = some 2 := by kernel_rfl
theorem gR : Tryd.prog.globalNamed "strconv.ErrRange" = some 3 := by kernel_rfl
theorem tS : (Tryd.prog.globals[2]?).map (·.type) = some 96 := by kernel_rfl
theorem tR : (Tryd.prog.globals[3]?).map (·.type) = some 96 := by kernel_rfl
theorem cell_of {w : World} {name : String} {g : Nat} {cs : Array Value} {u : TypeId} {v : Value} (hg : Tryd.prog.globalNamed name = some g) (hv : w.var? Tryd.prog name = some cs) (h : cs.toList = [.iface u v]) : w.cell? ⟨g, 0, none⟩ = some (.iface u v) := by
  have := World.var?_cell hg hv 0
  rw [Array.eq_one_of_toList h] at this
  simpa using this
theorem errs_at {W : World} {n1 n2 : String} {d1 d2 : DataW Unit} {rest : List (String × DataW Unit)} {ps : List MemPlace} (h : DataW.LaidVars Tryd.prog W (("strconv.ErrRange", .iface n1 d1) :: ("strconv.ErrSyntax", .iface n2 d2) :: rest) ps) : par.Errs W := by
  obtain ⟨g, t, cs, fuel, p, q, hg, ht, hvar, hd, ⟨g', t', cs', fuel', p', q', hg', ht', hvar', hd', _, _⟩, _⟩ := h
  obtain rfl := Option.some.inj (gR.symm.trans hg)
  obtain rfl := Option.some.inj (tR.symm.trans ht)
  obtain rfl := Option.some.inj (gS.symm.trans hg')
  obtain rfl := Option.some.inj (tS.symm.trans ht')
  obtain ⟨u, v, e⟩ := iface_of Tryd.underlying96 hd
  obtain ⟨u', v', e'⟩ := iface_of Tryd.underlying96 hd'
  exact ⟨⟨u', v', cell_of gS hvar' e'⟩, ⟨u, v, cell_of gR hvar e⟩⟩
theorem Met2_of {na nb n1 n2 : String} {da db d1 d2 : DataW Unit} {rest : List (String × DataW Unit)} {W : World} (hp : (((na, da) :: (nb, db) :: ("internal/strconv.uint64pow10", Rows.laid_internal_strconv_uint64pow10) :: ("strconv.ErrRange", .iface n1 d1) :: ("strconv.ErrSyntax", .iface n2 d2) :: rest).all fun x => x.2.handleName?.isNone) = true)
    (h : laidMetH Tryd.prog ((na, da) :: (nb, db) :: ("internal/strconv.uint64pow10", Rows.laid_internal_strconv_uint64pow10) :: ("strconv.ErrRange", .iface n1 d1) :: ("strconv.ErrSyntax", .iface n2 d2) :: rest) W) : Met2 W := by
  have h1 := laid.Met_of hp h
  rw [MakeChecks.laidMetH_plain _ _ _ hp] at h
  obtain ⟨ps, ⟨_, _, _, _, _, _, _, _, _, _, ⟨_, _, _, _, _, _, _, _, _, _, ⟨_, _, _, _, _, _, _, _, _, _, hr, _⟩, _⟩, _⟩, _⟩ := h
  exact ⟨h1, errs_at hr⟩
end Go.Proofs.YtnhoknbofmpdbaaDoor.laide
