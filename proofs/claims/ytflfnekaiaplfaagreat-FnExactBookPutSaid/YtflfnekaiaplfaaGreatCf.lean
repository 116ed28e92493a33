/- Plain: blocks, moves, configs as data; out of data of any shape; what is right. -/
import Derived.Test.YtflfnekaiaplfaaGreatUc
import Derived.Test.YtflfnekaiaplfaaGreatEx
import Derived.Test.YtflfnekaiaplfaaGreatCmp
namespace Go.Proofs.YtflfnekaiaplfaaGreat.cf
open ad mem vl ex un cm
open Go.ChangeShapes Go.WideShapes Go.ChangeAt Go.RowKit Go.Lib
set_option linter.unusedVariables false
set_option linter.unusedSimpArgs false

def bS : DC → ByteArray | .s b => b | _ => ByteArray.empty
def bI : DC → Int | .i x => x | _ => 0
def bL : DC → List (List DC) | .l xs => xs | _ => []
def z : DC := .i 0
def bStrs (xs : List (List DC)) : List ByteArray := xs.map fun ds => bS (ds.getD 0 z)
def bA (ds : List DC) : AddrD := ⟨bStrs (bL (ds.getD 0 z)), bS (ds.getD 1 z), bS (ds.getD 2 z), bI (ds.getD 3 z), bI (ds.getD 4 z), bS (ds.getD 5 z)⟩
def bV (ds : List DC) : ValD := ⟨bI (ds.getD 0 z), bI (ds.getD 1 z), bS (ds.getD 2 z)⟩
def bE : Nat → List DC → ExprD
  | 0, ds => .mk (bI (ds.getD 0 z)) (bV (ds.drop 1)) (bA (ds.drop 4)) (bS (ds.getD 10 z)) []
  | n + 1, ds => .mk (bI (ds.getD 0 z)) (bV (ds.drop 1)) (bA (ds.drop 4)) (bS (ds.getD 10 z)) ((bL (ds.getD 11 z)).map (bE n))
structure PropD where
  name : ByteArray
  expr : ExprD
structure BlockD where
  addr : AddrD
  count : Int
  each : List ByteArray
  props : List PropD
structure MoveD where
  kind : Int
  src : AddrD
  dst : AddrD
structure ConfigD where
  blocks : List BlockD
  moves : List MoveD
def bP (n : Nat) (ds : List DC) : PropD := ⟨bS (ds.getD 0 z), bE n (ds.drop 1)⟩
def bB (n : Nat) (ds : List DC) : BlockD := ⟨bA ds, bI (ds.getD 6 z), bStrs (bL (ds.getD 7 z)), (bL (ds.getD 8 z)).map (bP (n - 1))⟩
def bM (ds : List DC) : MoveD := ⟨bI (ds.getD 0 z), bA (ds.drop 1), bA (ds.drop 7)⟩
def bC (n : Nat) (ds : List DC) : ConfigD := ⟨(bL (ds.getD 0 z)).map (bB (n - 1)), (bL (ds.getD 1 z)).map bM⟩

theorem bStrs_len (xs : List (List DC)) : (bStrs xs).length = xs.length := by simp [bStrs]
/-- a list of texts. -/
theorem strs_of {B : Nat → Prop} {n c : Nat} {w : World} {xs : List (List DC)} {A : Option Addr} (h : Cell B n w (.l 0) (.l xs) (.slice A xs.length c)) : Strs w A (bStrs xs) := fun k hk => by
  have hk' : k < xs.length := by simpa [bStrs] using hk
  obtain ⟨m, b, o, us, rfl, rfl, _, hbl, hr, hin⟩ := h.item k hk'
  obtain ⟨d0, ds0, v0, vs0, ed, rfl, h1, h2⟩ := All3.cons hin
  obtain ⟨rfl, rfl⟩ := All3.nil h2
  obtain ⟨s, rfl, rfl, hs⟩ := h1.str
  refine ⟨b, o, rfl, hbl, ?_, ?_⟩
  · have := hr 0 _ rfl
    simp [sh] at this
    rw [this]
    simp [bStrs, ed, bS]
  · simp [bStrs, ed, bS]; exact hs
/-- an expression. -/
theorem expr_of : ∀ (n : Nat) {B : Nat → Prop} {w : World} {ds : List DC} {vs : List Value}, Cells B n w shExpr_ ds vs → ∃ pa pc aa ac, vs = cellsE (bE n ds) pa pc aa ac ∧ In 0 n w pa aa (bE n ds) := fun n => by
  induction n with
  | zero =>
    intro B w ds vs h
    obtain ⟨x0, x1, x2, s3, l4, s5, s6, x7, x8, s9, s10, l11, A4, c4, A11, c11, rfl, rfl, k0, k1, k2, k3, k4, k5, k6, k7, k8, k9, k10, k11⟩ := open_Expr h
    obtain ⟨_, e11⟩ := k11
    obtain ⟨_, e4⟩ := id k4
    subst e11
    exact ⟨A4, c4, A11, c11, by simp [bE, cellsE, ExprD.kind, ExprD.val, ExprD.addr, ExprD.prop, ExprD.args, bV, bA, bI, bS, bL, bStrs],
      ⟨strs_of k4, Lo.zero _, rfl, ⟨k3, (by have := k4.len.2; simpa [bE, ExprD.addr, bA, bL, bStrs] using this), k5, k6, k9, k10, by simp [bE, ExprD.args, maxLen]⟩⟩⟩
  | succ n ih =>
    intro B w ds vs h
    obtain ⟨x0, x1, x2, s3, l4, s5, s6, x7, x8, s9, s10, l11, A4, c4, A11, c11, rfl, rfl, k0, k1, k2, k3, k4, k5, k6, k7, k8, k9, k10, k11⟩ := open_Expr h
    refine ⟨A4, c4, A11, c11, by simp [bE, cellsE, ExprD.kind, ExprD.val, ExprD.addr, ExprD.prop, ExprD.args, bV, bA, bI, bS, bL, bStrs],
      ⟨strs_of k4, Lo.zero _, ?_, ⟨k3, (by have := k4.len.2; simpa [bE, ExprD.addr, bA, bL, bStrs] using this), k5, k6, k9, k10, (by have := k11.len.2; simpa [bE, ExprD.args, bL] using this)⟩⟩⟩
    intro k hk
    have hk' : k < l11.length := by simpa [bE, ExprD.args, bL] using hk
    obtain ⟨m, b, o, us, hm, rfl, _, hbl, hr, hin⟩ := k11.item k hk'
    obtain rfl : n = m := by omega
    obtain ⟨pa, pc, aa, ac, rfl, hI⟩ := ih hin
    have e : (bE (n + 1) [DC.i x0, DC.i x1, DC.i x2, DC.s s3, DC.l l4, DC.s s5, DC.s s6, DC.i x7, DC.i x8, DC.s s9, DC.s s10, DC.l l11]).args[k] = bE n l11[k] := by simp [bE, ExprD.args, bL]
    rw [e]
    exact ⟨b, o, pa, pc, aa, ac, rfl, Nat.zero_le _, hbl, hr, hI.strs, Lo.zero _, hI.args, hI.sz⟩

mutual
/-- one of a kind stands in it. -/
def uses (k : Int) : ExprD → Bool
  | .mk kind _ _ _ l => usesL k l || kind == k
def usesL (k : Int) : List ExprD → Bool
  | [] => false
  | e :: es => uses k e || usesL k es
end
theorem uses_eq (k : Int) (e : ExprD) : uses k e = (usesL k e.args || e.kind == k) := by cases e; simp [uses, ExprD.args, ExprD.kind]
theorem usesL_no {k : Int} : ∀ {l : List ExprD}, (∀ i (h : i < l.length), uses k l[i] = false) → usesL k l = false
  | [], _ => by simp [usesL]
  | e :: es, h => by
    simp only [usesL, Bool.or_eq_false_iff]
    exact ⟨h 0 (by simp), usesL_no fun i hi => h (i + 1) (by simpa using hi)⟩
theorem usesL_yes {k : Int} : ∀ {l : List ExprD} (i : Nat) (h : i < l.length), uses k l[i] = true → usesL k l = true
  | e :: es, 0, _, h2 => by simp only [usesL, Bool.or_eq_true]; exact .inl (by simpa using h2)
  | e :: es, i + 1, h1, h2 => by simp only [usesL, Bool.or_eq_true]; exact .inr (usesL_yes i (by simpa using h1) (by simpa using h2))
  | [], _, h1, _ => absurd h1 (by simp)

def riseS (l : List ByteArray) : Prop := ∀ i (h : i + 1 < l.length), ltS l[i] l[i + 1]
def keysOk (count : Int) (each : List ByteArray) : Prop :=
  (each.length = 0 ∧ -1 ≤ count ∧ count ≤ 8) ∨ (each.length ≠ 0 ∧ count = -1 ∧ each.length ≤ 8 ∧ (∀ i (h : i < each.length), wordB each[i] = true) ∧ riseS each)
def propOk (count : Int) (keys : Nat) (p : PropD) : Prop := wordB p.name = true ∧ exprB 4 p.expr = true ∧ (count < 0 → uses 3 p.expr = false) ∧ (keys = 0 → uses 4 p.expr = false)
def risePr (l : List PropD) : Prop := ∀ i (h : i + 1 < l.length), ltS l[i].name l[i + 1].name
def blockOk (b : BlockD) : Prop := addrB b.addr = true ∧ b.addr.kind = 0 ∧ keysOk b.count b.each ∧ b.props.length ≤ 4 ∧ (∀ i (h : i < b.props.length), propOk b.count b.each.length b.props[i]) ∧ risePr b.props
noncomputable def blockB (b : BlockD) : Bool := @decide (blockOk b) (Classical.propDecidable _)
theorem blockB_no {b : BlockD} (h : ¬ blockOk b) : blockB b = false := by simp [blockB, h]
theorem blockB_yes {b : BlockD} (h : blockOk b) : blockB b = true := by simp [blockB, h]
noncomputable def keysB (count : Int) (each : List ByteArray) : Bool := @decide (keysOk count each) (Classical.propDecidable _)
theorem keysB_no {c : Int} {l : List ByteArray} (h : ¬ keysOk c l) : keysB c l = false := by simp [keysB, h]
theorem keysB_yes {c : Int} {l : List ByteArray} (h : keysOk c l) : keysB c l = true := by simp [keysB, h]
theorem keysB_iff {c : Int} {l : List ByteArray} : keysB c l = true ↔ keysOk c l := by simp [keysB]

/-- a path alone. -/
noncomputable def homeB (a : AddrD) : Bool := pathB a.path && decide (a.path.length ≠ 0) && decide (a.typ.size = 0) && decide (a.nam.size = 0) && a.kind == 0 && a.n == 0 && decide (a.key.size = 0)
noncomputable def moveB (m : MoveD) : Bool :=
  !adl.eqA m.src m.dst && if m.kind = 3 then homeB m.src && homeB m.dst else
    addrB m.src && addrB m.dst && decide (m.src.typ = m.dst.typ) && (m.kind == 1 || (m.kind == 2 && m.src.kind == 0 && m.dst.kind == 0))
end Go.Proofs.YtflfnekaiaplfaaGreat.cf
