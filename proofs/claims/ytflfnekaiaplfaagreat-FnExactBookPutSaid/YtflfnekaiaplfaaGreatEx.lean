/- Plain: expressions as data; what is right; their texts; how they lie in memory. -/
import Derived.Test.YtflfnekaiaplfaaGreatMem
import Derived.Test.YtflfnekaiaplfaaGreatAdL
import Derived.Test.YtflfnekaiaplfaaGreatVlI
import Derived.Deep.MidRow
namespace Go.Proofs.YtflfnekaiaplfaaGreat.ex
open ad mem vl
open Go.ChangeShapes Go.WideShapes Go.ChangeAt Go.RowKit Go.Lib
set_option linter.unusedVariables false
set_option linter.unusedSimpArgs false

/-- the data of an expression. -/
inductive ExprD where
  | mk (kind : Int) (val : ValD) (addr : AddrD) (prop : ByteArray) (args : List ExprD)
def ExprD.kind : ExprD → Int | .mk k _ _ _ _ => k
def ExprD.val : ExprD → ValD | .mk _ v _ _ _ => v
def ExprD.addr : ExprD → AddrD | .mk _ _ a _ _ => a
def ExprD.prop : ExprD → ByteArray | .mk _ _ _ p _ => p
def ExprD.args : ExprD → List ExprD | .mk _ _ _ _ l => l

mutual
/-- how much an expression counts. -/
def cntE : ExprD → Nat
  | .mk _ v a p l => v.text.size + adl.cntA a + p.size + (l.length + cntEs l)
def cntEs : List ExprD → Nat
  | [] => 0
  | e :: es => cntE e + cntEs es
end
theorem cntE_eq (e : ExprD) : cntE e = e.val.text.size + adl.cntA e.addr + e.prop.size + (e.args.length + cntEs e.args) := by cases e; simp [cntE, ExprD.val, ExprD.addr, ExprD.prop, ExprD.args]
theorem cntEs_app : ∀ (l m : List ExprD), cntEs (l ++ m) = cntEs l + cntEs m
  | [], m => by simp [cntEs]
  | e :: es, m => by simp [cntEs, cntEs_app es m]; omega
theorem cntEs_take (l : List ExprD) (k : Nat) (h : k < l.length) : cntEs (l.take (k + 1)) = cntEs (l.take k) + cntE l[k] := by
  rw [List.take_succ_eq_append_getElem h, cntEs_app]; simp [cntEs]
theorem cntEs_le (l : List ExprD) (k : Nat) : cntEs (l.take k) ≤ cntEs l := by
  have e : cntEs l = cntEs (l.take k) + cntEs (l.drop k) := by rw [← cntEs_app, List.take_append_drop]
  omega
theorem cntEs_at {l : List ExprD} {k : Nat} (h : k < l.length) : cntE l[k] ≤ cntEs l := by
  have h1 := cntEs_take l k h
  have h2 := cntEs_le l (k + 1)
  omega

/-- an expression's cells: its path and its list lie at pa and aa. -/
def cellsE (e : ExprD) (pa : Option Addr) (pc : Nat) (aa : Option Addr) (ac : Nat) : List Value :=
  [.int .i64 e.kind, .int .i64 e.val.kind, .int .i64 e.val.n, .string e.val.text, .slice pa e.addr.path.length pc, .string e.addr.typ, .string e.addr.nam, .int .i64 e.addr.kind, .int .i64 e.addr.n, .string e.addr.key, .string e.prop, .slice aa e.args.length ac]

theorem range_below {w w' : World} {b o : Nat} {cs : List Value} (h : w.rangeAt b o cs) (hb : Below w.heap.size w w') (h1 : b < w.heap.size) : w'.rangeAt b o cs := fun j v hv => by
  rw [hb.cell (p := ⟨b, o + j, none⟩) h1]; exact h j v hv

/-- the sizes of an expression's own parts. -/
structure Sz (e : ExprD) : Prop where
  text : e.val.text.size ≤ maxLen
  path : e.addr.path.length ≤ maxLen
  typ : e.addr.typ.size ≤ maxLen
  nam : e.addr.nam.size ≤ maxLen
  key : e.addr.key.size ≤ maxLen
  prop : e.prop.size ≤ maxLen
  args : e.args.length ≤ maxLen

/-- a slice lies at lo or behind. -/
def Lo (lo : Nat) (A : Option Addr) : Prop := ∀ p, A = some p → lo ≤ p.block
theorem Lo.zero (A : Option Addr) : Lo 0 A := fun _ _ => Nat.zero_le _
theorem Lo.down {lo lo' : Nat} {A : Option Addr} (h : Lo lo A) (hl : lo' ≤ lo) : Lo lo' A := fun p e => Nat.le_trans hl (h p e)

/-- a list of expressions, no deeper than n, lies in memory, at lo or behind. -/
def Ar : Nat → Nat → World → Option Addr → List ExprD → Prop
  | 0, _, _, _, l => l = []
  | n + 1, lo, w, A, l => ∀ k (h : k < l.length), ∃ b o pa pc aa ac, A = some ⟨b, o, none⟩ ∧ lo ≤ b ∧ b < w.heap.size ∧
      w.rangeAt b (o + k * 12) (cellsE l[k] pa pc aa ac) ∧ Strs w pa l[k].addr.path ∧ Lo lo pa ∧ Ar n lo w aa l[k].args ∧ Sz l[k]
/-- w' is as w is in the blocks from lo on. -/
structure Agree (lo : Nat) (w w' : World) : Prop where
  size : w.heap.size ≤ w'.heap.size
  block : ∀ b, lo ≤ b → b < w.heap.size → w'.heap[b]? = w.heap[b]?
theorem Agree.of_below {lo : Nat} {w w' : World} (h : Below w.heap.size w w') : Agree lo w w' := ⟨h.size, fun b _ hb => h.block b hb⟩
theorem heap_setCells (w : World) (g : Nat) : ∀ (vs : List Value) (o : Nat) (w : World) (b : Nat), b ≠ g → (w.setCells g o vs).heap[b]? = w.heap[b]?
  | [], _, _, _, _ => rfl
  | v :: vs, o, w, b, h => by
    rw [World.setCells, heap_setCells w g vs (o + 1) _ b h]
    exact Below.heap_setCell w ⟨g, o, none⟩ v b h
theorem size_setCells (g : Nat) : ∀ (vs : List Value) (o : Nat) (w : World), (w.setCells g o vs).heap.size = w.heap.size
  | [], _, _ => rfl
  | v :: vs, o, w => by rw [World.setCells, size_setCells g vs (o + 1) _]; simp
theorem Agree.of_cells {lo : Nat} (w : World) (g o : Nat) (vs : List Value) (h : g < lo) : Agree lo w (w.setCells g o vs) :=
  ⟨Nat.le_of_eq (size_setCells g vs o w).symm, fun b hb _ => heap_setCells w g vs o w b (by omega)⟩
theorem Agree.of_cell {lo : Nat} (w : World) (p : Addr) (u : Value) (h : p.block < lo) : Agree lo w (w.setCell p u) :=
  ⟨by simp, fun b hb _ => Below.heap_setCell w p u b (by omega)⟩
theorem Agree.refl (lo : Nat) (w : World) : Agree lo w w := ⟨Nat.le_refl _, fun _ _ _ => rfl⟩
theorem agree_set {lo : Nat} {w w' : World} {p : Addr} (h : Agree lo w w') (hp : p.block < lo) (u : Value) : Agree lo w (w'.setCell p u) :=
  ⟨Nat.le_trans h.size (by simp), fun b h1 h2 => (Below.heap_setCell w' p u b (by omega)).trans (h.block b h1 h2)⟩
theorem Agree.trans {lo : Nat} {w w' w'' : World} (h : Agree lo w w') (k : Agree lo w' w'') : Agree lo w w'' :=
  ⟨Nat.le_trans h.size k.size, fun b h1 h2 => (k.block b h1 (Nat.lt_of_lt_of_le h2 h.size)).trans (h.block b h1 h2)⟩
theorem Agree.down {lo lo' : Nat} {w w' : World} (h : Agree lo w w') (hl : lo ≤ lo') : Agree lo' w w' := ⟨h.size, fun b h1 h2 => h.block b (Nat.le_trans hl h1) h2⟩
theorem strs_agree {lo : Nat} {w w' : World} {A : Option Addr} {l : List ByteArray} (h : Strs w A l) (hl : Lo lo A) (hb : Agree lo w w') : Strs w' A l := fun k hk => by
  obtain ⟨b, o, e, h1, h2, h3⟩ := h k hk
  exact ⟨b, o, e, Nat.lt_of_lt_of_le h1 hb.size, by rw [World.cell?_of_block (hb.block b (hl _ e) h1)]; exact h2, h3⟩
theorem range_agree {lo : Nat} {w w' : World} {b o : Nat} {cs : List Value} (h : w.rangeAt b o cs) (hb : Agree lo w w') (h0 : lo ≤ b) (h1 : b < w.heap.size) : w'.rangeAt b o cs := fun j v hv => by
  rw [World.cell?_of_block (hb.block b h0 h1)]; exact h j v hv
theorem Ar.agree : ∀ {n lo : Nat} {w w' : World} {A : Option Addr} {l : List ExprD}, Ar n lo w A l → Agree lo w w' → Ar n lo w' A l
  | 0, _, _, _, _, _, h, _ => h
  | n + 1, lo, w, w', A, l, h, hb => fun k hk => by
    obtain ⟨b, o, pa, pc, aa, ac, e, h0, h1, h2, h3, h4, h5, h6⟩ := h k hk
    exact ⟨b, o, pa, pc, aa, ac, e, h0, Nat.lt_of_lt_of_le h1 hb.size, range_agree h2 hb h0 h1, strs_agree h3 h4 hb, h4, Ar.agree h5 hb, h6⟩
theorem Ar.below {n lo : Nat} {w w' : World} {A : Option Addr} {l : List ExprD} (h : Ar n lo w A l) (hb : Below w.heap.size w w') : Ar n lo w' A l := h.agree (.of_below hb)
theorem Ar.nil (n lo : Nat) (w : World) (A : Option Addr) : Ar n lo w A [] := by
  cases n with
  | zero => rfl
  | succ n => intro k hk; simp at hk
theorem Ar.up : ∀ {n lo : Nat} {w : World} {A : Option Addr} {l : List ExprD}, Ar n lo w A l → Ar (n + 1) lo w A l
  | 0, lo, w, A, l, h => by obtain rfl : l = [] := h; exact Ar.nil _ _ _ _
  | n + 1, lo, w, A, l, h => fun k hk => by
    obtain ⟨b, o, pa, pc, aa, ac, e, h0, h1, h2, h3, h4, h5, h6⟩ := h k hk
    exact ⟨b, o, pa, pc, aa, ac, e, h0, h1, h2, h3, h4, Ar.up h5, h6⟩
theorem Ar.down : ∀ {n lo lo' : Nat} {w : World} {A : Option Addr} {l : List ExprD}, Ar n lo w A l → lo' ≤ lo → Ar n lo' w A l
  | 0, _, _, _, _, _, h, _ => h
  | n + 1, lo, lo', w, A, l, h, hl => fun k hk => by
    obtain ⟨b, o, pa, pc, aa, ac, e, h0, h1, h2, h3, h4, h5, h6⟩ := h k hk
    exact ⟨b, o, pa, pc, aa, ac, e, Nat.le_trans hl h0, h1, h2, h3, h4.down hl, Ar.down h5 hl, h6⟩
theorem Ar.alloc {n lo : Nat} {w : World} {A : Option Addr} {l : List ExprD} (h : Ar n lo w A l) (o : Obj) : Ar n lo (w.alloc o) A l := h.below (below_a1 w o)
theorem Ar.drew {n lo : Nat} {w : World} {A : Option Addr} {l : List ExprD} (h : Ar n lo w A l) (k : Nat) : Ar n lo (w.drewN k) A l := h.below (below_d w k)
/-- an expression by value, what it leads to at lo or behind. -/
structure In (lo n : Nat) (w : World) (pa aa : Option Addr) (e : ExprD) : Prop where
  strs : Strs w pa e.addr.path
  far : Lo lo pa
  args : Ar n lo w aa e.args
  sz : Sz e
theorem In.agree {lo n : Nat} {w w' : World} {pa aa : Option Addr} {e : ExprD} (h : In lo n w pa aa e) (hb : Agree lo w w') : In lo n w' pa aa e := ⟨strs_agree h.strs h.far hb, h.far, h.args.agree hb, h.sz⟩
theorem In.down {lo lo' n : Nat} {w : World} {pa aa : Option Addr} {e : ExprD} (h : In lo n w pa aa e) (hl : lo' ≤ lo) : In lo' n w pa aa e := ⟨h.strs, h.far.down hl, h.args.down hl, h.sz⟩
theorem In.below {lo n : Nat} {w w' : World} {pa aa : Option Addr} {e : ExprD} (h : In lo n w pa aa e) (hb : Below w.heap.size w w') : In lo n w' pa aa e := h.agree (.of_below hb)
theorem In.alloc {lo n : Nat} {w : World} {pa aa : Option Addr} {e : ExprD} (h : In lo n w pa aa e) (o : Obj) : In lo n (w.alloc o) pa aa e := h.below (below_a1 w o)
theorem Ar.at {n lo : Nat} {w : World} {A : Option Addr} {l : List ExprD} (h : Ar (n + 1) lo w A l) (k : Nat) (hk : k < l.length) : ∃ b o pa pc aa ac, A = some ⟨b, o, none⟩ ∧ lo ≤ b ∧ b < w.heap.size ∧
      w.rangeAt b (o + k * 12) (cellsE l[k] pa pc aa ac) ∧ In lo n w pa aa l[k] := by
  obtain ⟨b, o, pa, pc, aa, ac, e, h0, h1, h2, h3, h4, h5, h6⟩ := h k hk
  exact ⟨b, o, pa, pc, aa, ac, e, h0, h1, h2, h3, h4, h5, h6⟩

/-- what a right expression is. -/
def zeroV : ValD := ⟨0, 0, ByteArray.empty⟩
def zeroA : AddrD := ⟨[], ByteArray.empty, ByteArray.empty, 0, 0, ByteArray.empty⟩
def val0 (v : ValD) : Bool := v.kind == 0 && v.n == 0 && decide (v.text = ByteArray.empty)
def two (f : ExprD → Bool) : List ExprD → Bool
  | [a, b] => f a && f b
  | _ => false
noncomputable def exprB : Nat → ExprD → Bool
  | 0, _ => false
  | n + 1, e => (e.kind == 1 || val0 e.val) && (e.kind == 2 || (adl.eqA e.addr zeroA && decide (e.prop = ByteArray.empty))) && (e.kind == 5 || e.args.isEmpty) &&
      ((e.kind == 1 && valB e.val) || (e.kind == 2 && addrB e.addr && wordB e.prop) || e.kind == 3 || e.kind == 4 || (e.kind == 5 && two (exprB n) e.args))
/-- the text of a right one. -/
noncomputable def rawE : Nat → ExprD → List UInt8
  | 0, _ => []
  | n + 1, e => if e.kind = 1 then rawV e.val else if e.kind = 2 then 64 :: (rawT e.addr ++ (58 :: e.prop.data.toList)) else if e.kind = 3 then [35] else if e.kind = 4 then [36] else
      40 :: (rawE n (e.args.getD 0 (.mk 0 zeroV zeroA ByteArray.empty [])) ++ ([32, 43, 32] ++ (rawE n (e.args.getD 1 (.mk 0 zeroV zeroA ByteArray.empty [])) ++ [41])))
noncomputable def exprT (e : ExprD) : List UInt8 := if exprB 4 e then rawE 4 e else []
end Go.Proofs.YtflfnekaiaplfaaGreat.ex
