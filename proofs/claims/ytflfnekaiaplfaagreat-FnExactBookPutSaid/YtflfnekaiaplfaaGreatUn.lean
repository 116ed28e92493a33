/- Plain: data of any shape (numbers, texts, lists of structs, flat); how it lies in memory, shared or owned; marks. -/
import Derived.WalkKit
import Derived.Lib.Hide
import Derived.ProofKit
import Derived.WalkSpells
import Derived.Below
import Derived.Laws.OwnMore
import Derived.Deep.MidRow
import Derived.Deep.RegionHeld
import Derived.Lib.ItoaNum
namespace Go.Proofs.YtflfnekaiaplfaaGreat.un
open Go.ChangeShapes Go.WideShapes Go.ChangeAt Go.RowKit Go.Lib
set_option linter.unusedVariables false
set_option linter.unusedSimpArgs false

def R64 (x : Int) : Prop := -9223372036854775808 ≤ x ∧ x ≤ 9223372036854775807
/-- the data of a cell: a number, a text, a list of structs. -/
inductive DC where
  | i (x : Int)
  | s (b : ByteArray)
  | l (xs : List (List DC))
/-- the kind of a cell. -/
inductive CK where
  | i | s | l (e : Nat)
def shA : List CK := [.l 0, .s, .s, .i, .i, .s]
def shV : List CK := [.i, .i, .s]
def shE : List CK := [.i, .i, .i, .s, .l 0, .s, .s, .i, .i, .s, .s, .l 3]
def shPr : List CK := [.s, .i, .i, .i, .s, .l 0, .s, .s, .i, .i, .s, .s, .l 3]
def shB : List CK := [.l 0, .s, .s, .i, .i, .s, .i, .l 0, .l 4]
def shM : List CK := [.i, .l 0, .s, .s, .i, .i, .s, .l 0, .s, .s, .i, .i, .s]
def shPa : List CK := [.s, .i, .i, .s]
def shT : List CK := [.l 0, .s, .s, .i, .i, .s, .l 7, .l 2]
def shSt : List CK := [.i, .l 0, .s, .s, .i, .i, .s]
/-- the cells of a list's items. -/
def sh : Nat → List CK
  | 0 => [.s]
  | 1 => [.i]
  | 2 => shA
  | 3 => shE
  | 4 => shPr
  | 5 => shB
  | 6 => shM
  | 7 => shPa
  | 8 => shT
  | 9 => shSt
  | 10 => [.l 0]
  | 11 => [.l 2]
  | _ => []

def All3 (R : CK → DC → Value → Prop) : List CK → List DC → List Value → Prop
  | [], [], [] => True
  | k :: ks, d :: ds, v :: vs => R k d v ∧ All3 R ks ds vs
  | _, _, _ => False
theorem All3.mono {R R' : CK → DC → Value → Prop} (h : ∀ k d v, R k d v → R' k d v) : ∀ {ks ds vs}, All3 R ks ds vs → All3 R' ks ds vs
  | [], [], [], _ => trivial
  | _ :: _, _ :: _, _ :: _, hh => ⟨h _ _ _ hh.1, All3.mono h hh.2⟩
  | [], [], _ :: _, hh => hh.elim
  | [], _ :: _, _, hh => hh.elim
  | _ :: _, [], _, hh => hh.elim
  | _ :: _, _ :: _, [], hh => hh.elim
theorem All3.len {R : CK → DC → Value → Prop} : ∀ {ks ds vs}, All3 R ks ds vs → ds.length = ks.length ∧ vs.length = ks.length
  | [], [], [], _ => ⟨rfl, rfl⟩
  | _ :: _, _ :: _, _ :: _, hh => by have := All3.len hh.2; simp [this.1, this.2]
  | [], [], _ :: _, hh => hh.elim
  | [], _ :: _, _, hh => hh.elim
  | _ :: _, [], _, hh => hh.elim
  | _ :: _, _ :: _, [], hh => hh.elim
theorem All3.cons {R : CK → DC → Value → Prop} {k : CK} {ks : List CK} : ∀ {ds vs}, All3 R (k :: ks) ds vs → ∃ d ds' v vs', ds = d :: ds' ∧ vs = v :: vs' ∧ R k d v ∧ All3 R ks ds' vs'
  | _ :: _, _ :: _, hh => ⟨_, _, _, _, rfl, rfl, hh.1, hh.2⟩
  | [], _, hh => hh.elim
  | _ :: _, [], hh => hh.elim
theorem All3.nil {R : CK → DC → Value → Prop} : ∀ {ds vs}, All3 R [] ds vs → ds = [] ∧ vs = []
  | [], [], _ => ⟨rfl, rfl⟩
  | [], _ :: _, hh => hh.elim
  | _ :: _, _, hh => hh.elim
theorem All3.at {R : CK → DC → Value → Prop} : ∀ {ks ds vs}, All3 R ks ds vs → ∀ c (h1 : c < ks.length) (h2 : c < ds.length) (h3 : c < vs.length), R ks[c] ds[c] vs[c]
  | _ :: _, _ :: _, _ :: _, hh, 0, _, _, _ => hh.1
  | _ :: _, _ :: _, _ :: _, hh, c + 1, h1, h2, h3 => All3.at hh.2 c (by simpa using h1) (by simpa using h2) (by simpa using h3)
  | [], _, _, _, c, h1, _, _ => absurd h1 (by simp)
  | _ :: _, [], _, hh, _, _, _, _ => hh.elim
  | _ :: _, _ :: _, [], hh, _, _, _, _ => hh.elim
theorem All3.of {R : CK → DC → Value → Prop} : ∀ {ks ds vs}, ds.length = ks.length → vs.length = ks.length → (∀ c (h1 : c < ks.length) (h2 : c < ds.length) (h3 : c < vs.length), R ks[c] ds[c] vs[c]) → All3 R ks ds vs
  | [], [], [], _, _, _ => trivial
  | k :: ks, d :: ds, v :: vs, e1, e2, hh => ⟨hh 0 (by simp) (by simp) (by simp), All3.of (by simpa using e1) (by simpa using e2) (fun c h1 h2 h3 => hh (c + 1) (by simpa using h1) (by simpa using h2) (by simpa using h3))⟩
  | [], _ :: _, _, e1, _, _ => absurd e1 (by simp)
  | [], [], _ :: _, _, e2, _ => absurd e2 (by simp)
  | _ :: _, [], _, e1, _, _ => absurd e1 (by simp)
  | _ :: _, _ :: _, [], _, e2, _ => absurd e2 (by simp)

/-- a cell holds its data; all blocks that it leads to are of B. -/
def Cell (B : Nat → Prop) : Nat → World → CK → DC → Value → Prop
  | _, _, .i, .i x, v => v = .int .i64 x ∧ R64 x
  | _, _, .s, .s b, v => v = .string b ∧ b.size ≤ maxLen
  | 0, _, .l _, .l xs, v => (∃ A c, v = .slice A xs.length c) ∧ xs = []
  | n + 1, w, .l e, .l xs, v => ∃ A c, v = .slice A xs.length c ∧ xs.length ≤ maxLen ∧ ∀ k (h : k < xs.length), ∃ b o us, A = some ⟨b, o, none⟩ ∧ B b ∧ b < w.heap.size ∧ w.rangeAt b (o + k * (sh e).length) us ∧ All3 (Cell B n w) (sh e) xs[k] us
  | _, _, _, _, _ => False
abbrev Cells (B : Nat → Prop) (n : Nat) (w : World) : List CK → List DC → List Value → Prop := All3 (Cell B n w)
abbrev Any : Nat → Prop := fun _ => True

theorem Cell.int {B : Nat → Prop} {n : Nat} {w : World} {d : DC} {v : Value} (h : Cell B n w .i d v) : ∃ x, d = .i x ∧ v = .int .i64 x ∧ R64 x := by
  cases d <;> cases n <;> first | exact h.elim | exact ⟨_, rfl, h.1, h.2⟩
theorem Cell.str {B : Nat → Prop} {n : Nat} {w : World} {d : DC} {v : Value} (h : Cell B n w .s d v) : ∃ b, d = .s b ∧ v = .string b ∧ b.size ≤ maxLen := by
  cases d <;> cases n <;> first | exact h.elim | exact ⟨_, rfl, h.1, h.2⟩
theorem Cell.lst {B : Nat → Prop} {n e : Nat} {w : World} {d : DC} {v : Value} (h : Cell B n w (.l e) d v) : ∃ xs A c, d = .l xs ∧ v = .slice A xs.length c ∧ xs.length ≤ maxLen := by
  cases d with
  | l xs =>
    cases n with
    | zero => obtain ⟨⟨A, c, rfl⟩, rfl⟩ := h; exact ⟨[], A, c, rfl, rfl, by simp [maxLen]⟩
    | succ n => obtain ⟨A, c, rfl, h1, _⟩ := h; exact ⟨xs, A, c, rfl, rfl, h1⟩
  | i x => cases n <;> exact h.elim
  | s x => cases n <;> exact h.elim
theorem Cell.item {B : Nat → Prop} {n e c : Nat} {w : World} {xs : List (List DC)} {A : Option Addr} (h : Cell B n w (.l e) (.l xs) (.slice A xs.length c)) (k : Nat) (hk : k < xs.length) :
    ∃ m b o us, n = m + 1 ∧ A = some ⟨b, o, none⟩ ∧ B b ∧ b < w.heap.size ∧ w.rangeAt b (o + k * (sh e).length) us ∧ Cells B m w (sh e) xs[k] us := by
  cases n with
  | zero => obtain ⟨_, rfl⟩ := h; simp at hk
  | succ n =>
    obtain ⟨A', c', e1, _, h2⟩ := h
    obtain ⟨b, o, us, h3, h4⟩ := h2 k hk
    injection e1 with e1
    exact ⟨n, b, o, us, rfl, by rw [e1, h3], h4⟩
theorem Cell.len {B : Nat → Prop} {n e c m : Nat} {w : World} {xs : List (List DC)} {A : Option Addr} (h : Cell B n w (.l e) (.l xs) (.slice A m c)) : m = xs.length ∧ xs.length ≤ maxLen := by
  obtain ⟨ys, A', c', e1, e2, h3⟩ := h.lst
  injection e1 with e1; injection e2 with _ e2 _
  subst e1; exact ⟨e2, h3⟩

/-- w' is as w is in the blocks of B. -/
structure Agree (B : Nat → Prop) (w w' : World) : Prop where
  size : w.heap.size ≤ w'.heap.size
  block : ∀ b, B b → b < w.heap.size → w'.heap[b]? = w.heap[b]?
theorem Agree.of_below {B : Nat → Prop} {w w' : World} (h : Below w.heap.size w w') : Agree B w w' := ⟨h.size, fun b _ hb => h.block b hb⟩
theorem Agree.refl (B : Nat → Prop) (w : World) : Agree B w w := ⟨Nat.le_refl _, fun _ _ _ => rfl⟩
theorem Agree.trans {B : Nat → Prop} {w w' w'' : World} (h : Agree B w w') (k : Agree B w' w'') : Agree B w w'' :=
  ⟨Nat.le_trans h.size k.size, fun b h1 h2 => (k.block b h1 (Nat.lt_of_lt_of_le h2 h.size)).trans (h.block b h1 h2)⟩
theorem Agree.mono {B B' : Nat → Prop} {w w' : World} (h : Agree B' w w') (hB : ∀ b, B b → B' b) : Agree B w w' := ⟨h.size, fun b h1 h2 => h.block b (hB b h1) h2⟩
theorem range_same {w w' : World} {b o : Nat} {cs : List Value} (h : w.rangeAt b o cs) (hb : w'.heap[b]? = w.heap[b]?) : w'.rangeAt b o cs := fun j v hv => by
  rw [World.cell?_of_block (w := w) (a := ⟨b, o + j, none⟩) hb]; exact h j v hv
theorem there_same {w w' : World} {b o n : Nat} (h : w.there b o n) (hb : w'.heap[b]? = w.heap[b]?) : w'.there b o n := fun j hj => by
  rw [World.cell?_of_block (w := w) (a := ⟨b, o + j, none⟩) hb, World.frozen?_of_block (w := w) (a := ⟨b, o + j, none⟩) hb]; exact h j hj
theorem Cell.agree : ∀ {B : Nat → Prop} {n : Nat} {w w' : World} {k : CK} {d : DC} {v : Value}, Cell B n w k d v → Agree B w w' → Cell B n w' k d v
  | B, n, w, w', .i, d, v, h, _ => by obtain ⟨x, rfl, h1, h2⟩ := h.int; cases n <;> exact ⟨h1, h2⟩
  | B, n, w, w', .s, d, v, h, _ => by obtain ⟨x, rfl, h1, h2⟩ := h.str; cases n <;> exact ⟨h1, h2⟩
  | B, 0, w, w', .l e, d, v, h, _ => by obtain ⟨xs, _, _, rfl, _⟩ := h.lst; exact h
  | B, n + 1, w, w', .l e, d, v, h, ha => by
    obtain ⟨xs, _, _, rfl, _⟩ := h.lst
    obtain ⟨A, c, h1, h2, h3⟩ := h
    refine ⟨A, c, h1, h2, fun k hk => ?_⟩
    obtain ⟨b, o, us, h4, h5, h6, h7, h8⟩ := h3 k hk
    exact ⟨b, o, us, h4, h5, Nat.lt_of_lt_of_le h6 ha.size, range_same h7 (ha.block b h5 h6), h8.mono fun _ _ _ hh => Cell.agree hh ha⟩
theorem Cell.below {B : Nat → Prop} {n : Nat} {w w' : World} {k : CK} {d : DC} {v : Value} (h : Cell B n w k d v) (hb : Below w.heap.size w w') : Cell B n w' k d v := h.agree (.of_below hb)
theorem Cells.agree {B : Nat → Prop} {n : Nat} {w w' : World} {ks : List CK} {ds : List DC} {vs : List Value} (h : Cells B n w ks ds vs) (ha : Agree B w w') : Cells B n w' ks ds vs := h.mono fun _ _ _ hh => hh.agree ha
theorem Cells.below {B : Nat → Prop} {n : Nat} {w w' : World} {ks : List CK} {ds : List DC} {vs : List Value} (h : Cells B n w ks ds vs) (hb : Below w.heap.size w w') : Cells B n w' ks ds vs := Cells.agree h (.of_below hb)
theorem Cell.mono : ∀ {B B' : Nat → Prop} {n : Nat} {w : World} {k : CK} {d : DC} {v : Value}, Cell B n w k d v → (∀ b, B b → b < w.heap.size → B' b) → Cell B' n w k d v
  | B, B', n, w, .i, d, v, h, _ => by obtain ⟨x, rfl, h1, h2⟩ := h.int; cases n <;> exact ⟨h1, h2⟩
  | B, B', n, w, .s, d, v, h, _ => by obtain ⟨x, rfl, h1, h2⟩ := h.str; cases n <;> exact ⟨h1, h2⟩
  | B, B', 0, w, .l e, d, v, h, _ => by obtain ⟨xs, _, _, rfl, _⟩ := h.lst; exact h
  | B, B', n + 1, w, .l e, d, v, h, ha => by
    obtain ⟨xs, _, _, rfl, _⟩ := h.lst
    obtain ⟨A, c, h1, h2, h3⟩ := h
    refine ⟨A, c, h1, h2, fun k hk => ?_⟩
    obtain ⟨b, o, us, h4, h5, h6, h7, h8⟩ := h3 k hk
    exact ⟨b, o, us, h4, ha b h5 h6, h6, h7, h8.mono fun _ _ _ hh => Cell.mono hh ha⟩
theorem Cells.monoB {B B' : Nat → Prop} {n : Nat} {w : World} {ks : List CK} {ds : List DC} {vs : List Value} (h : Cells B n w ks ds vs) (hB : ∀ b, B b → b < w.heap.size → B' b) : Cells B' n w ks ds vs := h.mono fun _ _ _ hh => Cell.mono hh hB
theorem Cell.up : ∀ {B : Nat → Prop} {n : Nat} {w : World} {k : CK} {d : DC} {v : Value}, Cell B n w k d v → Cell B (n + 1) w k d v
  | B, n, w, .i, d, v, h => by obtain ⟨x, rfl, h1, h2⟩ := h.int; exact ⟨h1, h2⟩
  | B, n, w, .s, d, v, h => by obtain ⟨x, rfl, h1, h2⟩ := h.str; exact ⟨h1, h2⟩
  | B, 0, w, .l e, d, v, h => by
    obtain ⟨xs, _, _, rfl, _⟩ := h.lst
    obtain ⟨⟨A, c, rfl⟩, rfl⟩ := h
    exact ⟨A, c, rfl, by simp [maxLen], fun k hk => absurd hk (by simp)⟩
  | B, n + 1, w, .l e, d, v, h => by
    obtain ⟨xs, _, _, rfl, _⟩ := h.lst
    obtain ⟨A, c, h1, h2, h3⟩ := h
    refine ⟨A, c, h1, h2, fun k hk => ?_⟩
    obtain ⟨b, o, us, h4, h5, h6, h7, h8⟩ := h3 k hk
    exact ⟨b, o, us, h4, h5, h6, h7, h8.mono fun _ _ _ hh => Cell.up hh⟩
theorem Cell.ups {B : Nat → Prop} {n : Nat} {w : World} {k : CK} {d : DC} {v : Value} (h : Cell B n w k d v) : ∀ {m}, n ≤ m → Cell B m w k d v := fun {m} hm => by
  induction m with
  | zero => obtain rfl : n = 0 := by omega
            exact h
  | succ m ih => by_cases e : n = m + 1
                 · subst e; exact h
                 · exact (ih (by omega)).up
theorem Cells.ups {B : Nat → Prop} {n m : Nat} {w : World} {ks : List CK} {ds : List DC} {vs : List Value} (h : Cells B n w ks ds vs) (hm : n ≤ m) : Cells B m w ks ds vs := h.mono fun _ _ _ hh => hh.ups hm

/-- a cell that owns all blocks it leads to: these are of F, each but once. -/
def Own : Nat → World → (Nat → Prop) → CK → DC → Value → Prop
  | _, _, _, .i, .i x, v => v = .int .i64 x ∧ R64 x
  | _, _, _, .s, .s b, v => v = .string b ∧ b.size ≤ maxLen
  | 0, _, _, .l _, .l xs, v => (∃ A c, v = .slice A xs.length c) ∧ xs = []
  | n + 1, w, F, .l e, .l xs, v => ∃ A c, v = .slice A xs.length c ∧ xs.length ≤ maxLen ∧ (xs = [] ∨ ∃ b o, A = some ⟨b, o, none⟩ ∧ F b ∧ b < w.heap.size ∧ w.there b o (xs.length * (sh e).length) ∧
      ∃ G : Nat → Nat → Nat → Prop, (∀ j c x, G j c x → F x ∧ x ≠ b) ∧ (∀ j c j' c' x, G j c x → G j' c' x → j = j' ∧ c = c') ∧
        ∀ j (h : j < xs.length), ∃ us, w.rangeAt b (o + j * (sh e).length) us ∧ us.length = (sh e).length ∧ xs[j].length = (sh e).length ∧
          ∀ c (h1 : c < (sh e).length) (h2 : c < xs[j].length) (h3 : c < us.length), Own n w (G j c) (sh e)[c] xs[j][c] us[c])
  | _, _, _, _, _, _ => False
/-- a struct that owns. -/
def Owns (n : Nat) (w : World) (F : Nat → Prop) (ks : List CK) (ds : List DC) (vs : List Value) : Prop :=
  ds.length = ks.length ∧ vs.length = ks.length ∧ ∃ G : Nat → Nat → Prop, (∀ c x, G c x → F x) ∧ (∀ c c' x, G c x → G c' x → c = c') ∧ ∀ c (h1 : c < ks.length) (h2 : c < ds.length) (h3 : c < vs.length), Own n w (G c) ks[c] ds[c] vs[c]

theorem Own.cell : ∀ {n : Nat} {w : World} {F : Nat → Prop} {k : CK} {d : DC} {v : Value}, Own n w F k d v → Cell F n w k d v
  | n, w, F, .i, d, v, h => by cases d <;> cases n <;> first | exact h.elim | exact h
  | n, w, F, .s, d, v, h => by cases d <;> cases n <;> first | exact h.elim | exact h
  | 0, w, F, .l e, d, v, h => by cases d <;> first | exact h.elim | exact h
  | n + 1, w, F, .l e, d, v, h => by
    cases d with
    | i x => exact h.elim
    | s x => exact h.elim
    | l xs =>
      obtain ⟨A, c, h1, h2, h3⟩ := h
      refine ⟨A, c, h1, h2, fun k hk => ?_⟩
      rcases h3 with rfl | ⟨b, o, h4, h5, h6, _, G, hG, _, hh⟩
      · simp at hk
      · obtain ⟨us, h7, h8, h9, h10⟩ := hh k hk
        exact ⟨b, o, us, h4, h5, h6, h7, All3.of h9 h8 fun c h1 h2 h3 => (Own.cell (h10 c h1 h2 h3)).mono fun x hx _ => (hG k c x hx).1⟩
theorem Owns.cells {n : Nat} {w : World} {F : Nat → Prop} {ks : List CK} {ds : List DC} {vs : List Value} (h : Owns n w F ks ds vs) : Cells F n w ks ds vs := by
  obtain ⟨h1, h2, G, hG, _, hh⟩ := h
  exact All3.of h1 h2 fun c k1 k2 k3 => (hh c k1 k2 k3).cell.mono fun x hx _ => hG c x hx
theorem Own.agree : ∀ {n : Nat} {w w' : World} {F : Nat → Prop} {k : CK} {d : DC} {v : Value}, Own n w F k d v → Agree F w w' → Own n w' F k d v
  | n, w, w', F, .i, d, v, h, _ => by cases d <;> cases n <;> first | exact h.elim | exact h
  | n, w, w', F, .s, d, v, h, _ => by cases d <;> cases n <;> first | exact h.elim | exact h
  | 0, w, w', F, .l e, d, v, h, _ => by cases d <;> first | exact h.elim | exact h
  | n + 1, w, w', F, .l e, d, v, h, ha => by
    cases d with
    | i x => exact h.elim
    | s x => exact h.elim
    | l xs =>
      obtain ⟨A, c, h1, h2, h3⟩ := h
      refine ⟨A, c, h1, h2, ?_⟩
      rcases h3 with rfl | ⟨b, o, h4, h5, h6, h7, G, hG, hD, hh⟩
      · exact .inl rfl
      · refine .inr ⟨b, o, h4, h5, Nat.lt_of_lt_of_le h6 ha.size, there_same h7 (ha.block b h5 h6), G, hG, hD, fun j hj => ?_⟩
        obtain ⟨us, h8, h9, h10, h11⟩ := hh j hj
        exact ⟨us, range_same h8 (ha.block b h5 h6), h9, h10, fun c k1 k2 k3 => Own.agree (h11 c k1 k2 k3) (ha.mono fun x hx => (hG j c x hx).1)⟩
theorem Own.below {n : Nat} {w w' : World} {F : Nat → Prop} {k : CK} {d : DC} {v : Value} (h : Own n w F k d v) (hb : Below w.heap.size w w') : Own n w' F k d v := h.agree (.of_below hb)
theorem Owns.agree {n : Nat} {w w' : World} {F : Nat → Prop} {ks : List CK} {ds : List DC} {vs : List Value} (h : Owns n w F ks ds vs) (ha : Agree F w w') : Owns n w' F ks ds vs := by
  obtain ⟨h1, h2, G, hG, hD, hh⟩ := h
  exact ⟨h1, h2, G, hG, hD, fun c k1 k2 k3 => (hh c k1 k2 k3).agree (ha.mono (hG c))⟩
theorem Owns.below {n : Nat} {w w' : World} {F : Nat → Prop} {ks : List CK} {ds : List DC} {vs : List Value} (h : Owns n w F ks ds vs) (hb : Below w.heap.size w w') : Owns n w' F ks ds vs := h.agree (.of_below hb)
theorem Own.mono : ∀ {n : Nat} {w : World} {F F' : Nat → Prop} {k : CK} {d : DC} {v : Value}, Own n w F k d v → (∀ x, F x → F' x) → Own n w F' k d v
  | n, w, F, F', .i, d, v, h, _ => by cases d <;> cases n <;> first | exact h.elim | exact h
  | n, w, F, F', .s, d, v, h, _ => by cases d <;> cases n <;> first | exact h.elim | exact h
  | 0, w, F, F', .l e, d, v, h, _ => by cases d <;> first | exact h.elim | exact h
  | n + 1, w, F, F', .l e, d, v, h, ha => by
    cases d with
    | i x => exact h.elim
    | s x => exact h.elim
    | l xs =>
      obtain ⟨A, c, h1, h2, h3⟩ := h
      refine ⟨A, c, h1, h2, ?_⟩
      rcases h3 with rfl | ⟨b, o, h4, h5, h6, h7, G, hG, hD, hh⟩
      · exact .inl rfl
      · exact .inr ⟨b, o, h4, ha b h5, h6, h7, G, fun j c x hx => ⟨ha x (hG j c x hx).1, (hG j c x hx).2⟩, hD, hh⟩
theorem Owns.monoF {n : Nat} {w : World} {F F' : Nat → Prop} {ks : List CK} {ds : List DC} {vs : List Value} (h : Owns n w F ks ds vs) (hF : ∀ x, F x → F' x) : Owns n w F' ks ds vs := by
  obtain ⟨h1, h2, G, hG, hD, hh⟩ := h
  exact ⟨h1, h2, G, fun c x hx => hF x (hG c x hx), hD, hh⟩
theorem Own.up : ∀ {n : Nat} {w : World} {F : Nat → Prop} {k : CK} {d : DC} {v : Value}, Own n w F k d v → Own (n + 1) w F k d v
  | n, w, F, .i, d, v, h => by cases d <;> cases n <;> first | exact h.elim | exact h
  | n, w, F, .s, d, v, h => by cases d <;> cases n <;> first | exact h.elim | exact h
  | 0, w, F, .l e, d, v, h => by
    cases d with
    | i x => exact h.elim
    | s x => exact h.elim
    | l xs => obtain ⟨⟨A, c, rfl⟩, rfl⟩ := h; exact ⟨A, c, rfl, by simp [maxLen], .inl rfl⟩
  | n + 1, w, F, .l e, d, v, h => by
    cases d with
    | i x => exact h.elim
    | s x => exact h.elim
    | l xs =>
      obtain ⟨A, c, h1, h2, h3⟩ := h
      refine ⟨A, c, h1, h2, ?_⟩
      rcases h3 with rfl | ⟨b, o, h4, h5, h6, h7, G, hG, hD, hh⟩
      · exact .inl rfl
      · refine .inr ⟨b, o, h4, h5, h6, h7, G, hG, hD, fun j hj => ?_⟩
        obtain ⟨us, h8, h9, h10, h11⟩ := hh j hj
        exact ⟨us, h8, h9, h10, fun c k1 k2 k3 => Own.up (h11 c k1 k2 k3)⟩
theorem Own.ups {n : Nat} {w : World} {F : Nat → Prop} {k : CK} {d : DC} {v : Value} (h : Own n w F k d v) : ∀ {m}, n ≤ m → Own m w F k d v := fun {m} hm => by
  induction m with
  | zero => obtain rfl : n = 0 := by omega
            exact h
  | succ m ih => by_cases e : n = m + 1
                 · subst e; exact h
                 · exact (ih (by omega)).up

/-- the same world but for the blocks of F. -/
structure Only (F : Nat → Prop) (w w' : World) : Prop where
  os : w'.os = w.os
  tape : w'.tape = w.tape
  output : w'.output = w.output
  size : w.heap.size ≤ w'.heap.size
  block : ∀ b, b < w.heap.size → ¬ F b → w'.heap[b]? = w.heap[b]?
theorem Only.refl (F : Nat → Prop) (w : World) : Only F w w := ⟨rfl, rfl, rfl, Nat.le_refl _, fun _ _ _ => rfl⟩
theorem Only.trans {F : Nat → Prop} {a b c : World} (h : Only F a b) (k : Only F b c) : Only F a c :=
  ⟨k.os.trans h.os, k.tape.trans h.tape, k.output.trans h.output, Nat.le_trans h.size k.size, fun i hi hn => (k.block i (Nat.lt_of_lt_of_le hi h.size) hn).trans (h.block i hi hn)⟩
theorem Only.of_below {F : Nat → Prop} {w w' : World} (h : Below w.heap.size w w') : Only F w w' := ⟨h.os, h.tape, h.output, h.size, fun b hb _ => h.block b hb⟩
theorem Only.mono {F F' : Nat → Prop} {w w' : World} (h : Only F w w') (hF : ∀ x, F x → F' x) : Only F' w w' := ⟨h.os, h.tape, h.output, h.size, fun b hb hn => h.block b hb fun hx => hn (hF b hx)⟩
theorem Only.setCell {F : Nat → Prop} {a w : World} (h : Only F a w) {p : Addr} (hp : F p.block) (u : Value) : Only F a (w.setCell p u) :=
  h.trans ⟨rfl, rfl, rfl, by simp [World.setCell], fun b _ hn => Below.heap_setCell _ _ _ _ (fun e => hn (e ▸ hp))⟩
theorem Only.agree {F B : Nat → Prop} {w w' : World} (h : Only F w w') (hB : ∀ b, B b → b < w.heap.size → ¬ F b) : Agree B w w' := ⟨h.size, fun b h1 h2 => h.block b h2 (hB b h1 h2)⟩
theorem Below.only {F : Nat → Prop} {B : Nat} {a w w' : World} (h : Below B a w) (ho : Only F w w') (hB : B ≤ w.heap.size) (hF : ∀ b, F b → B ≤ b) : Below B a w' :=
  ⟨ho.os.trans h.os, ho.tape.trans h.tape, ho.output.trans h.output, Nat.le_trans h.size ho.size, fun k hk => (ho.block k (by omega) (fun hx => by have := hF k hx; omega)).trans (h.block k hk)⟩

theorem set_len {xs : List (List DC)} {j : Nat} {x : List DC} : (xs.set j x).length = xs.length := by simp
/-- one item of a list that owns; a cell of it that leads to memory of its own, turned. -/
theorem Own.sub {n e cap : Nat} {w : World} {F : Nat → Prop} {xs : List (List DC)} {A : Option Addr} (h : Own n w F (.l e) (.l xs) (.slice A xs.length cap)) (j : Nat) (hj : j < xs.length) :
    ∃ m b o us, n = m + 1 ∧ A = some ⟨b, o, none⟩ ∧ F b ∧ b < w.heap.size ∧ w.there b (o + j * (sh e).length) (sh e).length ∧ w.rangeAt b (o + j * (sh e).length) us ∧ us.length = (sh e).length ∧ xs[j].length = (sh e).length ∧
      ∃ G : Nat → Nat → Prop, (∀ c x, G c x → F x ∧ x ≠ b) ∧ ∀ c (h1 : c < (sh e).length) (h2 : c < xs[j].length) (h3 : c < us.length), Own m w (G c) (sh e)[c] xs[j][c] us[c] ∧
        ∀ (w' : World) (d' : DC), Only (G c) w w' → Own m w' (G c) (sh e)[c] d' us[c] → Own n w' F (.l e) (.l (xs.set j (xs[j].set c d'))) (.slice A xs.length cap) := by
  cases n with
  | zero => obtain ⟨_, rfl⟩ := h; simp at hj
  | succ n =>
    obtain ⟨A', c', e1, h2, h3⟩ := h
    injection e1 with e1 _ e2
    subst e1 e2
    rcases h3 with rfl | ⟨b, o, rfl, h5, h6, h7, G, hG, hD, hh⟩
    · simp at hj
    obtain ⟨us, h8, h9, h10, h11⟩ := hh j hj
    have hth : w.there b (o + j * (sh e).length) (sh e).length := fun q hq => by
      have h12 : (j + 1) * (sh e).length ≤ xs.length * (sh e).length := Nat.mul_le_mul_right _ hj
      rw [Nat.add_mul, Nat.one_mul] at h12
      have := h7 (j * (sh e).length + q) (by omega)
      rwa [← Nat.add_assoc] at this
    refine ⟨n, b, o, us, rfl, rfl, h5, h6, hth, h8, h9, h10, G j, fun c x hx => hG j c x hx, fun c k1 k2 k3 => ⟨h11 c k1 k2 k3, fun w' d' ho hd => ?_⟩⟩
    have hb : w'.heap[b]? = w.heap[b]? := ho.block b h6 (fun hx => (hG j c b hx).2 rfl)
    refine ⟨some ⟨b, o, none⟩, cap, by rw [set_len], by rw [set_len]; exact h2, .inr ⟨b, o, rfl, h5, Nat.lt_of_lt_of_le h6 ho.size, by rw [set_len]; exact there_same h7 hb, G, hG, hD, fun j' hj' => ?_⟩⟩
    have hj2 : j' < xs.length := by simpa using hj'
    by_cases ej : j' = j
    · subst ej
      refine ⟨us, range_same h8 hb, h9, by simpa using h10, fun c' k1' k2' k3' => ?_⟩
      simp only [List.getElem_set_self]
      by_cases ec : c' = c
      · subst ec; simpa using hd
      · rw [List.getElem_set_ne (fun e => ec e.symm)]
        exact (h11 c' k1' (by simpa using k2') k3').agree (ho.agree fun x hx _ hx' => ec (hD _ _ _ _ _ hx hx').2)
    · obtain ⟨us', k8, k9, k10, k11⟩ := hh j' hj2
      refine ⟨us', range_same k8 hb, k9, ?_, ?_⟩
      · rw [List.getElem_set_ne (fun e => ej e.symm)]; exact k10
      · rw [List.getElem_set_ne (fun e => ej e.symm)]
        exact fun c' k1' k2' k3' => (k11 c' k1' k2' k3').agree (ho.agree fun x hx _ hx' => ej (hD _ _ _ _ _ hx hx').1)
theorem Own.atom {n m : Nat} {w w' : World} {F F' : Nat → Prop} {k : CK} {d : DC} {v : Value} (hk : ∀ e, k ≠ .l e) (h : Own n w F k d v) : Own m w' F' k d v := by
  cases k with
  | i => cases d <;> cases n <;> cases m <;> first | exact h.elim | exact h
  | s => cases d <;> cases n <;> cases m <;> first | exact h.elim | exact h
  | l e => exact absurd rfl (hk e)
theorem range_set {w : World} {b o c : Nat} {us : List Value} {u : Value} (h : w.rangeAt b o us) (hc : c < us.length) : (w.setCell ⟨b, o + c, none⟩ u).rangeAt b o (us.set c u) := fun q v hv => by
  by_cases e : q = c
  · subst e
    have h1 := h q us[q] (List.getElem?_eq_getElem hc)
    rw [World.cell?_setCell_same' _ _ _ (by rw [h1]; rfl), ← hv]
    simp [hc]
  · rw [World.cell?_setCell_other _ _ _ _ (by intro e2; injection e2 with _ e3 _; omega)]
    refine h q v ?_
    rwa [List.getElem?_set_ne (fun e2 => e e2.symm)] at hv
theorem range_other {w : World} {b o o' : Nat} {us : List Value} {u : Value} (h : w.rangeAt b o us) (hc : o' < o ∨ o + us.length ≤ o') : (w.setCell ⟨b, o', none⟩ u).rangeAt b o us := fun q v hv => by
  have hq : q < us.length := (List.getElem?_eq_some_iff.1 hv).1
  rw [World.cell?_setCell_other _ _ _ _ (by intro e2; injection e2 with _ e3 _; omega)]
  exact h q v hv
theorem there_set {w : World} {b o n : Nat} {p : Addr} {u : Value} (h : w.there b o n) : (w.setCell p u).there b o n := by
  have := World.there_setCells h p.block p.off [u]
  intro j hj
  obtain ⟨h1, h2⟩ := h j hj
  refine ⟨?_, ?_⟩
  · by_cases e : p = ⟨b, o + j, none⟩
    · subst e
      obtain ⟨v, hv⟩ := Option.isSome_iff_exists.1 h1
      rw [World.cell?_setCell_same' _ _ _ h1]; rfl
    · rw [World.cell?_setCell_other _ _ _ _ e]; exact h1
  · simpa using h2
/-- a number or a text of an item of a list that owns, written. -/
theorem Own.put {n e cap b o : Nat} {w : World} {F : Nat → Prop} {xs : List (List DC)} (h : Own n w F (.l e) (.l xs) (.slice (some ⟨b, o, none⟩) xs.length cap)) (j : Nat) (hj : j < xs.length) (c : Nat) (hc : c < (sh e).length) (hk : ∀ e', (sh e)[c] ≠ .l e')
    (d' : DC) (u : Value) (hu : Own 0 w F (sh e)[c] d' u) : Own n (w.setCell ⟨b, o + j * (sh e).length + c, none⟩ u) F (.l e) (.l (xs.set j (xs[j].set c d'))) (.slice (some ⟨b, o, none⟩) xs.length cap) := by
  cases n with
  | zero => obtain ⟨_, rfl⟩ := h; simp at hj
  | succ n =>
    obtain ⟨A', c', e1, h2, h3⟩ := h
    injection e1 with e1 _ e2
    subst e1 e2
    rcases h3 with rfl | ⟨b', o', e3, h5, h6, h7, G, hG, hD, hh⟩
    · simp at hj
    injection e3 with e3; injection e3 with e3 e4 _
    subst e3 e4
    have hag : ∀ j' c', Agree (G j' c') w (w.setCell ⟨b, o + j * (sh e).length + c, none⟩ u) := fun j' c' => ⟨by simp, fun x hx _ => Below.heap_setCell _ _ _ _ (hG j' c' x hx).2⟩
    refine ⟨_, _, by rw [set_len], by rw [set_len]; exact h2, .inr ⟨b, o, rfl, h5, by simpa using h6, by rw [set_len]; exact there_set h7, G, hG, hD, fun j' hj' => ?_⟩⟩
    have hj2 : j' < xs.length := by simpa using hj'
    obtain ⟨us, h8, h9, h10, h11⟩ := hh j' hj2
    by_cases ej : j' = j
    · subst ej
      refine ⟨us.set c u, range_set h8 (by omega), by simpa using h9, by simpa using h10, fun c' k1' k2' k3' => ?_⟩
      simp only [List.getElem_set_self]
      by_cases ec : c' = c
      · subst ec; simp only [List.getElem_set_self]; exact hu.atom hk
      · rw [List.getElem_set_ne (fun e => ec e.symm), List.getElem_set_ne (fun e => ec e.symm)]
        exact (h11 c' k1' (by simpa using k2') (by simpa using k3')).agree (hag _ _)
    · refine ⟨us, range_other h8 ?_, h9, ?_, ?_⟩
      · rw [h9]
        rcases Nat.lt_or_gt_of_ne ej with hlt | hlt
        · have : (j' + 1) * (sh e).length ≤ j * (sh e).length := Nat.mul_le_mul_right _ hlt
          rw [Nat.add_mul, Nat.one_mul] at this
          exact .inr (by omega)
        · have : (j + 1) * (sh e).length ≤ j' * (sh e).length := Nat.mul_le_mul_right _ hlt
          rw [Nat.add_mul, Nat.one_mul] at this
          exact .inl (by omega)
      · rw [List.getElem_set_ne (fun e => ej e.symm)]; exact h10
      · rw [List.getElem_set_ne (fun e => ej e.symm)]
        exact fun c' k1' k2' k3' => (h11 c' k1' k2' k3').agree (hag _ _)
/-- a cell of a struct that owns, turned. -/
theorem Owns.sub {n : Nat} {w : World} {F : Nat → Prop} {ks : List CK} {ds : List DC} {vs : List Value} (h : Owns n w F ks ds vs) : ∃ G : Nat → Nat → Prop, (∀ c x, G c x → F x) ∧ ∀ c (h1 : c < ks.length) (h2 : c < ds.length) (h3 : c < vs.length), Own n w (G c) ks[c] ds[c] vs[c] ∧
    ∀ (w' : World) (d' : DC), Only (G c) w w' → Own n w' (G c) ks[c] d' vs[c] → Owns n w' F ks (ds.set c d') vs := by
  obtain ⟨h1, h2, G, hG, hD, hh⟩ := h
  refine ⟨G, hG, fun c k1 k2 k3 => ⟨hh c k1 k2 k3, fun w' d' ho hd => ⟨by simpa using h1, h2, G, hG, hD, fun c' k1' k2' k3' => ?_⟩⟩⟩
  by_cases ec : c' = c
  · subst ec; simpa using hd
  · rw [List.getElem_set_ne (fun e => ec e.symm)]
    exact (hh c' k1' (by simpa using k2') k3').agree (ho.agree fun x hx _ hx' => ec (hD _ _ _ hx hx'))

mutual
/-- how many marks there are. -/
def nC : DC → Nat
  | .i _ => 1
  | .s _ => 1
  | .l xs => nL xs
def nCs : List DC → Nat
  | [] => 0
  | d :: ds => nC d + nCs ds
def nL : List (List DC) → Nat
  | [] => 0
  | x :: xs => nCs x + nL xs
end
/-- the laws' mark of a number. -/
def markT (n : Nat) : ByteArray := ⟨(109 :: Lib.decDigits n).toArray⟩
mutual
/-- the data marked from k on. -/
def mC : Nat → DC → DC
  | k, .i _ => .i k
  | k, .s _ => .s (markT k)
  | k, .l xs => .l (mL k xs)
def mCs : Nat → List DC → List DC
  | _, [] => []
  | k, d :: ds => mC k d :: mCs (k + nC d) ds
def mL : Nat → List (List DC) → List (List DC)
  | _, [] => []
  | k, x :: xs => mCs k x :: mL (k + nCs x) xs
end
/-- of a struct by value only what it leads to is marked. -/
def nV : List DC → Nat
  | [] => 0
  | .l xs :: ds => nL xs + nV ds
  | _ :: ds => nV ds
def mV : Nat → List DC → List DC
  | _, [] => []
  | k, .l xs :: ds => .l (mL k xs) :: mV (k + nL xs) ds
  | k, d :: ds => d :: mV k ds
theorem nL_app : ∀ (xs ys : List (List DC)), nL (xs ++ ys) = nL xs + nL ys
  | [], ys => by simp [nL]
  | x :: xs, ys => by simp [nL, nL_app xs ys]; omega
theorem mL_app : ∀ (k : Nat) (xs ys : List (List DC)), mL k (xs ++ ys) = mL k xs ++ mL (k + nL xs) ys
  | k, [], ys => by simp [mL, nL]
  | k, x :: xs, ys => by simp [mL, nL, mL_app (k + nCs x) xs ys, Nat.add_assoc]
theorem mL_len : ∀ (k : Nat) (xs : List (List DC)), (mL k xs).length = xs.length
  | k, [] => rfl
  | k, x :: xs => by simp [mL, mL_len _ xs]
theorem nL_take (xs : List (List DC)) (j : Nat) (h : j < xs.length) : nL (xs.take (j + 1)) = nL (xs.take j) + nCs xs[j] := by
  rw [List.take_succ_eq_append_getElem h, nL_app]; simp [nL]
theorem nL_le (xs : List (List DC)) (j : Nat) : nL (xs.take j) ≤ nL xs := by
  have e : nL xs = nL (xs.take j) + nL (xs.drop j) := by rw [← nL_app, List.take_append_drop]
  omega
/-- a list when its first j items are marked. -/
def mixL (k j : Nat) (xs : List (List DC)) : List (List DC) := mL k (xs.take j) ++ xs.drop j
theorem mix_zero (k : Nat) (xs : List (List DC)) : mixL k 0 xs = xs := by simp [mixL, mL]
theorem mix_all (k : Nat) (xs : List (List DC)) : mixL k xs.length xs = mL k xs := by simp [mixL]
theorem mix_len (k j : Nat) (xs : List (List DC)) (h : j ≤ xs.length) : (mixL k j xs).length = xs.length := by simp [mixL, mL_len]; omega
theorem mix_at (k j : Nat) (xs : List (List DC)) (h : j < xs.length) (h2 : j < (mixL k j xs).length) : (mixL k j xs)[j] = xs[j] := by
  have e : (mL k (xs.take j)).length = j := by rw [mL_len]; simp; omega
  have e2 : (mixL k j xs)[j]? = xs[j]? := by
    unfold mixL
    rw [List.getElem?_append_right (by omega)]
    simp [e]
  rw [List.getElem?_eq_getElem h2, List.getElem?_eq_getElem h] at e2
  exact Option.some.inj e2
theorem mix_set (k j : Nat) (xs : List (List DC)) (h : j < xs.length) : (mixL k j xs).set j (mCs (k + nL (xs.take j)) xs[j]) = mixL k (j + 1) xs := by
  unfold mixL
  have e : (mL k (xs.take j)).length = j := by rw [mL_len]; simp; omega
  rw [List.set_append_right _ _ (by omega), e, Nat.sub_self, List.drop_eq_getElem_cons h, List.set_cons_zero, List.take_succ_eq_append_getElem h, mL_app, List.append_assoc]
  simp [mL]
mutual
/-- how much data counts. -/
def cC : DC → Nat
  | .i _ => 0
  | .s b => b.size
  | .l xs => xs.length + cL xs
def cCs : List DC → Nat
  | [] => 0
  | d :: ds => cC d + cCs ds
def cL : List (List DC) → Nat
  | [] => 0
  | x :: xs => cCs x + cL xs
end
theorem cL_app : ∀ (xs ys : List (List DC)), cL (xs ++ ys) = cL xs + cL ys
  | [], ys => by simp [cL]
  | x :: xs, ys => by simp [cL, cL_app xs ys]; omega
theorem cL_take (xs : List (List DC)) (j : Nat) (h : j < xs.length) : cL (xs.take (j + 1)) = cL (xs.take j) + cCs xs[j] := by
  rw [List.take_succ_eq_append_getElem h, cL_app]; simp [cL]
theorem cL_le (xs : List (List DC)) (j : Nat) : cL (xs.take j) ≤ cL xs := by
  have e : cL xs = cL (xs.take j) + cL (xs.drop j) := by rw [← cL_app, List.take_append_drop]
  omega
theorem cL_at {xs : List (List DC)} {j : Nat} (h : j < xs.length) : cCs xs[j] ≤ cL xs := by
  have h1 := cL_take xs j h
  have h2 := cL_le xs (j + 1)
  omega
end Go.Proofs.YtflfnekaiaplfaaGreat.un
