/- Plain: what a move does to an address, and whether two moves meet, as data. -/
import Derived.Test.YtflfnekaiaplfaaCf
import Derived.Test.YtflfnekaiaplfaaAdJ
import Derived.Test.YtflfnekaiaplfaaCmpB
namespace Go.Proofs.Ytflfnekaiaplfaa.cf
open ad mem vl ex un
open Go.ChangeShapes Go.WideShapes Go.ChangeAt Go.RowKit Go.Lib
set_option linter.unusedVariables false
set_option linter.unusedSimpArgs false

def kBare (d : AddrD) : AddrD := ⟨d.path, d.typ, d.nam, 0, 0, ByteArray.empty⟩
theorem pre_swap : ∀ (l m : List ByteArray), cm.pre l m = cm.pre m l
  | [], [] => rfl
  | [], _ :: _ => by simp [cm.pre]
  | _ :: _, [] => by simp [cm.pre]
  | x :: xs, y :: ys => by
    by_cases e : x = y
    · rw [cm.pre_yes e, cm.pre_yes e.symm, pre_swap xs ys]
    · rw [cm.pre_no e, cm.pre_no (fun h => e h.symm)]
theorem eqL_iff {l m : List ByteArray} : adl.eqL l m = true ↔ l = m := by simp [adl.eqL]
theorem eqA_eq {d e : AddrD} : adl.eqA d e = true ↔ d = e := by
  cases d; cases e
  rw [cm.eqA_iff, eqL_iff]
  simp
theorem eqA_swap (d e : AddrD) : adl.eqA d e = adl.eqA e d := by
  rw [Bool.eq_iff_iff, eqA_eq, eqA_eq]; exact eq_comm
/-- does it begin so. -/
def begB (p q : List ByteArray) : Bool := decide (cm.pre p q = q.length)
/-- do right moves meet. -/
def meetD (a b : MoveD) : Bool :=
  if a.kind = 3 ∧ b.kind = 3 then begB a.dst.path b.src.path || begB b.src.path a.dst.path
  else if a.kind = 3 then begB b.src.path a.dst.path
  else if b.kind = 3 then begB a.dst.path b.src.path
  else if a.kind = 2 ∨ b.kind = 2 then adl.eqA (kBare a.dst) (kBare b.src)
  else adl.eqA a.dst b.src
noncomputable def meetB (a b : MoveD) : Bool := moveB a && moveB b && meetD a b
/-- does an end hold an address. -/
def holdB (k : Int) (e a : AddrD) : Bool := if k = 1 then adl.eqA e a else if k = 2 then adl.eqA e (kBare a) else begB a.path e.path
structure MvOk (m : MoveD) : Prop where
  kind : m.kind = 1 ∨ m.kind = 2 ∨ m.kind = 3
  home : m.kind = 3 → homeB m.src = true ∧ homeB m.dst = true
  right : m.kind ≠ 3 → addrB m.src = true ∧ addrB m.dst = true
  bare : m.kind = 2 → kBare m.src = m.src ∧ kBare m.dst = m.dst
theorem bare_of {d : AddrD} (h : addrB d = true) (h0 : d.kind = 0) : kBare d = d := by
  obtain ⟨_, _, _, h3⟩ := txt.addr_parts h
  cases d with
  | mk p t n k i y =>
    simp only at h0
    subst h0
    simp [keyB] at h3
    obtain ⟨h4, h5⟩ := h3
    subst h4 h5
    rfl
theorem mv_ok {m : MoveD} (h : moveB m = true) : MvOk m := by
  unfold moveB at h
  rw [Bool.and_eq_true] at h
  obtain ⟨_, h⟩ := h
  split at h
  · rename_i h3
    rw [Bool.and_eq_true] at h
    exact ⟨.inr (.inr h3), fun _ => h, fun hn => absurd h3 hn, fun h2 => absurd h2 (by omega)⟩
  · rename_i h3
    simp only [Bool.and_eq_true, Bool.or_eq_true, beq_iff_eq, decide_eq_true_eq] at h
    obtain ⟨⟨⟨h1, h2⟩, _⟩, h4⟩ := h
    refine ⟨?_, fun e => absurd e h3, fun _ => ⟨h1, h2⟩, fun e => ?_⟩
    · rcases h4 with h4 | h4
      · exact .inl h4
      · exact .inr (.inl h4.1.1)
    · rcases h4 with h4 | h4
      · omega
      · exact ⟨bare_of h1 h4.1.2, bare_of h2 h4.2⟩
theorem home_typ {d : AddrD} (h : homeB d = true) : d.typ.size = 0 := by
  simp [homeB] at h; rw [h.1.1.1.1.2]; rfl
theorem home_path {d : AddrD} (h : homeB d = true) : pathB d.path = true := by
  simp [homeB] at h; exact h.1.1.1.1.1.1
theorem right_typ {d : AddrD} (h : addrB d = true) : 1 ≤ d.typ.size := by
  obtain ⟨_, h1, _, _⟩ := txt.addr_parts h
  exact (wordB_iff.1 h1).1
theorem apart_home {d e : AddrD} (h : homeB d = true) (h' : addrB e = true) : adl.eqA d e = false := by
  cases hq : adl.eqA d e
  · rfl
  · have := eqA_eq.1 hq; subst this
    have := home_typ h; have := right_typ h'; omega
theorem apart_bare {d e : AddrD} (h : homeB d = true) (h' : addrB e = true) : adl.eqA e (kBare d) = false := by
  cases hq : adl.eqA e (kBare d)
  · rfl
  · have := eqA_eq.1 hq
    have h1 := right_typ h'
    rw [this] at h1
    have h2 := home_typ h; have : 1 ≤ d.typ.size := h1; omega
/-- the program's way. -/
theorem meet_eq {a b : MoveD} (ha : MvOk a) (hb : MvOk b) : meetD a b = (holdB a.kind a.dst b.src || holdB b.kind b.src a.dst) := by
  have e1 : ∀ p q, begB p q = decide (cm.pre p q = q.length) := fun _ _ => rfl
  rcases ha.kind with ka | ka | ka <;> rcases hb.kind with kb | kb | kb
  · simp [meetD, holdB, ka, kb, eqA_swap b.src a.dst]
  · have := (hb.bare kb).1
    simp [meetD, holdB, ka, kb]
    rw [this, Bool.eq_iff_iff, Bool.or_eq_true, eqA_eq, eqA_eq, eqA_eq]
    constructor
    · intro h; exact .inr h.symm
    · rintro (h | h)
      · rw [h, this]
      · exact h.symm
  · have h1 := apart_home (hb.home kb).1 (ha.right (by omega)).2
    rw [eqA_swap] at h1
    simp [meetD, holdB, ka, kb, h1]
  · have := (ha.bare ka).2
    simp [meetD, holdB, ka, kb]
    rw [this, Bool.eq_iff_iff, Bool.or_eq_true]
    constructor
    · intro h; exact .inl h
    · rintro (h | h)
      · exact h
      · rw [eqA_eq.1 h, this]; exact eqA_eq.2 rfl
  · have h1 := (ha.bare ka).2
    have h2 := (hb.bare kb).1
    simp [meetD, holdB, ka, kb]
    rw [h1, h2, eqA_swap b.src a.dst, Bool.or_self]
  · have h1 := apart_bare (hb.home kb).1 (ha.right (by omega)).2
    simp [meetD, holdB, ka, kb, h1]
  · have h1 := apart_home (ha.home ka).2 (hb.right (by omega)).1
    rw [eqA_swap] at h1
    simp [meetD, holdB, ka, kb, h1]
  · have h1 := apart_bare (ha.home ka).2 (hb.right (by omega)).1
    simp [meetD, holdB, ka, kb, h1]
  · simp [meetD, holdB, ka, kb, Bool.or_comm]
end Go.Proofs.Ytflfnekaiaplfaa.cf
