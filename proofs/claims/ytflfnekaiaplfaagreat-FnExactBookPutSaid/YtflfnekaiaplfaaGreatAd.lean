/- Plain: words, paths, keys, addresses as data; what is right; texts. No program. -/
import Derived.WalkKit
import Derived.Lib.Hide
import Derived.Lib.Strings
import Derived.Lib.ItoaNum
namespace Go.Proofs.YtflfnekaiaplfaaGreat.ad
open Go.RowKit
set_option linter.unusedVariables false
set_option linter.unusedSimpArgs false

def okAt (s : ByteArray) (k : Nat) : Prop := ∀ h : k < s.size, 97 ≤ (s[k].toNat : Int) ∧ (s[k].toNat : Int) ≤ 122
def wordOk (s : ByteArray) : Prop := 1 ≤ s.size ∧ s.size ≤ 8 ∧ ∀ k, okAt s k
noncomputable def wordB (s : ByteArray) : Bool := @decide (wordOk s) (Classical.propDecidable _)
theorem wordB_no {s : ByteArray} (h : ¬ wordOk s) : wordB s = false := by simp [wordB, h]
theorem wordB_yes {s : ByteArray} (h : wordOk s) : wordB s = true := by simp [wordB, h]
theorem wordB_iff {s : ByteArray} : wordB s = true ↔ wordOk s := by simp [wordB]
theorem wordB_size {s : ByteArray} (h : s.size < 1 ∨ 8 < s.size) : wordB s = false := wordB_no (fun hn => by have := hn.1; have := hn.2.1; omega)
theorem wordB_at {s : ByteArray} {k : Nat} (hk : k < s.size) (h : (s[k].toNat : Int) < 97 ∨ 122 < (s[k].toNat : Int)) : wordB s = false :=
  wordB_no (fun hn => by have := hn.2.2 k hk; omega)

/-- the data of an address. -/
structure AddrD where
  path : List ByteArray
  typ : ByteArray
  nam : ByteArray
  kind : Int
  n : Int
  key : ByteArray

noncomputable def pathB (l : List ByteArray) : Bool := decide (l.length ≤ 2) && l.all wordB
noncomputable def keyB (kind n : Int) (key : ByteArray) : Bool :=
  (kind == 0 && n == 0 && key.size == 0) || (kind == 1 && decide (0 ≤ n) && decide (n ≤ 99) && key.size == 0) || (kind == 2 && n == 0 && wordB key)
noncomputable def addrB (d : AddrD) : Bool := pathB d.path && wordB d.typ && wordB d.nam && keyB d.kind d.n d.key

def decT (n : Int) : List UInt8 := Lib.decDigits n.toNat
def keyT (kind n : Int) (key : ByteArray) : List UInt8 := if kind = 1 then [91] ++ decT n ++ [93] else if kind = 2 then [91] ++ key.data.toList ++ [93] else []
def pathT (l : List ByteArray) : List UInt8 := (l.map fun s => s.data.toList ++ [47]).flatten
def rawT (d : AddrD) : List UInt8 := pathT d.path ++ d.typ.data.toList ++ [46] ++ d.nam.data.toList ++ keyT d.kind d.n d.key
noncomputable def addrT (d : AddrD) : List UInt8 := if addrB d then rawT d else []

theorem path_at {l : List ByteArray} {k : Nat} (hk : k < l.length) (h : wordB l[k] = false) : pathB l = false := by
  unfold pathB
  have : l.all wordB = false := by
    rw [List.all_eq_false]; exact ⟨l[k], List.getElem_mem hk, by simp [h]⟩
  simp [this]
theorem path_long {l : List ByteArray} (h : 2 < l.length) : pathB l = false := by
  unfold pathB; have : ¬ l.length ≤ 2 := by omega
  simp [this]
theorem path_yes {l : List ByteArray} (h : l.length ≤ 2) (hw : ∀ k (h : k < l.length), wordB l[k] = true) : pathB l = true := by
  unfold pathB
  simp only [h, decide_true, Bool.true_and, List.all_eq_true]
  intro x hx
  obtain ⟨k, hk, rfl⟩ := List.getElem_of_mem hx
  exact hw k hk

theorem nil_of_size {s : ByteArray} (h : s.size = 0) : s.data.toList = [] := by
  have h' : s.data.toList.length = 0 := by simpa using h
  exact List.eq_nil_of_length_eq_zero h'
theorem empty_of_size {s : ByteArray} (h : s.size = 0) : s = ByteArray.empty := by
  apply ByteArray.ext; exact Array.eq_empty_of_size_eq_zero h
end Go.Proofs.YtflfnekaiaplfaaGreat.ad
