/- Plain: the parts of a right address. -/
import Derived.Test.YtgkcohclejmhkaaAdJ
namespace Go.Proofs.Ytgkcohclejmhkaa.txt
open ad mem
open Go.ChangeShapes Go.WideShapes Go.ChangeAt Go.RowKit Go.Lib
set_option linter.unusedVariables false
set_option linter.unusedSimpArgs false
theorem word_size {s : ByteArray} (h : wordB s = true) : s.size ≤ 8 := (wordB_iff.1 h).2.1
theorem path_words {l : List ByteArray} (h : pathB l = true) : l.length ≤ 2 ∧ ∀ s ∈ l, wordB s = true := by
  unfold pathB at h; simpa using h
theorem addr_parts {d : AddrD} (h : addrB d = true) : pathB d.path = true ∧ wordB d.typ = true ∧ wordB d.nam = true ∧ keyB d.kind d.n d.key = true := by
  unfold addrB at h; simp at h; exact ⟨h.1.1.1, h.1.1.2, h.1.2, h.2⟩
end Go.Proofs.Ytgkcohclejmhkaa.txt
