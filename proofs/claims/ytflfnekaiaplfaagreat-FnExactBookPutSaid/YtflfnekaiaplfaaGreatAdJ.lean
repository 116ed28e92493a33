/- The program's keys and AddrRight. The program's AddrRight. Plain: the parts of a right address. -/
import Derived.Test.YtflfnekaiaplfaaGreatAdR
import Derived.Deep.RegionWith
namespace Go.Proofs.YtflfnekaiaplfaaGreat.adr
open ad mem
open Go.ChangeShapes Go.WideShapes Go.ChangeAt Go.RowKit Go.Lib
set_option linter.unusedVariables false
set_option linter.unusedSimpArgs false

/-- the key that keyOf tells. -/
def keyV (kind n : Int) (key : ByteArray) : Value :=
  if kind = 1 then .iface 126 (.int .i64 n) else if kind = 2 then .iface 127 (.string key) else .iface 129 (.agg #[])

set_option maxHeartbeats 1000000 in
theorem keyOf_any (A : Option Addr) (c : Nat) (d : AddrD) (w : World) :
    Calls Tryz.prog 77 #[.agg #[.slice A d.path.length c, .string d.typ, .string d.nam, .int .i64 d.kind, .int .i64 d.n, .string d.key]] w (Told w (keyV d.kind d.n d.key)) := by
  go_enter Tryz.func77, Tryz.ntmps77
  go_wp2
  all_goals go_ret
  all_goals refine ⟨?_, below_a1 _ _⟩
  all_goals simp_all [keyV]

theorem as_num_num (x : Int) (w : World) : (Instr.typeAssert (.iface 126 (.int .i64 x)) 108 126 true).run Tryz.prog w = .ok (.tuple #[.int .i64 x, .bool true]) w := by kernel_rfl
theorem as_num_word (x : Int) (w : World) : (Instr.typeAssert (.iface 126 (.int .i64 x)) 108 127 true).run Tryz.prog w = .ok (.tuple #[.string ByteArray.empty, .bool false]) w := by kernel_rfl
theorem as_word_num (x : ByteArray) (w : World) : (Instr.typeAssert (.iface 127 (.string x)) 108 126 true).run Tryz.prog w = .ok (.tuple #[.int .i64 0, .bool false]) w := by kernel_rfl
theorem as_word_word (x : ByteArray) (w : World) : (Instr.typeAssert (.iface 127 (.string x)) 108 127 true).run Tryz.prog w = .ok (.tuple #[.string x, .bool true]) w := by kernel_rfl
theorem as_no_num (w : World) : (Instr.typeAssert (.iface 129 (.agg #[])) 108 126 true).run Tryz.prog w = .ok (.tuple #[.int .i64 0, .bool false]) w := by kernel_rfl
theorem as_no_word (w : World) : (Instr.typeAssert (.iface 129 (.agg #[])) 108 127 true).run Tryz.prog w = .ok (.tuple #[.string ByteArray.empty, .bool false]) w := by kernel_rfl

set_option maxHeartbeats 1000000 in
theorem withKey_no (A : Option Addr) (n c : Nat) (T N K : ByteArray) (k i : Int) (w : World) :
    Calls Tryz.prog 78 #[.agg #[.slice A n c, .string T, .string N, .int .i64 k, .int .i64 i, .string K], .iface 129 (.agg #[])] w (Told w (.agg #[.slice A n c, .string T, .string N, .int .i64 0, .int .i64 0, .string ByteArray.empty])) := by
  have f1 := as_no_num
  have f2 := as_no_word
  go_enter Tryz.func78, Tryz.ntmps78
  go_wp2
  refine bodyPost_ret (v := .agg #[.slice A n c, .string T, .string N, .int .i64 0, .int .i64 0, .string ByteArray.empty]) (by simp [results, Tryz.results78, go_sem]; rfl) rfl ⟨rfl, ?_⟩
  exact below_a2 _ _ _

set_option maxHeartbeats 1000000 in
theorem withKey_num (A : Option Addr) (n c : Nat) (T N K : ByteArray) (k i : Int) (x : Int) (w : World) :
    Calls Tryz.prog 78 #[.agg #[.slice A n c, .string T, .string N, .int .i64 k, .int .i64 i, .string K], .iface 126 (.int .i64 x)] w (Told w (.agg #[.slice A n c, .string T, .string N, .int .i64 1, .int .i64 x, .string ByteArray.empty])) := by
  have f1 := as_num_num
  have f2 := as_num_word
  go_enter Tryz.func78, Tryz.ntmps78
  go_wp2
  refine bodyPost_ret (v := .agg #[.slice A n c, .string T, .string N, .int .i64 1, .int .i64 x, .string ByteArray.empty]) (by simp [results, Tryz.results78, go_sem]; rfl) rfl ⟨rfl, ?_⟩
  exact below_a2 _ _ _

set_option maxHeartbeats 1000000 in
theorem withKey_word (A : Option Addr) (n c : Nat) (T N K : ByteArray) (k i : Int) (x : ByteArray) (w : World) :
    Calls Tryz.prog 78 #[.agg #[.slice A n c, .string T, .string N, .int .i64 k, .int .i64 i, .string K], .iface 127 (.string x)] w (Told w (.agg #[.slice A n c, .string T, .string N, .int .i64 2, .int .i64 0, .string x])) := by
  have f1 := as_word_num
  have f2 := as_word_word
  go_enter Tryz.func78, Tryz.ntmps78
  go_wp2
  refine bodyPost_ret (v := .agg #[.slice A n c, .string T, .string N, .int .i64 2, .int .i64 0, .string x]) (by simp [results, Tryz.results78, go_sem]) rfl ⟨rfl, ?_⟩
  exact below_a2 _ _ _

theorem nil_no (w : World) : (nilAhead 254 129 (.agg #[]) "loop.example/g00770/impl.right").run Tryz.prog w = .ok (some false) w := by kernel_rfl
theorem nil_num (x : Int) (w : World) : (nilAhead 254 126 (.int .i64 x) "loop.example/g00770/impl.right").run Tryz.prog w = .ok (some false) w := by kernel_rfl
theorem nil_word (x : ByteArray) (w : World) : (nilAhead 254 127 (.string x) "loop.example/g00770/impl.right").run Tryz.prog w = .ok (some false) w := by kernel_rfl
theorem met_no (w : World) : (method 254 129 (.agg #[]) "loop.example/g00770/impl.right").run Tryz.prog w = .ok (129, .agg #[]) w := by kernel_rfl
theorem met_num (x : Int) (w : World) : (method 254 126 (.int .i64 x) "loop.example/g00770/impl.right").run Tryz.prog w = .ok (125, .int .i64 x) w := by kernel_rfl
theorem met_word (x : ByteArray) (w : World) : (method 254 127 (.string x) "loop.example/g00770/impl.right").run Tryz.prog w = .ok (127, .string x) w := by kernel_rfl

theorem right_no (w : World) : Calls Tryz.prog 129 #[.agg #[]] w fun e w' => e = .returned (.bool true) ∧ Below w.heap.size w w' := by
  go_enter Tryz.func129, Tryz.ntmps129
  go_wp2
  go_ret
  exact ⟨rfl, by first | exact Below.refl _ _ | exact below_a1 _ _⟩
theorem right_num (x : Int) (w : World) : Calls Tryz.prog 125 #[.int .i64 x] w fun e w' => e = .returned (.bool (decide (0 ≤ x) && decide (x ≤ 99))) ∧ w = w' := by
  by_cases h1 : 0 ≤ x <;> by_cases h2 : x ≤ 99
  all_goals
    go_enter Tryz.func125, Tryz.ntmps125
    go_wp2
    go_ret
    exact ⟨ret_bool (by first | (simp; done) | (simp; omega)), rfl⟩
theorem right_word (x : ByteArray) (w : World) (hx : x.size ≤ maxLen) : Calls Tryz.prog 127 #[.string x] w fun e w' => e = .returned (.bool (wordB x)) ∧ w = w' := by
  go_enter Tryz.func127, Tryz.ntmps127
  go_wp2_with (go_at_call 80; refine (wd.impl_any _ _ hx).mono ?_; rintro e w' ⟨rfl, rfl⟩)
  go_ret
  exact ⟨rfl, rfl⟩
end Go.Proofs.YtflfnekaiaplfaaGreat.adr
namespace Go.Proofs.YtflfnekaiaplfaaGreat.adr
open ad mem
open Go.ChangeShapes Go.WideShapes Go.ChangeAt Go.RowKit Go.Lib
set_option linter.unusedVariables false
set_option linter.unusedSimpArgs false

theorem below_step {B : Nat} {a w w' : World} (h : Below B a w) (k : Below w.heap.size w w') (hB : B ≤ w.heap.size) : Below B a w' := h.trans (k.mono hB)

set_option maxHeartbeats 2000000 in
theorem right_numK (A : Option Addr) (c : Nat) (d : AddrD) (w : World) (h : Strs w A d.path) (hl : d.path.length ≤ maxLen) (ht : d.typ.size ≤ maxLen) (hn : d.nam.size ≤ maxLen) (hk : d.key.size ≤ maxLen) (hkind : d.kind = 1) :
    Calls Tryz.prog 53 #[.agg #[.slice A d.path.length c, .string d.typ, .string d.nam, .int .i64 d.kind, .int .i64 d.n, .string d.key]] w (Told w (.bool (addrB d))) := by
  have H := Lib.hid h
  have HL := Lib.hid hl
  have e1 : keyV d.kind d.n d.key = .iface 126 (.int .i64 d.n) := by simp [keyV, hkind]
  have K1 := Lib.hid (fun w => e1 ▸ keyOf_any A c d w)
  have HK := Lib.hid hkind
  have f1 := nil_num d.n
  have f2 := met_num d.n
  clear h hl e1 hkind
  go_enter Tryz.func53, Tryz.ntmps53
  go_wp2_with fail
  refine (K1.out _).mono ?_
  rintro _ w1 ⟨rfl, hb1⟩
  obtain ⟨hc1, hg1⟩ := bcell hb1
  have hz1 := hb1.size
  simp at hz1
  have HB1 := Lib.hid hb1
  clear hb1
  go_wp2_with fail
  refine (withKey_num _ _ _ _ _ _ _ _ d.n _).mono ?_
  rintro _ w2 ⟨rfl, hb2⟩
  have hc2 : ∀ b o, b < w.heap.size + 1 → w2.cell? ⟨b, o, none⟩ = (w.alloc (.cells #[.slice A d.path.length c, .string d.typ, .string d.nam, .int .i64 d.kind, .int .i64 d.n, .string d.key] 37)).cell? ⟨b, o, none⟩ := fun b o h => by
    rw [hb2.cell (p := ⟨b, o, none⟩) (by show b < _; omega), hc1 b o (by simpa using h)]
  have hz2 := hb2.size
  have hlt : w.heap.size < w2.heap.size := by omega
  have HB2 := Lib.hid (((below_a1 w _).trans (HB1.out.mono (by simp))).trans (hb2.mono (by omega : w.heap.size ≤ w1.heap.size)))
  clear hc1 hg1 hb2 HB1
  go_wp2_with (first
    | (go_at_call 125; refine (right_num _ _).mono ?_; rintro _ w3 ⟨rfl, rfl⟩)
    | (go_at_call 79; refine (path_impl A c d.path _ (H.out.below (HB2.out.alloc (Nat.le_of_lt hlt) _)) HL.out).mono ?_; rintro _ _ ⟨rfl, rfl⟩)
    | (go_at_call 80; refine (wd.impl_any _ _ (by assumption)).mono ?_; rintro _ _ ⟨rfl, rfl⟩))
  all_goals go_ret
  all_goals refine ⟨ret_bool ?_, (HB2.out.alloc (Nat.le_of_lt hlt) _)⟩
  all_goals have hkind := HK.out
  all_goals (clear H HL K1 HK HB2 f1 f2 hc2 hz1 hz2 hlt; try clear hc3 HB3)
  all_goals (try simp only [tl_empty, tl_nil] at *)
  all_goals (first | (simp_all [addrB, keyB]; done) | (simp_all [addrB, keyB]; omega))

set_option maxHeartbeats 2000000 in
theorem right_noK (A : Option Addr) (c : Nat) (d : AddrD) (w : World) (h : Strs w A d.path) (hl : d.path.length ≤ maxLen) (ht : d.typ.size ≤ maxLen) (hn : d.nam.size ≤ maxLen) (hk : d.key.size ≤ maxLen) (hkind : d.kind ≠ 1 ∧ d.kind ≠ 2) :
    Calls Tryz.prog 53 #[.agg #[.slice A d.path.length c, .string d.typ, .string d.nam, .int .i64 d.kind, .int .i64 d.n, .string d.key]] w (Told w (.bool (addrB d))) := by
  have H := Lib.hid h
  have HL := Lib.hid hl
  have e1 : keyV d.kind d.n d.key = .iface 129 (.agg #[]) := by simp [keyV, hkind]
  have K1 := Lib.hid (fun w => e1 ▸ keyOf_any A c d w)
  have HK := Lib.hid hkind
  have f1 := nil_no
  have f2 := met_no
  clear h hl e1 hkind
  go_enter Tryz.func53, Tryz.ntmps53
  go_wp2_with fail
  refine (K1.out _).mono ?_
  rintro _ w1 ⟨rfl, hb1⟩
  obtain ⟨hc1, hg1⟩ := bcell hb1
  have hz1 := hb1.size
  simp at hz1
  have HB1 := Lib.hid hb1
  clear hb1
  go_wp2_with fail
  refine (withKey_no _ _ _ _ _ _ _ _ _).mono ?_
  rintro _ w2 ⟨rfl, hb2⟩
  have hc2 : ∀ b o, b < w.heap.size + 1 → w2.cell? ⟨b, o, none⟩ = (w.alloc (.cells #[.slice A d.path.length c, .string d.typ, .string d.nam, .int .i64 d.kind, .int .i64 d.n, .string d.key] 37)).cell? ⟨b, o, none⟩ := fun b o h => by
    rw [hb2.cell (p := ⟨b, o, none⟩) (by show b < _; omega), hc1 b o (by simpa using h)]
  have hz2 := hb2.size
  have hlt : w.heap.size < w2.heap.size := by omega
  have HB2 := Lib.hid (((below_a1 w _).trans (HB1.out.mono (by simp))).trans (hb2.mono (by omega : w.heap.size ≤ w1.heap.size)))
  clear hc1 hg1 hb2 HB1
  go_wp2_with (first
    | (go_at_call 129; refine (right_no _).mono ?_; rintro _ w3 ⟨rfl, hb3⟩; have hc3 : ∀ o, w3.cell? ⟨w.heap.size, o, none⟩ = w2.cell? ⟨w.heap.size, o, none⟩ := fun o => (hb3.cell (p := ⟨w.heap.size, o, none⟩) (by simp; omega)).trans (World.cell?_alloc_lt w2 _ ⟨w.heap.size, o, none⟩ hlt); have HB3 := Lib.hid ((HB2.out.alloc (Nat.le_of_lt hlt) _).trans (hb3.mono (by simp; omega))); clear hb3)
    | (go_at_call 79; refine (path_impl A c d.path _ (H.out.below (by first | exact HB3.out | exact HB2.out.alloc (Nat.le_of_lt hlt) _)) HL.out).mono ?_; rintro _ _ ⟨rfl, rfl⟩)
    | (go_at_call 80; refine (wd.impl_any _ _ (by assumption)).mono ?_; rintro _ _ ⟨rfl, rfl⟩))
  all_goals go_ret
  all_goals refine ⟨ret_bool ?_, (by first | exact HB3.out | exact HB2.out.alloc (Nat.le_of_lt hlt) _)⟩
  all_goals have hkind := HK.out
  all_goals (clear H HL K1 HK HB2 f1 f2 hc2 hz1 hz2 hlt; try clear hc3 HB3)
  all_goals (try simp only [tl_empty, tl_nil] at *)
  all_goals (first | (simp_all [addrB, keyB]; done) | (simp_all [addrB, keyB]; omega))

set_option maxHeartbeats 2000000 in
theorem right_wordK (A : Option Addr) (c : Nat) (d : AddrD) (w : World) (h : Strs w A d.path) (hl : d.path.length ≤ maxLen) (ht : d.typ.size ≤ maxLen) (hn : d.nam.size ≤ maxLen) (hk : d.key.size ≤ maxLen) (hkind : d.kind = 2) :
    Calls Tryz.prog 53 #[.agg #[.slice A d.path.length c, .string d.typ, .string d.nam, .int .i64 d.kind, .int .i64 d.n, .string d.key]] w (Told w (.bool (addrB d))) := by
  have H := Lib.hid h
  have HL := Lib.hid hl
  have e1 : keyV d.kind d.n d.key = .iface 127 (.string d.key) := by simp [keyV, hkind]
  have K1 := Lib.hid (fun w => e1 ▸ keyOf_any A c d w)
  have HK := Lib.hid hkind
  have f1 := nil_word d.key
  have f2 := met_word d.key
  clear h hl e1 hkind
  go_enter Tryz.func53, Tryz.ntmps53
  go_wp2_with fail
  refine (K1.out _).mono ?_
  rintro _ w1 ⟨rfl, hb1⟩
  obtain ⟨hc1, hg1⟩ := bcell hb1
  have hz1 := hb1.size
  simp at hz1
  have HB1 := Lib.hid hb1
  clear hb1
  go_wp2_with fail
  refine (withKey_word _ _ _ _ _ _ _ _ d.key _).mono ?_
  rintro _ w2 ⟨rfl, hb2⟩
  have hc2 : ∀ b o, b < w.heap.size + 1 → w2.cell? ⟨b, o, none⟩ = (w.alloc (.cells #[.slice A d.path.length c, .string d.typ, .string d.nam, .int .i64 d.kind, .int .i64 d.n, .string d.key] 37)).cell? ⟨b, o, none⟩ := fun b o h => by
    rw [hb2.cell (p := ⟨b, o, none⟩) (by show b < _; omega), hc1 b o (by simpa using h)]
  have hz2 := hb2.size
  have hlt : w.heap.size < w2.heap.size := by omega
  have HB2 := Lib.hid (((below_a1 w _).trans (HB1.out.mono (by simp))).trans (hb2.mono (by omega : w.heap.size ≤ w1.heap.size)))
  clear hc1 hg1 hb2 HB1
  go_wp2_with (first
    | (go_at_call 127; refine (right_word _ _ hk).mono ?_; rintro _ w3 ⟨rfl, rfl⟩)
    | (go_at_call 79; refine (path_impl A c d.path _ (H.out.below (HB2.out.alloc (Nat.le_of_lt hlt) _)) HL.out).mono ?_; rintro _ _ ⟨rfl, rfl⟩)
    | (go_at_call 80; refine (wd.impl_any _ _ (by assumption)).mono ?_; rintro _ _ ⟨rfl, rfl⟩))
  all_goals go_ret
  all_goals refine ⟨ret_bool ?_, (HB2.out.alloc (Nat.le_of_lt hlt) _)⟩
  all_goals have hkind := HK.out
  all_goals (clear H HL K1 HK HB2 f1 f2 hc2 hz1 hz2 hlt; try clear hc3 HB3)
  all_goals (try simp only [tl_empty, tl_nil] at *)
  all_goals (first | (simp_all [addrB, keyB]; done) | (simp_all [addrB, keyB]; omega))

theorem right_impl (A : Option Addr) (c : Nat) (d : AddrD) (w : World) (h : Strs w A d.path) (hl : d.path.length ≤ maxLen) (ht : d.typ.size ≤ maxLen) (hn : d.nam.size ≤ maxLen) (hk : d.key.size ≤ maxLen) :
    Calls Tryz.prog 53 #[.agg #[.slice A d.path.length c, .string d.typ, .string d.nam, .int .i64 d.kind, .int .i64 d.n, .string d.key]] w (Told w (.bool (addrB d))) := by
  by_cases h1 : d.kind = 1
  · exact right_numK A c d w h hl ht hn hk h1
  · by_cases h2 : d.kind = 2
    · exact right_wordK A c d w h hl ht hn hk h2
    · exact right_noK A c d w h hl ht hn hk ⟨h1, h2⟩
end Go.Proofs.YtflfnekaiaplfaaGreat.adr
namespace Go.Proofs.YtflfnekaiaplfaaGreat.txt
open ad mem
open Go.ChangeShapes Go.WideShapes Go.ChangeAt Go.RowKit Go.Lib
set_option linter.unusedVariables false
set_option linter.unusedSimpArgs false
theorem word_size {s : ByteArray} (h : wordB s = true) : s.size ≤ 8 := (wordB_iff.1 h).2.1
theorem path_words {l : List ByteArray} (h : pathB l = true) : l.length ≤ 2 ∧ ∀ s ∈ l, wordB s = true := by
  unfold pathB at h; simpa using h
theorem addr_parts {d : AddrD} (h : addrB d = true) : pathB d.path = true ∧ wordB d.typ = true ∧ wordB d.nam = true ∧ keyB d.kind d.n d.key = true := by
  unfold addrB at h; simp at h; exact ⟨h.1.1.1, h.1.1.2, h.1.2, h.2⟩
end Go.Proofs.YtflfnekaiaplfaaGreat.txt
