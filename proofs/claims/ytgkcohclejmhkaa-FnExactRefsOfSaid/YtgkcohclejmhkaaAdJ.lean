/- The program's AddrRight. -/
import Derived.Test.YtgkcohclejmhkaaAdI
import Derived.Deep.RegionWith
namespace Go.Proofs.Ytgkcohclejmhkaa.adr
open ad mem
open Go.ChangeShapes Go.WideShapes Go.ChangeAt Go.RowKit Go.Lib
set_option linter.unusedVariables false
set_option linter.unusedSimpArgs false

theorem below_step {B : Nat} {a w w' : World} (h : Below B a w) (k : Below w.heap.size w w') (hB : B ≤ w.heap.size) : Below B a w' := h.trans (k.mono hB)

set_option maxHeartbeats 2000000 in
theorem right_numK (A : Option Addr) (c : Nat) (d : AddrD) (w : World) (h : Strs w A d.path) (hl : d.path.length ≤ maxLen) (ht : d.typ.size ≤ maxLen) (hn : d.nam.size ≤ maxLen) (hk : d.key.size ≤ maxLen) (hkind : d.kind = 1) :
    Calls Try.prog 58 #[.agg #[.slice A d.path.length c, .string d.typ, .string d.nam, .int .i64 d.kind, .int .i64 d.n, .string d.key]] w (Told w (.bool (addrB d))) := by
  have H := Lib.hid h
  have HL := Lib.hid hl
  have e1 : keyV d.kind d.n d.key = .iface 147 (.int .i64 d.n) := by simp [keyV, hkind]
  have K1 := Lib.hid (fun w => e1 ▸ keyOf_any A c d w)
  have HK := Lib.hid hkind
  have f1 := nil_num d.n
  have f2 := met_num d.n
  clear h hl e1 hkind
  go_enter Try.func58, Try.ntmps58
  go_wp2_with fail
  refine (K1.out _).mono ?_
  rintro _ w1 ⟨rfl, hb1⟩
  obtain ⟨hc1, hg1⟩ := bcell hb1
  have hz1 := hb1.size
  simp at hz1
  have HB1 := Lib.hid hb1
  clear hb1
  go_wp2_with fail
  refine (withKey_num _ _ _ _ _ _ _ _ d.n _).mono ?_
  rintro _ w2 ⟨rfl, hb2⟩
  have hc2 : ∀ b o, b < w.heap.size + 1 → w2.cell? ⟨b, o, none⟩ = (w.alloc (.cells #[.slice A d.path.length c, .string d.typ, .string d.nam, .int .i64 d.kind, .int .i64 d.n, .string d.key] 34)).cell? ⟨b, o, none⟩ := fun b o h => by
    rw [hb2.cell (p := ⟨b, o, none⟩) (by show b < _; omega), hc1 b o (by simpa using h)]
  have hz2 := hb2.size
  have hlt : w.heap.size < w2.heap.size := by omega
  have HB2 := Lib.hid (((below_a1 w _).trans (HB1.out.mono (by simp))).trans (hb2.mono (by omega : w.heap.size ≤ w1.heap.size)))
  clear hc1 hg1 hb2 HB1
  go_wp2_with (first
    | (go_at_call 173; refine (right_num _ _).mono ?_; rintro _ w3 ⟨rfl, rfl⟩)
    | (go_at_call 94; refine (path_impl A c d.path _ (H.out.below (HB2.out.alloc (Nat.le_of_lt hlt) _)) HL.out).mono ?_; rintro _ _ ⟨rfl, rfl⟩)
    | (go_at_call 95; refine (wd.impl_any _ _ (by assumption)).mono ?_; rintro _ _ ⟨rfl, rfl⟩))
  all_goals go_ret
  all_goals refine ⟨ret_bool ?_, (HB2.out.alloc (Nat.le_of_lt hlt) _)⟩
  all_goals have hkind := HK.out
  all_goals (clear H HL K1 HK HB2 f1 f2 hc2 hz1 hz2 hlt; try clear hc3 HB3)
  all_goals (try simp only [tl_empty, tl_nil] at *)
  all_goals (first | (simp_all [addrB, keyB]; done) | (simp_all [addrB, keyB]; omega))

set_option maxHeartbeats 2000000 in
theorem right_noK (A : Option Addr) (c : Nat) (d : AddrD) (w : World) (h : Strs w A d.path) (hl : d.path.length ≤ maxLen) (ht : d.typ.size ≤ maxLen) (hn : d.nam.size ≤ maxLen) (hk : d.key.size ≤ maxLen) (hkind : d.kind ≠ 1 ∧ d.kind ≠ 2) :
    Calls Try.prog 58 #[.agg #[.slice A d.path.length c, .string d.typ, .string d.nam, .int .i64 d.kind, .int .i64 d.n, .string d.key]] w (Told w (.bool (addrB d))) := by
  have H := Lib.hid h
  have HL := Lib.hid hl
  have e1 : keyV d.kind d.n d.key = .iface 150 (.agg #[]) := by simp [keyV, hkind]
  have K1 := Lib.hid (fun w => e1 ▸ keyOf_any A c d w)
  have HK := Lib.hid hkind
  have f1 := nil_no
  have f2 := met_no
  clear h hl e1 hkind
  go_enter Try.func58, Try.ntmps58
  go_wp2_with fail
  refine (K1.out _).mono ?_
  rintro _ w1 ⟨rfl, hb1⟩
  obtain ⟨hc1, hg1⟩ := bcell hb1
  have hz1 := hb1.size
  simp at hz1
  have HB1 := Lib.hid hb1
  clear hb1
  go_wp2_with fail
  refine (withKey_no _ _ _ _ _ _ _ _ _).mono ?_
  rintro _ w2 ⟨rfl, hb2⟩
  have hc2 : ∀ b o, b < w.heap.size + 1 → w2.cell? ⟨b, o, none⟩ = (w.alloc (.cells #[.slice A d.path.length c, .string d.typ, .string d.nam, .int .i64 d.kind, .int .i64 d.n, .string d.key] 34)).cell? ⟨b, o, none⟩ := fun b o h => by
    rw [hb2.cell (p := ⟨b, o, none⟩) (by show b < _; omega), hc1 b o (by simpa using h)]
  have hz2 := hb2.size
  have hlt : w.heap.size < w2.heap.size := by omega
  have HB2 := Lib.hid (((below_a1 w _).trans (HB1.out.mono (by simp))).trans (hb2.mono (by omega : w.heap.size ≤ w1.heap.size)))
  clear hc1 hg1 hb2 HB1
  go_wp2_with (first
    | (go_at_call 177; refine (right_no _).mono ?_; rintro _ w3 ⟨rfl, hb3⟩; have hc3 : ∀ o, w3.cell? ⟨w.heap.size, o, none⟩ = w2.cell? ⟨w.heap.size, o, none⟩ := fun o => (hb3.cell (p := ⟨w.heap.size, o, none⟩) (by simp; omega)).trans (World.cell?_alloc_lt w2 _ ⟨w.heap.size, o, none⟩ hlt); have HB3 := Lib.hid ((HB2.out.alloc (Nat.le_of_lt hlt) _).trans (hb3.mono (by simp; omega))); clear hb3)
    | (go_at_call 94; refine (path_impl A c d.path _ (H.out.below (by first | exact HB3.out | exact HB2.out.alloc (Nat.le_of_lt hlt) _)) HL.out).mono ?_; rintro _ _ ⟨rfl, rfl⟩)
    | (go_at_call 95; refine (wd.impl_any _ _ (by assumption)).mono ?_; rintro _ _ ⟨rfl, rfl⟩))
  all_goals go_ret
  all_goals refine ⟨ret_bool ?_, (by first | exact HB3.out | exact HB2.out.alloc (Nat.le_of_lt hlt) _)⟩
  all_goals have hkind := HK.out
  all_goals (clear H HL K1 HK HB2 f1 f2 hc2 hz1 hz2 hlt; try clear hc3 HB3)
  all_goals (try simp only [tl_empty, tl_nil] at *)
  all_goals (first | (simp_all [addrB, keyB]; done) | (simp_all [addrB, keyB]; omega))

set_option maxHeartbeats 2000000 in
theorem right_wordK (A : Option Addr) (c : Nat) (d : AddrD) (w : World) (h : Strs w A d.path) (hl : d.path.length ≤ maxLen) (ht : d.typ.size ≤ maxLen) (hn : d.nam.size ≤ maxLen) (hk : d.key.size ≤ maxLen) (hkind : d.kind = 2) :
    Calls Try.prog 58 #[.agg #[.slice A d.path.length c, .string d.typ, .string d.nam, .int .i64 d.kind, .int .i64 d.n, .string d.key]] w (Told w (.bool (addrB d))) := by
  have H := Lib.hid h
  have HL := Lib.hid hl
  have e1 : keyV d.kind d.n d.key = .iface 148 (.string d.key) := by simp [keyV, hkind]
  have K1 := Lib.hid (fun w => e1 ▸ keyOf_any A c d w)
  have HK := Lib.hid hkind
  have f1 := nil_word d.key
  have f2 := met_word d.key
  clear h hl e1 hkind
  go_enter Try.func58, Try.ntmps58
  go_wp2_with fail
  refine (K1.out _).mono ?_
  rintro _ w1 ⟨rfl, hb1⟩
  obtain ⟨hc1, hg1⟩ := bcell hb1
  have hz1 := hb1.size
  simp at hz1
  have HB1 := Lib.hid hb1
  clear hb1
  go_wp2_with fail
  refine (withKey_word _ _ _ _ _ _ _ _ d.key _).mono ?_
  rintro _ w2 ⟨rfl, hb2⟩
  have hc2 : ∀ b o, b < w.heap.size + 1 → w2.cell? ⟨b, o, none⟩ = (w.alloc (.cells #[.slice A d.path.length c, .string d.typ, .string d.nam, .int .i64 d.kind, .int .i64 d.n, .string d.key] 34)).cell? ⟨b, o, none⟩ := fun b o h => by
    rw [hb2.cell (p := ⟨b, o, none⟩) (by show b < _; omega), hc1 b o (by simpa using h)]
  have hz2 := hb2.size
  have hlt : w.heap.size < w2.heap.size := by omega
  have HB2 := Lib.hid (((below_a1 w _).trans (HB1.out.mono (by simp))).trans (hb2.mono (by omega : w.heap.size ≤ w1.heap.size)))
  clear hc1 hg1 hb2 HB1
  go_wp2_with (first
    | (go_at_call 175; refine (right_word _ _ hk).mono ?_; rintro _ w3 ⟨rfl, rfl⟩)
    | (go_at_call 94; refine (path_impl A c d.path _ (H.out.below (HB2.out.alloc (Nat.le_of_lt hlt) _)) HL.out).mono ?_; rintro _ _ ⟨rfl, rfl⟩)
    | (go_at_call 95; refine (wd.impl_any _ _ (by assumption)).mono ?_; rintro _ _ ⟨rfl, rfl⟩))
  all_goals go_ret
  all_goals refine ⟨ret_bool ?_, (HB2.out.alloc (Nat.le_of_lt hlt) _)⟩
  all_goals have hkind := HK.out
  all_goals (clear H HL K1 HK HB2 f1 f2 hc2 hz1 hz2 hlt; try clear hc3 HB3)
  all_goals (try simp only [tl_empty, tl_nil] at *)
  all_goals (first | (simp_all [addrB, keyB]; done) | (simp_all [addrB, keyB]; omega))

theorem right_impl (A : Option Addr) (c : Nat) (d : AddrD) (w : World) (h : Strs w A d.path) (hl : d.path.length ≤ maxLen) (ht : d.typ.size ≤ maxLen) (hn : d.nam.size ≤ maxLen) (hk : d.key.size ≤ maxLen) :
    Calls Try.prog 58 #[.agg #[.slice A d.path.length c, .string d.typ, .string d.nam, .int .i64 d.kind, .int .i64 d.n, .string d.key]] w (Told w (.bool (addrB d))) := by
  by_cases h1 : d.kind = 1
  · exact right_numK A c d w h hl ht hn hk h1
  · by_cases h2 : d.kind = 2
    · exact right_wordK A c d w h hl ht hn hk h2
    · exact right_noK A c d w h hl ht hn hk ⟨h1, h2⟩
end Go.Proofs.Ytgkcohclejmhkaa.adr
