/- PutNum, the program's and the model's, of any number. No condition. -/
import Derived.Test.YtifgnebjjkjgoaaDoorRows
import Derived.Test.YtifgnebjjkjgoaaDoorStrM
import Derived.Test.YtifgnebjjkjgoaaDoorNumM
import Derived.Test.YtifgnebjjkjgoaaDoorJoin
import Derived.WalkKit
import Derived.Lib.Hide
import Derived.ProofKit
import Derived.WalkSpells
import Derived.Handy
import Derived.Laws.BytesArg
namespace Go.Proofs.YtifgnebjjkjgoaaDoor.num
open Go.ChangeShapes Go.WideShapes Go.ChangeAt Go.RowKit Go.Lib
set_option linter.unusedVariables false
set_option linter.unusedSimpArgs false

theorem ret_num {k : IntKind} {a b : Int} (h : a = b) : Ending.returned (.int k a) = .returned (.int k b) := by rw [h]

set_option maxHeartbeats 1000000 in
theorem fold_spec (n : Int) (w : World) (h0 : -9223372036854775808 ≤ n) (h1 : n ≤ 9223372036854775807) :
    Calls Tryd.prog 21 #[.int .i64 n] w fun e w' => e = .returned (.int .u64 (zz n)) ∧ w = w' := by
  by_cases h : n < 0
  · go_enter Tryd.func21, Tryd.ntmps21
    go_wp2
    go_ret
    exact ⟨ret_num (by rw [zz_neg h]; omega), rfl⟩
  · go_enter Tryd.func21, Tryd.ntmps21
    go_wp2
    go_ret
    exact ⟨ret_num (by rw [zz_pos (by omega)]), rfl⟩

set_option maxHeartbeats 1000000 in
theorem fold_impl (n : Int) (w : World) (h0 : -9223372036854775808 ≤ n) (h1 : n ≤ 9223372036854775807) :
    Calls Tryd.prog 20 #[.int .i64 n] w fun e w' => e = .returned (.int .u64 (zz n)) ∧ w = w' := by
  go_enter Tryd.func20, Tryd.ntmps20
  go_wp2
  go_ret
  exact ⟨ret_num (fold_val h0 h1), rfl⟩

theorem own_string {w : World} {base : Nat} {v : Value} {l : List UInt8} (h : w.ownsRow base 5 1 v l.length (byteCells l)) :
    (convert 22 9 v).run Tryd.prog w = .ok (.string ⟨l.toArray⟩) w := by
  obtain ⟨_, ⟨rfl, h0⟩ | ⟨g, cap, cur, rfl, _, hg, _, _, hs, ht⟩⟩ := h
  · have e : l = [] := List.eq_nil_of_length_eq_zero h0
    subst e
    exact run_convert_bytes_nil w 22 5 Tryd.underlying22 Tryd.underlying5 _ _ 9 Tryd.underlying9
  · refine run_convert_bytes_back w _ _ 5 ⟨g, 0, none⟩ cap l Tryd.underlying22 Tryd.underlying5 Tryd.underlying9 (fun j hj => ?_)
    have e : (⟨g, 0, none⟩ : Addr).add j = ⟨g, j, none⟩ := by simp [Addr.add]; exact fun h => h.symm
    rw [e, cell_of_row _ _ _ _ _ _ hg]
    have h2 : (cur.toList.take (l.length * 1))[j]? = (byteCells l)[j]? := by rw [ht]
    rw [List.getElem?_take_of_lt (by omega)] at h2
    rw [← Array.getElem?_toList, h2]
    simp [byteCells, hj]

theorem one_cell (w : World) (x : Int) (c : UInt8) (e : TypeId) (h : x = (c.toNat : Int)) :
    ∀ (j : Nat) (u : Value), (byteCells [c])[j]? = some u → (w.alloc (.cells #[Value.int .u8 x] e)).cell? ((⟨w.heap.size, 0, none⟩ : Addr).add j) = some u := by
  intro j u hu
  have hj : j = 0 := by
    have := (List.getElem?_eq_some_iff.1 hu).1
    simp [byteCells] at this; exact this
  subst hj
  have e2 : (⟨w.heap.size, 0, none⟩ : Addr).add 0 = ⟨w.heap.size, 0, none⟩ := by simp [Addr.add]
  rw [e2, World.cell?_alloc_at _ _ _ _ rfl, ← hu, h]
  rfl
theorem own_block {w : World} {base : Nat} {e : TypeId} {v : Value} {n : Nat} {xs : List Value} (h : w.ownsRow base e 1 v n xs) : ∀ k, v.ownBlock = some k → base ≤ k := by
  obtain ⟨_, ⟨rfl, _⟩ | ⟨g, cap, cur, rfl, hb, _⟩⟩ := h
  · intro k hk; simp [Value.ownBlock] at hk
  · intro k hk; simp [Value.ownBlock] at hk; omega
theorem own_snoc {w : World} {base : Nat} {e : TypeId} {v : Value} {l : List UInt8} {c : UInt8} (h : w.ownsRow base e 1 v (l.length + 1) (byteCells l ++ byteCells [c])) :
    w.ownsRow base e 1 v (l ++ [c]).length (byteCells (l ++ [c])) := by
  rw [byteCells_append, List.length_append]; exact h

theorem own_start (w : World) (e : TypeId) : (w.alloc (.cells #[] e)).ownsRow w.heap.size e 1 (.slice (some ⟨w.heap.size, 0, none⟩) 0 0) ([] : List UInt8).length (byteCells []) :=
  ⟨rfl, .inr ⟨w.heap.size, 0, #[], rfl, Nat.le_refl _, heap_alloc_new _ _, Nat.le_refl _, Nat.zero_le _, rfl, rfl⟩⟩

theorem ret_str {a b : ByteArray} (h : a = b) : Ending.returned (.string a) = .returned (.string b) := by rw [h]

set_option maxHeartbeats 1000000 in
theorem put_spec (n : Int) (w : World) (h0 : -9223372036854775808 ≤ n) (h1 : n ≤ 9223372036854775807) :
    Calls Tryd.prog 8 #[.int .i64 n] w fun e w' => e = .returned (.string ⟨(enc (zz n).toNat).toArray⟩) ∧ Below w.heap.size w w' := by
  obtain ⟨i0, hi, hz0, hz1, hz2⟩ := info_parts str.info_u8
  obtain ⟨u0, hu0⟩ := Int.eq_ofNat_of_zero_le (zz_in h0 h1).1
  have hle := (zz_in h0 h1).2
  have HU := Lib.hid hu0
  have h10 : (enc u0).length ≤ 10 := enc_ten (by omega)
  go_enter Tryd.func8, Tryd.ntmps8
  go_wp2_with fail
  refine (fold_spec _ _ h0 h1).mono ?_
  rintro e w' ⟨rfl, rfl⟩
  rw [HU.out]
  rw [HU.out] at hle
  clear hu0
  go_wp2
  go_loopw [3, 4] (fun u v wr => ∃ (U : Nat) (l : List UInt8), u = .int .u64 U ∧ U ≤ u0 ∧ enc u0 = l ++ enc U ∧ wr.ownsRow w.heap.size 5 1 v l.length (byteCells l) ∧ Below w.heap.size w wr) (fun u _ _ => (intOf u).toNat)
  case atStart => exact ⟨u0, [], rfl, Nat.le_refl _, rfl, own_start _ _, (Below.refl _ _).alloc (Nat.le_refl _) _⟩
  case round =>
    obtain ⟨U, l, rfl, hUle, hl, hown, hbl⟩ := hrel
    have hlen : l.length ≤ 9 := by have := congrArg List.length hl; rw [List.length_append] at this; have := enc_pos U; omega
    have HL := Lib.hid hl
    clear hl
    have hw := hbl.size
    by_cases h128 : 128 ≤ (U : Int)
    · have hstep := enc_step HL.out (by omega)
      obtain ⟨c, hc⟩ : ∃ c, c = UInt8.ofNat (U % 128 + 128) := ⟨_, rfl⟩
      rw [← hc] at hstep
      have hcv : (c.toNat : Int) = (U : Int) % 128 + 128 := by rw [hc, UInt8.toNat_ofNat_of_lt' (by change _ < 256; omega)]; omega
      have HS := Lib.hid hstep
      have HV := Lib.hid hcv
      clear hstep hc hcv
      go_wp2_with (at_builtin; refine wpList_append_own _ rfl (.tmp 10) (.tmp 15) 22 rfl w.heap.size 5 i0 (.int .u8 0) 1 1 Tryd.underlying22 hi hz0 hz1 hz2 rfl (by decide) _ _ _ rfl (hown.alloc _) ⟨wr.heap.size, 0, none⟩ 1 1 (byteCells [c]) rfl rfl ?c1 ?c2 ?c3 ?c4 ?c5 ?_)
      case c1 => exact one_cell _ _ _ _ HV.out.symm
      case c2 => exact byteCells_one _
      case c3 => unfold maxLen; omega
      case c4 => omega
      case c5 => simp; omega
      intro v' w1 hown1 hgrow1 _
      have hbl1 := (hbl.alloc hw (.cells #[Value.int .u8 ((U : Int) % 128 + 128)] 5)).grown hgrow1 (by simp; omega) (own_block hown)
      have hown2 := own_snoc hown1
      clear hown1 hgrow1 hown
      go_wp2
      go_roundw
      case rel => exact ⟨U / 128, l ++ [c], by go_num, by omega, HS.out, hown2, hbl1⟩
      case measure => simp [intOf]; omega
    · obtain ⟨c, hc⟩ : ∃ c, c = UInt8.ofNat U := ⟨_, rfl⟩
      have hfin : enc u0 = l ++ [c] := by rw [HL.out, enc_last (by omega), hc]
      have hcv : (c.toNat : Int) = (U : Int) := by rw [hc, UInt8.toNat_ofNat_of_lt' (by change _ < 256; omega)]
      have hcv2 : (c.toNat : Int) = (U : Int) % 256 := by omega
      have HF := Lib.hid hfin
      have HV := Lib.hid hcv
      have HV2 := Lib.hid hcv2
      clear hfin hc hcv hcv2
      go_wp2_with (at_builtin; refine wpList_append_own _ rfl (.tmp 19) (.tmp 22) 22 rfl w.heap.size 5 i0 (.int .u8 0) 1 1 Tryd.underlying22 hi hz0 hz1 hz2 rfl (by decide) _ _ _ rfl (hown.alloc _) ⟨wr.heap.size, 0, none⟩ 1 1 (byteCells [c]) rfl rfl ?d1 ?d2 ?d3 ?d4 ?d5 ?_)
      case d1 => first | exact one_cell _ _ _ _ HV.out.symm | (rw [← HV.out]; exact fun _ _ h => h)
      case d2 => exact byteCells_one _
      case d3 => unfold maxLen; omega
      case d4 => omega
      case d5 => first | omega | (simp; omega)
      intro v' w1 hown1 hgrow1 _
      have hbl1 := ((hbl.alloc hw _).grown hgrow1 (by first | omega | (simp; omega)) (own_block hown))
      have hown2 := own_snoc hown1
      have hstr := own_string hown2
      clear hown1 hgrow1 hown hown2
      go_wp2
      go_ret
      exact ⟨ret_str (by rw [HU.out, Int.toNat_natCast, HF.out]), hbl1⟩
theorem make10 (w : World) : (Instr.makeSlice 22 (.int .i64 0) (.int .i64 10)).run Tryd.prog w = .ok (.slice (some ⟨w.heap.size, 0, none⟩) 0 10) (w.alloc (.cells (madeCells #[.int .u8 0] 10) 5)) := by
  obtain ⟨i0, hi, hz0, hz1, hz2⟩ := info_parts str.info_u8
  rw [run_make (P := Tryd.prog) w 22 5 i0 (.int .u8 0) Tryd.underlying22 hi hz0 .i64 .i64 0 10 (by omega) (by omega) (by rw [hz2]; omega) (by omega), hz1]
  rfl
theorem own_start10 (w : World) : (w.alloc (.cells (madeCells #[.int .u8 0] 10) 5)).ownsRow w.heap.size 5 1 (.slice (some ⟨w.heap.size, 0, none⟩) 0 10) ([] : List UInt8).length (byteCells []) :=
  ⟨rfl, .inr ⟨w.heap.size, 10, madeCells #[.int .u8 0] 10, rfl, Nat.le_refl _, heap_alloc_new _ _, Nat.zero_le _, by unfold maxLen; omega, by kernel_rfl, by kernel_rfl⟩⟩

set_option maxHeartbeats 1000000 in
theorem put_impl (n : Int) (w : World) (h0 : -9223372036854775808 ≤ n) (h1 : n ≤ 9223372036854775807) :
    Calls Tryd.prog 7 #[.int .i64 n] w fun e w' => e = .returned (.string ⟨(enc (zz n).toNat).toArray⟩) ∧ Below w.heap.size w w' := by
  obtain ⟨i0, hi, hz0, hz1, hz2⟩ := info_parts str.info_u8
  obtain ⟨u0, hu0⟩ := Int.eq_ofNat_of_zero_le (zz_in h0 h1).1
  have hle := (zz_in h0 h1).2
  have HU := Lib.hid hu0
  have h10 : (enc u0).length ≤ 10 := enc_ten (by omega)
  have hmk := make10
  go_enter Tryd.func7, Tryd.ntmps7
  go_wp2_with fail
  refine (fold_impl _ _ h0 h1).mono ?_
  rintro e w' ⟨rfl, rfl⟩
  rw [HU.out]
  rw [HU.out] at hle
  clear hu0
  go_wp2
  clear hmk
  go_loopw [3, 4] (fun u v wr => ∃ (U : Nat) (l : List UInt8), u = .int .u64 U ∧ U ≤ u0 ∧ enc u0 = l ++ enc U ∧ wr.ownsRow w.heap.size 5 1 v l.length (byteCells l) ∧ Below w.heap.size w wr) (fun u _ _ => (intOf u).toNat)
  case atStart => exact ⟨u0, [], rfl, Nat.le_refl _, rfl, own_start10 _, (Below.refl _ _).alloc (Nat.le_refl _) _⟩
  case round =>
    obtain ⟨U, l, rfl, hUle, hl, hown, hbl⟩ := hrel
    have hlen : l.length ≤ 9 := by have := congrArg List.length hl; rw [List.length_append] at this; have := enc_pos U; omega
    have HL := Lib.hid hl
    clear hl
    have hw := hbl.size
    by_cases h128 : 128 ≤ (U : Int)
    · have hstep := enc_step HL.out (by omega)
      obtain ⟨c, hc⟩ : ∃ c, c = UInt8.ofNat (U % 128 + 128) := ⟨_, rfl⟩
      rw [← hc] at hstep
      have hcv : (c.toNat : Int) = bits .or .u8 ((U : Int) % 256) 128 := by rw [hc, UInt8.toNat_ofNat_of_lt' (by change _ < 256; omega), or_byte]
      have HS := Lib.hid hstep
      have HV := Lib.hid hcv
      clear hstep hc hcv
      go_wp2_with (at_builtin; refine wpList_append_own _ rfl (.tmp 10) (.tmp 14) 22 rfl w.heap.size 5 i0 (.int .u8 0) 1 1 Tryd.underlying22 hi hz0 hz1 hz2 rfl (by decide) _ _ _ rfl (hown.alloc _) ⟨wr.heap.size, 0, none⟩ 1 1 (byteCells [c]) rfl rfl ?c1 ?c2 ?c3 ?c4 ?c5 ?_)
      case c1 => exact one_cell _ _ _ _ HV.out.symm
      case c2 => exact byteCells_one _
      case c3 => unfold maxLen; omega
      case c4 => omega
      case c5 => simp; omega
      intro v' w1 hown1 hgrow1 _
      have hbl1 := (hbl.alloc hw (.cells #[Value.int .u8 (bits .or .u8 ((U : Int) % 256) 128)] 5)).grown hgrow1 (by simp; omega) (own_block hown)
      have hown2 := own_snoc hown1
      clear hown1 hgrow1 hown
      go_wp2
      go_roundw
      case rel => exact ⟨U / 128, l ++ [c], by go_num, by omega, HS.out, hown2, hbl1⟩
      case measure => simp [intOf]; omega
    · obtain ⟨c, hc⟩ : ∃ c, c = UInt8.ofNat U := ⟨_, rfl⟩
      have hfin : enc u0 = l ++ [c] := by rw [HL.out, enc_last (by omega), hc]
      have hcv : (c.toNat : Int) = (U : Int) := by rw [hc, UInt8.toNat_ofNat_of_lt' (by change _ < 256; omega)]
      have hcv2 : (c.toNat : Int) = (U : Int) % 256 := by omega
      have HF := Lib.hid hfin
      have HV := Lib.hid hcv
      have HV2 := Lib.hid hcv2
      clear hfin hc hcv hcv2
      go_wp2_with (at_builtin; refine wpList_append_own _ rfl (.tmp 18) (.tmp 21) 22 rfl w.heap.size 5 i0 (.int .u8 0) 1 1 Tryd.underlying22 hi hz0 hz1 hz2 rfl (by decide) _ _ _ rfl (hown.alloc _) ⟨wr.heap.size, 0, none⟩ 1 1 (byteCells [c]) rfl rfl ?d1 ?d2 ?d3 ?d4 ?d5 ?_)
      case d1 => first | exact one_cell _ _ _ _ HV.out.symm | (rw [← HV.out]; exact fun _ _ h => h)
      case d2 => exact byteCells_one _
      case d3 => unfold maxLen; omega
      case d4 => omega
      case d5 => first | omega | (simp; omega)
      intro v' w1 hown1 hgrow1 _
      have hbl1 := ((hbl.alloc hw _).grown hgrow1 (by first | omega | (simp; omega)) (own_block hown))
      have hown2 := own_snoc hown1
      have hstr := own_string hown2
      clear hown1 hgrow1 hown hown2
      go_wp2
      go_ret
      exact ⟨ret_str (by rw [HU.out, Int.toNat_natCast, HF.out]), hbl1⟩
end Go.Proofs.YtifgnebjjkjgoaaDoor.num
