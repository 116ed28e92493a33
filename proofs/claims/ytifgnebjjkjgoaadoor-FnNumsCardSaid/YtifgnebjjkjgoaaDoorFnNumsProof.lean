/- FnNums, called with any two lists of bytes, tells yes, and changes nothing. The card ties the one listed variable of the library, errors.errorType, to the program's text. -/
import Derived.Test.YtifgnebjjkjgoaaDoorCards
import Derived.Test.YtifgnebjjkjgoaaDoorTie
import Derived.WalkKit
import Derived.ProofKit
import Derived.OpenShut
import Derived.ShutString
import Derived.ChangeOld
import Derived.Below
import Derived.LaidHandle
import Derived.LaidLaws
import Derived.LaidOnce
import Derived.RowKitTokens
import Derived.Deep.DeepHandedRow
import Derived.Stop.Joined
import Derived.SevenTiedAt
import Derived.Handy
import Derived.Lib.Hide
import Derived.Test.YtifgnebjjkjgoaaDoorGetNum
import Derived.Test.YtifgnebjjkjgoaaDoorGetText
import Derived.Test.YtifgnebjjkjgoaaDoorNumU
import Derived.Test.YtifgnebjjkjgoaaDoorDrawN
import Derived.Test.YtifgnebjjkjgoaaDoorPutTextA
namespace Go.Proofs.YtifgnebjjkjgoaaDoor.fnNums
open Go.ChangeShapes Go.WideShapes Go.ChangeAt Go.RowKit
open Go.ChangeMaps (open_string shut_string)
set_option linter.unusedVariables false
set_option linter.unusedSimpArgs false

theorem own : ownKnob Tryd.prog.godebug = none := by kernel_rfl
theorem laidOut : laidOutB Tryd.prog = true := by kernel_rfl
theorem et : Tryd.prog.globalNamed "errors.errorType" = some 0 := by kernel_rfl
theorem rt : (Tryd.prog.cutTypes.find? (·.1 == "internal/reflectlite.rtype")).map (·.2) = some 76 := by kernel_rfl
theorem oneRow : ((List.range 119).filter fun t => Tryd.prog.rowNamed t [101, 114, 114, 111, 114]) = [44] := by kernel_rfl
theorem size : Tryd.prog.types.size = 119 := by kernel_rfl

/-- what the row's list gives: the cell of the library's variable. -/
theorem laid_of {W : World} (h : laidMetH Tryd.prog Rows.fnNumsRow.laid W) : as.Laid W := by
  have h' : laidMet Tryd.prog [] W ∧ handlesMet Tryd.prog Rows.fnNumsRow.laid W := h
  obtain ⟨name, u, ty, e1, e2, e3, e4, e5⟩ := h'.2 _ (List.mem_singleton.2 rfl)
  have en : name = [101, 114, 114, 111, 114] := (Option.some.inj e1).symm
  subst en
  obtain rfl := Option.some.inj (rt.symm.trans e2)
  have hm : ty ∈ (List.range 119).filter fun t => Tryd.prog.rowNamed t [101, 114, 114, 111, 114] := List.mem_filter.2 ⟨List.mem_range.2 (by rw [← size]; exact e3), e4⟩
  rw [oneRow] at hm
  obtain rfl := List.mem_singleton.1 hm
  have hh : typeHandle Tryd.prog 44 = .pointer (some ⟨1, 44, none⟩) := by kernel_rfl
  rw [hh] at e5
  simpa [as.Laid] using World.var?_cell et e5 0

/-- what the walk is told of a slice of bytes that came in. -/
def IsRow (k : IntKind) (w : World) (a : Option Addr) (len cap : Nat) (zs : List Int) : Prop :=
  (a = none ∧ len = 0 ∧ cap = 0 ∧ zs = []) ∨
  ∃ x, a = some x ∧ len ≤ cap ∧ cap ≤ maxLen ∧ zs.length = cap ∧ (∀ i, i < zs.length → w.cell? (x.add i) = some (.int k (zs.getD i 0))) ∧ ∀ n ∈ zs, (Lit.int k n).wf = true

open Go.Lib
theorem bytes_of {w : World} {a : Option Addr} {len cap : Nat} {z : List Int} (h : IsRow .u8 w a len cap z) : drw.Bytes w a len := by
  rcases h with ⟨rfl, rfl, _, _⟩ | ⟨x, rfl, hl, hm, hz, hcell, hwz⟩
  · intro j hj; omega
  · intro j hj
    obtain ⟨b, off, spot⟩ := x
    have hspot : spot = none := by simpa [Addr.add] using World.cell?_spot (hcell 0 (by omega))
    have hc := hcell j (by omega)
    subst hspot
    have e : (⟨b, off, none⟩ : Addr).add j = ⟨b, off + j, none⟩ := by unfold Addr.add; split <;> simp_all
    rw [e] at hc
    have hjz : j < z.length := by omega
    have hmem : z.getD j 0 ∈ z := by rw [List.getD_eq_getElem?_getD, List.getElem?_eq_getElem hjz]; exact List.getElem_mem hjz
    have hw := hwz _ hmem
    have hx : 0 ≤ z.getD j 0 ∧ z.getD j 0 ≤ 255 := by simpa [Lit.wf, IntKind.min, IntKind.max, IntKind.signed, IntKind.bits] using hw
    exact ⟨b, off, z.getD j 0, rfl, block_lt_of_cell hc, hc, hx.1, hx.2⟩
theorem bytes_below {w w' : World} {a : Option Addr} {len : Nat} (h : drw.Bytes w a len) (hb : Below w.heap.size w w') : drw.Bytes w' a len := by
  intro j hj
  obtain ⟨b, off, z, e1, e2, e3, e4⟩ := h j hj
  exact ⟨b, off, z, e1, Nat.lt_of_lt_of_le e2 hb.size, by rw [hb.cell (p := ⟨b, off + j, none⟩) e2]; exact e3, e4⟩
theorem not_empty {q : ByteArray} (h : 0 < q.size) : (!q.toList.isEmpty) = true := by
  rw [toList_data]
  cases hl : q.data.toList with
  | nil => have h2 : q.size = q.data.toList.length := size_eq q; rw [hl] at h2; rw [h2] at h; exact absurd h (by simp)
  | cons a l => rfl
theorem fieldN (a b c : Int) (w : World) : (Instr.field 26 (.agg #[.int .i64 a, .int .i64 b, .int .i64 c]) 2).run Tryd.prog w = .ok (.int .i64 c) w := by kernel_rfl
theorem fieldT (s : ByteArray) (a c : Int) (w : World) : (Instr.field 31 (.agg #[.string s, .int .i64 a, .int .i64 c]) 2).run Tryd.prog w = .ok (.int .i64 c) w := by kernel_rfl
abbrev sxy : ByteArray := { data := #[120, 121] }
abbrev sz : ByteArray := { data := #[122] }
abbrev sx : ByteArray := { data := #[120] }
theorem get_back (n : Int) (w : World) (h0 : -9223372036854775808 ≤ n) (h1 : n ≤ 9223372036854775807) (hL : as.Laid w) :
    Calls Tryd.prog 9 #[.string (sxy ++ num.numB n ++ sz), .int .i64 2] w fun e w' => e = .returned (.agg #[.int .i64 n, .int .i64 (((num.numB n).size : Int) + 2), .int .i64 0]) ∧ Below w.heap.size w w' := by
  have k := rd.get_impl (sxy ++ num.numB n ++ sz) 2 w (by omega) hL
  have hsz := num.numB_size h0 h1
  have hl : (sxy ++ num.numB n ++ sz).data.toList = [120, 121] ++ ((num.numB n).data.toList ++ [122]) := by simp [ByteArray.data_append]
  have hs : (sxy ++ num.numB n ++ sz).size ≤ 8000 := by
    rw [ByteArray.size_append, ByteArray.size_append]
    have e1 : sxy.size = 2 := rfl
    have e2 : sz.size = 1 := rfl
    omega
  have hr := rd.res_back (s := sxy ++ num.numB n ++ sz) (i := 2) (rest := [122]) h0 h1 hs (by omega) (by rw [hl]; rfl)
  rw [hr] at k
  simp only [rd.numV, rd.atV, rd.codeV, rd.num_zz, rd.numOut] at k
  rw [show (2 : Int) + ((num.numB n).size : Int) = ((num.numB n).size : Int) + 2 from by omega] at k
  exact k
theorem get_cut (n : Int) (w : World) (h0 : -9223372036854775808 ≤ n) (h1 : n ≤ 9223372036854775807) (hL : as.Laid w) :
    Calls Tryd.prog 9 #[.string ((num.numB n).extract 0 ((num.numB n).size - 1)), .int .i64 0] w fun e w' => e = .returned (.agg #[.int .i64 0, .int .i64 0, .int .i64 4]) ∧ Below w.heap.size w w' := by
  have k := rd.get_impl ((num.numB n).extract 0 ((num.numB n).size - 1)) 0 w (by omega) hL
  have hsz := num.numB_size h0 h1
  have hl : ((num.numB n).extract 0 ((num.numB n).size - 1)).data.toList = (num.numB n).data.toList.dropLast := by
    rw [extract_data, List.dropLast_eq_take, rd.len_size]; simp
  have hs : ((num.numB n).extract 0 ((num.numB n).size - 1)).size ≤ 8000 := by rw [ByteArray.size_extract]; omega
  rw [rd.res_cut h0 h1 hl hs] at k
  exact k
theorem text_back (u : ByteArray) (w : World) (hu : u.size ≤ 8000) (hp : (num.textB u).size + 1 ≤ 8000) (hL : as.Laid w) :
    Calls Tryd.prog 13 #[.string (sx ++ num.textB u), .int .i64 1] w fun e w' => e = .returned (.agg #[.string u, .int .i64 (((num.textB u).size : Int) + 1), .int .i64 0]) ∧ Below w.heap.size w w' := by
  have k := rd.gtext_impl (sx ++ num.textB u) 1 w (by omega) hL
  have hl : (sx ++ num.textB u).data.toList = [120] ++ (num.textB u).data.toList := by simp [ByteArray.data_append]
  have hs : (sx ++ num.textB u).size ≤ 8000 := by
    rw [ByteArray.size_append]
    have e1 : sx.size = 1 := rfl
    omega
  have hr := rd.tres_back (s := sx ++ num.textB u) (i := 1) (rest := []) hu hs (by omega) (by rw [hl, List.append_nil]; rfl)
  rw [hr] at k
  simp only [rd.ttext, rd.tat, rd.tcode, rd.textOut] at k
  rw [show (1 : Int) + ((num.textB u).size : Int) = ((num.textB u).size : Int) + 1 from by omega] at k
  exact k
theorem text_cut (u : ByteArray) (w : World) (hu : u.size ≤ 8000) (hp : (num.textB u).size + 1 ≤ 8000) (hL : as.Laid w) :
    Calls Tryd.prog 13 #[.string ((num.textB u).extract 0 ((num.textB u).size - 1)), .int .i64 0] w fun e w' => e = .returned (.agg #[.string ByteArray.empty, .int .i64 0, .int .i64 4]) ∧ Below w.heap.size w w' := by
  have k := rd.gtext_impl ((num.textB u).extract 0 ((num.textB u).size - 1)) 0 w (by omega) hL
  have hl : ((num.textB u).extract 0 ((num.textB u).size - 1)).data.toList = (num.textB u).data.toList.dropLast := by
    rw [extract_data, List.dropLast_eq_take, rd.len_size]; simp
  have hs : ((num.textB u).extract 0 ((num.textB u).size - 1)).size ≤ 8000 := by rw [ByteArray.size_extract]; omega
  rw [rd.tres_cut hu hs hl] at k
  exact k

set_option maxHeartbeats 4000000 in
set_option maxRecDepth 100000 in
theorem walk (a0 : Option Addr) (len0 cap0 : Nat) (z0 : List Int) (a1 : Option Addr) (len1 cap1 : Nat) (z1 : List Int) (w : World) (w0 : IsRow .u8 w a0 len0 cap0 z0) (w1 : IsRow .u8 w a1 len1 cap1 z1) (hL : as.Laid w) :
    Calls Tryd.prog 3 #[.slice a0 len0 cap0, .slice a1 len1 cap1] w fun e w' => e = .returned (.bool true) ∧ Below w.heap.size w w' := by
  have hB0 := bytes_of w0
  have hB1 := bytes_of w1
  by_cases h0 : (1048576 : Int) < len0
  · clear w0 w1 hB0 hB1
    go_enter Tryd.func3, Tryd.ntmps3
    go_wp2
    go_ret
    exact ⟨rfl, Below.refl _ _⟩
  have h0' : (len0 : Int) ≤ 1048576 := by omega
  clear h0
  by_cases h1 : (1048576 : Int) < len1
  · clear w0 w1 hB0 hB1
    go_enter Tryd.func3, Tryd.ntmps3
    go_wp2
    go_ret
    exact ⟨rfl, Below.refl _ _⟩
  have h1' : (len1 : Int) ≤ 1048576 := by omega
  clear h1 w0 w1
  have HB1 := Lib.hid hB1
  have HL := Lib.hid hL
  have hp := as.laid_pos hL
  have K0 := Lib.hid (drw.drawNum_any a0 len0 cap0 w (by omega) hB0)
  have hfn := fieldN
  have hft := fieldT
  clear hB0 hB1 hL
  go_enter Tryd.func3, Tryd.ntmps3
  go_wp2_with fail
  refine K0.out.mono ?_
  rintro e v1 ⟨n, rfl, hn0, hn1, hb1⟩
  have hsz := num.numB_size hn0 hn1
  have hps : 1 ≤ (num.numB n).size := num.enc_pos _
  have k1 : ∀ w, Calls Tryd.prog 7 #[.int .i64 n] w fun e w' => e = .returned (.string (num.numB n)) ∧ Below w.heap.size w w' := fun w => num.put_impl n w hn0 hn1
  have k2 : ∀ w, Calls Tryd.prog 8 #[.int .i64 n] w fun e w' => e = .returned (.string (num.numB n)) ∧ Below w.heap.size w w' := fun w => num.put_spec n w hn0 hn1
  have k3 := fun w hL => get_back n w hn0 hn1 hL
  have k4 := fun w hL => get_cut n w hn0 hn1 hL
  generalize num.numB n = t at *
  have K1 := Lib.hid k1
  have K2 := Lib.hid k2
  have K3 := Lib.hid k3
  have K4 := Lib.hid k4
  clear k1 k2 k3 k4
  have hi1 : 1 ≤ (t.size : Int) := by omega
  have hi2 : (t.size : Int) ≤ 10 := by omega
  have ha1 : sxy.size + t.size ≤ 9223372036854775807 := by have e : sxy.size = 2 := rfl; omega
  have ha2 : (sxy ++ t).size + sz.size ≤ 9223372036854775807 := by rw [ByteArray.size_append]; have e : sxy.size = 2 := rfl; have e2 : sz.size = 1 := rfl; omega
  go_wp2_with fail
  refine (K1.out _).mono ?_
  rintro e v2 ⟨rfl, hb2⟩
  have g2 := hb1.trans (hb2.mono hb1.size)
  clear hb1 hb2
  go_wp2_with fail
  refine (K2.out _).mono ?_
  rintro e v3 ⟨rfl, hb3⟩
  have g3 := g2.trans (hb3.mono g2.size)
  clear g2 hb3
  go_wp2_with fail
  refine (K3.out _ (as.laid_below HL.out g3 hp)).mono ?_
  rintro e v4 ⟨rfl, hb4⟩
  have g4 := g3.trans (hb4.mono g3.size)
  clear g3 hb4
  have g4a := g4.alloc g4.size (.cells #[Value.int .i64 n, .int .i64 ((t.size : Int) + 2), .int .i64 0] 26)
  go_wp2_with fail
  refine (K4.out _ (as.laid_below HL.out g4a hp)).mono ?_
  rintro e v5 ⟨rfl, hb5⟩
  have g5 := g4a.trans (hb5.mono g4a.size)
  clear g4 g4a hb5 ha1 ha2 K0 K1 K2 K3 K4
  go_wp2_with fail
  refine (drw.drawText_any a1 len1 cap1 _ (by omega) (bytes_below HB1.out g5)).mono ?_
  rintro e v6 ⟨u, rfl, hus, hb6⟩
  have g6 := g5.trans (hb6.mono g5.size)
  clear g5 hb6
  have k1 := fun w => num.text_impl u w
  have k2 := fun w => num.text_spec u w
  by_cases hbig : 8000 < u.size
  · rw [num.putOf_no hbig] at k1 k2
    have K1 := Lib.hid k1
    have K2 := Lib.hid k2
    clear k1 k2 hbig
    go_wp2_with fail
    refine (K1.out _).mono ?_
    rintro e v7 ⟨rfl, hb7⟩
    have g7 := g6.trans (hb7.mono g6.size)
    clear g6 hb7
    go_wp2_with fail
    refine (K2.out _).mono ?_
    rintro e v8 ⟨rfl, hb8⟩
    have g8 := g7.trans (hb8.mono g7.size)
    clear g7 hb8
    go_wp2_with fail
    refine (K2.out _).mono ?_
    rintro e v9 ⟨rfl, hb9⟩
    have g9 := g8.trans (hb9.mono g8.size)
    clear g8 hb9
    go_wp2
    go_ret
    exact ⟨rfl, g9⟩
  · have hu : u.size ≤ 8000 := by omega
    rw [num.putOf_yes hu] at k1 k2
    have k3 := fun w hp hL => text_back u w hu hp hL
    have k4 := fun w hp hL => text_cut u w hu hp hL
    have hqs := rd.textB_size u
    have hq1 : 1 ≤ (num.numB u.size).size := num.enc_pos _
    have hq2 := num.numB_size (n := u.size) (by omega) (by omega)
    generalize num.textB u = q at *
    have hne : (!q.toList.isEmpty) = true := not_empty (by omega)
    have hne2 : q.toList.isEmpty = false := by simpa using hne
    have hqi : 1 ≤ (q.size : Int) := by omega
    have hqj : (q.size : Int) ≤ 8010 := by omega
    have K1 := Lib.hid k1
    have K2 := Lib.hid k2
    have K3 := Lib.hid k3
    have K4 := Lib.hid k4
    clear k1 k2 k3 k4 hbig hqs hq1 hq2
    go_wp2_with fail
    refine (K1.out _).mono ?_
    rintro e v7 ⟨rfl, hb7⟩
    have g7 := g6.trans (hb7.mono g6.size)
    clear g6 hb7
    go_wp2_with fail
    refine (K2.out _).mono ?_
    rintro e v8 ⟨rfl, hb8⟩
    have g8 := g7.trans (hb8.mono g7.size)
    clear g7 hb8
    by_cases hover : (8000 : Int) < (q.size : Int) + 1
    · go_wp2
      go_ret
      exact ⟨rfl, g8⟩
    · have hov : (q.size : Int) + 1 ≤ 8000 := by omega
      have hov2 : q.size + 1 ≤ 8000 := by omega
      have ha1 : sx.size + q.size ≤ 9223372036854775807 := by have e : sx.size = 1 := rfl; omega
      clear hover
      go_wp2_with fail
      refine (K3.out _ hov2 (as.laid_below HL.out g8 hp)).mono ?_
      rintro e v9 ⟨rfl, hb9⟩
      have g9 := g8.trans (hb9.mono g8.size)
      clear g8 hb9
      go_wp2_with fail
      refine (K4.out _ hov2 (as.laid_below HL.out g9 hp)).mono ?_
      rintro e v10 ⟨rfl, hb10⟩
      have g10 := g9.trans (hb10.mono g9.size)
      clear g9 hb10
      go_wp2
      go_ret
      exact ⟨rfl, g10⟩

theorem contract (H : Type) (enc : TypeId × Value → H) (W : World) (base : Nat) (args : Array Value) (ds gs : List (DataW H)) (before : List MemPlace)
    (hval : ∀ (j : Nat) t v, Tryd.f3.params[j]? = some t → args[j]? = some v → Value.okWide Tryd.prog W .any base t v)
    (hW : DataW.Whole enc Tryd.prog Tryd.f3.params.toList Rows.fnNumsSpec.vars false W args.toList ds gs before) (hL : laidMetH Tryd.prog Rows.fnNumsRow.laid W) :
    Calls Tryd.prog 3 args W fun e W' => ∃ v, e = .returned v ∧ Rows.fnNumsSpec.post enc Tryd.prog Tryd.f3 false true false false W args v W' := by
  have hW' := hW
  obtain ⟨p, q, hA0, hV, rfl, hfz, hnd⟩ := hW
  have hA : DataW.TrodAll enc Tryd.prog W 0 (fun _ => true) true Tryd.f3.params.toList args.toList ds p := hA0
  rw [Tryd.params3] at hA hval
  obtain ⟨v0, vs0, d0, ds0, p0, q0, hargs, rfl, rfl, h0, r0⟩ := trodAll_cons hA
  obtain ⟨v1, vs1, d1, ds1, p1, q1, rfl, rfl, rfl, h1, r1⟩ := trodAll_cons r0
  obtain ⟨rfl, rfl, rfl⟩ := trodAll_nil r1
  obtain rfl : args = #[v0, v1] := by cases args; simp_all
  obtain ⟨rfl, rfl⟩ := trodVars_none hV
  obtain ⟨a0, len0, cap0, rfl⟩ := okWide_slice Tryd.underlying22 (hval 0 22 v0 rfl rfl)
  have k0 := h0
  have lt0 : ∀ x ∈ p0, x.block < W.heap.size := by obtain ⟨m, hm⟩ := k0; exact DataW.trod_lt m _ _ _ hm
  obtain ⟨z0, w0⟩ : ∃ zs, IsRow .u8 W a0 len0 cap0 zs := by
    obtain ⟨fuel, hf⟩ := h0
    rcases open_ints Tryd.underlying22 Tryd.underlying5 (by kernel_rfl) hf with ⟨hcs, _⟩ | ⟨x, l, c, zs, hcs, _, hl, hm, hz, _, hcell, hwz⟩
    · simp [Value.cells] at hcs
      obtain ⟨rfl, rfl, rfl⟩ := hcs
      exact ⟨[], .inl ⟨rfl, rfl, rfl, rfl⟩⟩
    · simp [Value.cells] at hcs
      obtain ⟨rfl, rfl, rfl⟩ := hcs
      exact ⟨zs, .inr ⟨_, rfl, hl, hm, by simpa using hz, hcell, hwz⟩⟩
  obtain ⟨a1, len1, cap1, rfl⟩ := okWide_slice Tryd.underlying22 (hval 1 22 v1 rfl rfl)
  have k1 := h1
  have lt1 : ∀ x ∈ p1, x.block < W.heap.size := by obtain ⟨m, hm⟩ := k1; exact DataW.trod_lt m _ _ _ hm
  obtain ⟨z1, w1⟩ : ∃ zs, IsRow .u8 W a1 len1 cap1 zs := by
    obtain ⟨fuel, hf⟩ := h1
    rcases open_ints Tryd.underlying22 Tryd.underlying5 (by kernel_rfl) hf with ⟨hcs, _⟩ | ⟨x, l, c, zs, hcs, _, hl, hm, hz, _, hcell, hwz⟩
    · simp [Value.cells] at hcs
      obtain ⟨rfl, rfl, rfl⟩ := hcs
      exact ⟨[], .inl ⟨rfl, rfl, rfl, rfl⟩⟩
    · simp [Value.cells] at hcs
      obtain ⟨rfl, rfl, rfl⟩ := hcs
      exact ⟨zs, .inr ⟨_, rfl, hl, hm, by simpa using hz, hcell, hwz⟩⟩
  clear hA0
  refine (walk a0 len0 cap0 z0 a1 len1 cap1 z1 W w0 w1 (laid_of hL)).mono fun e W' ⟨he, bel⟩ => ?_
  subst he
  exact ⟨_, rfl, _, _, _, [], _, [], hW', trodAll_mk1 (shut_bool Tryd.underlying4 _), (trodAll_cons_mk (Below.trod laidOut (by kernel_rfl) (of_decide_eq_true (by kernel_rfl)) k0 bel lt0) (trodAll_cons_mk (Below.trod laidOut (by kernel_rfl) (of_decide_eq_true (by kernel_rfl)) k1 bel lt1) trodAll_mk0)), rfl, bel.frame _, fun h => by cases h⟩

/-- a world that meets the row's list: the settled one, the variable's cell laid. -/
noncomputable def laidWorld (os : Os) : World :=
  { World.holding Tryd.prog os ⟨#[], #[], []⟩ with heap := (World.holding Tryd.prog os ⟨#[], #[], []⟩).heap.modify 0 fun
      | .cells _ t frozen => .cells #[.iface 76 (.agg #[.pointer (some ⟨1, 44, none⟩)])] t frozen
      | o => o }
theorem laid_met (os : Os) : laidMetH Tryd.prog Rows.fnNumsRow.laid ((laidWorld os).forCall (fun _ _ => 0) ⟨#[], #[.slice none 0 0, .slice none 0 0], []⟩).memory :=
  laidMetH_of_parts (laidMet_nil _ _) (by kernel_rfl)
theorem reads (os : Os) {H : Type} (enc : TypeId × Value → H) : ∃ ds places, DataW.whole enc Tryd.prog ((laidWorld os).forCall (fun _ _ => 0) ⟨#[], #[.slice none 0 0, .slice none 0 0], []⟩).memory Tryd.f3.params.toList Rows.fnNumsSpec.vars false (#[.slice none 0 0, .slice none 0 0] : Array Value).toList 8 = some (ds, [], places) :=
  ⟨[.nil, .nil], [], by kernel_rfl⟩

set_option maxRecDepth 100000 in
theorem lifted (os : Os) (started : os.Started) (H : Type) (enc : TypeId × Value → H) (F : Stop.Interp) :
    ReturnsInHanded {} Tryd.checked os 3 .any ((OpenSpec.ofChange Rows.fnNumsSpec).preRow enc Tryd.prog Tryd.f3 Rows.fnNumsRow.domain false Rows.fnNumsRow.laid) (((OpenSpec.ofChange Rows.fnNumsSpec).at F).post enc Tryd.prog Tryd.f3 false true false false) := by
  obtain ⟨ds, places, hx⟩ := reads os enc
  refine returnsInHanded_of_row (C := Tryd.checked) (s := OpenSpec.ofChange Rows.fnNumsSpec) own started (by kernel_rfl) Tryd.func3
    (witness_row_at (enc := enc) (C := Tryd.checked) false (laidWorld os) #[.slice none 0 0, .slice none 0 0] rfl (by kernel_rfl) (by kernel_rfl) (by kernel_rfl)
      (OpenSpec.preRow_of_cond 8 hx (by kernel_rfl) (fun k hk => by cases hk) (by kernel_rfl) (laid_met os))) ?_
  intro W base args ds gs before hval hW _ _ _ hL _ _
  exact contract H enc W base args ds gs before hval hW hL

theorem said : Rows.FnNumsSaid :=
  OpenClaim.holds_of_cond 3 Tryd.f3 rfl rfl rfl rfl rfl rfl rfl ⟨rfl, rfl, rfl, rfl, rfl⟩ rfl rfl rfl rfl rfl (by kernel_rfl) Tryd.func3 (by kernel_rfl)
    (of_decide_eq_true (by kernel_rfl)) (by unfold Func.isWrapper; first | (rw [if_pos (by decide +kernel)]; kernel_rfl) | (rw [if_neg (by decide +kernel)]; exact ⟨rfl, rfl⟩))
    (fun os started H enc _ F => by rw [OpenClaim.pre_eq_preRow]; exact lifted os started H enc F)

theorem plain (f : FuncId) (fn : Func) (hf : Tryd.pinned.checked.prog.funcNamed "loop.example/g00770/laws.FnNums" = some f) (hfn : Tryd.pinned.checked.prog.funcs[f]? = some fn) :
    true = Tryd.pinned.checked.prog.looks [] ∧ ∀ (j : Nat) t, fn.params[j]? = some t → Tryd.pinned.checked.prog.wantsStandIn t = false := by
  obtain rfl : f = 3 := Option.some.inj ((show Tryd.prog.funcNamed "loop.example/g00770/laws.FnNums" = some 3 by kernel_rfl).symm.trans hf) |>.symm
  obtain rfl : fn = Tryd.f3 := (Option.some.inj (Tryd.func3.symm.trans hfn)).symm
  refine ⟨by kernel_rfl, fun j t ht => ?_⟩
  rw [Tryd.params3] at ht
  have hm := Array.mem_of_getElem? ht
  have hall : ∀ t ∈ (#[22, 22] : Array TypeId), Tryd.prog.wantsStandIn t = false := by
    intro t ht
    simp at ht
    rcases ht with rfl <;> kernel_rfl
  exact hall t hm

/-- the statement -/
theorem proved : Rows.FnNumsCardSaid :=
  Claim7.holds_tied_plain_at .later [] _ _ _ _ said (fun _ h => by cases h) (by kernel_rfl) (fun _ h => by cases h) fnNums_row_tie rfl ⟨rfl, rfl⟩ (by kernel_rfl) rfl plain (by kernel_rfl)
end Go.Proofs.YtifgnebjjkjgoaaDoor.fnNums
