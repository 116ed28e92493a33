/- FnSeal, called with any two lists of bytes, tells yes, and changes nothing. No condition. -/
import Derived.Test.YtifgnebjjkjgoaaRows
import Derived.WalkKit
import Derived.ProofKit
import Derived.OpenShut
import Derived.ShutString
import Derived.ChangeOld
import Derived.Below
import Derived.Test.YtifgnebjjkjgoaaSealL
import Derived.Test.YtifgnebjjkjgoaaUnsealS
import Derived.Test.YtifgnebjjkjgoaaEqOut
import Derived.Lib.Hide
import Derived.Handy
import Derived.Deep.RegionWith
namespace Go.Proofs.Ytifgnebjjkjgoaa.fnSeal
open Go.ChangeShapes Go.WideShapes Go.ChangeAt Go.RowKit
open Go.ChangeMaps (open_string shut_string)
set_option linter.unusedVariables false

theorem own : ownKnob Try.prog.godebug = none := by kernel_rfl
theorem laidOut : laidOutB Try.prog = true := by kernel_rfl

/-- WHAT THE WALK IS TOLD OF A SLICE OF INTEGERS THAT CAME IN: it is nil; or it leads to a row of 'cap' cells, the numbers 'zs' (the first 'len' are its elements, the rest its spare room), each fitting its kind. -/
def IsRow (k : IntKind) (w : World) (a : Option Addr) (len cap : Nat) (zs : List Int) : Prop :=
  (a = none ∧ len = 0 ∧ cap = 0 ∧ zs = []) ∨
  ∃ x, a = some x ∧ len ≤ cap ∧ cap ≤ maxLen ∧ zs.length = cap ∧ (∀ i, i < zs.length → w.cell? (x.add i) = some (.int k (zs.getD i 0))) ∧ ∀ n ∈ zs, (Lit.int k n).wf = true

set_option linter.unusedSimpArgs false
open Go.Lib
theorem bytes_of {w : World} {a : Option Addr} {len cap : Nat} {z : List Int} (h : IsRow .u8 w a len cap z) : drw.Bytes w a len := by
  rcases h with ⟨rfl, rfl, _, _⟩ | ⟨x, rfl, hl, hm, hz, hcell, hwz⟩
  · intro j hj; omega
  · intro j hj
    obtain ⟨b, off, spot⟩ := x
    have hspot : spot = none := by simpa [Addr.add] using World.cell?_spot (hcell 0 (by omega))
    have hc := hcell j (by omega)
    subst hspot
    have e : (⟨b, off, none⟩ : Addr).add j = ⟨b, off + j, none⟩ := by unfold Addr.add; split <;> simp_all
    rw [e] at hc
    have hjz : j < z.length := by omega
    have hmem : z.getD j 0 ∈ z := by rw [List.getD_eq_getElem?_getD, List.getElem?_eq_getElem hjz]; exact List.getElem_mem hjz
    have hw := hwz _ hmem
    have hx : 0 ≤ z.getD j 0 ∧ z.getD j 0 ≤ 255 := by simpa [Lit.wf, IntKind.min, IntKind.max, IntKind.signed, IntKind.bits] using hw
    exact ⟨b, off, z.getD j 0, rfl, block_lt_of_cell hc, hc, hx.1, hx.2⟩
theorem bytes_below {w w' : World} {a : Option Addr} {len : Nat} (h : drw.Bytes w a len) (hb : Below w.heap.size w w') : drw.Bytes w' a len := by
  intro j hj
  obtain ⟨b, off, z, e1, e2, e3, e4⟩ := h j hj
  exact ⟨b, off, z, e1, Nat.lt_of_lt_of_le e2 hb.size, by rw [hb.cell (p := ⟨b, off + j, none⟩) e2]; exact e3, e4⟩
theorem not_empty {q : ByteArray} (h : 0 < q.size) : (!q.toList.isEmpty) = true := by
  rw [toList_data]
  cases hl : q.data.toList with
  | nil => have h2 : q.size = q.data.toList.length := size_eq q; rw [hl] at h2; rw [h2] at h; exact absurd h (by simp)
  | cons a l => rfl
theorem crc_sum (t u : ByteArray) (h : t.size + u.size ≤ 8000) : crc.moreOf (crc.moreOf 0 t) u = crc.moreOf 0 (t ++ u) := by
  have hin := seal.crc_in t
  have hs : (t ++ u).size ≤ 8000 := by rw [ByteArray.size_append]; omega
  rw [crc.moreOf_yes (c := crc.moreOf 0 t) (by omega) hin.1 hin.2, crc.moreOf_yes (s := t ++ u) hs (by omega) (by omega), crc.moreOf_yes (s := t) (by omega) (by omega) (by omega), crc.crc_goes]
  exact congrArg (crc.crcOf 0) (by simp [ByteArray.data_append])
theorem xor8 (b : UInt8) (y : Int) (h0 : 0 ≤ y) (h1 : y < 255) : ∃ x : UInt8, bits .xor .u8 (b.toNat : Int) (1 + y) = (x.toNat : Int) ∧ x ≠ b := by
  obtain ⟨Y, rfl⟩ := Int.eq_ofNat_of_zero_le h0
  have hb := b.toNat_lt
  have hlt : b.toNat ^^^ (1 + Y) < 256 := Nat.xor_lt_two_pow (n := 8) (by omega) (by omega)
  have e := u8_xor_nat b.toNat (1 + Y) (by omega) (by omega)
  refine ⟨UInt8.ofNat (b.toNat ^^^ (1 + Y)), ?_, ?_⟩
  · rw [UInt8.toNat_ofNat_of_lt' hlt, ← e]; rfl
  · intro h
    have h2 := congrArg UInt8.toNat h
    rw [UInt8.toNat_ofNat_of_lt' hlt] at h2
    have h3 := congrArg (b.toNat ^^^ ·) h2
    simp [← Nat.xor_assoc] at h3
theorem row_set {w : World} {g : Nat} {l : List UInt8} (h : seal.Row w g l) {k : Nat} (hk : k < l.length) {x : UInt8} :
    ∀ j (hj : j < (l.set k x).length), (w.setCell ⟨g, k, none⟩ (.int .u8 (x.toNat : Int))).drew.cell? ⟨g, j, none⟩ = some (.int .u8 ((l.set k x)[j].toNat : Int)) := by
  intro j hj
  have hj2 : j < l.length := by simpa using hj
  show (w.setCell ⟨g, k, none⟩ (.int .u8 (x.toNat : Int))).cell? ⟨g, j, none⟩ = _
  by_cases e : k = j
  · subst e
    have hc := h.cell k hk
    rw [World.cell?_setCell_same _ _ _ hc, List.getElem_set_self]
  · have hc := h.cell j hj2
    have h2 : (⟨g, k, none⟩ : Addr) ≠ ⟨g, j, none⟩ := fun h3 => e (congrArg Addr.off h3)
    rw [World.cell?_setCell_other, hc, List.getElem_set_ne e]
    exact h2
theorem field2 (s : ByteArray) (a c : Int) (w : World) : (Instr.field 27 (.agg #[.string s, .int .i64 a, .int .i64 c]) 2).run Try.prog w = .ok (.int .i64 c) w := by kernel_rfl
set_option maxHeartbeats 400000 in
theorem walk (a0 : Option Addr) (len0 cap0 : Nat) (z0 : List Int) (a1 : Option Addr) (len1 cap1 : Nat) (z1 : List Int) (w : World) (w0 : IsRow .u8 w a0 len0 cap0 z0) (w1 : IsRow .u8 w a1 len1 cap1 z1) :
    Calls Try.prog 3 #[.slice a0 len0 cap0, .slice a1 len1 cap1] w fun e w' => e = .returned (.bool true) ∧ Below w.heap.size w w' := by
  have hB0 := bytes_of w0
  have hB1 := bytes_of w1
  by_cases h0 : (1048576 : Int) < len0
  · clear w0 w1 hB0 hB1
    go_enter Try.func3, Try.ntmps3
    go_wp2
    go_ret
    exact ⟨rfl, Below.refl _ _⟩
  have h0' : (len0 : Int) ≤ 1048576 := by omega
  clear h0
  by_cases h1 : (1048576 : Int) < len1
  · clear w0 w1 hB0 hB1
    go_enter Try.func3, Try.ntmps3
    go_wp2
    go_ret
    exact ⟨rfl, Below.refl _ _⟩
  have h1' : (len1 : Int) ≤ 1048576 := by omega
  clear h1 w0 w1
  have HB1 := Lib.hid hB1
  have K0 := Lib.hid (drw.drawSeal_any a0 len0 cap0 w (by omega) hB0)
  clear hB0 hB1
  go_enter Try.func3, Try.ntmps3
  go_wp2_with fail
  refine K0.out.mono ?_
  rintro e v1 ⟨t, rfl, hts, hb1⟩
  have K1 := Lib.hid (seal.seal_any t)
  have K2 := Lib.hid (fun w => seal.spec_seal t w (by omega))
  have H7 : Hid (7996 < t.size → seal.sealOf t = ByteArray.empty) := Lib.hid seal.sealOf_no
  have H8 : Hid (t.size ≤ 7996 → seal.sealOf t = seal.sealed t) := Lib.hid seal.sealOf_yes
  generalize hq : seal.sealOf t = q at *
  have HQ := Lib.hid hq
  clear hq
  go_wp2_with fail
  refine (K1.out _).mono ?_
  rintro e v2 ⟨rfl, hb2⟩
  have g2 := hb1.trans (hb2.mono hb1.size)
  clear hb1 hb2
  go_wp2_with fail
  refine (K2.out _).mono ?_
  rintro e v3 ⟨rfl, hb3⟩
  have g3 := g2.trans (hb3.mono g2.size)
  clear g2 hb3
  by_cases hbig : 7996 < t.size
  · have hqe := H7.out hbig
    subst hqe
    clear H7 H8 K0 K1 K2 HQ
    go_wp2_with fail
    refine (drw.drawMore_any a1 len1 cap1 _ (by omega) (bytes_below HB1.out g3)).mono ?_
    rintro e v4 ⟨c, u, rfl, hc0, hc1, hus, hb4⟩
    have g4 := g3.trans (hb4.mono g3.size)
    clear hb4
    by_cases hover : (8000 : Int) < (t.size : Int) + (u.size : Int)
    · go_wp2
      go_ret
      exact ⟨rfl, g4⟩
    · have hover2 : (t.size : Int) + (u.size : Int) ≤ 8000 := by omega
      have hadd : t.size + u.size ≤ 9223372036854775807 := by omega
      have hgo := crc_sum t u (by omega)
      obtain ⟨m, hm⟩ : ∃ m, crc.moreOf 0 t = m := ⟨_, rfl⟩
      have KC := Lib.hid (fun w => crc.crc_any t w)
      rw [hm] at hgo KC
      obtain ⟨y, hy⟩ : ∃ y, crc.moreOf m u = y := ⟨_, rfl⟩
      have KM := Lib.hid (fun w => crc.more_any m u w)
      have KS := Lib.hid (fun w => crc.crc_any (t ++ u) w)
      rw [hy] at hgo KM
      rw [← hgo] at KS
      clear hover hm hy hgo
      go_wp2_with fail
      refine (crc.more_any c u _).mono ?_
      rintro e v5 ⟨rfl, rfl⟩
      go_wp2_with fail
      refine (crc.spec_more c u _).mono ?_
      rintro e v6 ⟨rfl, rfl⟩
      generalize crc.moreOf c u = x
      go_wp2_with fail
      refine (KC.out _).mono ?_
      rintro e v7 ⟨rfl, rfl⟩
      go_wp2_with fail
      refine (KM.out _).mono ?_
      rintro e v8 ⟨rfl, rfl⟩
      go_wp2_with fail
      refine (KS.out _).mono ?_
      rintro e v9 ⟨rfl, rfl⟩
      go_wp2
      go_ret
      exact ⟨rfl, g4⟩
  · have hsm : t.size ≤ 7996 := by omega
    have hqe := H8.out hsm
    have hqs : q.size = t.size + 4 := by rw [hqe, seal.sealed_size]
    have hne : (!q.toList.isEmpty) = true := not_empty (by omega)
    have HE := Lib.hid hqe
    have hq1 : (q.size : Int) ≤ 8000 := by omega
    have hq2 : 4 ≤ (q.size : Int) := by omega
    clear hqe hqs H7 H8 K0 K1 K2 HQ hbig
    go_wp2_with (refine seal.wpList_bytes rfl (.tmp 29) 9 22 5 rfl Try.underlying9 Try.underlying22 Try.underlying5 q rfl ?_)
    intro v4 cap hrow hlt hb4
    have g4 := g3.trans (hb4.mono g3.size)
    have hg3 := g3.size
    clear hb4
    have HR := Lib.hid hrow
    clear hrow
    go_wp2_with fail
    refine (drw.lwAt_any a1 len1 cap1 0 q.size _ (by omega) (by omega) (by omega) (by omega) (bytes_below HB1.out g4)).mono ?_
    rintro e v5 ⟨r, rfl, hr0, hr1, rfl⟩
    have hr : r < (q.size : Int) := hr1 (by omega)
    clear hr1
    go_wp2_with fail
    have hrl : r.toNat < q.data.toList.length := by rw [seal.list_len]; omega
    obtain ⟨b, hb⟩ : ∃ b, q.data.toList[r.toNat] = b := ⟨_, rfl⟩
    have cr : v4.cell? ⟨v3.heap.size, r.toNat, none⟩ = some (.int .u8 (b.toNat : Int)) := by rw [← hb]; exact HR.out.cell r.toNat hrl
    have fr := HR.out.free r.toNat hrl
    have HBq := Lib.hid hb
    clear hb
    go_region_with (go_at_call 14; refine (drw.lwAt_any a1 len1 cap1 1 255 _ (by omega) (by omega) (by omega) (by omega) ?_).mono ?_; exact bytes_below HB1.out (by first | exact g4 | exact g4.drew); rintro e v6 ⟨y, rfl, hy0, hy1, rfl⟩)
    all_goals
      go_wp2_with fail
      obtain ⟨x, hx, hxb⟩ := xor8 b y hy0 (hy1 (by omega))
      rw [hx]
      have g5 := (g4.setCell (p := ⟨v3.heap.size, r.toNat, none⟩) hg3 (.int .u8 (x.toNat : Int))).drew
      have hlt5 : v3.heap.size < (v4.setCell ⟨v3.heap.size, r.toNat, none⟩ (.int .u8 (x.toNat : Int))).drew.heap.size := by show _ < (v4.setCell _ _).heap.size; simpa [World.setCell] using hlt
      have hcell : ∀ j (h : j < (q.data.toList.set r.toNat x).length), (v4.setCell ⟨v3.heap.size, r.toNat, none⟩ (.int .u8 (x.toNat : Int))).drew.cell? ⟨v3.heap.size, j, none⟩ = some (.int .u8 ((q.data.toList.set r.toNat x)[j].toNat : Int)) := row_set HR.out hrl
      have HC := Lib.hid hcell
      have hturn := seal.told_turned (t := t) (b := ⟨(q.data.toList.set r.toNat x).toArray⟩) (k := r.toNat) (x := x) hsm (by rw [← HE.out]; omega) (by rw [← HE.out]) (by rw [← HE.out, List.getElem?_eq_getElem hrl, HBq.out]; intro h; exact hxb (Option.some.inj h).symm)
      have htold := seal.told_sealed hsm
      rw [← HE.out] at htold
      have k1 := fun w => seal.unseal_any q w
      have k2 := fun w => seal.unseal_any ⟨(q.data.toList.set r.toNat x).toArray⟩ w
      rw [htold] at k1
      rw [hturn] at k2
      unfold seal.textOut at k1 k2
      have K1 := Lib.hid k1
      have K2 := Lib.hid k2
      have hsz : (q.data.toList.set r.toNat x).length = q.size := by rw [List.length_set]; rfl
      have HSZ := Lib.hid hsz
      clear k1 k2 htold hturn hcell hx hxb cr fr hsz hy0 hy1
      generalize q.data.toList.set r.toNat x = l at *
      generalize (v4.setCell ⟨v3.heap.size, r.toNat, none⟩ (.int .u8 (x.toNat : Int))).drew = v5 at *
      refine (K1.out _).mono ?_
      rintro e v6 ⟨rfl, hb6⟩
      have g6 := g5.trans (hb6.mono g5.size)
      have hcv : (convert 22 9 (.slice (some ⟨v3.heap.size, 0, none⟩) q.size cap)).run Try.prog v6 = .ok (.string ⟨l.toArray⟩) v6 := by
        rw [← HSZ.out]
        refine run_convert_bytes_back v6 _ _ 5 ⟨v3.heap.size, 0, none⟩ cap l Try.underlying22 Try.underlying5 Try.underlying9 (fun j hj => ?_)
        have e : (⟨v3.heap.size, 0, none⟩ : Addr).add j = ⟨v3.heap.size, j, none⟩ := by simp [Addr.add]; exact fun h => h.symm
        rw [e, hb6.cell (p := ⟨v3.heap.size, j, none⟩) hlt5]
        exact HC.out j hj
      clear hb6 g5 g4
      have hfld := field2
      go_wp2_with fail
      refine (K2.out _).mono ?_
      rintro e v7 ⟨rfl, hb7⟩
      have g7 := g6.trans (hb7.mono g6.size)
      clear hb7 g6
      go_wp2_with fail
      refine (drw.drawMore_any a1 len1 cap1 _ (by omega) (bytes_below HB1.out g7)).mono ?_
      rintro e v4 ⟨c, u, rfl, hc0, hc1, hus, hb4⟩
      have g4 := g7.trans (hb4.mono g7.size)
      clear hb4
      by_cases hover : (8000 : Int) < (t.size : Int) + (u.size : Int)
      · go_wp2
        go_ret
        exact ⟨rfl, g4⟩
      · have hover2 : (t.size : Int) + (u.size : Int) ≤ 8000 := by omega
        have hadd : t.size + u.size ≤ 9223372036854775807 := by omega
        have hgo := crc_sum t u (by omega)
        obtain ⟨m, hm⟩ : ∃ m, crc.moreOf 0 t = m := ⟨_, rfl⟩
        have KC := Lib.hid (fun w => crc.crc_any t w)
        rw [hm] at hgo KC
        obtain ⟨y, hy⟩ : ∃ y, crc.moreOf m u = y := ⟨_, rfl⟩
        have KM := Lib.hid (fun w => crc.more_any m u w)
        have KS := Lib.hid (fun w => crc.crc_any (t ++ u) w)
        rw [hy] at hgo KM
        rw [← hgo] at KS
        clear hover hm hy hgo
        go_wp2_with fail
        refine (crc.more_any c u _).mono ?_
        rintro e v5 ⟨rfl, rfl⟩
        go_wp2_with fail
        refine (crc.spec_more c u _).mono ?_
        rintro e v6 ⟨rfl, rfl⟩
        generalize crc.moreOf c u = x
        go_wp2_with fail
        refine (KC.out _).mono ?_
        rintro e v7 ⟨rfl, rfl⟩
        go_wp2_with fail
        refine (KM.out _).mono ?_
        rintro e v8 ⟨rfl, rfl⟩
        go_wp2_with fail
        refine (KS.out _).mono ?_
        rintro e v9 ⟨rfl, rfl⟩
        go_wp2
        go_ret
        exact ⟨rfl, g4⟩

/-! ### THE ROW's STEP: WRITTEN OUT: LEAVE IT -/
set_option maxRecDepth 100000 in
theorem lifted (os : Os) (started : os.Started) (H : Type) (enc : TypeId × Value → H) :
    ReturnsInHanded {} Try.checked os 3 .any (Rows.fnSealSpec.pre6 enc Try.prog Try.f3 Rows.fnSealRow.domain false) (Rows.fnSealSpec.post enc Try.prog Try.f3 false true false false) := by
  refine returnsInHanded_of_change (C := Try.checked) own started (by kernel_rfl) Try.func3
    (ChangeSpec.witness6 (enc := enc) (C := Try.checked) false ⟨#[], #[.slice none 0 0, .slice none 0 0], []⟩ 8 (by kernel_rfl) (by kernel_rfl) (by kernel_rfl) (by kernel_rfl)) ?_
  intro W base args ds gs before hval0 hW hcnd _
  have hval : ∀ (j : Nat) t v, Try.f3.params[j]? = some t → args[j]? = some v → Value.okWide Try.prog W .any base t v := hval0
  have hW' := hW
  obtain ⟨p, q, hA0, hV, rfl, hfz, hnd⟩ := hW
  have hA : DataW.TrodAll enc Try.prog W 0 (fun _ => true) true Try.f3.params.toList args.toList ds p := hA0
  rw [Try.params3] at hA hval
  obtain ⟨v0, vs0, d0, ds0, p0, q0, hargs, rfl, rfl, h0, r0⟩ := trodAll_cons hA
  obtain ⟨v1, vs1, d1, ds1, p1, q1, rfl, rfl, rfl, h1, r1⟩ := trodAll_cons r0
  obtain ⟨rfl, rfl, rfl⟩ := trodAll_nil r1
  obtain rfl : args = #[v0, v1] := by cases args; simp_all
  obtain ⟨rfl, rfl⟩ := trodVars_none hV
  obtain ⟨a0, len0, cap0, rfl⟩ := okWide_slice Try.underlying22 (hval 0 22 v0 rfl rfl)
  have k0 := h0
  have lt0 : ∀ x ∈ p0, x.block < W.heap.size := by obtain ⟨m, hm⟩ := k0; exact DataW.trod_lt m _ _ _ hm
  obtain ⟨z0, w0⟩ : ∃ zs, IsRow .u8 W a0 len0 cap0 zs := by
    obtain ⟨fuel, hf⟩ := h0
    rcases open_ints Try.underlying22 Try.underlying5 (by kernel_rfl) hf with ⟨hcs, _⟩ | ⟨x, l, c, zs, hcs, _, hl, hm, hz, _, hcell, hwz⟩
    · simp [Value.cells] at hcs
      obtain ⟨rfl, rfl, rfl⟩ := hcs
      exact ⟨[], .inl ⟨rfl, rfl, rfl, rfl⟩⟩
    · simp [Value.cells] at hcs
      obtain ⟨rfl, rfl, rfl⟩ := hcs
      exact ⟨zs, .inr ⟨_, rfl, hl, hm, by simpa using hz, hcell, hwz⟩⟩
  obtain ⟨a1, len1, cap1, rfl⟩ := okWide_slice Try.underlying22 (hval 1 22 v1 rfl rfl)
  have k1 := h1
  have lt1 : ∀ x ∈ p1, x.block < W.heap.size := by obtain ⟨m, hm⟩ := k1; exact DataW.trod_lt m _ _ _ hm
  obtain ⟨z1, w1⟩ : ∃ zs, IsRow .u8 W a1 len1 cap1 zs := by
    obtain ⟨fuel, hf⟩ := h1
    rcases open_ints Try.underlying22 Try.underlying5 (by kernel_rfl) hf with ⟨hcs, _⟩ | ⟨x, l, c, zs, hcs, _, hl, hm, hz, _, hcell, hwz⟩
    · simp [Value.cells] at hcs
      obtain ⟨rfl, rfl, rfl⟩ := hcs
      exact ⟨[], .inl ⟨rfl, rfl, rfl, rfl⟩⟩
    · simp [Value.cells] at hcs
      obtain ⟨rfl, rfl, rfl⟩ := hcs
      exact ⟨zs, .inr ⟨_, rfl, hl, hm, by simpa using hz, hcell, hwz⟩⟩
  clear hA0 hval0
  refine (walk a0 len0 cap0 z0 a1 len1 cap1 z1 W w0 w1).mono fun e W' ⟨he, bel⟩ => ?_
  subst he
  exact ⟨_, rfl, _, _, _, [], _, [], hW', trodAll_mk1 (shut_bool Try.underlying4 _), (trodAll_cons_mk (Below.trod laidOut (by kernel_rfl) (of_decide_eq_true (by kernel_rfl)) k0 bel lt0) (trodAll_cons_mk (Below.trod laidOut (by kernel_rfl) (of_decide_eq_true (by kernel_rfl)) k1 bel lt1) trodAll_mk0)), rfl, bel.frame _, fun h => by cases h⟩

theorem over : Rows.fnSealRow.holds Try.pinned (OpenSpec.ofChange Rows.fnSealSpec) :=
  OpenClaim.holds_of_wide 3 Try.f3 rfl rfl rfl rfl rfl rfl rfl ⟨rfl, rfl, rfl, rfl, rfl⟩ rfl rfl rfl rfl rfl (by kernel_rfl) Try.func3 (by kernel_rfl)
    (of_decide_eq_true (by kernel_rfl)) (by unfold Func.isWrapper; first | (rw [if_pos (by decide +kernel)]; kernel_rfl) | (rw [if_neg (by decide +kernel)]; exact ⟨rfl, rfl⟩))
    (fun os started H enc _ => lifted os started H enc)

/-- ████ THE STATEMENT ████ -/
theorem proved : Rows.FnSealSaid := over
end Go.Proofs.Ytifgnebjjkjgoaa.fnSeal
