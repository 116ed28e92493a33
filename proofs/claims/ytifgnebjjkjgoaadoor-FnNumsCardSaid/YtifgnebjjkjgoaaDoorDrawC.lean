/- The source of draws: how it is made out of bytes; a text of it. -/
import Derived.Test.YtifgnebjjkjgoaaDoorRows
import Derived.Test.YtifgnebjjkjgoaaDoorDrawB
import Derived.Test.YtifgnebjjkjgoaaDoorPutNumA
import Derived.WalkKit
import Derived.Lib.Hide
import Derived.ProofKit
import Derived.WalkSpells
import Derived.Handy
import Derived.WalkSmall
import Derived.BigQuiet
import Derived.BigRegion
import Derived.Deep.QuietTactic
namespace Go.Proofs.YtifgnebjjkjgoaaDoor.drw
open Go.ChangeShapes Go.WideShapes Go.ChangeAt Go.RowKit Go.Lib
set_option linter.unusedVariables false
set_option linter.unusedSimpArgs false

def ToldS (g : Nat) (n : Int) (w : World) (e : Ending) (w' : World) : Prop := ∃ s : ByteArray, e = .returned (.string s) ∧ (s.size : Int) ≤ n ∧ HasSrc g w' ∧ Grw g w w'

theorem own_below {w w' : World} {base : Nat} {e : TypeId} {v : Value} {n : Nat} {xs : List Value} (h : w.ownsRow base e 1 v n xs) {g : Nat} (ho : Only g w w') (hg : g < base) : w'.ownsRow base e 1 v n xs := by
  obtain ⟨h1, h2 | ⟨r, cap, cur, hv, hb, hr, h3⟩⟩ := h
  · exact ⟨h1, .inl h2⟩
  · exact ⟨h1, .inr ⟨r, cap, cur, hv, hb, by rw [ho.block _ (by omega)]; exact hr, h3⟩⟩
theorem grw_grown {g : Nat} {w0 w w' : World} {row : Option Nat} (h : Grw g w0 w) (hg : w.grownBy w' row) (hr : ∀ k, row = some k → w0.heap.size ≤ k) : Grw g w0 w' :=
  ⟨hg.os.trans h.os, hg.tape.trans h.tape, hg.output.trans h.output, Nat.le_trans h.size hg.size, fun k hk hne => (hg.block k (Nat.lt_of_lt_of_le hk h.size) (fun e => by have := hr k e.symm; omega)).trans (h.block k hk hne)⟩
theorem has_grown {g : Nat} {w w' : World} {row : Option Nat} (hs : HasSrc g w) (hg : w.grownBy w' row) (hr : ∀ k, row = some k → g < k) : HasSrc g w' := by
  have hlt := has_lt hs
  obtain ⟨a, len, cap, at', mix, size, hs⟩ := hs
  refine ⟨a, len, cap, at', mix, size, ?_, hs.lo, hs.hi, hs.small, fun j hj => ?_⟩
  · rw [hg.block g hlt (fun e => by have := hr g e.symm; omega)]; exact hs.row
  · obtain ⟨b, off, z, e1, e2, e3, e4⟩ := hs.bytes j hj
    refine ⟨b, off, z, e1, e2, ?_, e4⟩
    rw [World.cell?_of_block (hg.block b (block_lt_of_cell e3) (fun e => by have := hr b e.symm; omega))]; exact e3

set_option maxHeartbeats 1000000 in
theorem bytes_any (g : Nat) (n : Int) (w : World) (h0 : 0 ≤ n) (hn : n ≤ 1000000) (hs : HasSrc g w) :
    Calls Tryd.prog 26 #[.pointer (some ⟨g, 0, none⟩), .int .i64 n] w (ToldS g n w) := by
  obtain ⟨i0, hi, hz0, hz1, hz2⟩ := info_parts str.info_u8
  have hg := has_lt hs
  have HS := Lib.hid hs
  clear hs
  go_enter Tryd.func26, Tryd.ntmps26
  go_wp2
  go_loopw [5, 6] (fun v i wr => ∃ (k : Nat) (l : List UInt8), (k : Int) ≤ n ∧ i = .int .i64 k ∧ l.length = k ∧ wr.ownsRow w.heap.size 5 1 v l.length (byteCells l) ∧ HasSrc g wr ∧ Grw g w wr) (fun _ i _ => (n - intOf i).toNat)
  case atStart => exact ⟨0, [], by omega, rfl, rfl, num.own_start _ _, has_alloc HS.out _, (Grw.refl _ _).alloc _⟩
  case round =>
    obtain ⟨k, l, hk, rfl, hl, hown, hs, hgr⟩ := hrel
    have HS2 := Lib.hid hs
    have HL := Lib.hid hl
    have hll : l.length ≤ 1000000 := by omega
    have hw := hgr.size
    clear hs hl
    by_cases hlt : (k : Int) < n
    · go_wp2_with fail
      refine (n_any g 256 _ (by omega) HS2.out).mono ?_
      rintro e w2 ⟨r, rfl, hr0, hr1, _, hs3, ho⟩
      have hr : r < 256 := hr1 (by omega)
      have hown2 := own_below hown ho hg
      have hgr2 := hgr.trans ho.grw
      have HS3 := Lib.hid hs3
      have hw2 := hgr2.size
      obtain ⟨c, hc⟩ : ∃ c : UInt8, (c.toNat : Int) = r := ⟨UInt8.ofNat r.toNat, by rw [UInt8.toNat_ofNat_of_lt' (by change _ < 256; omega)]; omega⟩
      have HC := Lib.hid hc
      have hc256 : (c.toNat : Int) = r % 256 := by omega
      have HC2 := Lib.hid hc256
      clear hs3 hown hgr hr1 hc hc256 ho HS2
      go_wp2_with (at_builtin; refine wpList_append_own _ rfl (.tmp 13) (.tmp 17) 22 rfl w.heap.size 5 i0 (.int .u8 0) 1 1 Tryd.underlying22 hi hz0 hz1 hz2 rfl (by decide) _ _ _ rfl (hown2.alloc _) ⟨w2.heap.size, 0, none⟩ 1 1 (byteCells [c]) rfl rfl ?c1 ?c2 ?c3 ?c4 ?c5 ?_)
      case c1 => exact num.one_cell _ _ _ _ HC.out.symm
      case c2 => exact byteCells_one _
      case c3 => unfold maxLen; omega
      case c4 => omega
      case c5 => simp; omega
      intro v' w3 hown1 hgrow1 _
      have hrow := num.own_block hown2
      have hgr3 := grw_grown (hgr2.alloc (.cells #[Value.int .u8 r] 5)) hgrow1 hrow
      have HS4 := Lib.hid (has_grown (has_alloc HS3.out (.cells #[Value.int .u8 r] 5)) hgrow1 (fun k hk => by have := hrow k hk; omega))
      have hown3 := num.own_snoc hown1
      clear hown1 hgrow1 hown2 hrow HS3
      go_wp2
      go_roundw
      case rel => exact ⟨k + 1, l ++ [c], by omega, by go_num, by rw [List.length_append, HL.out]; rfl, hown3, HS4.out, hgr3⟩
      case measure => simp [intOf]; omega
    · have hstr := num.own_string hown
      clear hown
      go_wp2
      go_ret
      exact ⟨_, rfl, by have : (⟨l.toArray⟩ : ByteArray).size = l.length := rfl; rw [this, HL.out]; omega, HS2.out, hgr⟩

theorem row3 {w : World} {g : Nat} {s a b c v : Value} {T : TypeId} (h : w.heap[g]? = some (.cells #[s, a, b, c] T (0, 0))) : (w.setCell ⟨g, 3, none⟩ v).heap[g]? = some (.cells #[s, a, b, v] T (0, 0)) := by
  rw [heap_setCell_same _ _ _ _ _ _ h]; rfl

/-- bytes that came in. -/
def Bytes (w : World) (a : Option Addr) (len : Nat) : Prop := ∀ j, j < len → ∃ b off z, a = some ⟨b, off, none⟩ ∧ b < w.heap.size ∧ w.cell? ⟨b, off + j, none⟩ = some (.int .u8 z) ∧ 0 ≤ z ∧ z ≤ 255
def ToldP (w : World) (e : Ending) (w' : World) : Prop := ∃ g, e = .returned (.pointer (some ⟨g, 0, none⟩)) ∧ w.heap.size ≤ g ∧ HasSrc g w' ∧ Below w.heap.size w w'

set_option maxHeartbeats 1000000 in
theorem source_any (a : Option Addr) (len cap : Nat) (w : World) (hl : len ≤ 1048576) (hb : Bytes w a len) :
    Calls Tryd.prog 18 #[.slice a len cap] w (ToldP w) := by
  have HB := Lib.hid hb
  clear hb
  go_enter Tryd.func18, Tryd.ntmps18
  go_wp2
  go_loopw [4] (fun i wr => ∃ (k : Nat) (mix : Int), k ≤ len ∧ i = .int .i64 k ∧ wr.heap[w.heap.size]? = some (.cells #[.slice a len cap, .int .i64 0, .int .u64 mix, .int .i64 0] 54 (0, 0)) ∧ Below w.heap.size w wr) (fun i _ => len - (intOf i).toNat)
  case atStart => exact ⟨0, 88172645463325252, Nat.zero_le _, rfl, heap_alloc_new _ _, (Below.refl _ _).alloc (Nat.le_refl _) _⟩
  case round =>
    obtain ⟨k, mix, hk, rfl, hrow, hbl⟩ := hrel
    have c2 : wr.cell? ⟨w.heap.size, 2, none⟩ = some (.int .u64 mix) := by rw [cell_of_row _ _ _ _ _ _ hrow]; rfl
    have c3 : wr.cell? ⟨w.heap.size, 3, none⟩ = some (.int .i64 0) := by rw [cell_of_row _ _ _ _ _ _ hrow]; rfl
    have f2 := frozen_of_row _ _ 2 _ _ hrow
    have f3 := frozen_of_row _ _ 3 _ _ hrow
    have HR := Lib.hid hrow
    clear hrow
    by_cases hlt : k < len ∧ k < 64
    · obtain ⟨h1, h2⟩ := hlt
      obtain ⟨b, off, z, rfl, hbg, hz, hz0, hz1⟩ := HB.out k h1
      have hzr : wr.cell? ⟨b, off + k, none⟩ = some (.int .u8 z) := by rw [hbl.cell (p := ⟨b, off + k, none⟩) hbg]; exact hz
      have h64 : (k : Int) < 64 := by omega
      clear hz
      go_wp2
      go_region
      go_wp2
      go_roundw
      case rel => exact ⟨k + 1, _, by omega, by go_num, row1 HR.out undef, (hbl.setCell (p := ⟨w.heap.size, 2, none⟩) (Nat.le_refl _) _).drew⟩
      case measure => simp [intOf]; omega
    · have hw : w.heap.size < wr.heap.size := (Array.getElem?_eq_some_iff.1 HR.out).1
      have hend : ∀ (x : Int) (W : World), W.heap[w.heap.size]? = some (.cells #[.slice a len cap, .int .i64 0, .int .u64 mix, .int .i64 x] 54 (0, 0)) → Below w.heap.size w W → HasSrc w.heap.size W := fun x W h hbW =>
        ⟨a, len, cap, 0, mix, x, h, Int.le_refl _, by omega, hl, fun j hj => by
          obtain ⟨b, off, z, e1, e2, e3, e4⟩ := HB.out j hj
          exact ⟨b, off, z, e1, e2, by rw [hbW.cell (p := ⟨b, off + j, none⟩) e2]; exact e3, e4⟩⟩
      have HE := Lib.hid hend
      have hcol := fun W v1 v2 => setCell_twice W ⟨w.heap.size, 3, none⟩ v1 v2
      clear hend
      have hways : (len : Int) ≤ (k : Int) ∨ (k : Int) < (len : Int) ∧ 64 ≤ (k : Int) := by omega
      clear hlt
      rcases hways with hk1 | ⟨hk1, hk2⟩
      all_goals
        go_wp2
      all_goals go_ret
      all_goals exact ⟨w.heap.size, rfl, Nat.le_refl _, HE.out _ _ (row3 HR.out) (hbl.setCell (p := ⟨w.heap.size, 3, none⟩) (Nat.le_refl _) _), hbl.setCell (p := ⟨w.heap.size, 3, none⟩) (Nat.le_refl _) _⟩
end Go.Proofs.YtifgnebjjkjgoaaDoor.drw
