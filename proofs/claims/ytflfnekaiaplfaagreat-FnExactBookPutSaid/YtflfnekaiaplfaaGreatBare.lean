/- Addresses copied; Bare, of the program and of the model. Bare, of the program and of the model. -/
import Derived.Test.YtflfnekaiaplfaaGreatOwn
import Derived.Test.YtflfnekaiaplfaaGreatAdJ
import Derived.Test.YtflfnekaiaplfaaGreatDigN
import Derived.Test.YtflfnekaiaplfaaGreatShelf
import Derived.Outline
import Derived.Deep.RegionHeld3
namespace Go.Proofs.YtflfnekaiaplfaaGreat.bare
open ad mem own
open Go.ChangeShapes Go.WideShapes Go.ChangeAt Go.RowKit Go.Lib
set_option linter.unusedVariables false
set_option maxRecDepth 8000
set_option linter.unusedSimpArgs false

/-- an address of the call's own. -/
def Made (w : World) (d : AddrD) (e : Ending) (w' : World) : Prop := ∃ A c, e = .returned (.agg #[.slice A d.path.length c, .string d.typ, .string d.nam, .int .i64 d.kind, .int .i64 d.n, .string d.key]) ∧ Own w' w.heap.size (.slice A d.path.length c) d.path ∧ Below w.heap.size w w'
def zeroD : AddrD := ⟨[], ByteArray.empty, ByteArray.empty, 0, 0, ByteArray.empty⟩
noncomputable def bareD (d : AddrD) : AddrD := if addrB d then ⟨d.path, d.typ, d.nam, 0, 0, ByteArray.empty⟩ else zeroD
theorem bare_no {d : AddrD} (h : addrB d = false) : bareD d = zeroD := by simp [bareD, h]
theorem bare_yes {d : AddrD} (h : addrB d = true) : bareD d = ⟨d.path, d.typ, d.nam, 0, 0, ByteArray.empty⟩ := by simp [bareD, h]

theorem clone_any (s : ByteArray) (w : World) (hs : s.size ≤ 281474976710656) :
    Calls Tryz.prog 104 #[.string s] w fun e w' => e = .returned (.string s) ∧ Below w.heap.size w w' := by
  go_enter Tryz.func104, Tryz.ntmps104
  go_wp2_with (go_at_call 108; refine (Tryz.stringslite_Clone s _ hs).mono ?_; rintro _ w1 ⟨rfl, hb⟩; have HB := Lib.hid hb; clear hb)
  go_ret
  exact ⟨rfl, HB.out⟩

theorem Blk.set_ {w : World} {g : Nat} {T : TypeId} {cs : Array Value} (h : Blk w g T cs) (i : Nat) (u : Value) : Blk (w.setCell ⟨g, i, none⟩ u) g T (cs.setIfInBounds i u) := by
  unfold Blk at h ⊢
  simp [World.setCell, Array.getElem?_modify, h]

set_option maxHeartbeats 2000000 in
theorem copy_impl (A : Option Addr) (c : Nat) (d : AddrD) (w : World) (h : Strs w A d.path) (hl : d.path.length ≤ 1000000) (ht : d.typ.size ≤ 281474976710656) (hn : d.nam.size ≤ 281474976710656) (hk : d.key.size ≤ 281474976710656) (hp : ∀ k (h : k < d.path.length), d.path[k].size ≤ 281474976710656) :
    Calls Tryz.prog 93 #[.agg #[.slice A d.path.length c, .string d.typ, .string d.nam, .int .i64 d.kind, .int .i64 d.n, .string d.key]] w (Made w d) := by
  have H := Lib.hid h
  have HP := Lib.hid hp
  have HT := Lib.hid (And.intro ht (And.intro hn hk))
  clear h hp ht hn hk
  go_enter Tryz.func93, Tryz.ntmps93
  go_wp2
  go_loopw [3, 9] (fun v i wr => ∃ (k : Nat), k ≤ d.path.length ∧ i = .int .i64 k ∧ Own wr (w.heap.size + 1 + 1) v (d.path.take k) ∧ Below w.heap.size w wr ∧ Blk wr w.heap.size 37 #[.slice A d.path.length c, .string d.typ, .string d.nam, .int .i64 d.kind, .int .i64 d.n, .string d.key] ∧ Blk wr (w.heap.size + 1) 37 #[.slice none 0 0, .string ByteArray.empty, .string ByteArray.empty, .int .i64 0, .int .i64 0, .string ByteArray.empty] ∧ w.heap.size + 1 + 1 ≤ wr.heap.size) (fun _ i _ => d.path.length - (RowKit.intOf i).toNat)
  case atStart => exact ⟨0, Nat.zero_le _, rfl, Own.nil _ _, below_a2 _ _ _, (Blk.new w _ _).alloc _, Blk.new1 w _ _ _, by simp⟩
  case round =>
    obtain ⟨k, hk, rfl, hown, hb, hq, hq2, hzz⟩ := hrel
    have HO := Lib.hid hown
    have E1 := Lib.hid hb
    have Q1 := Lib.hid hq
    have P1 := Lib.hid hq2
    clear hown hb hq hq2
    by_cases hlt : k < d.path.length
    · obtain ⟨b, o, rfl, hbg, hc, _⟩ := H.out k hlt
      have hcr : wr.cell? ⟨b, o + k, none⟩ = some (.string d.path[k]) := by rw [E1.out.cell (p := ⟨b, o + k, none⟩) hbg]; exact hc
      clear hc
      go_wp2_with fail
      refine (clone_any d.path[k] _ (HP.out k hlt)).mono ?_
      rintro _ w2 ⟨rfl, hb⟩
      have HO2 := Lib.hid ((HO.out.step hb).alloc (.cells #[Value.string d.path[k]] 9))
      have E2 := Lib.hid (below_then E1.out hb (Nat.le_refl _))
      have Q2 := Lib.hid (Q1.out.step hb)
      have P2 := Lib.hid (P1.out.step hb)
      have hz2 : w.heap.size + 1 + 1 ≤ w2.heap.size := Nat.le_trans hzz hb.size
      have SN := Lib.hid ((show Row (w2.alloc (.cells #[Value.string d.path[k]] 9)) w2.heap.size [d.path[k]] from Blk.new w2 9 #[Value.string d.path[k]]).strs (fun j hj => by
        have : j = 0 := by simpa using hj
        subst this; exact Nat.le_trans (HP.out k hlt) (by decide)))
      clear hb hcr HO E1 Q1 P1
      go_wp2_with (at_builtin; refine wpList_append rfl (.tmp 13) (.tmp 16) rfl (w.heap.size + 1 + 1) _ (d.path.take k) rfl HO2.out (some ⟨w2.heap.size, 0, none⟩) 1 [d.path[k]] rfl SN.out ?c1 ?c2 ?_)
      case c1 => simp; omega
      case c2 => simp; omega
      intro v' w3 ho hg
      have hr := HO2.out.row
      have E3 := Lib.hid ((below_da E2.out (Nat.le_refl _) _).grown hg (by simp; omega) (fun q hq => by have := (hr q hq).1; omega))
      have Q3 := Lib.hid (blk_grown (Q2.out.alloc _) hg (fun e => by have := (hr _ e).1; omega))
      have P3 := Lib.hid (blk_grown (P2.out.alloc _) hg (fun e => by have := (hr _ e).1; omega))
      have hz3 : w.heap.size + 1 + 1 ≤ w3.heap.size := by have := hg.size; simp at this; omega
      have HO3 : Hid (Own w3 (w.heap.size + 1 + 1) v' (d.path.take (k + 1))) := by
        show Own _ _ _ _
        first | exact ho | (rw [List.take_succ_eq_append_getElem hlt]; exact ho)
      clear ho hg hr
      go_wp2
      go_roundw
      case rel => exact ⟨k + 1, hlt, by go_num, HO3.out, E3.out, Q3.out, P3.out, hz3⟩
      case measure => simp [RowKit.intOf]; omega
    · obtain rfl : k = d.path.length := by omega
      rw [List.take_length] at HO
      obtain ⟨B, cp, rfl⟩ := HO.out.form
      have q1 := Q1.out.cell
      have f1 := Q1.out.free
      have O1 := HO
      have hz1 := hzz
      clear HO hzz
      go_wp2_with fail
      refine (clone_any d.typ _ HT.out.1).mono ?_
      rintro _ w5 ⟨rfl, hb⟩
      have O5 := Lib.hid ((O1.out.far (p := ⟨w.heap.size, 0, none⟩) (by simp; omega) _).step hb)
      have E5 := Lib.hid (below_then (E1.out.setCell (p := ⟨w.heap.size, 0, none⟩) (Nat.le_refl _) _) hb (Nat.le_refl _))
      have Q5 := Lib.hid ((Blk.set_ Q1.out 0 _).step hb)
      have P5 := Lib.hid ((P1.out.far (p := ⟨w.heap.size, 0, none⟩) (by simp) _).step hb)
      have q5 := Q5.out.cell
      have f5 := Q5.out.free
      have hz5 : w.heap.size + 1 + 1 ≤ w5.heap.size := Nat.le_trans (by simpa using hz1) hb.size
      clear hb q1 f1 hz1
      go_wp2_with fail
      refine (clone_any d.nam _ HT.out.2.1).mono ?_
      rintro _ w6 ⟨rfl, hb⟩
      have O6 := Lib.hid ((O5.out.far (p := ⟨w.heap.size, 1, none⟩) (by simp; omega) _).step hb)
      have E6 := Lib.hid (below_then (E5.out.setCell (p := ⟨w.heap.size, 1, none⟩) (Nat.le_refl _) _) hb (Nat.le_refl _))
      have Q6 := Lib.hid ((Blk.set_ Q5.out 1 _).step hb)
      have P6 := Lib.hid ((P5.out.far (p := ⟨w.heap.size, 1, none⟩) (by simp) _).step hb)
      have q6 := Q6.out.cell
      have f6 := Q6.out.free
      have hz6 : w.heap.size + 1 + 1 ≤ w6.heap.size := Nat.le_trans (by simpa using hz5) hb.size
      clear hb q5 f5 hz5
      go_wp2_with fail
      refine (clone_any d.key _ HT.out.2.2).mono ?_
      rintro _ w7 ⟨rfl, hb⟩
      have O7 := Lib.hid ((O6.out.far (p := ⟨w.heap.size, 2, none⟩) (by simp; omega) _).step hb)
      have E7 := Lib.hid (below_then (E6.out.setCell (p := ⟨w.heap.size, 2, none⟩) (Nat.le_refl _) _) hb (Nat.le_refl _))
      have Q7 := Lib.hid ((Blk.set_ Q6.out 2 _).step hb)
      have P7 := Lib.hid ((P6.out.far (p := ⟨w.heap.size, 2, none⟩) (by simp) _).step hb)
      have q7 := Q7.out.cell
      have f7 := Q7.out.free
      have hz7 : w.heap.size + 1 + 1 ≤ w7.heap.size := Nat.le_trans (by simpa using hz6) hb.size
      clear hb q6 f6 hz6
      have p7 := P7.out.cell
      have g7 := P7.out.free
      go_wp2
      refine bodyPost_ret (v := .agg #[.slice B d.path.length cp, .string d.typ, .string d.nam, .int .i64 d.kind, .int .i64 d.n, .string d.key]) (by simp [results, Tryz.results93, go_sem, q7, f7, p7, g7]) rfl ⟨B, cp, rfl, ?_, ?_⟩
      · refine Own.mono (base := w.heap.size + 1 + 1) ?_ (by omega)
        iterate 7 refine Own.far ?_ (by simp <;> omega) _
        exact O7.out
      · repeat (refine Below.setCell ?_ (by simp <;> omega) _)
        exact E7.out
end Go.Proofs.YtflfnekaiaplfaaGreat.bare
namespace Go.Proofs.YtflfnekaiaplfaaGreat.bare
open ad mem own
open Go.ChangeShapes Go.WideShapes Go.ChangeAt Go.RowKit Go.Lib
set_option linter.unusedVariables false
set_option linter.unusedSimpArgs false

theorem own_new (W : World) (g base : Nat) (hg : W.heap.size = g) (hb : base ≤ g) : Own (W.alloc (.cells #[] 9)) base (.slice (some ⟨g, 0, none⟩) 0 0) [] := by
  subst hg
  exact ⟨rfl, .inr ⟨W.heap.size, 0, #[], rfl, hb, heap_alloc_new W _, Nat.le_refl _, Nat.zero_le _, rfl, rfl⟩⟩
theorem Blk.drewN {w : World} {g : Nat} {T : TypeId} {cs : Array Value} (h : Blk w g T cs) (n : Nat) : Blk (w.drewN n) g T cs := h

end Go.Proofs.YtflfnekaiaplfaaGreat.bare
