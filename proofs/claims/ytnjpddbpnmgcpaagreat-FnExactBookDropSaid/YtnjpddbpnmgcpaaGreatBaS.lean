/- BookAt of the model. -/
import Derived.Test.YtnjpddbpnmgcpaaGreatCtS
import Derived.Test.YtnjpddbpnmgcpaaGreatBaI
namespace Go.Proofs.YtnjpddbpnmgcpaaGreat.cf
open ad mem vl ex un cm
open Go.ChangeShapes Go.WideShapes Go.ChangeAt Go.RowKit Go.Lib
set_option linter.unusedVariables false
set_option maxRecDepth 8000
set_option linter.unusedSimpArgs false


theorem at_cases (xs : List (List DC)) (a : AddrD) : (∃ (k : Nat) (h : k < xs.length), atI xs a = k ∧ atX xs a = xs[k]) ∨ (atI xs a = -1 ∧ atX xs a = zT) := by
  cases hf : xs.findIdx? (fun ds => adl.eqA (bA ds) a) with
  | none =>
    refine .inr ⟨by unfold atI; rw [hf], atX_miss fun y hy => ?_⟩
    have := List.findIdx?_eq_none_iff.1 hf y hy
    simpa using this
  | some k =>
    obtain ⟨hk, h1, h2⟩ := List.findIdx?_eq_some_iff_getElem.1 hf
    refine .inl ⟨k, hk, by unfold atI; rw [hf], ?_⟩
    have : xs.find? (fun d => adl.eqA (bA d) a) = some xs[k] := List.find?_eq_some_iff_getElem.2 ⟨h1, k, hk, rfl, fun j hj => by have := h2 j hj; simpa using this⟩
    unfold atX; rw [this]
set_option maxHeartbeats 4000000 in
theorem bookAt_spec {B B' : Nat → Prop} {n m c : Nat} {w : World} {xs : List (List DC)} {A : Option Addr} {ds : List DC} {vs : List Value} {X : List DC} (hX : bookAtX xs (bA ds) = X) (h : Cell B n w (.l 8) (.l xs) (.slice A xs.length c)) (h' : Cells B' m w shAddr_ ds vs) :
    Calls Tryz.prog 8 #[.slice A xs.length c, .agg vs.toArray] w (fun e w' => ∃ us : List Value, e = .returned (.agg us.toArray) ∧ Cells (fun x => w.heap.size ≤ x) 2 w' shThing_ X us ∧ Below w.heap.size w w') := by
  subst hX
  have hxl := h.len.2
  unfold maxLen at hxl
  have H := Lib.hid (Gd.of1 h)
  have HA := Lib.hid (Gd.ofC h')
  obtain ⟨a, ha⟩ : ∃ a, bA ds = a := ⟨_, rfl⟩
  rw [ha]
  obtain ⟨lr0, sr1, sr2, xr3, xr4, sr5, A', c', rfl, rfl, -⟩ := open_Addr h'
  have HD := Lib.hid ha
  have E0 := Lib.hid (below_a2 w (.cells #[.slice A' lr0.length c', .string sr1, .string sr2, .int .i64 xr3, .int .i64 xr4, .string sr5] 28) (.cells #[.slice none 0 0, .string ⟨#[]⟩, .string ⟨#[]⟩, .int .i64 0, .int .i64 0, .string ⟨#[]⟩, .slice none 0 0, .slice none 0 0] 32))
  have B0 := Lib.hid ((Blk.new w 28 #[.slice A' lr0.length c', .string sr1, .string sr2, .int .i64 xr3, .int .i64 xr4, .string sr5]).alloc (.cells #[.slice none 0 0, .string ⟨#[]⟩, .string ⟨#[]⟩, .int .i64 0, .int .i64 0, .string ⟨#[]⟩, .slice none 0 0, .slice none 0 0] 32))
  have P0 := Lib.hid (Blk.new1 w (.cells #[.slice A' lr0.length c', .string sr1, .string sr2, .int .i64 xr3, .int .i64 xr4, .string sr5] 28) 32 #[.slice none 0 0, .string ⟨#[]⟩, .string ⟨#[]⟩, .int .i64 0, .int .i64 0, .string ⟨#[]⟩, .slice none 0 0, .slice none 0 0])
  have KC := fun (W : World) (hW : Below w.heap.size w W) (r : Int) (hr : atI xs a = r) => Lib.hid (at_spec HD.out hr (H.out.below hW).now (HA.out.below hW).now)
  have KB := fun (W : World) (hW : Below w.heap.size w W) (r : Bool) (hr : bookB xs = r) => Lib.hid (book_spec hr (H.out.below hW).now)
  clear h h' ha
  rcases at_cases xs a with ⟨k, hk, e1, e2⟩ | ⟨e1, e2⟩
  · cases hbk : bookB xs
    · have HX : Hid (bookAtX xs a = zT) := by show _ = _; simp [bookAtX, hbk]
      go_enter Tryz.func8, Tryz.ntmps8
      go_wp2_with fail
      refine (KC _ E0.out _ e1).out.mono ?_
      rintro _ w1 ⟨rfl, hb⟩
      have E1 := Lib.hid (below_then E0.out hb (Nat.le_refl _))
      have P1 := Lib.hid (P0.out.step hb)
      clear hb
      go_wp2_with fail
      refine (KB _ E1.out _ hbk).out.mono ?_
      rintro _ w2 ⟨rfl, hb⟩
      have E2 := Lib.hid (below_then E1.out hb (Nat.le_refl _))
      have P2 := Lib.hid (P1.out.step hb)
      have p2 := P2.out.cell
      have f2 := P2.out.free
      have z2 := P2.out.lt
      clear hb
      go_wp2
      refine bodyPost_ret (v := .agg #[.slice none 0 0, .string ⟨#[]⟩, .string ⟨#[]⟩, .int .i64 0, .int .i64 0, .string ⟨#[]⟩, .slice none 0 0, .slice none 0 0]) (by simp [results, Tryz.results8, go_sem, p2, f2]; try rfl) rfl ⟨[.slice none 0 0, .string ⟨#[]⟩, .string ⟨#[]⟩, .int .i64 0, .int .i64 0, .string ⟨#[]⟩, .slice none 0 0, .slice none 0 0], rfl, ?_, ?_⟩
      · rw [HX.out]
        exact Cells.monoB (zero_owns 2 _ (fun _ => False)).cells (fun _ h _ => h.elim)
      · iterate 8 refine Below.setCell ?_ (by simp <;> omega) _
        exact E2.out
    · obtain ⟨hok1, hok2, _⟩ := bookB_iff.1 hbk
      have HG := Lib.hid (hok2 k hk)
      have HX : Hid (bookAtX xs a = xs[k]) := by show _ = _; rw [← e2]; simp [bookAtX, hbk]
      have hkI : (k : Int) < xs.length := by omega
      obtain ⟨m2, b, o, us, hm2, rfl, _, hbl, hr, hin⟩ := H.out.now.item k hk
      obtain ⟨d, hd⟩ : ∃ d, xs[k] = d := ⟨_, rfl⟩
      rw [hd] at hin HG HX
      obtain ⟨lq0, sq1, sq2, xq3, xq4, sq5, lq6, lq7, Aq0, cq0, Aq6, cq6, Aq7, cq7, rfl, rfl, -⟩ := open_Thing hin
      have HC := Lib.hid (Gd.ofC hin)
      have KT := fun (W : World) (hW : Below w.heap.size w W) => Lib.hid (l05Copy_spec HG.out (HC.out.below hW).now)
      have HR := Lib.hid (show w.rangeAt b (o + k * 8) _ from hr)
      have HBL := Lib.hid hbl
      clear hin hr hm2 hd e2
      go_enter Tryz.func8, Tryz.ntmps8
      go_wp2_with fail
      refine (KC _ E0.out _ e1).out.mono ?_
      rintro _ w1 ⟨rfl, hb⟩
      have E1 := Lib.hid (below_then E0.out hb (Nat.le_refl _))
      have P1 := Lib.hid (P0.out.step hb)
      clear hb e1
      go_wp2_with fail
      refine (KB _ E1.out _ hbk).out.mono ?_
      rintro _ w2 ⟨rfl, hb⟩
      have E2 := Lib.hid (below_then E1.out hb (Nat.le_refl _))
      have P2 := Lib.hid (P1.out.step hb)
      have R2 := Lib.hid (range_below HR.out E2.out HBL.out)
      clear hb
      go_wp2_with (refine wpList_load_mid rfl 32 (.tmp 19) rfl b (o + k * 8) rfl _ _ R2.out Tryz.underlying32 rfl (by kernel_rfl) ?_)
      refine (KT _ E2.out).out.mono ?_
      rintro _ w4 ⟨A1, c1, A6, c6, A7, c7, rfl, ho, hb⟩
      have E4 := Lib.hid (below_then E2.out hb (Nat.le_refl _))
      have P4 := Lib.hid (P2.out.step hb)
      have p4 := P4.out.cell
      have f4 := P4.out.free
      have z4 := P4.out.lt
      have HO := Lib.hid ho
      have s2 := E2.out.size
      have q2 := P2.out.lt
      have HAG := Lib.hid (agree8 (w := w4) (g := w.heap.size + 1) (.slice A1 lq0.length c1) (.string sq1) (.string sq2) (.int .i64 xq3) (.int .i64 xq4) (.string sq5) (.slice A6 lq6.length c6) (.slice A7 lq7.length c7))
      clear ho hb
      go_wp2
      refine bodyPost_ret (v := .agg #[.slice A1 lq0.length c1, .string sq1, .string sq2, .int .i64 xq3, .int .i64 xq4, .string sq5, .slice A6 lq6.length c6, .slice A7 lq7.length c7]) (by simp [results, Tryz.results8, go_sem, p4, f4]; try rfl) rfl ⟨[.slice A1 lq0.length c1, .string sq1, .string sq2, .int .i64 xq3, .int .i64 xq4, .string sq5, .slice A6 lq6.length c6, .slice A7 lq7.length c7], rfl, ?_, ?_⟩
      · rw [HX.out]
        have hag := HAG.out
        obtain ⟨W9, hW9⟩ : ∃ W9, ((((((((w4.setCell ⟨w.heap.size + 1, 0, none⟩ (.slice A1 lq0.length c1)).setCell ⟨w.heap.size + 1, 1, none⟩ (.string sq1)).setCell ⟨w.heap.size + 1, 2, none⟩ (.string sq2)).setCell ⟨w.heap.size + 1, 3, none⟩ (.int .i64 xq3)).setCell ⟨w.heap.size + 1, 4, none⟩ (.int .i64 xq4)).setCell ⟨w.heap.size + 1, 5, none⟩ (.string sq5)).setCell ⟨w.heap.size + 1, 6, none⟩ (.slice A6 lq6.length c6)).setCell ⟨w.heap.size + 1, 7, none⟩ (.slice A7 lq7.length c7)) = W9 := ⟨_, rfl⟩
        rw [hW9] at hag ⊢
        exact Cells.monoB (Cells.agree HO.out (hag.mono fun b hb => by omega)) (fun b h1 _ => by omega)
      · iterate 8 refine Below.setCell ?_ (by simp <;> omega) _
        exact E4.out
  · have HX : Hid (bookAtX xs a = zT) := by show _ = _; simp [bookAtX, e2]
    cases hbk : bookB xs
    all_goals
      go_enter Tryz.func8, Tryz.ntmps8
      go_wp2_with fail
      refine (KC _ E0.out _ e1).out.mono ?_
      rintro _ w1 ⟨rfl, hb⟩
      have E1 := Lib.hid (below_then E0.out hb (Nat.le_refl _))
      have P1 := Lib.hid (P0.out.step hb)
      clear hb
      go_wp2_with fail
      refine (KB _ E1.out _ hbk).out.mono ?_
      rintro _ w2 ⟨rfl, hb⟩
      have E2 := Lib.hid (below_then E1.out hb (Nat.le_refl _))
      have P2 := Lib.hid (P1.out.step hb)
      have p2 := P2.out.cell
      have f2 := P2.out.free
      have z2 := P2.out.lt
      clear hb
      go_wp2
      refine bodyPost_ret (v := .agg #[.slice none 0 0, .string ⟨#[]⟩, .string ⟨#[]⟩, .int .i64 0, .int .i64 0, .string ⟨#[]⟩, .slice none 0 0, .slice none 0 0]) (by simp [results, Tryz.results8, go_sem, p2, f2]; try rfl) rfl ⟨[.slice none 0 0, .string ⟨#[]⟩, .string ⟨#[]⟩, .int .i64 0, .int .i64 0, .string ⟨#[]⟩, .slice none 0 0, .slice none 0 0], rfl, ?_, ?_⟩
      · rw [HX.out]
        exact Cells.monoB (zero_owns 2 _ (fun _ => False)).cells (fun _ h _ => h.elim)
      · iterate 8 refine Below.setCell ?_ (by simp <;> omega) _
        exact E2.out
end Go.Proofs.YtnjpddbpnmgcpaaGreat.cf
