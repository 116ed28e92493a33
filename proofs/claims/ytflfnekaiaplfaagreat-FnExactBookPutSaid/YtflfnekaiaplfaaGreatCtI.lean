/- Things copied by the program. -/
import Derived.Test.YtflfnekaiaplfaaGreatCpS
import Derived.Test.YtflfnekaiaplfaaGreatBoL
import Derived.Deep.RegionHeld3
namespace Go.Proofs.YtflfnekaiaplfaaGreat.cf
open ad mem vl ex un cm
open Go.ChangeShapes Go.WideShapes Go.ChangeAt Go.RowKit Go.Lib
set_option linter.unusedVariables false
set_option maxRecDepth 8000
set_option linter.unusedSimpArgs false


theorem strs_canon {B : Nat → Prop} {n : Nat} {w : World} {xs : List (List DC)} {v : Value} (h : Cell B n w (.l 0) (.l xs) v) : dS (bStrs xs) = xs := by
  apply List.ext_getElem (by simp [dS, bStrs])
  intro k h1 h2
  obtain ⟨X', A, c, e1, rfl, _⟩ := h.lst
  injection e1 with e1; subst e1
  obtain ⟨m', b, o, us, _, _, _, _, _, hin⟩ := h.item k h2
  obtain ⟨d0, ds0, v0, vs0, e2, e3, g1, g2⟩ := All3.cons (show Cells B m' w [.s] xs[k] us from hin)
  obtain ⟨rfl, rfl⟩ := All3.nil g2
  obtain ⟨s, rfl, _⟩ := g1.str
  simp [dS, bStrs, e2, bS]
theorem dA_bA {B : Nat → Prop} {n : Nat} {w : World} {ds : List DC} {vs : List Value} (h : Cells B n w shAddr_ ds vs) : dA (bA ds) = ds := by
  obtain ⟨l0, s1, s2, x3, x4, s5, A0, c0, rfl, rfl, k0, -⟩ := open_Addr h
  have e := strs_canon k0
  simp only [dA, bA, bI, bS, bL]
  simp [e]
theorem pair_parts' {p : List DC} (h : pairB p = true) : wordB (namP p) = true ∧ valB (bV (p.drop 1)) = true := by
  unfold pairB at h
  simp only [Bool.and_eq_true] at h
  exact h
theorem need_right' {a : AddrD} {d : List DC} (h : needB a d = true) : addrB (bA d) = true := by
  unfold needB at h
  simp only [Bool.and_eq_true] at h
  exact h.1
theorem th_parts' {d : List DC} (h : thB d = true) : addrB (bA d) = true ∧ pairsOk (bL (d.getD 6 z)) ∧ needsOk (bA d) (bL (d.getD 7 z)) := by
  unfold thB at h
  simp only [Bool.and_eq_true] at h
  exact ⟨h.1.1, by have := h.1.2; unfold pairsB at this; simpa using this, by have := h.2; unfold needsB at this; simpa using this⟩
theorem val_small {v : ValD} (h : valB v = true) : v.text.size ≤ 1000000 := by
  simp only [valB, Bool.or_eq_true, Bool.and_eq_true, beq_iff_eq, decide_eq_true_eq] at h
  rcases h with ⟨_, h⟩ | ⟨⟨_, _⟩, h⟩
  · omega
  · have := (tB_iff.1 h).1; omega
theorem copyAddr_r {B : Nat → Prop} {n : Nat} {w : World} {ds : List DC} {vs : List Value} {a : AddrD} (hD : bA ds = a) (hr : addrB a = true) (h : Cells B n w shAddr_ ds vs) :
    Calls Tryz.prog 93 #[.agg vs.toArray] w (bare.Made w a) := by
  have hs := small_of hr
  exact copy_prog hD h (by have := hs.len; omega) (by have := hs.typ; omega) (by have := hs.nam; omega) (by have := hs.key; omega) (fun k hk => by have := hs.path k hk; omega)
theorem l02Copy_r {B : Nat → Prop} {n : Nat} {w : World} {ds : List DC} {vs : List Value} {a : AddrD} (hD : bA ds = a) (hr : addrB a = true) (h : Cells B n w shAddr_ ds vs) :
    Calls Tryz.prog 72 #[.agg vs.toArray] w (bare.Made w a) := by
  have hs := small_of hr
  exact copy_spec hD h (by have := hs.len; omega)
set_option maxHeartbeats 1000000 in
theorem copyValue_r (x y : Int) (s : ByteArray) (w : World) (hs : s.size ≤ 1000000) :
    Calls Tryz.prog 105 #[.agg #[.int .i64 x, .int .i64 y, .string s]] w (un.Told w (.agg #[.int .i64 x, .int .i64 y, .string s])) := by
  go_enter Tryz.func105, Tryz.ntmps105
  go_wp2_with fail
  refine (bare.clone_any s _ (by omega)).mono ?_
  rintro _ w1 ⟨rfl, hb⟩
  have E1 := Lib.hid (below_then (below_a2 _ _ _) hb (Nat.le_refl _))
  have B1 := Lib.hid (((Blk.new w _ _).alloc _).step hb)
  have P1 := Lib.hid ((Blk.new1 w _ _ _).step hb)
  have b1 := B1.out.cell
  have p1 := P1.out.cell
  have f1 := B1.out.free
  have g1 := P1.out.free
  have z1 := B1.out.lt
  have z2 := P1.out.lt
  clear hb
  go_wp2
  refine bodyPost_ret (v := .agg #[.int .i64 x, .int .i64 y, .string s]) (by simp [results, Tryz.results105, go_sem, p1, g1, b1, f1]; try rfl) rfl ⟨rfl, ?_⟩
  repeat (first | exact E1.out | refine Below.setCell ?_ (by simp <;> omega) _)
set_option maxHeartbeats 2000000 in
theorem copyPair_r (s0 : ByteArray) (x y : Int) (s3 : ByteArray) (w : World) (h0 : s0.size ≤ 1000000) (h3 : s3.size ≤ 1000000) :
    Calls Tryz.prog 95 #[.agg #[.string s0, .int .i64 x, .int .i64 y, .string s3]] w (un.Told w (.agg #[.string s0, .int .i64 x, .int .i64 y, .string s3])) := by
  have KC := fun (W : World) => Lib.hid (bare.clone_any s0 W (by omega))
  have KV := fun (W : World) => Lib.hid (copyValue_r x y s3 W h3)
  go_enter Tryz.func95, Tryz.ntmps95
  go_wp2_with fail
  have E0 := Lib.hid (below_a2 w (.cells #[.string s0, .int .i64 x, .int .i64 y, .string s3] 86) (.cells #[.string ⟨#[]⟩, .int .i64 0, .int .i64 0, .string ⟨#[]⟩] 86))
  have B0 := Lib.hid ((Blk.new w 86 #[.string s0, .int .i64 x, .int .i64 y, .string s3]).alloc (.cells #[.string ⟨#[]⟩, .int .i64 0, .int .i64 0, .string ⟨#[]⟩] 86))
  have P0 := Lib.hid (Blk.new1 w (.cells #[.string s0, .int .i64 x, .int .i64 y, .string s3] 86) 86 #[.string ⟨#[]⟩, .int .i64 0, .int .i64 0, .string ⟨#[]⟩])
  obtain ⟨W0, hW0⟩ : ∃ W0, (w.alloc (.cells #[.string s0, .int .i64 x, .int .i64 y, .string s3] 86)).alloc (.cells #[.string ⟨#[]⟩, .int .i64 0, .int .i64 0, .string ⟨#[]⟩] 86) = W0 := ⟨_, rfl⟩
  rw [hW0] at E0 B0 P0 ⊢
  have b0 := B0.out.cell
  have p0 := P0.out.cell
  have f0 := P0.out.free
  have z0 := P0.out.lt
  clear hW0
  go_region_held3 (fun w' => w'.cell? ⟨w.heap.size, 0, none⟩ = some (.string s0) ∧ w'.cell? ⟨w.heap.size, 1, none⟩ = some (.int .i64 x) ∧ w'.cell? ⟨w.heap.size, 2, none⟩ = some (.int .i64 y) ∧ w'.cell? ⟨w.heap.size, 3, none⟩ = some (.string s3)) (go_keep)
    (first
    | (go_at_call 104; refine (KC _).out.mono ?_; rintro _ w1 ⟨rfl, hb⟩; have hbb := below_then (below_d W0 _) hb (Nat.le_refl _); have E1 := Lib.hid (below_then E0.out hbb (Nat.le_refl _)); have B1 := Lib.hid (B0.out.step hbb); have P1 := Lib.hid (P0.out.step hbb); have b1 := B1.out.cell; have p1 := P1.out.cell; have f1 := P1.out.free; have z1 := P1.out.lt; clear hb hbb)
    | (go_at_call 105; refine (KV _).out.mono ?_; rintro _ w2 ⟨rfl, hb⟩; have hbb := below_then (Below.refl _ w1) hb (Nat.le_refl _); have E2 := Lib.hid (below_then E1.out hbb (Nat.le_refl _)); have B2 := Lib.hid (B1.out.step hbb); have P2 := Lib.hid (P1.out.step hbb); have b2 := B2.out.cell; have p2 := P2.out.cell; have f2 := P2.out.free; have z2 := P2.out.lt; clear hb hbb))
  clear KC KV
  all_goals (try go_wp2)
  refine bodyPost_ret (v := .agg #[.string s0, .int .i64 x, .int .i64 y, .string s3]) (by simp [results, Tryz.results95, go_sem, p2, f2, b2]; try rfl) rfl ⟨rfl, ?_⟩
  repeat (first | exact E2.out | refine below_dn ?_ _ | refine Below.setCell ?_ (by simp <;> omega) _)
theorem info_pair : (Tryz.prog.info? 86).map (fun i => (i.zero, i.size, i.bytes)) = some (some (.agg #[.string ByteArray.empty, .int .i64 0, .int .i64 0, .string ByteArray.empty]), 4, 48) := by kernel_rfl
theorem inf_pair : Inf Tryz.prog 38 86 (sh 7).length := by
  obtain ⟨i0, hi, hz0, hz1, hz2⟩ := info_parts info_pair
  exact ⟨Tryz.underlying38, i0, _, 48, hi, hz0, hz1, hz2, rfl, by decide, by omega⟩
set_option maxHeartbeats 4000000 in
theorem transform_pairs {B : Nat → Prop} {n c : Nat} {w : World} {xs : List (List DC)} {A : Option Addr} (hp : pairsOk xs) (h : Cell B n w (.l 7) (.l xs) (.slice A xs.length c)) :
    Calls Tryz.prog 94 #[.slice A xs.length c, .func (.func 95) #[] #[]] w fun e w' => ∃ v, e = .returned v ∧ Bag 1 w' w.heap.size 86 7 v xs ∧ Below w.heap.size w w' := by
  have H := Lib.hid (Gd.of1 h)
  have HP := Lib.hid hp.2.1
  have hP4 : xs.length ≤ 4 := hp.1
  clear h hp
  go_enter Tryz.func94, Tryz.ntmps94
  go_wp2
  go_loopw [5, 10] (fun v i wr => ∃ k : Nat, k ≤ xs.length ∧ i = .int .i64 k ∧ Bag 1 wr w.heap.size 86 7 v (xs.take k) ∧ Below w.heap.size w wr) (fun _ i _ => xs.length - (RowKit.intOf i).toNat)
  case atStart => exact ⟨0, by omega, rfl, Bag.nil _ _ _ _ _, Below.refl _ _⟩
  case round =>
    obtain ⟨k, hk, rfl, hbag, hb⟩ := hrel
    have HG := Lib.hid hbag
    have E1 := Lib.hid hb
    have hz1 := hb.size
    clear hbag hb
    by_cases hlt : k < xs.length
    · obtain ⟨m', b, o, us, hm, rfl, _, hbl, hr, hin⟩ := (H.out.below E1.out).now.item k hlt
      obtain ⟨hw1, hw2⟩ := pair_parts' (HP.out k hlt)
      have HTK := Lib.hid (List.take_succ_eq_append_getElem hlt)
      obtain ⟨pd, hpd⟩ : ∃ pd, xs[k] = pd := ⟨_, rfl⟩
      rw [hpd] at hw1 hw2 hin HTK
      obtain ⟨sp0, xp1, xp2, sp3, rfl, rfl, g0, g1, g2, g3⟩ := open_Pair hin
      have en : namP [.s sp0, .i xp1, .i xp2, .s sp3] = sp0 := rfl
      have eV : bV (([.s sp0, .i xp1, .i xp2, .s sp3] : List DC).drop 1) = ⟨xp1, xp2, sp3⟩ := rfl
      rw [en] at hw1; rw [eV] at hw2
      have hns := txt.word_size hw1
      have hvs := val_small hw2
      have K := fun (W : World) => Lib.hid (copyPair_r sp0 xp1 xp2 sp3 W (by omega) hvs)
      have HR := Lib.hid (show wr.rangeAt b (o + k * 4) _ from hr)
      have HC4 := Lib.hid (And.intro g0 (And.intro g1 (And.intro g2 g3)))
      have hkI : (k : Int) < xs.length := by omega
      clear hr hin hm hw1 hw2 en eV hpd g0 g1 g2 g3 hns hvs
      go_wp2_with (refine wpList_load_mid rfl 86 (.tmp 12) rfl b (o + k * 4) rfl _ _ HR.out Tryz.underlying86 rfl (by kernel_rfl) ?_)
      refine (K _).out.mono ?_
      clear K
      rintro _ w2 ⟨rfl, hb⟩
      have hb2 := below_then (below_a1 wr _) hb (Nat.le_refl _)
      have HB2 := Lib.hid hb2
      have E2 := Lib.hid (below_then E1.out hb2 (Nat.le_refl _))
      have HRW := Lib.hid HG.out.row
      have hz2 : w.heap.size ≤ w2.heap.size := Nat.le_trans hz1 hb2.size
      have hlenX : (xs.take k).length ≤ 100 := by rw [List.length_take]; omega
      clear hb hb2
      go_wp2_with (at_builtin; refine wpList_bag1 rfl inf_pair (.tmp 14) (.tmp 18) rfl (w := wr) (w1 := w2) (base := w.heap.size) (F2 := Rg wr.heap.size w2.heap.size) (us := [.string sp0, .int .i64 xp1, .int .i64 xp2, .string sp3]) (ds := [.s sp0, .i xp1, .i xp2, .s sp3]) rfl HG.out HB2.out hz1 rfl ?hg ?hown ?hF ?hsm ?_)
      case hg => rfl
      case hsm => omega
      case hF => exact fun x hx => hx
      case hown => exact Owns.s HC4.out.1 (Owns.i HC4.out.2.1 (Owns.i HC4.out.2.2.1 (Owns.s HC4.out.2.2.2 (Owns.nil _ _ _))))
      intro v' w3 hbag' hg
      have E3 := Lib.hid (grown_below (below_da E2.out (Nat.le_refl _) _) hg (by simp <;> omega) (fun q hq => (HRW.out q hq).1))
      have HG3 : Hid (Bag 1 w3 w.heap.size 86 7 v' (xs.take (k + 1))) := by
        show Bag _ _ _ _ _ _ _
        rw [HTK.out]
        exact hbag'
      clear hbag' hg hlenX
      go_wp2
      go_roundw
      case rel => exact ⟨k + 1, by omega, by go_num, HG3.out, E3.out⟩
      case measure => simp [RowKit.intOf]; omega
    · obtain rfl : k = xs.length := by omega
      have HG' := HG
      rw [List.take_length] at HG'
      clear HG hk hlt
      go_wp2
      go_ret
      exact ⟨_, rfl, HG'.out, E1.out⟩
set_option maxHeartbeats 4000000 in
theorem transform_addrs {B : Nat → Prop} {n c : Nat} {w : World} {xs : List (List DC)} {A : Option Addr} (hl : xs.length ≤ 400) (hp : ∀ i (h : i < xs.length), addrB (bA xs[i]) = true) (h : Cell B n w (.l 2) (.l xs) (.slice A xs.length c)) :
    Calls Tryz.prog 96 #[.slice A xs.length c, .func (.func 93) #[] #[]] w fun e w' => ∃ v, e = .returned v ∧ Bag 1 w' w.heap.size 37 2 v xs ∧ Below w.heap.size w w' := by
  have H := Lib.hid (Gd.of1 h)
  have HP := Lib.hid hp
  clear h hp
  go_enter Tryz.func96, Tryz.ntmps96
  go_wp2
  go_loopw [5, 10] (fun v i wr => ∃ k : Nat, k ≤ xs.length ∧ i = .int .i64 k ∧ Bag 1 wr w.heap.size 37 2 v (xs.take k) ∧ Below w.heap.size w wr) (fun _ i _ => xs.length - (RowKit.intOf i).toNat)
  case atStart => exact ⟨0, by omega, rfl, Bag.nil _ _ _ _ _, Below.refl _ _⟩
  case round =>
    obtain ⟨k, hk, rfl, hbag, hb⟩ := hrel
    have HG := Lib.hid hbag
    have E1 := Lib.hid hb
    have hz1 := hb.size
    clear hbag hb
    by_cases hlt : k < xs.length
    · obtain ⟨m', b, o, us, hm, rfl, _, hbl, hr, hin⟩ := (H.out.below E1.out).now.item k hlt
      have hrt := HP.out k hlt
      have HTK := Lib.hid (List.take_succ_eq_append_getElem hlt)
      obtain ⟨pd, hpd⟩ : ∃ pd, xs[k] = pd := ⟨_, rfl⟩
      rw [hpd] at hrt hin HTK
      have hcan := dA_bA hin
      have hsz := sz_of hin
      have HI := Lib.hid (Gd.ofC hin)
      obtain ⟨lp0, sp1, sp2, xp3, xp4, sp5, Ap0, cp0, rfl, rfl, -⟩ := open_Addr hin
      obtain ⟨d, hd⟩ : ∃ d, bA [.l lp0, .s sp1, .s sp2, .i xp3, .i xp4, .s sp5] = d := ⟨_, rfl⟩
      rw [hd] at hrt hcan hsz
      have K := fun (W : World) (hW : Below wr.heap.size wr W) => Lib.hid (copyAddr_r hd hrt (HI.out.below hW).now)
      have HR := Lib.hid (show wr.rangeAt b (o + k * 6) _ from hr)
      have HSZ := Lib.hid hsz
      have HCN := Lib.hid hcan
      have hkI : (k : Int) < xs.length := by omega
      clear hr hin hm hpd hsz hcan hrt HI hd
      go_wp2_with (refine wpList_load_mid rfl 37 (.tmp 12) rfl b (o + k * 6) rfl _ _ HR.out Tryz.underlying37 rfl (by kernel_rfl) ?_)
      refine (K _ (below_a1 _ _)).out.mono ?_
      clear K
      rintro _ w2 ⟨A', c', rfl, ho, hb⟩
      have hb2 := below_then (below_a1 wr _) hb (Nat.le_refl _)
      have HB2 := Lib.hid hb2
      have E2 := Lib.hid (below_then E1.out hb2 (Nat.le_refl _))
      have HRW := Lib.hid HG.out.row
      have HO := Lib.hid ho
      have hz2 : w.heap.size ≤ w2.heap.size := Nat.le_trans hz1 hb2.size
      have hlenX : (xs.take k).length ≤ 400 := by rw [List.length_take]; omega
      clear hb hb2 ho
      go_wp2_with (at_builtin; refine wpList_bag1 rfl inf_addr (.tmp 14) (.tmp 18) rfl (w := wr) (w1 := w2) (base := w.heap.size) (F2 := Rg (wr.heap.size + 1) w2.heap.size) (us := [.slice A' d.path.length c', .string d.typ, .string d.nam, .int .i64 d.kind, .int .i64 d.n, .string d.key]) (ds := dA d) rfl HG.out HB2.out hz1 rfl ?hg ?hown ?hF ?hsm ?_)
      case hg => rfl
      case hsm => omega
      case hF => exact fun x hx => ⟨by have := hx.1; omega, hx.2⟩
      case hown => exact (own_addr HO.out HSZ.out).monoF (fun x hx => ⟨by have := hx.1; simpa using this, hx.2⟩)
      intro v' w3 hbag' hg
      have E3 := Lib.hid (grown_below (below_da E2.out (Nat.le_refl _) _) hg (by simp <;> omega) (fun q hq => (HRW.out q hq).1))
      have HG3 : Hid (Bag 1 w3 w.heap.size 37 2 v' (xs.take (k + 1))) := by
        show Bag _ _ _ _ _ _ _
        rw [HTK.out, ← HCN.out]
        exact hbag'
      clear hbag' hg hlenX
      go_wp2
      go_roundw
      case rel => exact ⟨k + 1, by omega, by go_num, HG3.out, E3.out⟩
      case measure => simp [RowKit.intOf]; omega
    · obtain rfl : k = xs.length := by omega
      have HG' := HG
      rw [List.take_length] at HG'
      clear HG hk hlt
      go_wp2
      go_ret
      exact ⟨_, rfl, HG'.out, E1.out⟩
theorem join_owns {n : Nat} {w : World} {F1 F2 F3 F : Nat → Prop} {ks1 : List CK} {ds1 : List DC} {vs1 : List Value} {k2 k3 : CK} {d2 d3 : DC} {v2 v3 : Value} (h1 : Owns n w F1 ks1 ds1 vs1) (h2 : un.Own n w F2 k2 d2 v2) (h3 : un.Own n w F3 k3 d3 v3)
    (f1 : ∀ x, F1 x → F x) (f2 : ∀ x, F2 x → F x) (f3 : ∀ x, F3 x → F x) (d12 : ∀ x, F1 x → F2 x → False) (d13 : ∀ x, F1 x → F3 x → False) (d23 : ∀ x, F2 x → F3 x → False) :
    Owns n w F (ks1 ++ [k2, k3]) (ds1 ++ [d2, d3]) (vs1 ++ [v2, v3]) := by
  have h23 : Owns n w (fun x => F2 x ∨ F3 x) [k2, k3] [d2, d3] [v2, v3] := Owns.cons h2 (Owns.of1 h3) (fun x => .inl) (fun x => .inr) d23
  exact Owns.app f1 (fun x hx => hx.elim (f2 x) (f3 x)) (fun x a b => b.elim (d12 x a) (d13 x a)) h23 h1
set_option maxHeartbeats 8000000 in
theorem copyThing_impl {B : Nat → Prop} {n : Nat} {w : World} {lq0 lq6 lq7 : List (List DC)} {sq1 sq2 sq5 : ByteArray} {xq3 xq4 : Int} {Aq0 Aq6 Aq7 : Option Addr} {cq0 cq6 cq7 : Nat} (hr : thB [.l lq0, .s sq1, .s sq2, .i xq3, .i xq4, .s sq5, .l lq6, .l lq7] = true) (h : Cells B n w shThing_ [.l lq0, .s sq1, .s sq2, .i xq3, .i xq4, .s sq5, .l lq6, .l lq7] [.slice Aq0 lq0.length cq0, .string sq1, .string sq2, .int .i64 xq3, .int .i64 xq4, .string sq5, .slice Aq6 lq6.length cq6, .slice Aq7 lq7.length cq7]) :
    Calls Tryz.prog 59 #[.agg #[.slice Aq0 lq0.length cq0, .string sq1, .string sq2, .int .i64 xq3, .int .i64 xq4, .string sq5, .slice Aq6 lq6.length cq6, .slice Aq7 lq7.length cq7]] w fun e w' => ∃ A1 c1 A6 c6 A7 c7, e = .returned (.agg #[.slice A1 lq0.length c1, .string sq1, .string sq2, .int .i64 xq3, .int .i64 xq4, .string sq5, .slice A6 lq6.length c6, .slice A7 lq7.length c7]) ∧ Owns 2 w' (Rg w.heap.size w'.heap.size) shThing_ [.l lq0, .s sq1, .s sq2, .i xq3, .i xq4, .s sq5, .l lq6, .l lq7] [.slice A1 lq0.length c1, .string sq1, .string sq2, .int .i64 xq3, .int .i64 xq4, .string sq5, .slice A6 lq6.length c6, .slice A7 lq7.length c7] ∧ Below w.heap.size w w' := by
  obtain ⟨h1, h2, h3⟩ := th_parts' hr
  obtain ⟨k0, k1, k2, k3, k4, k5, k6, k7, -⟩ := h
  have e6 : bL (([.l lq0, .s sq1, .s sq2, .i xq3, .i xq4, .s sq5, .l lq6, .l lq7]).getD 6 z) = lq6 := rfl
  have e7 : bL (([.l lq0, .s sq1, .s sq2, .i xq3, .i xq4, .s sq5, .l lq6, .l lq7]).getD 7 z) = lq7 := rfl
  have eA : bA [.l lq0, .s sq1, .s sq2, .i xq3, .i xq4, .s sq5, .l lq6, .l lq7] = bA [.l lq0, .s sq1, .s sq2, .i xq3, .i xq4, .s sq5] := rfl
  rw [e6] at h2; rw [e7] at h3; rw [eA] at h1 h3
  have hin : Cells B n w shAddr_ [.l lq0, .s sq1, .s sq2, .i xq3, .i xq4, .s sq5] [.slice Aq0 lq0.length cq0, .string sq1, .string sq2, .int .i64 xq3, .int .i64 xq4, .string sq5] := ⟨k0, k1, k2, k3, k4, k5, trivial⟩
  have hcan := dA_bA hin
  have HSZ := Lib.hid (sz_of hin)
  have HA := Lib.hid (Gd.ofC hin)
  obtain ⟨a, ha⟩ : ∃ a, bA [.l lq0, .s sq1, .s sq2, .i xq3, .i xq4, .s sq5] = a := ⟨_, rfl⟩
  rw [ha] at h1 h3 hcan HSZ
  have hlen : a.path.length = lq0.length := by
    have := congrArg (fun d : List DC => (bL (d.getD 0 z)).length) hcan
    simpa [dA, dS, bL] using this
  have HCN := Lib.hid hcan
  have HLN := Lib.hid hlen
  have KA := fun (W : World) (hW : Below w.heap.size w W) => Lib.hid (copyAddr_r ha h1 (HA.out.below hW).now)
  have HP := Lib.hid (Gd.of1 k6)
  have HN := Lib.hid (Gd.of1 k7)
  have KP := fun (W : World) (hW : Below w.heap.size w W) => Lib.hid (transform_pairs h2 (HP.out.below hW).now)
  have KN := fun (W : World) (hW : Below w.heap.size w W) => Lib.hid (transform_addrs h3.1 (fun i hi => need_right' (h3.2.1 i hi)) (HN.out.below hW).now)
  clear k0 k1 k2 k3 k4 k5 k6 k7 hin hcan h1 h2 h3 hr e6 e7 eA hlen ha
  go_enter Tryz.func59, Tryz.ntmps59
  go_wp2_with fail
  have E0 := Lib.hid (below_a2 w (.cells #[.slice Aq0 lq0.length cq0, .string sq1, .string sq2, .int .i64 xq3, .int .i64 xq4, .string sq5, .slice Aq6 lq6.length cq6, .slice Aq7 lq7.length cq7] 41) (.cells #[.slice none 0 0, .string ⟨#[]⟩, .string ⟨#[]⟩, .int .i64 0, .int .i64 0, .string ⟨#[]⟩, .slice none 0 0, .slice none 0 0] 41))
  have B0 := Lib.hid ((Blk.new w 41 #[.slice Aq0 lq0.length cq0, .string sq1, .string sq2, .int .i64 xq3, .int .i64 xq4, .string sq5, .slice Aq6 lq6.length cq6, .slice Aq7 lq7.length cq7]).alloc (.cells #[.slice none 0 0, .string ⟨#[]⟩, .string ⟨#[]⟩, .int .i64 0, .int .i64 0, .string ⟨#[]⟩, .slice none 0 0, .slice none 0 0] 41))
  have P0 := Lib.hid (Blk.new1 w (.cells #[.slice Aq0 lq0.length cq0, .string sq1, .string sq2, .int .i64 xq3, .int .i64 xq4, .string sq5, .slice Aq6 lq6.length cq6, .slice Aq7 lq7.length cq7] 41) 41 #[.slice none 0 0, .string ⟨#[]⟩, .string ⟨#[]⟩, .int .i64 0, .int .i64 0, .string ⟨#[]⟩, .slice none 0 0, .slice none 0 0])
  have hz0 : ((w.alloc (.cells #[.slice Aq0 lq0.length cq0, .string sq1, .string sq2, .int .i64 xq3, .int .i64 xq4, .string sq5, .slice Aq6 lq6.length cq6, .slice Aq7 lq7.length cq7] 41)).alloc (.cells #[.slice none 0 0, .string ⟨#[]⟩, .string ⟨#[]⟩, .int .i64 0, .int .i64 0, .string ⟨#[]⟩, .slice none 0 0, .slice none 0 0] 41)).heap.size = w.heap.size + 1 + 1 := by simp
  obtain ⟨W0, hW0⟩ : ∃ W0, (w.alloc (.cells #[.slice Aq0 lq0.length cq0, .string sq1, .string sq2, .int .i64 xq3, .int .i64 xq4, .string sq5, .slice Aq6 lq6.length cq6, .slice Aq7 lq7.length cq7] 41)).alloc (.cells #[.slice none 0 0, .string ⟨#[]⟩, .string ⟨#[]⟩, .int .i64 0, .int .i64 0, .string ⟨#[]⟩, .slice none 0 0, .slice none 0 0] 41) = W0 := ⟨_, rfl⟩
  rw [hW0] at E0 B0 P0 hz0 ⊢
  have b0 := B0.out.cell
  have p0 := P0.out.cell
  have f0 := P0.out.free
  have z0 := P0.out.lt
  clear hW0
  go_region_held3 (fun w' => w'.cell? ⟨w.heap.size, 0, none⟩ = some (.slice Aq0 lq0.length cq0) ∧ w'.cell? ⟨w.heap.size, 1, none⟩ = some (.string sq1) ∧ w'.cell? ⟨w.heap.size, 2, none⟩ = some (.string sq2) ∧ w'.cell? ⟨w.heap.size, 3, none⟩ = some (.int .i64 xq3) ∧ w'.cell? ⟨w.heap.size, 4, none⟩ = some (.int .i64 xq4) ∧ w'.cell? ⟨w.heap.size, 5, none⟩ = some (.string sq5) ∧ w'.cell? ⟨w.heap.size, 6, none⟩ = some (.slice Aq6 lq6.length cq6) ∧ w'.cell? ⟨w.heap.size, 7, none⟩ = some (.slice Aq7 lq7.length cq7)) (go_keep)
    (first
    | (go_at_call 93; refine (KA _ ?_).out.mono ?_; exact below_dn E0.out _; rintro _ w1 ⟨A1, c1, rfl, ho, hb⟩; have hbb := below_then (below_d W0 _) hb (Nat.le_refl _); have E1 := Lib.hid (below_then E0.out hbb (Nat.le_refl _)); have B1 := Lib.hid (B0.out.step hbb); have P1 := Lib.hid (P0.out.step hbb); have b1 := B1.out.cell; have p1 := P1.out.cell; have f1 := P1.out.free; have z1 := P1.out.lt; have s1 := hbb.size; have O1 := Lib.hid (own_addr (base := W0.heap.size) (d := a) ho HSZ.out); clear hb hbb ho)
    | (go_at_call 94; refine (KP _ ?_).out.mono ?_; exact E1.out; rintro _ w2 ⟨v2, rfl, hbag, hb⟩; obtain ⟨A6, c6, rfl, _⟩ := hbag.form; have E2 := Lib.hid (below_then E1.out hb (Nat.le_refl _)); have B2 := Lib.hid (B1.out.step hb); have P2 := Lib.hid (P1.out.step hb); have b2 := B2.out.cell; have p2 := P2.out.cell; have f2 := P2.out.free; have z2 := P2.out.lt; have s2 := hb.size; have O2 := Lib.hid (O1.out.below hb); have Q2 := Lib.hid hbag.done; clear hb hbag)
    | (go_at_call 96; refine (KN _ ?_).out.mono ?_; exact E2.out; rintro _ w3 ⟨v3, rfl, hbag, hb⟩; obtain ⟨A7, c7, rfl, _⟩ := hbag.form; have E3 := Lib.hid (below_then E2.out hb (Nat.le_refl _)); have B3 := Lib.hid (B2.out.step hb); have P3 := Lib.hid (P2.out.step hb); have b3 := B3.out.cell; have p3 := P3.out.cell; have f3 := P3.out.free; have z3 := P3.out.lt; have s3 := hb.size; have O3 := Lib.hid (O2.out.below hb); have Q3 := Lib.hid (Q2.out.below hb); have R3 := Lib.hid hbag.done; clear hb hbag))
  clear KA KP KN
  all_goals (try go_wp2)
  obtain ⟨e0, e1, e2, e3, e4, e5⟩ : dS a.path = lq0 ∧ a.typ = sq1 ∧ a.nam = sq2 ∧ a.kind = xq3 ∧ a.n = xq4 ∧ a.key = sq5 := by have := HCN.out; simpa [dA] using this
  have hJ := join_owns (n := 2) (F := Rg W0.heap.size w3.heap.size) (O3.out.ups (by omega)) Q3.out R3.out (fun x hx => ⟨hx.1, by have := hx.2; omega⟩) (fun x hx => ⟨by have := hx.1; omega, by have := hx.2; omega⟩) (fun x hx => ⟨by have := hx.1; omega, hx.2⟩) (fun x p q => by have := p.2; have := q.1; omega) (fun x p q => by have := p.2; have := q.1; omega) (fun x p q => by have := p.2; have := q.1; omega)
  rw [HCN.out, HLN.out, e1, e2, e3, e4, e5] at hJ
  refine bodyPost_ret (v := .agg #[.slice A1 a.path.length c1, .string a.typ, .string a.nam, .int .i64 a.kind, .int .i64 a.n, .string a.key, .slice A6 lq6.length c6, .slice A7 lq7.length c7]) (by simp [results, Tryz.results59, go_sem, p3, f3, b3]; try rfl) rfl ⟨A1, c1, A6, c6, A7, c7, ?_, ?_, ?_⟩
  · rw [HLN.out, e1, e2, e3, e4, e5]
  · refine (hJ.agree' ?_).monoF (fun x hx => ⟨by have := hx.1; omega, by have := hx.2; simpa using this⟩)
    iterate 8 refine Agree.set ?_ (fun hx => by have := hx.1; simp at this; omega) _
    exact Agree.refl _ _
  · iterate 8 refine Below.setCell ?_ (by simp <;> omega) _
    exact E3.out
end Go.Proofs.YtflfnekaiaplfaaGreat.cf
