/- The text of a book, of the model. -/
import Derived.Test.YtnjpddbpnmgcpaaGreatDoorBtP
import Derived.Test.YtnjpddbpnmgcpaaGreatDoorExY
import Derived.Deep.RegionHeld3
import Derived.Lib.AppendStr
namespace Go.Proofs.YtnjpddbpnmgcpaaGreatDoor.cf
open ad mem vl ex un cm dig
open Go.ChangeShapes Go.WideShapes Go.ChangeAt Go.RowKit Go.Lib
set_option linter.unusedVariables false
set_option maxRecDepth 8000
set_option linter.unusedSimpArgs false


theorem addrText_spec {B : Nat → Prop} {n : Nat} {w : World} {ds : List DC} {vs : List Value} {a : AddrD} (hD : bA ds = a) (hr : addrB a = true) (h : Cells B n w shAddr_ ds vs) :
    Calls Tryz.prog 17 #[.agg vs.toArray] w (un.Told w (.string (bs (rawT a)))) := by
  subst hD
  obtain ⟨A, c, rfl, h1, h2, h3, h4, h5⟩ := addr_in h
  exact ex.l02T A c (bA ds) w h1 hr
theorem valText_spec {B : Nat → Prop} {n : Nat} {w : World} {ds : List DC} {vs : List Value} {v : ValD} (hD : bV ds = v) (hr : valB v = true) (h : Cells B n w shValue_ ds vs) :
    Calls Tryz.prog 18 #[.agg vs.toArray] w (un.Told w (.string (bs (rawV v)))) := by
  subst hD
  obtain ⟨rfl, h1⟩ := val_in h
  exact vl.l03Text_any (bV ds) w hr
/-- a row of bytes of the call's own. -/
def OwnT (w : World) (base : Nat) (v : Value) (L : List UInt8) : Prop := w.ownsRow base 5 1 v L.length (strCells (bs L)) ∧ v ≠ .slice none 0 0
theorem cells_app (L m : List UInt8) : strCells (bs (L ++ m)) = strCells (bs L) ++ strCells (bs m) := by simp [strCells, bs]
theorem bs_len (m : List UInt8) : (bs m).size = m.length := rfl
theorem OwnT.form {w : World} {base : Nat} {v : Value} {L : List UInt8} (h : OwnT w base v L) : ∃ g cap, v = .slice (some ⟨g, 0, none⟩) L.length cap := by
  rcases h.1.2 with ⟨e, _⟩ | ⟨g, cap, _, e, _⟩
  · exact absurd e h.2
  · exact ⟨g, cap, e⟩
theorem OwnT.step {w w' : World} {base : Nat} {v : Value} {L : List UInt8} (h : OwnT w base v L) (hb : Below w.heap.size w w') : OwnT w' base v L := ⟨txt.own_step h.1 hb, h.2⟩
theorem OwnT.drew {w : World} {base : Nat} {v : Value} {L : List UInt8} (h : OwnT w base v L) (k : Nat) : OwnT (w.drewN k) base v L := h.step (below_d w k)
theorem append_text {w : World} {base : Nat} {v : Value} {L : List UInt8} (ty : TypeId) (hown : OwnT w base v L) (m : List UInt8) (hlen : L.length + m.length ≤ 1000000000) (hbase : base ≤ w.heap.size) :
    ∃ v' w', (Builtin.append_ #[44, 9] ty #[v, .string (bs m)]).run Tryz.prog w = .ok v' w' ∧ OwnT w' base v' (L ++ m) ∧ Below base w w' := by
  obtain ⟨i0, hi, hz0, hz1, hz2⟩ := info_parts str.info_u8
  obtain ⟨v', w', hr, h2, h3, h4⟩ := run_append_own_string (P := Tryz.prog) w base 44 9 ty 5 i0 Tryz.underlying44 Tryz.underlying9 hi hz0 hz1 hz2 v L.length _ hown.1 (bs m) (by rw [bs_len]; unfold maxLen; omega) (by rw [bs_len]; omega) hbase
  refine ⟨v', w', hr, ⟨?_, fun e => ?_⟩, (Below.refl base w).grown h3 hbase (fun k hk => (hown.1.lt k hk).1)⟩
  · rw [cells_app, List.length_append]; exact h2
  · exact hown.2 (h4.1 e).1
theorem wpList_text {ops : Array Oper} {rest : List Oper} {o : Oper} {a : Act} {Q : Exit → Act → World → Prop} {w : World} (hgd : o.guard = none) (sl x : Operand)
    (ho : o.op = .call { callee := .builtin .append, args := #[sl, x], argTypes := #[44, 9] })
    (base : Nat) (v : Value) (L m : List UInt8) (hs : a.eval sl = v) (hown : OwnT w base v L) (hx : a.eval x = .string (bs m)) (hlen : L.length + m.length ≤ 1000000000) (hbase : base ≤ w.heap.size)
    (h : ∀ v' w', OwnT w' base v' (L ++ m) → Below base w w' → wpList Tryz.prog ops Q rest (a.put o.dst v') w') : wpList Tryz.prog ops Q (o :: rest) a w := by
  refine wpList_plain hgd fun K hK => ?_
  obtain ⟨v', w', hr, h2, h3⟩ := append_text o.type hown m hlen hbase
  unfold Oper.wp execOp
  simp only [ho, resolve, invoke, builtin, Sem.run_bind, Sem.run_pure, Result.andThen_ok, List.map_toArray, List.map_cons, List.map_nil, hs, hx, hr]
  exact hK _ _ (h v' w' h2 h3)
theorem wpList_byte {ops : Array Oper} {rest : List Oper} {o : Oper} {a : Act} {Q : Exit → Act → World → Prop} {w : World} (hgd : o.guard = none) (sl x : Operand)
    (ho : o.op = .call { callee := .builtin .append, args := #[sl, x], argTypes := #[44, 44] })
    (base : Nat) (v : Value) (L : List UInt8) (c : UInt8) (hs : a.eval sl = v) (hown : OwnT w base v L) (hx : a.eval x = .slice (some ⟨w.heap.size, 0, none⟩) 1 1) (hlen : L.length + 1 ≤ 1000000000) (hbase : base ≤ w.heap.size)
    (h : ∀ v' w', OwnT w' base v' (L ++ [c]) → Below base w w' → wpList Tryz.prog ops Q rest (a.put o.dst v') w') : wpList Tryz.prog ops Q (o :: rest) a (w.alloc (.cells #[.int .u8 c.toNat] 5)) := by
  obtain ⟨i0, hi, hz0, hz1, hz2⟩ := info_parts str.info_u8
  refine wpList_append_own _ hgd sl x 44 ho base 5 i0 (.int .u8 0) 1 1 Tryz.underlying44 hi hz0 hz1 hz2 rfl (by decide) v L.length _ hs (hown.1.alloc _) ⟨w.heap.size, 0, none⟩ 1 1 [.int .u8 c.toNat] hx rfl ?_ ?_ (by unfold maxLen; omega) (by omega) (by simp; omega) ?_
  · intro k u hk
    match k, hk with
    | 0, hk => simp at hk; subst hk; simp [Addr.add]
    | (k + 1), hk => simp at hk
  · intro u hu; simp at hu; subst hu; rfl
  · intro v' w' h2 h3 h4
    refine h v' w' ⟨?_, fun e => hown.2 (h4.1 e).1⟩ (((Below.refl base w).alloc hbase _).grown h3 (by simp; omega) (fun k hk => (hown.1.lt k hk).1))
    rw [cells_app, List.length_append]; exact h2
theorem step_text {ops : Array Oper} {o : Oper} {a : Act} {K : Act → World → Prop} {Q : Exit → Act → World → Prop} {E : Prop} {w : World} (hgd : o.guard = none) (sl x : Operand)
    (ho : o.op = .call { callee := .builtin .append, args := #[sl, x], argTypes := #[44, 9] })
    (base : Nat) (v : Value) (L m : List UInt8) (hs : a.eval sl = v) (hown : OwnT w base v L) (hx : a.eval x = .string (bs m)) (hlen : L.length + m.length ≤ 1000000000) (hbase : base ≤ w.heap.size)
    (h : ∀ v' w', OwnT w' base v' (L ++ m) → Below base w w' → K (a.put o.dst v') w') :
    if Region.wanted o (yielded ops a.tmps) = true then Oper.wp Tryz.prog o a w K Q else E := by
  have hw : Region.wanted o (yielded ops a.tmps) = true := by simp [Region.wanted, hgd]
  rw [if_pos hw]
  obtain ⟨v', w', hr, h2, h3⟩ := append_text o.type hown m hlen hbase
  unfold Oper.wp execOp
  simp only [ho, resolve, invoke, builtin, Sem.run_bind, Sem.run_pure, Result.andThen_ok, List.map_toArray, List.map_cons, List.map_nil, hs, hx, hr]
  exact h v' w' h2 h3

set_option maxHeartbeats 8000000 in
theorem bookText_spec {B : Nat → Prop} {n c : Nat} {w : World} {xs : List (List DC)} {A : Option Addr} {r : List UInt8} (hT : bookT xs = r) (h : Cell B n w (.l 8) (.l xs) (.slice A xs.length c)) :
    Calls Tryz.prog 6 #[.slice A xs.length c] w (un.Told w (.string (bs r))) := by
  subst hT
  have hlen := h.len.2
  unfold maxLen at hlen
  have H := Lib.hid (Gd.of1 h)
  clear h
  cases hbk : bookB xs
  · go_enter Tryz.func6, Tryz.ntmps6
    go_wp2_with fail
    refine (book_spec hbk H.out.now).mono ?_
    rintro _ w1 ⟨rfl, hb⟩
    go_wp2
    go_ret
    exact ⟨by rw [bookT_no hbk]; rfl, hb⟩
  · obtain ⟨hok1, hok2, _⟩ := bookB_iff.1 hbk
    have HOK := Lib.hid hok2
    have HBL := Lib.hid (fun k => book_len hbk k)
    have HBY := Lib.hid (bookT_yes hbk)
    clear hok2
    go_enter Tryz.func6, Tryz.ntmps6
    go_wp2_with fail
    refine (book_spec hbk H.out.now).mono ?_
    rintro _ w1 ⟨rfl, hb⟩
    have s1 := hb.size
    have E1 := Lib.hid (hb.alloc s1 (.cells #[] 5))
    have O1 : Hid (OwnT (w1.alloc (.cells #[] 5)) w.heap.size (.slice (some ⟨w1.heap.size, 0, none⟩) 0 0) []) := Lib.hid ⟨⟨rfl, .inr ⟨w1.heap.size, 0, #[], rfl, s1, heap_alloc_new w1 _, Nat.le_refl _, by simp [maxLen], rfl, rfl⟩⟩, by intro e; cases e⟩
    clear hb s1
    go_wp2
    go_loopw [3, 4] (fun v i wr => ∃ (j : Nat) (L : List UInt8), j ≤ xs.length ∧ i = .int .i64 j ∧ L = (xs.take j).flatMap thT ∧ OwnT wr w.heap.size v L ∧ Below w.heap.size w wr) (fun _ i _ => xs.length - (RowKit.intOf i).toNat)
    case atStart => exact ⟨0, [], Nat.zero_le _, rfl, by simp, O1.out, E1.out⟩
    case round =>
      clear O1 E1
      obtain ⟨j, L, hj, rfl, hL, hown, hb⟩ := hrel
      have HL := Lib.hid hL
      have hLl : L.length ≤ 360000000 := by rw [hL]; exact HBL.out j
      have E1 := Lib.hid hb
      have s1 := hb.size
      clear hL hb
      by_cases hlt : j < xs.length
      · obtain ⟨m', b, o, us, hm, rfl, _, hbl, hr, hin⟩ := H.out.now.item j hlt
        obtain rfl : m' = n - 1 := by omega
        have hth := HOK.out j hlt
        have HFT := Lib.hid (flat_take thT xs j hlt)
        have htl := thT_len hth
        obtain ⟨hp1, hp2, hp3⟩ := th_parts hth
        obtain ⟨td, htd⟩ : ∃ td, xs[j] = td := ⟨_, rfl⟩
        rw [htd] at hp1 hp2 hp3 HFT htl hin
        clear htd hth
        obtain ⟨lq0, sq1, sq2, xq3, xq4, sq5, lq6, lq7, Aq0, cq0, Aq6, cq6, Aq7, cq7, rfl, rfl, k0, k1, k2, k3, k4, k5, k6, k7⟩ := open_Thing hin
        have e6 : bL (([.l lq0, .s sq1, .s sq2, .i xq3, .i xq4, .s sq5, .l lq6, .l lq7]).getD 6 z) = lq6 := rfl
        have e7 : bL (([.l lq0, .s sq1, .s sq2, .i xq3, .i xq4, .s sq5, .l lq6, .l lq7]).getD 7 z) = lq7 := rfl
        have eT : thT [.l lq0, .s sq1, .s sq2, .i xq3, .i xq4, .s sq5, .l lq6, .l lq7] = rawT (bA [.l lq0, .s sq1, .s sq2, .i xq3, .i xq4, .s sq5]) ++ (lq6.flatMap pairT ++ (lq7.flatMap needT ++ [10])) := rfl
        have eA : bA [.l lq0, .s sq1, .s sq2, .i xq3, .i xq4, .s sq5, .l lq6, .l lq7] = bA [.l lq0, .s sq1, .s sq2, .i xq3, .i xq4, .s sq5] := rfl
        rw [e6] at hp2; rw [e7, eA] at hp3; rw [eA] at hp1
        rw [eT] at HFT htl
        have HA := Lib.hid (Gd.ofC (show Cells B (n - 1) w shAddr_ [.l lq0, .s sq1, .s sq2, .i xq3, .i xq4, .s sq5] [.slice Aq0 lq0.length cq0, .string sq1, .string sq2, .int .i64 xq3, .int .i64 xq4, .string sq5] from ⟨k0, Cell.mkS k1, Cell.mkS k2, Cell.mkI k3, Cell.mkI k4, Cell.mkS k5, trivial⟩))
        have HP := Lib.hid (Gd.of1 k6)
        have HN := Lib.hid (Gd.of1 k7)
        obtain ⟨a, ha⟩ : ∃ a, bA [.l lq0, .s sq1, .s sq2, .i xq3, .i xq4, .s sq5] = a := ⟨_, rfl⟩
        rw [ha] at hp1 hp3 HFT htl
        have H2 := Lib.hid hp2
        have H3 := Lib.hid hp3
        have hP4 : lq6.length ≤ 4 := hp2.1
        have hN4 : lq7.length ≤ 400 := hp3.1
        simp only [List.length_append] at htl
        have hra := rawT_len hp1
        have HR := Lib.hid (show w.rangeAt b (o + j * 8) _ from hr)
        have HB8 := Lib.hid hbl
        have hjI : (j : Int) < xs.length := by omega
        have hrw := range_below HR.out E1.out hbl
        have q0 : wr.cell? ⟨b, o + j * 8, none⟩ = some (.slice Aq0 lq0.length cq0) := by simpa using hrw 0 _ rfl
        have q1 := hrw 1 _ rfl
        have q2 := hrw 2 _ rfl
        have q3 := hrw 3 _ rfl
        have q4 := hrw 4 _ rfl
        have q5 := hrw 5 _ rfl
        have HPB : Hid (∀ k, ((lq6.take k).flatMap pairT).length ≤ 8000400) := fun k => by
          have h1 := flat_take_len pairT 2000100 lq6 k (fun i h => pairT_len (H2.out.2.1 i h))
          have h2 := Nat.mul_le_mul_right 2000100 hP4
          omega
        have HNB : Hid (∀ k, ((lq7.take k).flatMap needT).length ≤ 440000) := fun k => by
          have h1 := flat_take_len needT 1100 lq7 k (fun i h => needT_len (H3.out.2.1 i h))
          have h2 := Nat.mul_le_mul_right 1100 hN4
          omega
        clear hrw
        clear hp2 hp3 e6 e7 eT eA k0 k1 k2 k3 k4 k5 k6 k7 hr hin hm
        go_wp2_with fail
        refine (addrText_spec ha hp1 (HA.out.below E1.out).now).mono ?_
        rintro _ w2 ⟨rfl, hb⟩
        have E2 := Lib.hid (below_then E1.out hb (Nat.le_refl _))
        have O2 := Lib.hid (hown.step hb)
        have s2 := E2.out.size
        clear hb hown q0 q1 q2 q3 q4 q5 HA hp1 ha
        go_wp2_with (at_builtin; refine wpList_text rfl (.tmp 17) (.tmp 23) rfl w.heap.size _ L (rawT a) rfl O2.out rfl ?c1 s2 ?_)
        case c1 => omega
        intro v3 w3 hown3 hb3
        have E3 := Lib.hid (E2.out.trans hb3)
        clear hb3 O2 E2 s2 E1 s1
        go_wp2
        go_loopw [3, 5] (fun v i w4 => ∃ (k : Nat) (L' : List UInt8), k ≤ lq6.length ∧ i = .int .i64 k ∧ L' = (L ++ rawT a) ++ (lq6.take k).flatMap pairT ∧ OwnT w4 w.heap.size v L' ∧ Below w.heap.size w w4) (fun _ i _ => lq6.length - (RowKit.intOf i).toNat)
        case atStart => exact ⟨0, L ++ rawT a, Nat.zero_le _, rfl, by simp, hown3, E3.out⟩
        case round =>
          clear E3 hown3
          obtain ⟨k, L', hk, rfl, hL', hown, hb⟩ := hrel
          have HLL := Lib.hid hL'
          have hLl2 : L'.length ≤ 390000000 := by
            have := HPB.out k
            rw [hL']; simp only [List.length_append]; omega
          have E4 := Lib.hid hb
          have s4 := hb.size
          have q6 := range_below HR.out E4.out HB8.out 6 _ rfl
          clear hL' hb
          by_cases hltk : k < lq6.length
          · obtain ⟨m2, b2, o2, us2, hm2, rfl, _, hbl2, hr2, hin2⟩ := HP.out.now.item k hltk
            obtain ⟨hw1, hw2⟩ := pair_parts (H2.out.2.1 k hltk)
            have HFP := Lib.hid (flat_take pairT lq6 k hltk)
            have hkI : (k : Int) < lq6.length := by omega
            obtain ⟨pd, hpd⟩ : ∃ pd, lq6[k] = pd := ⟨_, rfl⟩
            rw [hpd] at hw1 hw2 hin2 HFP
            clear hpd
            obtain ⟨sp0, xp1, xp2, sp3, rfl, rfl, g0, g1, g2, g3⟩ := open_Pair hin2
            have en : namP [.s sp0, .i xp1, .i xp2, .s sp3] = sp0 := rfl
            have eV : bV (([.s sp0, .i xp1, .i xp2, .s sp3] : List DC).drop 1) = bV [.i xp1, .i xp2, .s sp3] := rfl
            have ePT : pairT [.s sp0, .i xp1, .i xp2, .s sp3] = 32 :: (sp0.data.toList ++ (61 :: rawV (bV [.i xp1, .i xp2, .s sp3]))) := rfl
            rw [ePT] at HFP
            rw [en] at hw1; rw [eV] at hw2
            have hns := txt.word_size hw1
            have hvl := rawV_len hw2
            obtain ⟨pv, hpv⟩ : ∃ pv, bV [.i xp1, .i xp2, .s sp3] = pv := ⟨_, rfl⟩
            rw [hpv] at HFP hw2 hvl
            have HW := Lib.hid hw2
            have HV := Lib.hid (Gd.ofC (show Cells B m2 w shValue_ [.i xp1, .i xp2, .s sp3] [.int .i64 xp1, .int .i64 xp2, .string sp3] from ⟨Cell.mkI g1, Cell.mkI g2, Cell.mkS g3, trivial⟩))
            have KV := fun (W : World) (hW : Below w.heap.size w W) => Lib.hid (valText_spec hpv HW.out (HV.out.below hW).now)
            have HR2 := Lib.hid (show w.rangeAt b2 (o2 + k * 4) _ from hr2)
            have HB2 := Lib.hid hbl2
            have hp := range_below HR2.out E4.out hbl2
            have p0 : wr.cell? ⟨b2, o2 + k * 4, none⟩ = some (.string sp0) := by simpa using hp 0 _ rfl
            have p1 := hp 1 _ rfl
            have p2 := hp 2 _ rfl
            have p3 := hp 3 _ rfl
            have hvs : (bs (rawV pv)).size ≤ 2000000 := by rw [bs_len]; exact hvl
            have z0 : (⟨#[32]⟩ : ByteArray).size = 1 := rfl
            have z3 : (⟨#[61]⟩ : ByteArray).size = 1 := rfl
            have a1 := fun (W : World) => run_string_add_sum (P := Tryz.prog) (w := W) ⟨#[32]⟩ sp0 (by omega)
            have a2 := fun (W : World) => run_string_add_sum (P := Tryz.prog) (w := W) (⟨#[32]⟩ ++ sp0) ⟨#[61]⟩ (by rw [ByteArray.size_append]; omega)
            have a3 := fun (W : World) => run_string_add_sum (P := Tryz.prog) (w := W) (⟨#[32]⟩ ++ sp0 ++ ⟨#[61]⟩) (bs (rawV pv)) (by rw [ByteArray.size_append, ByteArray.size_append]; omega)
            have HSE : Hid (⟨#[32]⟩ ++ sp0 ++ ⟨#[61]⟩ ++ bs (rawV pv) = bs (32 :: (sp0.data.toList ++ (61 :: rawV pv)))) := ByteArray.ext (by simp [bs, ByteArray.data_append])
            have HML : Hid (L'.length + (32 :: (sp0.data.toList ++ (61 :: rawV pv))).length ≤ 1000000000) := by
              show _ ≤ _
              have e : sp0.data.toList.length = sp0.size := rfl
              simp only [List.length_cons, List.length_append, e]; omega
            have HOWN := Lib.hid hown
            clear hr2 hin2 ePT hm2 g0 g1 g2 g3 hw1 hw2 en eV hpv hp z0 z3 hvs hown
            go_wp2_with fail
            go_region_held3 (fun w' => w'.cell? ⟨b, o + j * 8 + 6, none⟩ = some (.slice (some ⟨b2, o2, none⟩) lq6.length cq6) ∧ w'.cell? ⟨b2, o2 + k * 4, none⟩ = some (.string sp0) ∧ w'.cell? ⟨b2, o2 + k * 4 + 1, none⟩ = some (.int .i64 xp1) ∧ w'.cell? ⟨b2, o2 + k * 4 + 2, none⟩ = some (.int .i64 xp2) ∧ w'.cell? ⟨b2, o2 + k * 4 + 3, none⟩ = some (.string sp3)) (go_keep)
              (first
              | (go_at_call 18; refine (KV _ ?_).out.mono ?_; exact below_dn E4.out _; rintro _ w5 ⟨rfl, hb⟩; have hbb := below_then (below_d wr _) hb (Nat.le_refl _); have E5 := Lib.hid (below_then E4.out hbb (Nat.le_refl _)); have s5 := E5.out.size; have O5 := Lib.hid (HOWN.out.step hbb); have q6' := range_below HR.out E5.out HB8.out 6 _ rfl; have hp5 := range_below HR2.out E5.out HB2.out; have p0' : w5.cell? ⟨b2, o2 + k * 4, none⟩ = some (.string sp0) := (by simpa using hp5 0 _ rfl); have p1' := hp5 1 _ rfl; have p2' := hp5 2 _ rfl; have p3' := hp5 3 _ rfl; clear hb hbb hp5)
              | (refine step_text rfl (.tmp 35) (.tmp 57) (by rfl) w.heap.size _ L' _ (by rfl) O5.out (by exact congrArg Value.string HSE.out) HML.out s5 ?_; intro v6 w6 hown6 hb6; have E6 := Lib.hid (E5.out.trans hb6); have q6' := range_below HR.out E6.out HB8.out 6 _ rfl; have hp5 := range_below HR2.out E6.out HB2.out; have p0' : w6.cell? ⟨b2, o2 + k * 4, none⟩ = some (.string sp0) := (by simpa using hp5 0 _ rfl); have p1' := hp5 1 _ rfl; have p2' := hp5 2 _ rfl; have p3' := hp5 3 _ rfl; clear hb6 hp5))
            go_wp2
            go_roundw
            case rel => exact ⟨k + 1, _, hltk, by go_num, by rw [HFP.out, HLL.out, ← List.append_assoc], hown6, E6.out⟩
            case measure => simp [RowKit.intOf]; omega
          · obtain rfl : k = lq6.length := by omega
            rw [List.take_length] at HLL
            have HLL2 := HLL
            have HX := Lib.hid hltk
            clear hltk HLL
            go_wp2
            clear q6
            go_loopw [3, 6] (fun v i w4 => ∃ (k : Nat) (L2 : List UInt8), k ≤ lq7.length ∧ i = .int .i64 k ∧ L2 = L' ++ (lq7.take k).flatMap needT ∧ OwnT w4 w.heap.size v L2 ∧ Below w.heap.size w w4) (fun _ i _ => lq7.length - (RowKit.intOf i).toNat)
            case atStart => exact ⟨0, L', Nat.zero_le _, rfl, by simp, hown, E4.out⟩
            case round =>
              clear E4 hown s4 HX
              obtain ⟨k, L2, hk, rfl, hL2, hown, hb⟩ := hrel
              have HLL := Lib.hid hL2
              have hLl3 : L2.length ≤ 400000000 := by
                have := HNB.out k
                rw [hL2]; simp only [List.length_append]; omega
              have E4 := Lib.hid hb
              have s4 := hb.size
              have q7 := range_below HR.out E4.out HB8.out 7 _ rfl
              clear hL2 hb
              by_cases hltk : k < lq7.length
              · obtain ⟨m2, b2, o2, us2, hm2, rfl, _, hbl2, hr2, hin2⟩ := HN.out.now.item k hltk
                have hnr := need_right (H3.out.2.1 k hltk)
                have hnl := rawT_len hnr
                have HNR := Lib.hid hnr
                have HFN := Lib.hid (flat_take needT lq7 k hltk)
                have hkI : (k : Int) < lq7.length := by omega
                obtain ⟨pd, hpd⟩ : ∃ pd, lq7[k] = pd := ⟨_, rfl⟩
                rw [hpd] at hin2 HFN HNR hnl
                clear hpd hnr
                have ePT : needT pd = 32 :: 60 :: rawT (bA pd) := rfl
                rw [ePT] at HFN
                have HV := Lib.hid (Gd.ofC hin2)
                obtain ⟨lp0, sp1, sp2, xp3, xp4, sp5, Ap0, cp0, rfl, rfl, -⟩ := open_Addr hin2
                obtain ⟨d, hd⟩ : ∃ d, bA [.l lp0, .s sp1, .s sp2, .i xp3, .i xp4, .s sp5] = d := ⟨_, rfl⟩
                rw [hd] at HFN HNR hnl
                have HR2 := Lib.hid (range_below (show w.rangeAt b2 (o2 + k * 6) _ from hr2) E4.out hbl2)
                have hvs : (bs (rawT d)).size ≤ 1000 := by rw [bs_len]; exact hnl
                have z0 : (⟨#[32, 60]⟩ : ByteArray).size = 2 := rfl
                have a1 := fun (W : World) => run_string_add_sum (P := Tryz.prog) (w := W) ⟨#[32, 60]⟩ (bs (rawT d)) (by omega)
                have HSE : Hid (⟨#[32, 60]⟩ ++ bs (rawT d) = bs (32 :: 60 :: rawT d)) := ByteArray.ext (by simp [bs, ByteArray.data_append])
                have HML : Hid (L2.length + (32 :: 60 :: rawT d).length ≤ 1000000000) := by
                  show _ ≤ _
                  simp only [List.length_cons]; omega
                have HOWN := Lib.hid hown
                clear hr2 hin2 ePT hm2 z0 hvs hown
                go_wp2_with (refine wpList_load_mid rfl 46 (.tmp 76) rfl b2 (o2 + k * 6) rfl _ _ HR2.out Tryz.underlying46 rfl (by kernel_rfl) ?_)
                refine (addrText_spec hd HNR.out (HV.out.below E4.out).now).mono ?_
                rintro _ w5 ⟨rfl, hb⟩
                have E5 := Lib.hid (below_then E4.out hb (Nat.le_refl _))
                have s5 := E5.out.size
                have O5 := Lib.hid (HOWN.out.step hb)
                clear hb
                go_wp2_with (at_builtin; refine wpList_text rfl (.tmp 69) (.tmp 79) rfl w.heap.size _ L2 (32 :: 60 :: rawT d) rfl O5.out (by exact congrArg Value.string HSE.out) HML.out s5 ?_)
                intro v6 w6 hown6 hb6
                have E6 := Lib.hid (E5.out.trans hb6)
                go_wp2
                go_roundw
                case rel => exact ⟨k + 1, _, hltk, by go_num, by rw [HFN.out, HLL.out, ← List.append_assoc], hown6, E6.out⟩
                case measure => simp [RowKit.intOf]; omega
              · obtain rfl : k = lq7.length := by omega
                rw [List.take_length] at HLL
                have HX := Lib.hid hltk
                have HOWN := Lib.hid hown
                clear hltk hown
                go_wp2_with (at_builtin; refine wpList_byte rfl (.tmp 81) (.tmp 82) rfl w.heap.size _ L2 10 rfl HOWN.out rfl ?c1 s4 ?_)
                case c1 => omega
                intro v6 w6 hown6 hb6
                have E6 := Lib.hid (E4.out.trans hb6)
                go_wp2
                go_roundw
                case rel => exact ⟨j + 1, _, hlt, by go_num, by rw [HFT.out, HLL.out, HLL2.out, HL.out]; simp only [List.append_assoc], hown6, E6.out⟩
                case measure => simp [RowKit.intOf]; omega
      · obtain rfl : j = xs.length := by omega
        rw [List.take_length] at HL
        obtain ⟨g, cap, rfl⟩ := hown.form
        have hs := run_convert_bytes_back wr 44 9 5 ⟨g, 0, none⟩ cap L Tryz.underlying44 Tryz.underlying5 Tryz.underlying9 (fun j hj => hown.1.cells rfl j _ (by simp [strCells, bs, hj]))
        clear hown
        go_wp2
        go_ret
        exact ⟨by rw [HBY.out, ← HL.out]; rfl, E1.out⟩
end Go.Proofs.YtnjpddbpnmgcpaaGreatDoor.cf
