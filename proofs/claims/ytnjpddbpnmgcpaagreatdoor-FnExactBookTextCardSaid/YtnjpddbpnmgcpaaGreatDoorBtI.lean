/- The text of a thing, of the program. -/
import Derived.Test.YtnjpddbpnmgcpaaGreatDoorBtP
import Derived.Test.YtnjpddbpnmgcpaaGreatDoorTxtI
import Derived.Deep.RegionHeld3
import Derived.Deep.AppendLies
import Derived.RangeFuncBox
namespace Go.Proofs.YtnjpddbpnmgcpaaGreatDoor.cf
open ad mem vl ex un cm dig
open Go.ChangeShapes Go.WideShapes Go.ChangeAt Go.RowKit Go.Lib
set_option linter.unusedVariables false
set_option maxRecDepth 8000
set_option linter.unusedSimpArgs false


theorem addrText_impl {B : Nat → Prop} {n : Nat} {w : World} {ds : List DC} {vs : List Value} {a : AddrD} (hD : bA ds = a) (hr : addrB a = true) (h : Cells B n w shAddr_ ds vs) :
    Calls Tryz.prog 44 #[.agg vs.toArray] w (un.Told w (.string (bs (rawT a)))) := by
  subst hD
  obtain ⟨A, c, rfl, h1, h2, h3, h4, h5⟩ := addr_in h
  have := txt.text_impl A c (bA ds) w h1 h2 h3 h4 h5
  rw [show addrT (bA ds) = rawT (bA ds) by simp [addrT, hr]] at this
  exact this
theorem valText_impl {B : Nat → Prop} {n : Nat} {w : World} {ds : List DC} {vs : List Value} {v : ValD} (hD : bV ds = v) (hr : valB v = true) (h : Cells B n w shValue_ ds vs) (ht : Tab w) :
    Calls Tryz.prog 45 #[.agg vs.toArray] w (un.Told w (.string (bs (rawV v)))) := by
  subst hD
  obtain ⟨rfl, h1⟩ := val_in h
  have := vl.textV_impl (bV ds) w h1 ht
  rw [show valT (bV ds) = rawV (bV ds) by simp [valT, hr]] at this
  exact this
theorem own_lit {w : World} {base g : Nat} {e : TypeId} {v : Value} (h : Blk w g e #[v]) (hb : base ≤ g) : w.ownsRow base e 1 (.slice (some ⟨g, 0, none⟩) 1 1) 1 [v] :=
  ⟨rfl, .inr ⟨g, 1, #[v], rfl, hb, h, Nat.le_refl _, by simp [maxLen], rfl, rfl⟩⟩
theorem news_blk {w : World} {g : Nat} {e : TypeId} {cs : List Value} (h : Blk w g e cs.toArray) : ∀ j u, cs[j]? = some u → w.cell? ((⟨g, 0, none⟩ : Addr).add j) = some u := by
  intro j u hj
  have hn := h.cell j
  have e1 : (⟨g, 0, none⟩ : Addr).add j = ⟨g, j, none⟩ := by unfold Addr.add; split <;> simp_all
  rw [e1]
  exact hn.trans (by simpa using hj)
theorem blk_ne {w w' : World} {row : Option Nat} {g : Nat} {T : TypeId} {cs : Array Value} (h : Blk w g T cs) (hg : w.grownBy w' row) (hr : ∀ k, row = some k → k ≠ g) : Blk w' g T cs := by
  have hlt := h.lt
  unfold Blk at h ⊢
  exact (hg.block g hlt (fun e => hr g e.symm rfl)).trans h
theorem cat_snoc4 (L : List ByteArray) (a b c d : ByteArray) : str.cat (L ++ [a, b, c, d]) = str.cat L ++ (a.data.toList ++ (b.data.toList ++ (c.data.toList ++ d.data.toList))) := by rw [txt.cat_app]; simp [str.cat]
theorem cat_snoc3 (L : List ByteArray) (a b c : ByteArray) : str.cat (L ++ [a, b, c]) = str.cat L ++ (a.data.toList ++ (b.data.toList ++ c.data.toList)) := by rw [txt.cat_app]; simp [str.cat]
theorem cat_snoc1 (L : List ByteArray) (a : ByteArray) : str.cat (L ++ [a]) = str.cat L ++ a.data.toList := by rw [txt.cat_app]; simp [str.cat]
theorem cat_one (a : ByteArray) : str.cat [a] = a.data.toList := by simp [str.cat]
set_option maxHeartbeats 8000000 in
theorem thingText_impl {B : Nat → Prop} {n : Nat} {w : World} {ds : List DC} {vs : List Value} {r : List UInt8} (hT : thT ds = r) (hr : thB ds = true) (h : Cells B n w shThing_ ds vs) (ht : Tab w) :
    Calls Tryz.prog 22 #[.agg vs.toArray] w (un.Told w (.string (bs r))) := by
  subst hT
  obtain ⟨i0, hi, hz0, hz1, hz2⟩ := info_parts info_str
  obtain ⟨h1, h2, h3⟩ := th_parts hr
  have hlenT := thT_len hr
  obtain ⟨lq0, sq1, sq2, xq3, xq4, sq5, lq6, lq7, Aq0, cq0, Aq6, cq6, Aq7, cq7, rfl, rfl, k0, k1, k2, k3, k4, k5, k6, k7⟩ := open_Thing h
  have e6 : bL (([.l lq0, .s sq1, .s sq2, .i xq3, .i xq4, .s sq5, .l lq6, .l lq7]).getD 6 z) = lq6 := rfl
  have e7 : bL (([.l lq0, .s sq1, .s sq2, .i xq3, .i xq4, .s sq5, .l lq6, .l lq7]).getD 7 z) = lq7 := rfl
  have eT : thT [.l lq0, .s sq1, .s sq2, .i xq3, .i xq4, .s sq5, .l lq6, .l lq7] = rawT (bA [.l lq0, .s sq1, .s sq2, .i xq3, .i xq4, .s sq5]) ++ (lq6.flatMap pairT ++ (lq7.flatMap needT ++ [10])) := rfl
  have eA : bA [.l lq0, .s sq1, .s sq2, .i xq3, .i xq4, .s sq5, .l lq6, .l lq7] = bA [.l lq0, .s sq1, .s sq2, .i xq3, .i xq4, .s sq5] := rfl
  rw [e6] at h2; rw [e7] at h3; rw [eA] at h1 h3
  rw [eT] at hlenT ⊢
  have HT := Lib.hid ht
  have HA := Lib.hid (Gd.ofC (show Cells B n w shAddr_ [.l lq0, .s sq1, .s sq2, .i xq3, .i xq4, .s sq5] [.slice Aq0 lq0.length cq0, .string sq1, .string sq2, .int .i64 xq3, .int .i64 xq4, .string sq5] from ⟨k0, Cell.mkS k1, Cell.mkS k2, Cell.mkI k3, Cell.mkI k4, Cell.mkS k5, trivial⟩))
  have HP := Lib.hid (Gd.of1 k6)
  have HN := Lib.hid (Gd.of1 k7)
  obtain ⟨a, ha⟩ : ∃ a, bA [.l lq0, .s sq1, .s sq2, .i xq3, .i xq4, .s sq5] = a := ⟨_, rfl⟩
  rw [ha] at h1 h3 hlenT ⊢
  have H1 := Lib.hid h1
  have H2 := Lib.hid h2
  have H3 := Lib.hid h3
  have hP4 : lq6.length ≤ 4 := h2.1
  have hN4 : lq7.length ≤ 400 := h3.1
  have HLT := Lib.hid hlenT
  clear h h1 h2 h3 hr ht e6 e7 eT eA k0 k1 k2 k3 k4 k5 k6 k7 hlenT
  go_enter Tryz.func22, Tryz.ntmps22
  go_wp2_with fail
  refine (addrText_impl ha H1.out (HA.out.below (below_a1 _ _)).now).mono ?_
  rintro _ w1 ⟨rfl, hb⟩
  have E1 := Lib.hid (below_then (below_a1 _ _) hb (Nat.le_refl _))
  have Q1 := Lib.hid ((Blk.new w _ _).step hb)
  have q1 := Q1.out.cell
  have z1 := Q1.out.lt
  have s1 := E1.out.size
  clear hb HA
  go_wp2
  have O1 := Lib.hid (own_lit (base := w.heap.size + 1) (Blk.new w1 9 #[.string (bs (rawT a))]) (by omega))
  have E2 := Lib.hid (E1.out.alloc s1 (.cells #[.string (bs (rawT a))] 9))
  have Q2 := Lib.hid (Q1.out.alloc (.cells #[.string (bs (rawT a))] 9))
  clear Q1 q1
  obtain ⟨W2, hW2⟩ : ∃ W2, w1.alloc (.cells #[.string (bs (rawT a))] 9) = W2 := ⟨_, rfl⟩
  rw [hW2] at O1 E2 Q2 ⊢
  have q2 := Q2.out.cell
  have HC1 := Lib.hid (cat_one (bs (rawT a)))
  obtain ⟨v2, hv2⟩ : ∃ v2, Value.slice (some ⟨w1.heap.size, 0, none⟩) 1 1 = v2 := ⟨_, rfl⟩
  rw [hv2] at O1 ⊢
  clear hW2 hv2 E1 z1 s1
  go_loopw [3, 15] (fun v i wr => ∃ (k : Nat) (L : List ByteArray), k ≤ lq6.length ∧ i = .int .i64 k ∧ str.cat L = rawT a ++ (lq6.take k).flatMap pairT ∧ L.length = 1 + 4 * k ∧ wr.ownsRow (w.heap.size + 1) 9 1 v L.length (L.map Value.string) ∧ Below w.heap.size w wr ∧ Blk wr w.heap.size 50 #[.slice Aq0 lq0.length cq0, .string sq1, .string sq2, .int .i64 xq3, .int .i64 xq4, .string sq5, .slice Aq6 lq6.length cq6, .slice Aq7 lq7.length cq7]) (fun _ i _ => lq6.length - (RowKit.intOf i).toNat)
  case atStart => exact ⟨0, [bs (rawT a)], Nat.zero_le _, rfl, by rw [HC1.out, txt.bs_data]; simp, rfl, by simpa using O1.out, E2.out, Q2.out⟩
  case round =>
    clear O1 E2 Q2 q2 HC1

    obtain ⟨k, L, hk, rfl, hL, hll, hown, hb, hq⟩ := hrel
    have HLL := Lib.hid hL
    have HK := Lib.hid hll
    have hl20 : L.length ≤ 17 := by omega
    have E3 := Lib.hid hb
    have Q3 := Lib.hid hq
    have q3 := Q3.out.cell
    have s3 := hb.size
    have z3 := hq.lt
    clear hL hll hb hq
    by_cases hlt : k < lq6.length
    · obtain ⟨m', b, o, us, hm, rfl, _, hbl, hr, hin⟩ := (HP.out.below E3.out).now.item k hlt
      have HPK := Lib.hid (H2.out.2.1 k hlt)
      obtain ⟨hw1, hw2⟩ := pair_parts (H2.out.2.1 k hlt)
      have HFT := Lib.hid (flat_take pairT lq6 k hlt)
      have hkI : (k : Int) < lq6.length := by omega
      obtain ⟨pd, hpd⟩ : ∃ pd, lq6[k] = pd := ⟨_, rfl⟩
      rw [hpd] at hw1 hw2 hin HFT HPK
      clear hpd
      obtain ⟨sp0, xp1, xp2, sp3, rfl, rfl, g0, g1, g2, g3⟩ := open_Pair hin
      have en : namP [.s sp0, .i xp1, .i xp2, .s sp3] = sp0 := rfl
      have eV : bV (([.s sp0, .i xp1, .i xp2, .s sp3] : List DC).drop 1) = bV [.i xp1, .i xp2, .s sp3] := rfl
      have ePT : pairT [.s sp0, .i xp1, .i xp2, .s sp3] = 32 :: (sp0.data.toList ++ (61 :: rawV (bV [.i xp1, .i xp2, .s sp3]))) := rfl
      rw [ePT] at HFT
      rw [en] at hw1; rw [eV] at hw2
      have hns := txt.word_size hw1
      have hvl := rawV_len hw2
      obtain ⟨pv, hpv⟩ : ∃ pv, bV [.i xp1, .i xp2, .s sp3] = pv := ⟨_, rfl⟩
      rw [hpv] at HFT hw2 hvl
      have HW := Lib.hid hw2
      have HV := Lib.hid (Gd.ofC (show Cells B m' wr shValue_ [.i xp1, .i xp2, .s sp3] [.int .i64 xp1, .int .i64 xp2, .string sp3] from ⟨Cell.mkI g1, Cell.mkI g2, Cell.mkS g3, trivial⟩))
      have KV := fun (W : World) (hW : Below wr.heap.size wr W) => Lib.hid (valText_impl hpv HW.out (HV.out.below hW).now (HT.out.below (below_then E3.out hW (Nat.le_refl _))))
      have HR := Lib.hid hr
      clear hr hin ePT hm g1 g2 g3 hw1 hw2 HPK en eV hpv
      go_wp2_with (refine wpList_load_mid rfl 54 (.tmp 17) rfl b (o + k * 4) rfl _ _ HR.out Tryz.underlying54 rfl (by kernel_rfl) ?_)
      have E4 := Lib.hid (E3.out.alloc s3 (.cells #[.string sp0, .int .i64 xp1, .int .i64 xp2, .string sp3] 54))
      have Q4 := Lib.hid (Q3.out.alloc (.cells #[.string sp0, .int .i64 xp1, .int .i64 xp2, .string sp3] 54))
      have O4 := Lib.hid (hown.alloc (.cells #[.string sp0, .int .i64 xp1, .int .i64 xp2, .string sp3] 54))
      have P4 := Lib.hid (Blk.new wr 54 #[.string sp0, .int .i64 xp1, .int .i64 xp2, .string sp3])
      have p4 := P4.out.cell
      have q4 := Q4.out.cell
      have B4 := Lib.hid (below_a1 wr (.cells #[.string sp0, .int .i64 xp1, .int .i64 xp2, .string sp3] 54))
      have HRW := Lib.hid (fun k hk => (hown.lt k hk).2)
      clear hown q3
      go_region_held3 (fun w' => w'.cell? ⟨wr.heap.size, 0, none⟩ = some (.string sp0) ∧ w'.cell? ⟨wr.heap.size, 1, none⟩ = some (.int .i64 xp1) ∧ w'.cell? ⟨wr.heap.size, 2, none⟩ = some (.int .i64 xp2) ∧ w'.cell? ⟨wr.heap.size, 3, none⟩ = some (.string sp3)) (go_keep)
        (first
        | (go_at_call 45; refine (KV _ ?_).out.mono ?_; exact below_dn B4.out _; rintro _ w5 ⟨rfl, hb⟩; have hbb := below_then (below_d (wr.alloc _) _) hb (Nat.le_refl _); have E5 := Lib.hid (below_then E4.out hbb (Nat.le_refl _)); have Q5 := Lib.hid (Q4.out.step hbb); have P5 := Lib.hid (P4.out.step hbb); have p5 := P5.out.cell; have s5 := E5.out.size; have O5 := Lib.hid (txt.own_step O4.out hbb); clear hb hbb)
        | (refine step_append_lies _ (by rfl) _ _ _ (by rfl) (w.heap.size + 1) 9 i0 _ 1 16 Tryz.underlying36 hi hz0 hz1 hz2 rfl (by omega) _ _ _ (by rfl) (O5.out.alloc _) ⟨w5.heap.size, 0, none⟩ 4 4 [.string ⟨#[32]⟩, .string sp0, .string ⟨#[61]⟩, .string (bs (rawV pv))] (by rfl) (by rfl) (news_blk (Blk.new w5 9 #[.string ⟨#[32]⟩, .string sp0, .string ⟨#[61]⟩, .string (bs (rawV pv))])) (by intro u hu; simp only [List.mem_cons, List.not_mem_nil, or_false] at hu; rcases hu with rfl | rfl | rfl | rfl <;> rfl) (by omega) (by unfold maxLen; omega) (by omega) ?hbase (w5.heap.size + 1) ?hH ?_; (case hbase => simp; omega); (case hH => simp); intro gg cap w6 hown6 hg6 hat6 hlt6; have hrow := txt.own_row O5.out; have E6 := Lib.hid (((below_da E5.out (Nat.le_refl _) _).grown hg6 (by simp; omega) (fun k hk => by have := hrow k hk; omega))); have Q6 := Lib.hid (txt.blk_grown (Q5.out.alloc _) hg6 (fun k hk => by have := hrow k hk; omega)); have q6 := Q6.out.cell; have p6 := (blk_ne (P5.out.alloc _) hg6 (fun k hk => by have := HRW.out k hk; omega)).cell; clear hat6 hg6 hrow))
      go_wp2
      go_roundw
      case rel => exact ⟨k + 1, L ++ [⟨#[32]⟩, sp0, ⟨#[61]⟩, bs (rawV pv)], hlt, by go_num, by rw [cat_snoc4, HLL.out, HFT.out, txt.bs_data]; simp, by simp [HK.out]; omega, by simpa using hown6, E6.out, Q6.out⟩
      case measure => simp [RowKit.intOf]; omega
    · obtain rfl : k = lq6.length := by omega
      rw [List.take_length] at HLL
      have HX := Lib.hid hlt
      clear hlt
      go_wp2
      go_loopw [3, 31] (fun v i wr => ∃ (k : Nat) (L : List ByteArray), k ≤ lq7.length ∧ i = .int .i64 k ∧ str.cat L = rawT a ++ (lq6.flatMap pairT ++ (lq7.take k).flatMap needT) ∧ L.length ≤ 17 + 3 * k ∧ wr.ownsRow (w.heap.size + 1) 9 1 v L.length (L.map Value.string) ∧ Below w.heap.size w wr) (fun _ i _ => lq7.length - (RowKit.intOf i).toNat)
      case atStart => exact ⟨0, L, Nat.zero_le _, rfl, by rw [HLL.out]; simp, by omega, hown, E3.out⟩
      case round =>
        clear hown E3 Q3 q3 HK HLL hl20 s3 z3 HX

        obtain ⟨k, L, hk, rfl, hL, hll, hown, hb⟩ := hrel
        have HLL := Lib.hid hL
        have HK := Lib.hid hll
        have hl20 : L.length ≤ 1217 := by omega
        have E3 := Lib.hid hb
        have s3 := hb.size
        clear hL hll hb
        by_cases hlt : k < lq7.length
        · obtain ⟨m', b, o, us, hm, rfl, _, hbl, hr, hin⟩ := (HN.out.below E3.out).now.item k hlt
          have hnr := need_right (H3.out.2.1 k hlt)
          have hnl := rawT_len hnr
          have HNR := Lib.hid hnr
          have HFT := Lib.hid (flat_take needT lq7 k hlt)
          have hkI : (k : Int) < lq7.length := by omega
          obtain ⟨pd, hpd⟩ : ∃ pd, lq7[k] = pd := ⟨_, rfl⟩
          rw [hpd] at hin HFT HNR hnl
          clear hpd hnr
          have ePT : needT pd = 32 :: 60 :: rawT (bA pd) := rfl
          rw [ePT] at HFT
          have HV := Lib.hid (Gd.ofC hin)
          obtain ⟨lp0, sp1, sp2, xp3, xp4, sp5, Ap0, cp0, rfl, rfl, -⟩ := open_Addr hin
          obtain ⟨d, hd⟩ : ∃ d, bA [.l lp0, .s sp1, .s sp2, .i xp3, .i xp4, .s sp5] = d := ⟨_, rfl⟩
          rw [hd] at HFT HNR hnl
          have HR := Lib.hid hr
          clear hr hin ePT hm
          go_wp2_with (refine wpList_load_mid rfl 46 (.tmp 33) rfl b (o + k * 6) rfl _ _ HR.out Tryz.underlying46 rfl (by kernel_rfl) ?_)
          refine (addrText_impl hd HNR.out (HV.out.alloc _).now).mono ?_
          rintro _ w5 ⟨rfl, hb⟩
          have E5 := Lib.hid (below_then (E3.out.alloc s3 _) hb (Nat.le_refl _))
          have O5 := Lib.hid (txt.own_step (hown.alloc _) hb)
          have s5 := E5.out.size
          clear hb hown
          go_wp2_with (at_builtin; refine wpList_append_own _ rfl (.tmp 35) (.tmp 38) 36 rfl (w.heap.size + 1) 9 i0 (.string ByteArray.empty) 1 16 Tryz.underlying36 hi hz0 hz1 hz2 rfl (by decide) _ _ _ rfl (O5.out.alloc _) ⟨w5.heap.size, 0, none⟩ 3 3 [.string ⟨#[32]⟩, .string ⟨#[60]⟩, .string (bs (rawT d))] rfl rfl ?c1 ?c2 ?c3 ?c4 ?c5 ?_)
          case c1 => exact news_blk (Blk.new w5 9 #[.string ⟨#[32]⟩, .string ⟨#[60]⟩, .string (bs (rawT d))])
          case c2 => intro u hu; simp only [List.mem_cons, List.not_mem_nil, or_false] at hu; rcases hu with rfl | rfl | rfl <;> rfl
          case c3 => unfold maxLen; omega
          case c4 => omega
          case c5 => simp; omega
          intro v' w6 hown1 hgrow _
          have hrow := txt.own_row O5.out
          have E6 := Lib.hid ((E5.out.alloc s5 (.cells #[.string ⟨#[32]⟩, .string ⟨#[60]⟩, .string (bs (rawT d))] 9)).grown hgrow (by simp; omega) (fun k hk => by have := hrow k hk; omega))
          have hown2 : w6.ownsRow (w.heap.size + 1) 9 1 v' (L ++ [⟨#[32]⟩, ⟨#[60]⟩, bs (rawT d)]).length ((L ++ [⟨#[32]⟩, ⟨#[60]⟩, bs (rawT d)]).map Value.string) := by simpa using hown1
          clear hown1 hgrow hrow
          go_wp2
          go_roundw
          case rel => exact ⟨k + 1, L ++ [⟨#[32]⟩, ⟨#[60]⟩, bs (rawT d)], hlt, by go_num, by rw [cat_snoc3, HLL.out, HFT.out, txt.bs_data]; simp, by have := HK.out; simp; omega, hown2, E6.out⟩
          case measure => simp [RowKit.intOf]; omega
        · obtain rfl : k = lq7.length := by omega
          rw [List.take_length] at HLL
          have HX := Lib.hid hlt
          clear hlt
          have HCL := Lib.hid (cat_snoc1 L ⟨#[10]⟩)
          go_wp2_with (at_builtin; refine wpList_append_own _ rfl (.tmp 41) (.tmp 42) 36 rfl (w.heap.size + 1) 9 i0 (.string ByteArray.empty) 1 16 Tryz.underlying36 hi hz0 hz1 hz2 rfl (by decide) _ _ _ rfl (hown.alloc _) ⟨wr.heap.size, 0, none⟩ 1 1 [.string ⟨#[10]⟩] rfl rfl ?c1 ?c2 ?c3 ?c4 ?c5 ?_)
          case c2 => rfl
          case c3 => unfold maxLen; omega
          case c4 => omega
          intro v' w6 hown1 hgrow _
          have hrow := txt.own_row hown
          have E6 := Lib.hid ((E3.out.alloc s3 (.cells #[.string ⟨#[10]⟩] 9)).grown hgrow (by simp; omega) (fun k hk => by have := hrow k hk; omega))
          obtain ⟨g, cap, rfl⟩ := ownsRow_succ hown1
          have KJ : Hid (Calls Tryz.prog 23 #[.slice (some ⟨g, 0, none⟩) (L.length + 1) cap] w6 (vl.Told w6 (.string (bs (rawT a ++ (lq6.flatMap pairT ++ (lq7.flatMap needT ++ [10]))))))) := by
            have hlen : (L ++ [(⟨#[10]⟩ : ByteArray)]).length = L.length + 1 := by simp
            have hcat : str.cat (L ++ [(⟨#[10]⟩ : ByteArray)]) = rawT a ++ (lq6.flatMap pairT ++ (lq7.flatMap needT ++ [10])) := by rw [HCL.out, HLL.out]; simp
            have := str.join_c (L ++ [(⟨#[10]⟩ : ByteArray)]) g cap w6 (txt.own_cells (n := L.length + 1) (cap := cap) (base := w.heap.size + 1) (e := 9) (by rw [hlen]; simpa using hown1)) (by rw [hlen]; omega) (by rw [hcat]; have := HLT.out; omega) (hown1.lt g rfl).2
            rw [hlen, hcat] at this
            exact this
          clear hown1 hgrow hrow hown
          go_wp2_with fail
          refine KJ.out.mono ?_
          rintro _ w7 ⟨rfl, hb⟩
          have E7 := Lib.hid (below_then E6.out hb (Nat.le_refl _))
          clear hb
          go_wp2
          go_ret
          exact ⟨rfl, E7.out⟩
end Go.Proofs.YtnjpddbpnmgcpaaGreatDoor.cf
