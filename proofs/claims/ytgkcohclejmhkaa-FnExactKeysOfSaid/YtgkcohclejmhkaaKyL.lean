/- KeysOf of the model. KeysOf of the program. KeysOf: what its exact law asks of both. -/
import Derived.Test.YtgkcohclejmhkaaCpS
import Derived.Test.YtgkcohclejmhkaaBkI
import Derived.Test.YtgkcohclejmhkaaKp
import Derived.Test.YtgkcohclejmhkaaUt
namespace Go.Proofs.Ytgkcohclejmhkaa.cf
open ad mem vl ex un cm bare
open Go.ChangeShapes Go.WideShapes Go.ChangeAt Go.RowKit Go.Lib
set_option linter.unusedVariables false
set_option maxRecDepth 8000
set_option linter.unusedSimpArgs false
theorem keys_facts {D : BlockD} (h : blockOk D) : -1 ≤ D.count ∧ D.count ≤ 8 ∧ D.each.length ≤ 8 ∧ (∀ k (h : k < D.each.length), D.each[k].size ≤ 8) ∧ D.addr.kind = 0 ∧ D.addr.n = 0 ∧ D.addr.key = ByteArray.empty := by
  obtain ⟨h1, h2, h3, _⟩ := h
  obtain ⟨_, _, _, h4⟩ := txt.addr_parts h1
  simp only [keyB, Bool.or_eq_true, Bool.and_eq_true, beq_iff_eq, decide_eq_true_eq] at h4
  have hk : D.addr.n = 0 ∧ D.addr.key = ByteArray.empty := by
    rcases h4 with (⟨⟨k0, k1⟩, k2⟩ | ⟨⟨⟨k0, k1⟩, k2⟩, k3⟩) | ⟨⟨k0, k1⟩, k2⟩
    · exact ⟨k1, empty_of_size k2⟩
    · omega
    · omega
  rcases h3 with ⟨h5, h6, h7⟩ | ⟨_, h5, h6, h7, _⟩
  · exact ⟨h6, h7, by omega, fun k hk => by omega, h2, hk⟩
  · exact ⟨by omega, by omega, h6, fun k hk => txt.word_size (h7 k hk), h2, hk⟩
theorem own_base {w : World} {base base' N n : Nat} {T : TypeId} {v : Value} {xs : List Value} (h : w.ownsRow base T N v n xs) (hb : base' ≤ base) : w.ownsRow base' T N v n xs := by
  obtain ⟨h1, h2 | ⟨r, cap, cur, hv, hbr, h3⟩⟩ := h
  · exact ⟨h1, .inl h2⟩
  · exact ⟨h1, .inr ⟨r, cap, cur, hv, by omega, h3⟩⟩
set_option maxHeartbeats 8000000 in
theorem l05Keys_any {B : Nat → Prop} {n : Nat} {w : World} {ds : List DC} {vs : List Value} {D : BlockD} (hD : bB n ds = D) (hok : blockOk D) (h : Cells B n w shBlock_ ds vs) :
    Calls Try.prog 65 #[.agg vs.toArray] w fun e w' => ∃ v, e = .returned v ∧ Sack 1 w' w.heap.size 34 2 v (keyX D.addr (keyL D.count D.each)) ∧ Below w.heap.size w w' := by
  obtain ⟨hc1, hc2, he1, he2, ha1, ha2, ha3⟩ := keys_facts hok
  have hsm := small_of hok.1
  obtain ⟨lb0, sb1, sb2, xb3, xb4, sb5, xb6, lb7, lb8, Ab0, cb0, Ab7, cb7, Ab8, cb8, rfl, rfl, kb0, kb1, kb2, kb3, kb4, kb5, kb6, kb7, kb8⟩ := open_Block h
  have HA := Lib.hid (Gd.ofC (show Cells B n w shAddr_ [.l lb0, .s sb1, .s sb2, .i xb3, .i xb4, .s sb5] [.slice Ab0 lb0.length cb0, .string sb1, .string sb2, .int .i64 xb3, .int .i64 xb4, .string sb5] from ⟨kb0, Cell.mkS kb1, Cell.mkS kb2, Cell.mkI kb3, Cell.mkI kb4, Cell.mkS kb5, trivial⟩))
  have H7 := Lib.hid (Gd.of1 kb7)
  have hlen7 := kb7.len.2
  unfold maxLen at hlen7
  obtain ⟨d, hd⟩ : ∃ d, bA [.l lb0, .s sb1, .s sb2, .i xb3, .i xb4, .s sb5] = d := ⟨_, rfl⟩
  have ea : D.addr = d := by rw [← hD, ← hd]; rfl
  have ec : D.count = xb6 := by rw [← hD]; rfl
  have ee : D.each = bStrs lb7 := by rw [← hD]; rfl
  rw [ea, ec, ee]
  rw [ea] at ha1 ha2 ha3 hsm
  rw [ec] at hc1 hc2
  rw [ee] at he1 he2
  have HL := Lib.hid (bStrs_len lb7)
  rw [HL.out] at he1
  have HE2 := Lib.hid he2
  have HZ : Hid (∀ k i K, R64 k → R64 i → K.size ≤ maxLen → Sz ⟨d.path, d.typ, d.nam, k, i, K⟩) := fun k i K h1 h2 h3 => ⟨Nat.le_trans hsm.typ (by decide), Nat.le_trans hsm.nam (by decide), h3, fun k hk => Nat.le_trans (hsm.path k hk) (by decide), h1, h2⟩
  have HPL : Hid (d.path.length ≤ 1000000) := by (have := hsm.len; show _ ≤ _; omega)
  have HZ0 := Lib.hid (show Sz d from hd ▸ sz_of HA.out.now)
  have HK := Lib.hid (And.intro ha1 (And.intro ha2 ha3))
  clear h kb0 kb1 kb2 kb3 kb4 kb5 kb6 kb7 kb8 ea ec ee he2 hsm ha1 ha2 ha3 hok hD
  go_enter Try.func65, Try.ntmps65
  go_wp2
  go_loopw [3, 4] (fun v i wr => ∃ k : Nat, k ≤ xb6.toNat ∧ i = .int .i64 k ∧ Sack 1 wr (w.heap.size + 1) 34 2 v (keyX d (kNum k)) ∧ Blk wr w.heap.size 63 #[.slice Ab0 lb0.length cb0, .string sb1, .string sb2, .int .i64 xb3, .int .i64 xb4, .string sb5, .int .i64 xb6, .slice Ab7 lb7.length cb7, .slice Ab8 lb8.length cb8] ∧ Below w.heap.size w wr) (fun _ i _ => xb6.toNat - (RowKit.intOf i).toNat)
  case atStart => exact ⟨0, by omega, rfl, Sack.start, (Blk.new w _ _).alloc _, below_a2 _ _ _⟩
  case round =>
    obtain ⟨m, hk, rfl, hsk, hB, hb⟩ := hrel
    have HS := Lib.hid hsk
    have E1 := Lib.hid hb
    have B1 := Lib.hid hB
    have b1 := hB.cell
    have l1 := hB.lt
    clear hsk hb hB
    by_cases hlt : (m : Int) < xb6
    · go_wp2_with fail
      refine (copy_spec hd (HA.out.below E1.out).now HPL.out).mono ?_
      rintro _ w2 ⟨A', c', rfl, ho, hb⟩
      have HB2 := Lib.hid hb
      have E2 := Lib.hid (below_then E1.out hb (Nat.le_refl _))
      have B2 := Lib.hid (B1.out.step hb)
      have b2 := B2.out.cell
      have l2 := B2.out.lt
      have HO := Lib.hid ho
      have HRW := Lib.hid HS.out.row
      clear hb ho b1 l1
      have hz2 : w.heap.size + 1 ≤ w2.heap.size := by omega
      have hszK : Sz ⟨d.path, d.typ, d.nam, 1, (m : Int), d.key⟩ := HZ.out 1 m d.key (by unfold R64; omega) (by unfold R64; omega) (by rw [HK.out.2.2]; simp [maxLen])
      have hlenX : (keyX d (kNum m)).length = m := by rw [keyX_len]; simp [kNum]
      go_wp2_with (at_builtin; refine wpList_sack1 rfl inf_addr (.tmp 21) (.tmp 23) rfl (w := w2) (base := w.heap.size + 1) (us := [.slice A' d.path.length c', .string d.typ, .string d.nam, .int .i64 1, .int .i64 m, .string d.key]) (ds := dA ⟨d.path, d.typ, d.nam, 1, (m : Int), d.key⟩) rfl (HS.out.below HB2.out) ?hb hz2 rfl ?hg ?hown ?hsm ?_)
      case hg => simp
      case hsm => omega
      case hb => exact below_a1 _ _
      case hown => exact made_cells HO.out hszK (below_a1 _ _) (fun q hq => (HRW.out q hq).2)
      intro v' w3 hsk' hg
      have E3 := Lib.hid (grown_below (below_da (below_da E2.out (Nat.le_refl _) _) (by simp <;> omega) _) hg (by simp <;> omega) (fun q hq => by have := (HRW.out q hq).1; omega))
      have B3 := Lib.hid (grown_blk ((B2.out.alloc _).alloc _) hg (fun e => by have := (HRW.out _ e).1; omega))
      have HS3 : Hid (Sack 1 w3 (w.heap.size + 1) 34 2 v' (keyX d (kNum (m + 1)))) := by
        show Sack _ _ _ _ _ _ _
        rw [kNum_succ, keyX_app]
        have := hsk'
        rw [HK.out.2.2] at this
        exact this
      have b3 := B3.out.cell
      have l3 := B3.out.lt
      clear hsk' hg hszK hlenX b2 l2
      go_wp2
      go_roundw
      case rel => exact ⟨m + 1, by omega, by go_num, HS3.out, B3.out, E3.out⟩
      case measure => simp [RowKit.intOf]; omega
    · have HKE := Lib.hid (show m = xb6.toNat by omega)
      have hdm : decide ((m : Int) < xb6) = false := by (simp; omega)
      clear hk
      go_wp2
      try rw [hdm]
      clear hdm hlt
      go_loopw [3, 6] (fun v i wr => ∃ k : Nat, k ≤ lb7.length ∧ i = .int .i64 k ∧ Sack 1 wr (w.heap.size + 1) 34 2 v (keyX d (kNum m ++ kWord ((bStrs lb7).take k))) ∧ Blk wr w.heap.size 63 #[.slice Ab0 lb0.length cb0, .string sb1, .string sb2, .int .i64 xb3, .int .i64 xb4, .string sb5, .int .i64 xb6, .slice Ab7 lb7.length cb7, .slice Ab8 lb8.length cb8] ∧ Below w.heap.size w wr) (fun _ i _ => lb7.length - (RowKit.intOf i).toNat)
      case atStart => exact ⟨0, by omega, rfl, (by simpa [kWord] using HS.out), B1.out, E1.out⟩
      case round =>
        clear HS E1 B1 b1 l1
        obtain ⟨k, hk, rfl, hsk, hB, hb⟩ := hrel
        have HS := Lib.hid hsk
        have E1 := Lib.hid hb
        have B1 := Lib.hid hB
        have b1 := hB.cell
        have l1 := hB.lt
        clear hsk hb hB
        by_cases hlt : k < lb7.length
        · obtain ⟨bk, ok, hA7, hbl7, hc7, hs7⟩ := kcell (H7.out.below E1.out).now k hlt
          have hjI : (k : Int) < lb7.length := by omega
          have hj0 : (0 : Int) ≤ (k : Int) := by omega
          obtain ⟨sk, hsk⟩ : ∃ s, (bStrs lb7)[k]'(by rw [bStrs_len]; exact hlt) = s := ⟨_, rfl⟩
          have hs8 : sk.size ≤ 8 := by rw [← hsk]; exact HE2.out k (by rw [HL.out]; exact hlt)
          rw [hsk] at hc7
          have HSK := Lib.hid hsk
          clear hsk hs7
          subst hA7
          go_wp2_with fail
          refine (copy_spec hd (HA.out.below E1.out).now HPL.out).mono ?_
          rintro _ w2 ⟨A', c', rfl, ho, hb⟩
          have HB2 := Lib.hid hb
          have E2 := Lib.hid (below_then E1.out hb (Nat.le_refl _))
          have B2 := Lib.hid (B1.out.step hb)
          have b2 := B2.out.cell
          have l2 := B2.out.lt
          have HO := Lib.hid ho
          have HRW := Lib.hid HS.out.row
          have hc7' : w2.cell? ⟨bk, ok + k, none⟩ = some (.string sk) := (HB2.out.cell (p := ⟨bk, ok + k, none⟩) hbl7).trans hc7
          have hbl7' : bk < w2.heap.size := Nat.lt_of_lt_of_le hbl7 HB2.out.size
          clear hb ho b1 l1
          have hz2 : w.heap.size + 1 ≤ w2.heap.size := by omega
          have hszK : Sz ⟨d.path, d.typ, d.nam, 2, d.n, sk⟩ := HZ.out 2 d.n sk (by unfold R64; omega) (by rw [HK.out.2.1]; unfold R64; omega) (by unfold maxLen; omega)
          have hlenX : (keyX d (kNum m ++ kWord ((bStrs lb7).take k))).length ≤ 16 := by (have := HKE.out; rw [keyX_len]; simp [kNum, kWord]; omega)
          go_wp2_with (at_builtin; refine wpList_sack1 rfl inf_addr (.tmp 42) (.tmp 44) rfl (w := w2) (base := w.heap.size + 1) (us := [.slice A' d.path.length c', .string d.typ, .string d.nam, .int .i64 2, .int .i64 d.n, .string sk]) (ds := dA ⟨d.path, d.typ, d.nam, 2, d.n, sk⟩) rfl (HS.out.below HB2.out) ?hb hz2 rfl ?hg ?hown ?hsm ?_)
          case hg => simp
          case hsm => omega
          case hb => exact below_a1 _ _
          case hown => exact made_cells HO.out hszK (below_a1 _ _) (fun q hq => (HRW.out q hq).2)
          intro v' w3 hsk' hg
          have E3 := Lib.hid (grown_below (below_da (below_da E2.out (Nat.le_refl _) _) (by simp <;> omega) _) hg (by simp <;> omega) (fun q hq => by have := (HRW.out q hq).1; omega))
          have B3 := Lib.hid (grown_blk ((B2.out.alloc _).alloc _) hg (fun e => by have := (HRW.out _ e).1; omega))
          have HS3 : Hid (Sack 1 w3 (w.heap.size + 1) 34 2 v' (keyX d (kNum m ++ kWord ((bStrs lb7).take (k + 1))))) := by
            show Sack _ _ _ _ _ _ _
            rw [kWord_succ (bStrs lb7) k (by rw [HL.out]; exact hlt), ← List.append_assoc, keyX_app, HSK.out]
            have := hsk'
            rw [HK.out.2.1] at this
            exact this
          have b3 := B3.out.cell
          have l3 := B3.out.lt
          clear hsk' hg hszK hlenX b2 l2
          go_wp2
          go_roundw
          case rel => exact ⟨k + 1, by omega, by go_num, HS3.out, B3.out, E3.out⟩
          case measure => simp [RowKit.intOf]; omega
        · obtain rfl : k = lb7.length := by omega
          have HS' := HS
          rw [show (bStrs lb7).take lb7.length = bStrs lb7 from List.take_of_length_le (by rw [HL.out]; exact Nat.le_refl _)] at HS'
          clear hlt hk HS
          by_cases hz : xb6 < 0 ∧ lb7.length = 0
          · obtain ⟨hz1, hz2⟩ := hz
            have HKL : Hid (keyL xb6 (bStrs lb7) = kNum m ++ kWord (bStrs lb7) ++ [(0, 0, ByteArray.empty)]) := by
              show _ = _
              rw [keyL_eq, ← HKE.out, if_pos ⟨hz1, List.eq_nil_of_length_eq_zero (by rw [HL.out]; exact hz2)⟩]
            have hlenK : (kNum m ++ kWord (bStrs lb7)).length = 0 := by
              simp [kNum, kWord, HL.out, hz2, HKE.out]; omega
            have hzb : ((lb7.length : Int) == 0) = true := by rw [hz2]; rfl
            clear hz2
            go_wp2_with fail
            refine (copy_spec hd (HA.out.below E1.out).now HPL.out).mono ?_
            rintro _ w2 ⟨A', c', rfl, ho, hb⟩
            have HB2 := Lib.hid hb
            have E2 := Lib.hid (below_then E1.out hb (Nat.le_refl _))
            have B2 := Lib.hid (B1.out.step hb)
            have b2 := B2.out.cell
            have l2 := B2.out.lt
            have HO := Lib.hid ho
            have HRW := Lib.hid HS'.out.row
            clear hb ho b1 l1
            have hz2 : w.heap.size + 1 ≤ w2.heap.size := by omega
            have hszK : Sz ⟨d.path, d.typ, d.nam, d.kind, d.n, d.key⟩ := ⟨HZ0.out.typ, HZ0.out.nam, HZ0.out.key, HZ0.out.path, HZ0.out.kind, HZ0.out.n⟩
            have hlenX : (keyX d (kNum m ++ kWord (bStrs lb7))).length = 0 := by rw [keyX_len]; exact hlenK
            go_wp2_with (at_builtin; refine wpList_sack1 rfl inf_addr (.tmp 55) (.tmp 59) rfl (w := w2) (base := w.heap.size + 1) (us := [.slice A' d.path.length c', .string d.typ, .string d.nam, .int .i64 d.kind, .int .i64 d.n, .string d.key]) (ds := dA ⟨d.path, d.typ, d.nam, d.kind, d.n, d.key⟩) rfl (HS'.out.below HB2.out) ?hb hz2 rfl ?hg ?hown ?hsm ?_)
            case hg => simp
            case hsm => omega
            case hb => exact Below.refl _ _
            case hown => exact made_cells HO.out hszK (Below.refl _ _) (fun q hq => (HRW.out q hq).2)
            intro v' w3 hsk' hg
            have E3 := Lib.hid (grown_below (below_da E2.out (Nat.le_refl _) _) hg (by simp <;> omega) (fun q hq => by have := (HRW.out q hq).1; omega))
            have B3 := Lib.hid (grown_blk (B2.out.alloc _) hg (fun e => by have := (HRW.out _ e).1; omega))
            have HS3 : Hid (Sack 1 w3 (w.heap.size + 1) 34 2 v' (keyX d (kNum m ++ kWord (bStrs lb7)) ++ keyX d [(0, 0, ByteArray.empty)])) := by
              show Sack _ _ _ _ _ _ _
              have := hsk'
              rw [HK.out.1, HK.out.2.1, HK.out.2.2] at this
              exact this
            have b3 := B3.out.cell
            have l3 := B3.out.lt
            clear hsk' hg hszK hlenX b2 l2
            go_wp2
            go_ret
            exact ⟨_, rfl, (by rw [HKL.out, keyX_app]; obtain ⟨rows, q1, q2⟩ := HS3.out.go; exact ⟨rows, own_base q1 (by omega), q2⟩), E3.out⟩
          · have HKL : Hid (keyL xb6 (bStrs lb7) = kNum m ++ kWord (bStrs lb7)) := by
              show _ = _
              rw [keyL_eq, ← HKE.out, if_neg (fun hh => hz ⟨hh.1, by have := congrArg List.length hh.2; rw [HL.out] at this; simpa using this⟩), List.append_nil]
            by_cases hz1 : xb6 < 0
            · have hz2 : ¬ lb7.length = 0 := fun hh => hz ⟨hz1, hh⟩
              have hzb : ((lb7.length : Int) == 0) = false := by rw [beq_eq_false_iff_ne]; omega
              clear hz hz2
              go_wp2
              go_ret
              exact ⟨_, rfl, (by rw [HKL.out]; obtain ⟨rows, q1, q2⟩ := HS'.out.go; exact ⟨rows, own_base q1 (by omega), q2⟩), E1.out⟩
            · clear hz
              go_wp2
              go_ret
              exact ⟨_, rfl, (by rw [HKL.out]; obtain ⟨rows, q1, q2⟩ := HS'.out.go; exact ⟨rows, own_base q1 (by omega), q2⟩), E1.out⟩
end Go.Proofs.Ytgkcohclejmhkaa.cf
namespace Go.Proofs.Ytgkcohclejmhkaa.cf
open ad mem vl ex un cm bare
open Go.ChangeShapes Go.WideShapes Go.ChangeAt Go.RowKit Go.Lib
set_option linter.unusedVariables false
set_option maxRecDepth 8000
set_option linter.unusedSimpArgs false
def kV (k : Int × Int × ByteArray) : Value := adr.keyV k.1 k.2.1 k.2.2
/-- a key in its form. -/
def kOk (k : Int × Int × ByteArray) : Prop := (k.1 = 1 ∧ k.2.2 = ByteArray.empty) ∨ (k.1 = 2 ∧ k.2.1 = 0) ∨ k = (0, 0, ByteArray.empty)
theorem kV_one (k : Int × Int × ByteArray) : (kV k).oneCell' = true := by unfold kV adr.keyV; split; rfl; split <;> rfl
theorem withKey_any (A : Option Addr) (n c : Nat) (T N K : ByteArray) (k i : Int) (q : Int × Int × ByteArray) (hq : kOk q) (w : World) :
    Calls Try.prog 70 #[.agg #[.slice A n c, .string T, .string N, .int .i64 k, .int .i64 i, .string K], kV q] w (adr.Told w (.agg #[.slice A n c, .string T, .string N, .int .i64 q.1, .int .i64 q.2.1, .string q.2.2])) := by
  obtain ⟨q1, q2, q3⟩ := q
  rcases hq with ⟨h1, h2⟩ | ⟨h1, h2⟩ | h
  · simp only at h1 h2; subst h1 h2; exact adr.withKey_num A n c T N K k i q2 w
  · simp only at h1 h2; subst h1 h2; exact adr.withKey_word A n c T N K k i q3 w
  · injection h with h1 h2; injection h2 with h2 h3; subst h1 h2 h3; exact adr.withKey_no A n c T N K k i w
set_option maxHeartbeats 2000000 in
theorem key_closure {B' : Nat → Prop} {m bb : Nat} {w : World} {ds' : List DC} {vs' : List Value} {D : AddrD} (hD : bA ds' = D) (q : Int × Int × ByteArray) (hq : kOk q) (hs : Small D) (hqs : q.2.2.size ≤ 8) (h' : Cells B' m w shBlock_ ds' vs') (hb : Blk w bb 63 vs'.toArray) :
    Calls Try.prog 69 #[kV q, .pointer (some ⟨bb, 0, none⟩)] w (Made w (withK D q)) := by
  obtain ⟨lb0, sb1, sb2, xb3, xb4, sb5, xb6, lb7, lb8, Ab0, cb0, Ab7, cb7, Ab8, cb8, rfl, rfl, kb0, kb1, kb2, kb3, kb4, kb5, -⟩ := open_Block h'
  have HA := Lib.hid (Gd.ofC (show Cells B' m w shAddr_ [.l lb0, .s sb1, .s sb2, .i xb3, .i xb4, .s sb5] [.slice Ab0 lb0.length cb0, .string sb1, .string sb2, .int .i64 xb3, .int .i64 xb4, .string sb5] from ⟨kb0, Cell.mkS kb1, Cell.mkS kb2, Cell.mkI kb3, Cell.mkI kb4, Cell.mkS kb5, trivial⟩))
  change bA [.l lb0, .s sb1, .s sb2, .i xb3, .i xb4, .s sb5] = D at hD
  subst hD
  have HSm := Lib.hid hs
  have HQS := Lib.hid hqs
  obtain ⟨qv, hqv⟩ : ∃ v, kV q = v := ⟨_, rfl⟩
  have HW := Lib.hid (fun (W : World) => hqv ▸ withKey_any Ab0 lb0.length cb0 sb1 sb2 sb5 xb3 xb4 q hq W)
  rw [hqv]
  have Bb0 := Lib.hid hb
  have rb0 := (Bb0.out.alloc (.cells #[.slice none 0 0, .string ⟨#[]⟩, .string ⟨#[]⟩, .int .i64 0, .int .i64 0, .string ⟨#[]⟩] 34)).cell
  clear h' hb hs hqs kb0 kb1 kb2 kb3 kb4 kb5 hqv
  go_enter Try.func69, Try.ntmps69
  go_wp2_with fail
  refine (HW.out _).mono ?_
  rintro _ w1 ⟨rfl, hb⟩
  have E1 := Lib.hid (below_then (below_a1 w (.cells #[.slice none 0 0, .string ⟨#[]⟩, .string ⟨#[]⟩, .int .i64 0, .int .i64 0, .string ⟨#[]⟩] 34)) hb (Nat.le_refl _))
  have P1 := Lib.hid ((Blk.new w 34 #[.slice none 0 0, .string ⟨#[]⟩, .string ⟨#[]⟩, .int .i64 0, .int .i64 0, .string ⟨#[]⟩]).step hb)
  have hs1 := strs_of (HA.out.below E1.out).now.1
  clear hb rb0
  have hl := bStrs_len lb0
  have KC := copy_impl Ab0 cb0 (withK (bA [.l lb0, .s sb1, .s sb2, .i xb3, .i xb4, .s sb5]) q) w1 hs1 (by have := HSm.out.len; show (bStrs lb0).length ≤ _; have e : (bStrs lb0).length ≤ 2 := this; omega) (by have := HSm.out.typ; show sb1.size ≤ _; have e : sb1.size ≤ 8 := this; omega) (by have := HSm.out.nam; show sb2.size ≤ _; have e : sb2.size ≤ 8 := this; omega) (by have := HQS.out; show q.2.2.size ≤ _; omega) (fun k hk => by have := HSm.out.path k hk; exact Nat.le_trans this (by decide))
  have e1 : (withK (bA [.l lb0, .s sb1, .s sb2, .i xb3, .i xb4, .s sb5]) q).path.length = lb0.length := hl
  rw [e1] at KC
  go_wp2_with fail
  refine (show Calls _ _ _ _ _ from KC).mono ?_
  clear KC hs1
  rintro _ w2 ⟨A2, cp, rfl, ho, hb⟩
  have E2 := Lib.hid (below_then E1.out hb (Nat.le_refl _))
  have P2 := Lib.hid (P1.out.step hb)
  have O2 := Lib.hid (ho.mono (show w.heap.size + 1 ≤ w1.heap.size from P1.out.lt))
  have p2 := P2.out.cell
  have g2 := P2.out.free
  clear hb ho P1 E1
  go_wp2
  refine bodyPost_ret (v := .agg #[.slice A2 (withK (bA [.l lb0, .s sb1, .s sb2, .i xb3, .i xb4, .s sb5]) q).path.length cp, .string sb1, .string sb2, .int .i64 q.1, .int .i64 q.2.1, .string q.2.2]) (by simp [results, Try.results69, go_sem, p2, g2]; exact ⟨hl.symm, rfl, rfl, rfl, rfl, rfl⟩) rfl ⟨A2, cp, rfl, ?_, ?_⟩
  · refine own.Own.mono (base := w.heap.size + 1) ?_ (by omega)
    iterate 6 refine own.Own.far ?_ (by simp <;> omega) _
    exact O2.out
  · repeat (refine Below.setCell ?_ (by simp <;> omega) _)
    exact E2.out
/-- a row of keys of the call's own. -/
def KR (w : World) (base : Nat) (v : Value) (l : List (Int × Int × ByteArray)) : Prop := w.ownsRow base 103 1 v (l.map kV).length (l.map kV)
theorem KR.form {w : World} {base : Nat} {v : Value} {l : List (Int × Int × ByteArray)} (h : KR w base v l) : ∃ A c, v = .slice A l.length c := by
  rcases h.2 with ⟨rfl, h0⟩ | ⟨g, cap, cur, rfl, _⟩
  · exact ⟨none, 0, by rw [List.length_map] at h0; rw [h0]⟩
  · exact ⟨_, cap, by rw [List.length_map]⟩
theorem KR.below {w w' : World} {base : Nat} {v : Value} {l : List (Int × Int × ByteArray)} (h : KR w base v l) (hb : Below w.heap.size w w') : KR w' base v l := row_below h hb
theorem KR.at_ {w : World} {base c : Nat} {A : Option Addr} {l : List (Int × Int × ByteArray)} (h : KR w base (.slice A l.length c) l) (k : Nat) (hk : k < l.length) : ∃ g, A = some ⟨g, 0, none⟩ ∧ g < w.heap.size ∧ w.cell? ⟨g, k, none⟩ = some (kV l[k]) := by
  rcases h.2 with ⟨h1, h0⟩ | ⟨g, cap, cur, hv, hb, hr, _⟩
  · rw [List.length_map] at h0; omega
  · have hA : A = some ⟨g, 0, none⟩ := by injection hv
    subst hA
    have hc := World.ownsRow.cells h (g := g) rfl k (kV l[k]) (by simp [hk])
    rw [un.addr_add, Nat.zero_add] at hc
    exact ⟨g, rfl, (Array.getElem?_eq_some_iff.1 hr).1, hc⟩
theorem info_key : (Try.prog.info? 103).map (fun i => (i.zero, i.size, i.bytes)) = some (some .nilIface, 1, 16) := by kernel_rfl
theorem inf_key : Inf Try.prog 107 103 1 := by
  obtain ⟨i0, hi, hz0, hz1, hz2⟩ := info_parts info_key
  exact ⟨Try.underlying107, i0, _, 16, hi, hz0, hz1, hz2, rfl, by decide, by omega⟩
set_option maxHeartbeats 4000000 in
theorem transform_keys {B' : Nat → Prop} {m bb base c : Nat} {w : World} {ds' : List DC} {vs' : List Value} {D : AddrD} {A : Option Addr} {l : List (Int × Int × ByteArray)} (hD : bA ds' = D) (hq : ∀ k (h : k < l.length), kOk l[k] ∧ l[k].2.2.size ≤ 8 ∧ R64 l[k].2.1) (hs : Small D) (hz : Sz D) (hl : l.length ≤ 100)
    (h' : Cells B' m w shBlock_ ds' vs') (hb : Blk w bb 63 vs'.toArray) (hr : KR w base (.slice A l.length c) l) :
    Calls Try.prog 71 #[.slice A l.length c, .func (.func 69) #[] #[.pointer (some ⟨bb, 0, none⟩)]] w fun e w' => ∃ v, e = .returned v ∧ Bag 1 w' w.heap.size 34 2 v (keyX D l) ∧ Below w.heap.size w w' := by
  have HQ := Lib.hid hq
  have HSm := Lib.hid hs
  have HZ := Lib.hid hz
  have HB' := Lib.hid (Gd.ofC h')
  have HBk := Lib.hid (Gd.ofB hb)
  have HR := Lib.hid hr
  clear h' hb hr hq hs hz
  go_enter Try.func71, Try.ntmps71
  go_wp2
  go_loopw [5, 10] (fun v i wr => ∃ k : Nat, k ≤ l.length ∧ i = .int .i64 k ∧ Bag 1 wr w.heap.size 34 2 v (keyX D (l.take k)) ∧ Below w.heap.size w wr) (fun _ i _ => l.length - (RowKit.intOf i).toNat)
  case atStart => exact ⟨0, by omega, rfl, Bag.nil _ _ _ _ _, Below.refl _ _⟩
  case round =>
    obtain ⟨k, hk, rfl, hbag, hb⟩ := hrel
    have HG := Lib.hid hbag
    have E1 := Lib.hid hb
    have hz1 := hb.size
    clear hbag hb
    by_cases hlt : k < l.length
    · obtain ⟨g, rfl, hgl, hc⟩ := (HR.out.below E1.out).at_ k hlt
      obtain ⟨hq1, hq2, hq3⟩ := HQ.out k hlt
      obtain ⟨q, hqe⟩ : ∃ q, l[k] = q := ⟨_, rfl⟩
      rw [hqe] at hc hq1 hq2 hq3
      have HQE := Lib.hid hqe
      have K := key_closure hD q hq1 HSm.out hq2 (HB'.out.below E1.out).now (HBk.out.below E1.out).now
      have hszK : Sz (withK D q) := ⟨HZ.out.typ, HZ.out.nam, Nat.le_trans hq2 (by decide), HZ.out.path, (by rcases hq1 with ⟨a, _⟩ | ⟨a, _⟩ | a <;> (show R64 q.1; first | (rw [a]; unfold R64; omega))), hq3⟩
      have hjI : (k : Int) < l.length := by omega
      obtain ⟨qv, hqv⟩ : ∃ v, kV q = v := ⟨_, rfl⟩
      rw [hqv] at hc K
      clear hqe hq1 hq2 hq3 hqv
      go_wp2_with fail
      refine K.mono ?_
      clear K
      rintro _ w2 ⟨A', c', rfl, ho, hb⟩
      have HB2 := Lib.hid hb
      have E2 := Lib.hid (below_then E1.out hb (Nat.le_refl _))
      have HO := Lib.hid ho
      have HRW := Lib.hid HG.out.row
      have hz2 : w.heap.size ≤ w2.heap.size := Nat.le_trans hz1 hb.size
      have hlenX : (keyX D (l.take k)).length ≤ 100 := by rw [keyX_len, List.length_take]; omega
      clear hb ho hc
      go_wp2_with (at_builtin; refine wpList_bag1 rfl inf_addr (.tmp 14) (.tmp 18) rfl (w := wr) (w1 := w2) (base := w.heap.size) (F2 := Rg wr.heap.size w2.heap.size) (us := [.slice A' (withK D q).path.length c', .string (withK D q).typ, .string (withK D q).nam, .int .i64 (withK D q).kind, .int .i64 (withK D q).n, .string (withK D q).key]) (ds := dA (withK D q)) rfl HG.out HB2.out hz1 rfl ?hg ?hown ?hF ?hsm ?_)
      case hg => rfl
      case hsm => omega
      case hF => exact fun x hx => hx
      case hown => exact own_addr HO.out hszK
      intro v' w3 hbag' hg
      have E3 := Lib.hid (grown_below (below_da E2.out (Nat.le_refl _) _) hg (by simp <;> omega) (fun q hq => (HRW.out q hq).1))
      have HG3 : Hid (Bag 1 w3 w.heap.size 34 2 v' (keyX D (l.take (k + 1)))) := by
        show Bag _ _ _ _ _ _ _
        rw [List.take_succ_eq_append_getElem hlt, keyX_app, HQE.out]
        exact hbag'
      clear hbag' hg hszK hlenX
      go_wp2
      go_roundw
      case rel => exact ⟨k + 1, by omega, by go_num, HG3.out, E3.out⟩
      case measure => simp [RowKit.intOf]; omega
    · obtain rfl : k = l.length := by omega
      have HG' := HG
      rw [List.take_length] at HG'
      clear HG hk hlt
      go_wp2
      go_ret
      exact ⟨_, rfl, HG'.out, E1.out⟩
theorem kr_snoc {w : World} {base : Nat} {v : Value} {l : List (Int × Int × ByteArray)} {q : Int × Int × ByteArray} (h : w.ownsRow base 103 1 v (l.map kV ++ [kV q]).length (l.map kV ++ [kV q])) : KR w base v (l ++ [q]) := by
  unfold KR; rw [List.map_append]; exact h
set_option maxHeartbeats 8000000 in
theorem instanceKeys_any {B : Nat → Prop} {n : Nat} {w : World} {ds : List DC} {vs : List Value} {D : BlockD} (hD : bB n ds = D) (hok : blockOk D) (h : Cells B n w shBlock_ ds vs) :
    Calls Try.prog 72 #[.agg vs.toArray] w fun e w' => ∃ A c, e = .returned (.slice A (keyL D.count D.each).length c) ∧ KR w' w.heap.size (.slice A (keyL D.count D.each).length c) (keyL D.count D.each) ∧ Below w.heap.size w w' := by
  obtain ⟨hc1, hc2, he1, he2, ha1, ha2, ha3⟩ := keys_facts hok
  obtain ⟨lb0, sb1, sb2, xb3, xb4, sb5, xb6, lb7, lb8, Ab0, cb0, Ab7, cb7, Ab8, cb8, rfl, rfl, kb0, kb1, kb2, kb3, kb4, kb5, kb6, kb7, kb8⟩ := open_Block h
  have H7 := Lib.hid (Gd.of1 kb7)
  have hlen7 := kb7.len.2
  unfold maxLen at hlen7
  have ec : D.count = xb6 := by rw [← hD]; rfl
  have ee : D.each = bStrs lb7 := by rw [← hD]; rfl
  rw [ec, ee]
  rw [ec] at hc1 hc2
  rw [ee] at he1 he2
  have HL := Lib.hid (bStrs_len lb7)
  rw [HL.out] at he1
  have HE2 := Lib.hid he2
  clear h kb0 kb1 kb2 kb3 kb4 kb5 kb6 kb7 kb8 ec ee he2 ha1 ha2 ha3 hok hD
  go_enter Try.func72, Try.ntmps72
  go_wp2
  go_loopw [3, 9] (fun v i wr => ∃ k : Nat, k ≤ xb6.toNat ∧ i = .int .i64 k ∧ KR wr (w.heap.size + 1) v (kNum k) ∧ Blk wr w.heap.size 63 #[.slice Ab0 lb0.length cb0, .string sb1, .string sb2, .int .i64 xb3, .int .i64 xb4, .string sb5, .int .i64 xb6, .slice Ab7 lb7.length cb7, .slice Ab8 lb8.length cb8] ∧ Below w.heap.size w wr) (fun _ i _ => xb6.toNat - (RowKit.intOf i).toNat)
  case atStart => exact ⟨0, by omega, rfl, World.ownsRow_nil _ _ _ _, Blk.new w _ _, below_a1 _ _⟩
  case round =>
    obtain ⟨m, hk, rfl, hsk, hB, hb⟩ := hrel
    have HS := Lib.hid hsk
    have E1 := Lib.hid hb
    have B1 := Lib.hid hB
    have b1 := hB.cell
    have l1 := hB.lt
    clear hsk hb hB
    by_cases hlt : (m : Int) < xb6
    · go_wp2_with (at_builtin; refine wpList_row1 rfl inf_key (.tmp 12) (.tmp 15) rfl (w1 := wr) (base := w.heap.size + 1) (u := kV (1, (m : Int), ByteArray.empty)) rfl (row_below HS.out (below_a1 _ _)) (by omega) rfl ?hg rfl ?hsm ?_)
      case hg => rfl
      case hsm => rw [List.length_map]; simp [kNum]; omega
      intro v' w3 hrow hg
      have HRW := Lib.hid (fun q hq => World.ownsRow.lt HS.out q hq)
      have E3 := Lib.hid (grown_below (below_da E1.out (Nat.le_refl _) _) hg (by simp <;> omega) (fun q hq => by have := (HRW.out q hq).1; omega))
      have B3 := Lib.hid (grown_blk (B1.out.alloc _) hg (fun e => by have := (HRW.out _ e).1; omega))
      have b3 := B3.out.cell
      have l3 := B3.out.lt
      have HS3 : Hid (KR w3 (w.heap.size + 1) v' (kNum (m + 1))) := by
        show KR _ _ _ _
        rw [kNum_succ]; unfold KR; simpa [Nat.add_assoc] using hrow
      clear hrow hg HRW
      go_wp2
      go_roundw
      case rel => exact ⟨m + 1, by omega, by go_num, HS3.out, B3.out, E3.out⟩
      case measure => simp [RowKit.intOf]; omega
    · have HKE := Lib.hid (show m = xb6.toNat by omega)
      have hdm : decide ((m : Int) < xb6) = false := by (simp; omega)
      clear hk
      go_wp2
      try rw [hdm]
      clear hdm hlt
      go_loopw [3, 21] (fun v i wr => ∃ k : Nat, k ≤ lb7.length ∧ i = .int .i64 k ∧ KR wr (w.heap.size + 1) v (kNum m ++ kWord ((bStrs lb7).take k)) ∧ Blk wr w.heap.size 63 #[.slice Ab0 lb0.length cb0, .string sb1, .string sb2, .int .i64 xb3, .int .i64 xb4, .string sb5, .int .i64 xb6, .slice Ab7 lb7.length cb7, .slice Ab8 lb8.length cb8] ∧ Below w.heap.size w wr) (fun _ i _ => lb7.length - (RowKit.intOf i).toNat)
      case atStart => exact ⟨0, by omega, rfl, (by simpa [kWord] using HS.out), B1.out, E1.out⟩
      case round =>
        clear HS E1 B1 b1 l1
        obtain ⟨k, hk, rfl, hsk, hB, hb⟩ := hrel
        have HS := Lib.hid hsk
        have E1 := Lib.hid hb
        have B1 := Lib.hid hB
        have b1 := hB.cell
        have l1 := hB.lt
        clear hsk hb hB
        by_cases hlt : k < lb7.length
        · obtain ⟨bk, ok, hA7, hbl7, hc7, hs7⟩ := kcell (H7.out.below E1.out).now k hlt
          have hjI : (k : Int) < lb7.length := by omega
          have hj0 : (0 : Int) ≤ (k : Int) := by omega
          obtain ⟨sk, hsk⟩ : ∃ s, (bStrs lb7)[k]'(by rw [bStrs_len]; exact hlt) = s := ⟨_, rfl⟩
          rw [hsk] at hc7
          have HSK := Lib.hid hsk
          clear hsk hs7
          subst hA7
          go_wp2_with (at_builtin; refine wpList_row1 rfl inf_key (.tmp 25) (.tmp 28) rfl (w1 := wr) (base := w.heap.size + 1) (u := kV (2, 0, sk)) rfl (row_below HS.out (below_a1 _ _)) (by omega) rfl ?hg rfl ?hsm ?_)
          case hg => rfl
          case hsm => rw [List.length_map]; (have := HKE.out; simp [kNum, kWord]; omega)
          intro v' w3 hrow hg
          have HRW := Lib.hid (fun q hq => World.ownsRow.lt HS.out q hq)
          have E3 := Lib.hid (grown_below (below_da E1.out (Nat.le_refl _) _) hg (by simp <;> omega) (fun q hq => by have := (HRW.out q hq).1; omega))
          have B3 := Lib.hid (grown_blk (B1.out.alloc _) hg (fun e => by have := (HRW.out _ e).1; omega))
          have b3 := B3.out.cell
          have l3 := B3.out.lt
          have HS3 : Hid (KR w3 (w.heap.size + 1) v' (kNum m ++ kWord ((bStrs lb7).take (k + 1)))) := by
            show KR _ _ _ _
            rw [kWord_succ (bStrs lb7) k (by rw [HL.out]; exact hlt), ← List.append_assoc, HSK.out]; unfold KR; simpa [Nat.add_assoc] using hrow
          clear hrow hg HRW
          go_wp2
          go_roundw
          case rel => exact ⟨k + 1, by omega, by go_num, HS3.out, B3.out, E3.out⟩
          case measure => simp [RowKit.intOf]; omega
        · obtain rfl : k = lb7.length := by omega
          have HS' := HS
          rw [show (bStrs lb7).take lb7.length = bStrs lb7 from List.take_of_length_le (by rw [HL.out]; exact Nat.le_refl _)] at HS'
          clear hlt hk HS
          by_cases hz : xb6 < 0 ∧ lb7.length = 0
          · obtain ⟨hz1, hz2⟩ := hz
            have HKL : Hid (keyL xb6 (bStrs lb7) = kNum m ++ kWord (bStrs lb7) ++ [(0, 0, ByteArray.empty)]) := by
              show _ = _
              rw [keyL_eq, ← HKE.out, if_pos ⟨hz1, List.eq_nil_of_length_eq_zero (by rw [HL.out]; exact hz2)⟩]
            have hzb : ((lb7.length : Int) == 0) = true := by rw [hz2]; rfl
            have hx1 : (xb6 == -1) = true := by rw [beq_iff_eq]; omega
            have hlenK : (kNum m ++ kWord (bStrs lb7)).length = 0 := by
              simp [kNum, kWord, HL.out, hz2, HKE.out]; omega
            clear hz2
            go_wp2_with (at_builtin; refine wpList_row1 rfl inf_key (.tmp 40) (.tmp 43) rfl (w1 := wr) (base := w.heap.size + 1) (u := kV (0, 0, ByteArray.empty)) rfl (row_below HS'.out (below_a1 _ _)) (by omega) rfl ?hg rfl ?hsm ?_)
            case hg => rfl
            case hsm => rw [List.length_map]; rw [hlenK]; omega
            intro v' w3 hrow hg
            have HRW := Lib.hid (fun q hq => World.ownsRow.lt HS'.out q hq)
            have E3 := Lib.hid (grown_below (below_da E1.out (Nat.le_refl _) _) hg (by simp <;> omega) (fun q hq => by have := (HRW.out q hq).1; omega))
            have B3 := Lib.hid (grown_blk (B1.out.alloc _) hg (fun e => by have := (HRW.out _ e).1; omega))
            have b3 := B3.out.cell
            have l3 := B3.out.lt
            have HS3 : Hid (KR w3 (w.heap.size + 1) v' (keyL xb6 (bStrs lb7))) := by
              show KR _ _ _ _
              rw [HKL.out]; unfold KR; simpa [Nat.add_assoc] using hrow
            clear hrow hg HRW
            obtain ⟨Av, cv, rfl⟩ := HS3.out.form
            go_wp2
            go_ret
            exact ⟨Av, cv, rfl, own_base HS3.out (by omega), E3.out⟩
          · have HKL : Hid (keyL xb6 (bStrs lb7) = kNum m ++ kWord (bStrs lb7)) := by
              show _ = _
              rw [keyL_eq, ← HKE.out, if_neg (fun hh => hz ⟨hh.1, by have := congrArg List.length hh.2; rw [HL.out] at this; simpa using this⟩), List.append_nil]
            have HS4 := HS'
            rw [← HKL.out] at HS4
            clear HS'
            obtain ⟨Av, cv, hv⟩ := HS4.out.form
            subst hv
            by_cases hz1 : xb6 < 0
            · have hz2 : ¬ lb7.length = 0 := fun hh => hz ⟨hz1, hh⟩
              have hzb : ((lb7.length : Int) == 0) = false := by rw [beq_eq_false_iff_ne]; omega
              have hx1 : (xb6 == -1) = true := by rw [beq_iff_eq]; omega
              clear hz hz2
              go_wp2
              go_ret
              exact ⟨Av, cv, rfl, own_base HS4.out (by omega), E1.out⟩
            · have hx1 : (xb6 == -1) = false := by rw [beq_eq_false_iff_ne]; omega
              clear hz
              go_wp2
              go_ret
              exact ⟨Av, cv, rfl, own_base HS4.out (by omega), E1.out⟩
end Go.Proofs.Ytgkcohclejmhkaa.cf
namespace Go.Proofs.Ytgkcohclejmhkaa.cf
open ad mem vl ex un cm bare
open Go.ChangeShapes Go.WideShapes Go.ChangeAt Go.RowKit Go.Lib
set_option linter.unusedVariables false
set_option maxRecDepth 8000
set_option linter.unusedSimpArgs false

theorem keyL_len (D : BlockD) (h : blockOk D) : (keyL D.count D.each).length ≤ 17 := by
  obtain ⟨hc1, hc2, he1, _⟩ := keys_facts h
  rw [keyL_eq]
  simp only [List.length_append, kNum, kWord, List.length_map, List.length_range]
  split <;> simp <;> omega
theorem keyL_ok (D : BlockD) (h : blockOk D) : ∀ k (hk : k < (keyL D.count D.each).length), kOk (keyL D.count D.each)[k] ∧ (keyL D.count D.each)[k].2.2.size ≤ 8 ∧ R64 (keyL D.count D.each)[k].2.1 := fun k hk => by
  obtain ⟨hc1, hc2, he1, he2, _⟩ := keys_facts h
  have hm := List.getElem_mem hk
  generalize (keyL D.count D.each)[k] = q at hm ⊢
  rw [keyL_eq] at hm
  rcases List.mem_append.1 hm with hm | hm
  · rcases List.mem_append.1 hm with hm | hm
    · obtain ⟨j, hj, rfl⟩ := List.mem_map.1 hm
      have := List.mem_range.1 hj
      exact ⟨.inl ⟨rfl, rfl⟩, by simp, by unfold R64; simp only; omega⟩
    · obtain ⟨s, hs, rfl⟩ := List.mem_map.1 hm
      obtain ⟨j, hj, rfl⟩ := List.getElem_of_mem hs
      exact ⟨.inr (.inl ⟨rfl, rfl⟩), he2 j hj, by unfold R64; simp only; omega⟩
  · split at hm
    · obtain rfl := List.mem_singleton.1 hm
      exact ⟨.inr (.inr rfl), by simp, by unfold R64; simp only; omega⟩
    · simp at hm
theorem keysX_no {D : BlockD} (h : blockB D = false) : keysX D = [] := by unfold keysX; rw [h]; rfl
theorem keysX_yes {D : BlockD} (h : blockB D = true) : keysX D = keyX D.addr (keyL D.count D.each) := by unfold keysX; rw [h]; rfl
theorem blockOk_of {D : BlockD} (h : blockB D = true) : blockOk D := by simpa [blockB] using h
theorem nL_dS (l : List ByteArray) : nL (dS l) = l.length := by
  induction l with
  | nil => rfl
  | cons s l ih =>
    show nCs [.s s] + nL (dS l) = l.length + 1
    rw [ih]
    show 1 + 0 + l.length = _
    omega
theorem nCs_dA (d : AddrD) : nCs (dA d) = d.path.length + 5 := by
  show nL (dS d.path) + (1 + (1 + (1 + (1 + (1 + 0))))) = _
  rw [nL_dS]
theorem nL_addrs {l : List AddrD} (h : ∀ d ∈ l, d.path.length ≤ 2) : nL (l.map dA) ≤ 7 * l.length := by
  induction l with
  | nil => simp [nL]
  | cons d l ih =>
    have h1 := ih (fun x hx => h x (List.mem_cons_of_mem _ hx))
    have h2 := h d (by simp)
    show nCs (dA d) + nL (l.map dA) ≤ 7 * (l.length + 1)
    rw [nCs_dA]; omega
theorem keyX_map (d : AddrD) (l : List (Int × Int × ByteArray)) : keyX d l = (l.map (withK d)).map dA := by simp [keyX]
theorem keys_bound (D : BlockD) : 1 + nL (keysX D) ≤ 100000000 := by
  cases hb : blockB D
  · rw [keysX_no hb]; simp [nL]
  · have hok := blockOk_of hb
    have hsm := small_of hok.1
    have h1 := keyL_len D hok
    rw [keysX_yes hb, keyX_map]
    have h2 := nL_addrs (l := (keyL D.count D.each).map (withK D.addr)) (fun d hd => by obtain ⟨k, _, rfl⟩ := List.mem_map.1 hd; exact hsm.len)
    rw [List.length_map] at h2
    omega
theorem sz_block {B : Nat → Prop} {n : Nat} {w : World} {ds : List DC} {vs : List Value} (h : Cells B n w shBlock_ ds vs) : Sz (bA ds) := by
  obtain ⟨lb0, sb1, sb2, xb3, xb4, sb5, xb6, lb7, lb8, Ab0, cb0, Ab7, cb7, Ab8, cb8, rfl, rfl, kb0, kb1, kb2, kb3, kb4, kb5, -⟩ := open_Block h
  have := sz_of (show Cells B n w shAddr_ [.l lb0, .s sb1, .s sb2, .i xb3, .i xb4, .s sb5] [.slice Ab0 lb0.length cb0, .string sb1, .string sb2, .int .i64 xb3, .int .i64 xb4, .string sb5] from ⟨kb0, Cell.mkS kb1, Cell.mkS kb2, Cell.mkI kb3, Cell.mkI kb4, Cell.mkS kb5, trivial⟩)
  exact ⟨this.typ, this.nam, this.key, this.path, this.kind, this.n⟩
set_option maxHeartbeats 2000000 in
theorem keysOf_spec {B : Nat → Prop} {n : Nat} {w : World} {ds : List DC} {vs : List Value} {X : List (List DC)} (hX : keysX (bB n ds) = X) (h : Cells B n w shBlock_ ds vs) :
    Calls Try.prog 22 #[.agg vs.toArray] w (AnsC 2 (.l 2) (.l X) w) := by
  have HB := Lib.hid (Gd.ofC h)
  have HSZ := Lib.hid (sz_block h)
  obtain ⟨lb0, sb1, sb2, xb3, xb4, sb5, xb6, lb7, lb8, Ab0, cb0, Ab7, cb7, Ab8, cb8, rfl, rfl, -⟩ := open_Block h
  clear h
  obtain ⟨D, hD⟩ : ∃ D, bB n [.l lb0, .s sb1, .s sb2, .i xb3, .i xb4, .s sb5, .i xb6, .l lb7, .l lb8] = D := ⟨_, rfl⟩
  rw [hD] at hX
  have HEA : Hid (bA [.l lb0, .s sb1, .s sb2, .i xb3, .i xb4, .s sb5, .i xb6, .l lb7, .l lb8] = D.addr) := (by rw [← hD]; rfl)
  go_enter Try.func22, Try.ntmps22
  cases hb : blockB D
  · go_wp2_with fail
    refine (block_spec hD hb (HB.out.alloc _).now).mono ?_
    rintro _ w1 ⟨rfl, hb⟩
    have E1 := Lib.hid (below_then (below_a1 _ _) hb (Nat.le_refl _))
    have Bb1 := Lib.hid ((Blk.new w _ _).step hb)
    have rb1 := Bb1.out.cell
    have bb1 := Bb1.out.lt
    have SB1 := Lib.hid ((HB.out.alloc _).below hb)
    clear hb HB
    go_wp2
    go_ret
    rw [keysX_no hb] at hX
    subst hX
    exact ⟨_, rfl, (Sack.empty (n := 1) (base := 0) (T := 34) (Nat.zero_le _)).done, below_da E1.out (Nat.le_refl _) _⟩
  go_wp2_with fail
  refine (block_spec hD hb (HB.out.alloc _).now).mono ?_
  rintro _ w1 ⟨rfl, hb⟩
  have E1 := Lib.hid (below_then (below_a1 _ _) hb (Nat.le_refl _))
  have Bb1 := Lib.hid ((Blk.new w _ _).step hb)
  have rb1 := Bb1.out.cell
  have bb1 := Bb1.out.lt
  have SB1 := Lib.hid ((HB.out.alloc _).below hb)
  clear hb HB
  rw [keysX_yes hb] at hX
  have HX := Lib.hid hX
  have hok := blockOk_of hb
  go_wp2_with fail
  refine (l05Keys_any hD hok (SB1.out).now).mono ?_
  rintro _ w2 ⟨v, rfl, hsk, hb'⟩
  have E2 := Lib.hid (below_then E1.out hb' (Nat.le_refl _))
  have HS := Lib.hid hsk
  clear hsk hb'
  go_wp2
  go_ret
  exact ⟨_, rfl, HX.out ▸ HS.out.done, E2.out⟩
set_option maxHeartbeats 2000000 in
theorem keysOf_impl {B : Nat → Prop} {n : Nat} {w : World} {ds : List DC} {vs : List Value} {X : List (List DC)} (hX : keysX (bB n ds) = X) (h : Cells B n w shBlock_ ds vs) :
    Calls Try.prog 24 #[.agg vs.toArray] w (NewC 2 (.l 2) (.l X) w) := by
  have HB := Lib.hid (Gd.ofC h)
  have HSZ := Lib.hid (sz_block h)
  obtain ⟨lb0, sb1, sb2, xb3, xb4, sb5, xb6, lb7, lb8, Ab0, cb0, Ab7, cb7, Ab8, cb8, rfl, rfl, -⟩ := open_Block h
  clear h
  obtain ⟨D, hD⟩ : ∃ D, bB n [.l lb0, .s sb1, .s sb2, .i xb3, .i xb4, .s sb5, .i xb6, .l lb7, .l lb8] = D := ⟨_, rfl⟩
  rw [hD] at hX
  have HEA : Hid (bA [.l lb0, .s sb1, .s sb2, .i xb3, .i xb4, .s sb5, .i xb6, .l lb7, .l lb8] = D.addr) := (by rw [← hD]; rfl)
  go_enter Try.func24, Try.ntmps24
  cases hb : blockB D
  · go_wp2_with fail
    refine (block_impl hD hb (HB.out.alloc _).now).mono ?_
    rintro _ w1 ⟨rfl, hb⟩
    have E1 := Lib.hid (below_then (below_a1 _ _) hb (Nat.le_refl _))
    have Bb1 := Lib.hid ((Blk.new w _ _).step hb)
    have rb1 := Bb1.out.cell
    have bb1 := Bb1.out.lt
    have SB1 := Lib.hid ((HB.out.alloc _).below hb)
    clear hb HB
    go_wp2
    go_ret
    rw [keysX_no hb] at hX
    subst hX
    exact ⟨_, rfl, (Bag.nil 1 _ _ 34 2).done, E1.out⟩
  go_wp2_with fail
  refine (block_impl hD hb (HB.out.alloc _).now).mono ?_
  rintro _ w1 ⟨rfl, hb⟩
  have E1 := Lib.hid (below_then (below_a1 _ _) hb (Nat.le_refl _))
  have Bb1 := Lib.hid ((Blk.new w _ _).step hb)
  have rb1 := Bb1.out.cell
  have bb1 := Bb1.out.lt
  have SB1 := Lib.hid ((HB.out.alloc _).below hb)
  clear hb HB
  rw [keysX_yes hb] at hX
  have HX := Lib.hid hX
  have hok := blockOk_of hb
  have HOK := Lib.hid hok
  go_wp2_with fail
  refine (instanceKeys_any hD hok (SB1.out).now).mono ?_
  rintro _ w2 ⟨Ak, ck, rfl, hkr, hb'⟩
  have HKR := Lib.hid hkr
  have E2 := Lib.hid (below_then E1.out hb' (Nat.le_refl _))
  have Bb2 := Lib.hid ((Bb1.out).step hb')
  have rb2 := Bb2.out.cell
  have bb2 := Bb2.out.lt
  have SB2 := Lib.hid ((SB1.out).below hb')
  clear hb' hkr hb hX hok Bb1 rb1 bb1 SB1 E1
  have K := transform_keys (D := D.addr) HEA.out (keyL_ok D HOK.out) (small_of HOK.out.1) (HEA.out ▸ HSZ.out) (by have := keyL_len D HOK.out; omega) (SB2.out).now Bb2.out HKR.out
  go_wp2_with fail
  refine K.mono ?_
  clear K
  rintro _ w3 ⟨v, rfl, hbag, hb'⟩
  have HG := Lib.hid hbag
  have E3 := Lib.hid (below_then E2.out hb' (Nat.le_refl _))
  have hsz := hb'.size
  have hs0 := E2.out.size
  clear hbag hb'
  go_wp2
  go_ret
  exact ⟨_, rfl, HX.out ▸ HG.out.done.mono (fun x hx => ⟨Nat.le_trans (by simpa using hs0) hx.1, hx.2⟩), E3.out⟩
end Go.Proofs.Ytgkcohclejmhkaa.cf
