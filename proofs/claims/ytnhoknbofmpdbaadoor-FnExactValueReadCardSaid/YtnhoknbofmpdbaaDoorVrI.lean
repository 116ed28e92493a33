/- ValueRead of the program. -/
import Derived.Test.YtnhoknbofmpdbaaDoorPar
import Derived.Test.YtnhoknbofmpdbaaDoorVrS
import Derived.Test.YtnhoknbofmpdbaaDoorBare
namespace Go.Proofs.YtnhoknbofmpdbaaDoor.vr
open ad mem vl dig nump
open Go.ChangeShapes Go.WideShapes Go.ChangeAt Go.RowKit Go.Lib
set_option linter.unusedVariables false
set_option maxRecDepth 8000
set_option linter.unusedSimpArgs false

/-- what the program takes a text for. -/
noncomputable def cutI (s : ByteArray) : ValD :=
  match s.data.toList with
  | 34 :: r => ⟨2, 0, bs (Lib.trimSuffix r [34])⟩
  | l => match Lib.parseIntB 64 l with
    | .ok v => ⟨1, v, ByteArray.empty⟩
    | _ => ⟨0, 0, ByteArray.empty⟩
theorem cutI_quote {s : ByteArray} {r : List UInt8} (h : s.data.toList = 34 :: r) : cutI s = ⟨2, 0, bs (Lib.trimSuffix r [34])⟩ := by
  unfold cutI; rw [h]
  first | rfl | simp | (split <;> simp_all)
theorem cutI_ok {s : ByteArray} (h : ∀ r, s.data.toList ≠ 34 :: r) {v : Int} (hp : Lib.parseIntB 64 s.data.toList = .ok v) : cutI s = ⟨1, v, ByteArray.empty⟩ := by
  unfold cutI
  split
  · rename_i r e; exact absurd e (h r)
  · rw [hp]
theorem cutI_bad {s : ByteArray} (h : ∀ r, s.data.toList ≠ 34 :: r) (hp : ∀ v, Lib.parseIntB 64 s.data.toList ≠ .ok v) : cutI s = ⟨0, 0, ByteArray.empty⟩ := by
  unfold cutI
  split
  · rename_i r e; exact absurd e (h r)
  · split
    · rename_i v e; exact absurd e (hp v)
    · rfl
theorem trim_q (x : List UInt8) : Lib.trimSuffix (x ++ [34]) [34] = x := by
  unfold Lib.trimSuffix Lib.hasSuffix
  rw [if_pos (by rw [List.isSuffixOf_iff_suffix]; exact List.suffix_append _ _)]
  simp
theorem trim_len (x : List UInt8) : (Lib.trimSuffix x [34]).length ≤ x.length := by
  unfold Lib.trimSuffix
  split <;> simp
theorem cutI_is {s : ByteArray} {v : ValD} (h : HasV s v) : cutI s = v := by
  by_cases hq : ∃ r, s.data.toList = 34 :: r
  · obtain ⟨r, hr⟩ := hq
    obtain ⟨k, n, e⟩ := quote_cut r hr h
    rw [cutI_quote hr]
    refine val_ext k n ?_
    rw [e, trim_q]; rfl
  · have hq' : ∀ r, s.data.toList ≠ 34 :: r := fun r hr => hq ⟨r, hr⟩
    obtain ⟨k, ht, n0, n1, e⟩ := num_cut hq' h
    rw [cutI_ok hq' (v := v.n) (by rw [e]; exact parseI_itoa v.n (by omega) (by omega))]
    exact val_ext k rfl ht
theorem cutI_text (s : ByteArray) : (cutI s).text.size ≤ s.size := by
  by_cases hq : ∃ r, s.data.toList = 34 :: r
  · obtain ⟨r, hr⟩ := hq
    rw [cutI_quote hr]
    have := trim_len r
    have e : s.size = r.length + 1 := by rw [size_len, hr]; simp
    show (bs _).size ≤ _
    rw [bs_size]; omega
  · have hq' : ∀ r, s.data.toList ≠ 34 :: r := fun r hr => hq ⟨r, hr⟩
    by_cases hp : ∃ v, Lib.parseIntB 64 s.data.toList = .ok v
    · obtain ⟨v, hv⟩ := hp
      rw [cutI_ok hq' hv]; exact Nat.zero_le _
    · rw [cutI_bad hq' (fun v hv => hp ⟨v, hv⟩)]; exact Nat.zero_le _

set_option maxHeartbeats 1000000 in
theorem cut_any (s : ByteArray) (w : World) (hs : s.size ≤ 1000000000) (hE : par.Errs w) :
    Calls Tryd.prog 41 #[.string s] w (vl.Told w (.agg #[.int .i64 (cutI s).kind, .int .i64 (cutI s).n, .string (cutI s).text])) := by
  have HE := Lib.hid hE
  clear hE
  by_cases hq : ∃ r, s.data.toList = 34 :: r
  · obtain ⟨r, hr⟩ := hq
    rw [cutI_quote hr]
    have hrl : r.length ≤ 1000000000 := by have : s.size = r.length + 1 := by rw [size_len, hr]; simp
                                           omega
    have e1 : Lib.hasPrefix s.data.toList (⟨#[34]⟩ : ByteArray).data.toList = true := by rw [hr]; rfl
    have e2 : Lib.trimPrefix s.data.toList (⟨#[34]⟩ : ByteArray).data.toList = r := by
      unfold Lib.trimPrefix; rw [if_pos e1, hr]; rfl
    have KP := fun (W : World) => Tryd.strings_CutPrefix s ⟨#[34]⟩ W
    rw [e1, e2] at KP
    have KP := fun (W : World) => Lib.hid (KP W)
    have KT := fun (W : World) => Lib.hid (Tryd.strings_TrimSuffix (bs r) ⟨#[34]⟩ W (by rw [bs_size]; omega))
    clear hr e1 e2 HE
    go_enter Tryd.func41, Tryd.ntmps41
    go_wp2_with fail
    refine (KP _).out.mono ?_
    rintro _ _ ⟨rfl, rfl⟩
    go_wp2_with fail
    refine (KT _).out.mono ?_
    rintro _ _ ⟨rfl, rfl⟩
    go_wp2
    refine bodyPost_ret (v := .agg #[.int .i64 2, .int .i64 0, .string (bs (Lib.trimSuffix r [34]))]) (by simp [results, Tryd.results41, go_sem]; try rfl) rfl ⟨rfl, ?_⟩
    repeat (first | exact below_a1 _ _ | with_reducible refine Below.setCell ?_ (by simp <;> omega) _)
  · have hq' : ∀ r, s.data.toList ≠ 34 :: r := fun r hr => hq ⟨r, hr⟩
    have e1 : Lib.hasPrefix s.data.toList (⟨#[34]⟩ : ByteArray).data.toList = false := by
      cases hc : s.data.toList with
      | nil => rfl
      | cons c r =>
        have : c ≠ 34 := fun e => hq' r (by rw [hc, e])
        show List.isPrefixOf [34] (c :: r) = false
        simp [List.isPrefixOf]
        exact fun e => this e.symm
    have KP := fun (W : World) => Tryd.strings_CutPrefix s ⟨#[34]⟩ W
    rw [e1] at KP
    have KP := fun (W : World) => Lib.hid (KP W)
    generalize (⟨(Lib.trimPrefix s.data.toList (⟨#[34]⟩ : ByteArray).data.toList).toArray⟩ : ByteArray) = tp at KP
    by_cases hp : ∃ v, Lib.parseIntB 64 s.data.toList = .ok v
    · obtain ⟨v, hv⟩ := hp
      rw [cutI_ok hq' hv]
      have KI := fun (W : World) => Lib.hid (par.parse_ok s v hv hs W)
      clear hq hq' e1 hv HE
      go_enter Tryd.func41, Tryd.ntmps41
      go_wp2_with fail
      refine (KP _).out.mono ?_
      rintro _ _ ⟨rfl, rfl⟩
      go_wp2_with fail
      refine (KI _).out.mono ?_
      rintro _ w1 ⟨rfl, hb⟩
      have E1 := Lib.hid (below_then (below_a1 _ _) hb (Nat.le_refl _))
      have R1 := Lib.hid ((Blk.new w _ _).step hb)
      have r1 := R1.out.cell
      have f1 := R1.out.free
      have z1 := R1.out.lt
      clear hb
      go_wp2
      refine bodyPost_ret (v := .agg #[.int .i64 1, .int .i64 v, .string ByteArray.empty]) (by simp [results, Tryd.results41, go_sem, r1, f1, z1]; try rfl) rfl ⟨rfl, ?_⟩
      repeat (first | exact E1.out | with_reducible refine Below.setCell ?_ (by simp <;> omega) _)
    · have hp' : ∀ v, Lib.parseIntB 64 s.data.toList ≠ .ok v := fun v hv => hp ⟨v, hv⟩
      rw [cutI_bad hq' hp']
      have KI := fun (W : World) (hW : par.Errs W) => Lib.hid (par.parse_bad s hp' hs W hW)
      clear hq hq' e1 hp hp'
      go_enter Tryd.func41, Tryd.ntmps41
      go_wp2_with fail
      refine (KP _).out.mono ?_
      rintro _ _ ⟨rfl, rfl⟩
      go_wp2_with fail
      refine (KI _ (HE.out.below (below_a1 _ _))).out.mono ?_
      rintro _ w1 ⟨n, t, p, rfl, hb⟩
      have E1 := Lib.hid (below_then (below_a1 _ _) hb (Nat.le_refl _))
      have R1 := Lib.hid ((Blk.new w _ _).step hb)
      have r1 := R1.out.cell
      have f1 := R1.out.free
      have z1 := R1.out.lt
      clear hb
      go_wp2
      refine bodyPost_ret (v := .agg #[.int .i64 0, .int .i64 0, .string ByteArray.empty]) (by simp [results, Tryd.results41, go_sem, r1, f1, z1]; try rfl) rfl ⟨rfl, ?_⟩
      repeat (first | exact E1.out | with_reducible refine Below.setCell ?_ (by simp <;> omega) _)

set_option maxHeartbeats 2000000 in
theorem read_impl (s : ByteArray) (w : World) (hs : s.size ≤ 1000000000) (hE : par.Errs w) (hT : Tab w) :
    Calls Tryd.prog 17 #[.string s] w (vl.Told w (.agg #[.int .i64 (ans s).1.kind, .int .i64 (ans s).1.n, .string (ans s).1.text, .int .i64 (ans s).2])) := by
  by_cases h8 : 8000 < s.size
  · have h8I : 8000 < (s.size : Int) := by omega
    rw [ans_long h8]
    clear h8 hE hT
    go_enter Tryd.func17, Tryd.ntmps17
    go_wp2
    refine bodyPost_ret (v := .agg #[.int .i64 0, .int .i64 0, .string ByteArray.empty, .int .i64 2]) (by simp [results, Tryd.results17, go_sem]; try rfl) rfl ⟨rfl, ?_⟩
    repeat (first | exact below_a1 _ _ | with_reducible refine Below.setCell ?_ (by simp <;> omega) _)
  · have h8I : (s.size : Int) ≤ 8000 := by omega
    have hu : ∀ u, HasV s u → cutI s = u := fun u h => cutI_is h
    have ht := cutI_text s
    have hml : (cutI s).text.size ≤ maxLen := by unfold maxLen; omega
    have K1 := fun (W : World) (hW : Below w.heap.size w W) => Lib.hid (cut_any s W hs (hE.below hW))
    have KR := fun (W : World) => Lib.hid (vl.right_impl (cutI s) W hml)
    have K2 := fun (W : World) (hW : Below w.heap.size w W) => Lib.hid (textV_impl (cutI s) W hml (hT.below hW))
    have KC := fun (W : World) => Lib.hid (bare.clone_any (cutI s).text W (by omega))
    by_cases hv : HasV s (cutI s)
    · have hne := has_ne hv
      have e2 : bs (valT (cutI s)) = s := by
        have := (has_iff hne).1 hv
        rw [this]; rfl
      rw [e2] at K2
      rw [hv.1] at KR
      rw [ans_yes h8 hu hv]
      generalize cutI s = v at *
      clear hu hv hne e2 h8 hml hE hT
      go_enter Tryd.func17, Tryd.ntmps17
      go_wp2_with fail
      refine (K1 _ (below_a1 _ _)).out.mono ?_
      rintro _ w1 ⟨rfl, hb⟩
      have E1 := Lib.hid (below_then (below_a1 _ _) hb (Nat.le_refl _))
      have R1 := Lib.hid ((Blk.new w _ _).step hb)
      clear hb
      go_wp2_with fail
      refine (KR _).out.mono ?_
      rintro _ w2 ⟨rfl, hb⟩
      have E2 := Lib.hid (below_then (below_da E1.out (Nat.le_refl _) _) hb (Nat.le_refl _))
      have R2 := Lib.hid ((R1.out.alloc _).step hb)
      have V2 := Lib.hid ((Blk.new w1 _ _).step hb)
      have v2 := V2.out.cell
      clear hb
      go_wp2_with fail
      refine (K2 _ E2.out).out.mono ?_
      rintro _ w3 ⟨rfl, hb⟩
      have E3 := Lib.hid (below_then E2.out hb (Nat.le_refl _))
      have R3 := Lib.hid (R2.out.step hb)
      have V3 := Lib.hid (V2.out.step hb)
      have v3 := V3.out.cell
      clear hb v2 V2 R2 E2
      go_wp2_with fail
      refine (KC _).out.mono ?_
      rintro _ w4 ⟨rfl, hb⟩
      have E4 := Lib.hid (below_then E3.out hb (Nat.le_refl _))
      have R4 := Lib.hid (R3.out.step hb)
      have V4 := Lib.hid (V3.out.step hb)
      have v4 := V4.out.cell
      have g4 := V4.out.free
      have r4 := R4.out.cell
      have f4 := R4.out.free
      have z4 := R4.out.lt
      have n4 : ¬ w.heap.size = w1.heap.size := by have := R1.out.lt; omega
      have m4 : ¬ w1.heap.size = w.heap.size := by have := R1.out.lt; omega
      have y4 := V4.out.lt
      have x4 := E1.out.size
      clear hb v3 V3 R3 E3 R1
      go_wp2
      refine bodyPost_ret (v := .agg #[.int .i64 v.kind, .int .i64 v.n, .string v.text, .int .i64 0]) (by simp [results, Tryd.results17, go_sem, r4, f4, z4, n4, m4, v4]; try rfl) rfl ⟨rfl, ?_⟩
      repeat (first | exact E4.out | with_reducible refine Below.setCell ?_ (by simp <;> omega) _)
    · have hno := no_of hu hv
      rw [ans_no h8 hno]
      cases hr : valB (cutI s)
      · rw [hr] at KR
        generalize cutI s = v at *
        clear hu hv hno h8 hml hE hT hr K2 KC
        go_enter Tryd.func17, Tryd.ntmps17
        go_wp2_with fail
        refine (K1 _ (below_a1 _ _)).out.mono ?_
        rintro _ w1 ⟨rfl, hb⟩
        have E1 := Lib.hid (below_then (below_a1 _ _) hb (Nat.le_refl _))
        have R1 := Lib.hid ((Blk.new w _ _).step hb)
        clear hb
        go_wp2_with fail
        refine (KR _).out.mono ?_
        rintro _ w2 ⟨rfl, hb⟩
        have E2 := Lib.hid (below_then (below_da E1.out (Nat.le_refl _) _) hb (Nat.le_refl _))
        have R2 := Lib.hid ((R1.out.alloc _).step hb)
        have r2 := R2.out.cell
        have f2 := R2.out.free
        have z2 := R2.out.lt
        clear hb
        go_wp2
        refine bodyPost_ret (v := .agg #[.int .i64 0, .int .i64 0, .string ByteArray.empty, .int .i64 3]) (by simp [results, Tryd.results17, go_sem, r2, f2, z2]; try rfl) rfl ⟨rfl, ?_⟩
        repeat (first | exact E2.out | with_reducible refine Below.setCell ?_ (by simp <;> omega) _)
      · have hc : ((bs (valT (cutI s))).toList == s.toList) = false := by
          rw [tl_beq]; simp
          intro e
          refine hv ⟨hr, ?_⟩
          have e1 : valT (cutI s) = s.data.toList := congrArg (fun x : ByteArray => x.data.toList) e
          rw [← e1]; simp [valT, hr]
        rw [hr] at KR
        generalize bs (valT (cutI s)) = T at *
        generalize cutI s = v at *
        clear hu hv hno h8 hml hE hT hr KC
        go_enter Tryd.func17, Tryd.ntmps17
        go_wp2_with fail
        refine (K1 _ (below_a1 _ _)).out.mono ?_
        rintro _ w1 ⟨rfl, hb⟩
        have E1 := Lib.hid (below_then (below_a1 _ _) hb (Nat.le_refl _))
        have R1 := Lib.hid ((Blk.new w _ _).step hb)
        clear hb
        go_wp2_with fail
        refine (KR _).out.mono ?_
        rintro _ w2 ⟨rfl, hb⟩
        have E2 := Lib.hid (below_then (below_da E1.out (Nat.le_refl _) _) hb (Nat.le_refl _))
        have R2 := Lib.hid ((R1.out.alloc _).step hb)
        have V2 := Lib.hid ((Blk.new w1 _ _).step hb)
        have v2 := V2.out.cell
        clear hb
        go_wp2_with fail
        refine (K2 _ E2.out).out.mono ?_
        rintro _ w3 ⟨rfl, hb⟩
        have E3 := Lib.hid (below_then E2.out hb (Nat.le_refl _))
        have R3 := Lib.hid (R2.out.step hb)
        have r3 := R3.out.cell
        have f3 := R3.out.free
        have z3 := R3.out.lt
        clear hb v2 V2 R2 E2
        go_wp2
        refine bodyPost_ret (v := .agg #[.int .i64 0, .int .i64 0, .string ByteArray.empty, .int .i64 3]) (by simp [results, Tryd.results17, go_sem, r3, f3, z3]; try rfl) rfl ⟨rfl, ?_⟩
        repeat (first | exact E3.out | with_reducible refine Below.setCell ?_ (by simp <;> omega) _)
end Go.Proofs.YtnhoknbofmpdbaaDoor.vr
