/- AddrRead of the program. -/
import Derived.Test.YtfjfneliajmjbaaDoorArJ
namespace Go.Proofs.YtfjfneliajmjbaaDoor.ari
open ad mem own bare ard nump rda dig ars
open Go.ChangeShapes Go.WideShapes Go.ChangeAt Go.RowKit Go.Lib
set_option linter.unusedVariables false
set_option maxRecDepth 8000
set_option linter.unusedSimpArgs false

theorem keyR_size (t : ByteArray) : (keyR t).2.2.size ≤ t.size := by
  cases hw : wordB t
  · by_cases hp : ∃ v, Lib.parseIntB 64 t.data.toList = .ok v
    · obtain ⟨v, hv⟩ := hp
      rw [keyR_ok hw hv]; exact Nat.zero_le _
    · rw [keyR_bad hw (fun v hv => hp ⟨v, hv⟩)]; exact Nat.zero_le _
  · rw [keyR_word hw]; exact Nat.le_refl _
theorem keyI_size (ok : Bool) (y : ByteArray) : (keyI ok y).2.2.size ≤ y.size := by
  unfold keyI
  split
  · refine Nat.le_trans (keyR_size _) ?_
    rw [bs_size]; exact trim_le _
  · exact Nat.zero_le _
theorem cutI_size (s : ByteArray) (hs : s.size ≤ 8000) : (cutI s).path.length ≤ 8000 ∧ (cutI s).typ.size ≤ 8000 ∧ (cutI s).nam.size ≤ 8000 ∧ (cutI s).key.size ≤ 8000 ∧ ∀ k (h : k < (cutI s).path.length), (cutI s).path[k].size ≤ 8000 := by
  obtain ⟨pre, x0, hp⟩ := parts_cut s
  have hlen : pre.length ≤ 8000 := by have := parts_len s; rw [hp] at this; simp at this; omega
  have z0 : x0.size ≤ 8000 := Nat.le_trans (parts_size s x0 (by rw [hp]; simp)) hs
  have e0 : x0.size = x0.data.toList.length := rfl
  have l1 := cut_len x0.data.toList 46
  have l2 := cut_len (Lib.cut x0.data.toList [46]).2.1 91
  have l3 := keyI_size (Lib.cut (Lib.cut x0.data.toList [46]).2.1 [91]).2.2 (bs (Lib.cut (Lib.cut x0.data.toList [46]).2.1 [91]).2.1)
  rw [bs_size] at l3
  rw [cutI_eq hp]
  refine ⟨hlen, ?_, ?_, ?_, fun k hk => Nat.le_trans (parts_size s pre[k] (by rw [hp]; simp)) hs⟩
  · show (bs _).size ≤ _
    rw [bs_size]; omega
  · show (bs _).size ≤ _
    rw [bs_size]; omega
  · exact Nat.le_trans l3 (by omega)

set_option maxHeartbeats 1500000 in
theorem read_impl (s : ByteArray) (w : World) (hs : s.size ≤ 1000000000) (hE : par.Errs w) (hM : Mx w) :
    Calls Tryd.prog 5 #[.string s] w (MadeR w (ansA s).1 (ansA s).2) := by
  by_cases h8 : 8000 < s.size
  · have h8I : 8000 < (s.size : Int) := by omega
    rw [ansA_long h8]
    clear h8
    go_enter Tryd.func5, Tryd.ntmps5
    go_wp2
    refine bodyPost_ret (v := .agg #[.slice none 0 0, .string ByteArray.empty, .string ByteArray.empty, .int .i64 0, .int .i64 0, .string ByteArray.empty, .int .i64 2]) (by simp [results, Tryd.results5, go_sem]; try rfl) rfl ⟨none, 0, rfl, Own.nil _ _, ?_⟩
    repeat (first | exact below_a1 _ _ | with_reducible refine Below.setCell ?_ (by simp <;> omega) _)
  · have h8I : (s.size : Int) ≤ 8000 := by omega
    have hu : ∀ u, HasA s u → cutI s = u := fun u h => cutI_is h
    obtain ⟨zp, zt, zn, zk, ze⟩ := cutI_size s (by omega)
    have KC := fun (W : World) h1 h2 => Lib.hid (cut_impl s W (by omega) h1 h2)
    have EW := Lib.hid (hE.below (below_a1 w (.cells #[.slice none 0 0, .string ⟨#[]⟩, .string ⟨#[]⟩, .int .i64 0, .int .i64 0, .string ⟨#[]⟩, .int .i64 0] 26)))
    have MW := Lib.hid (hM.alloc (.cells #[.slice none 0 0, .string ⟨#[]⟩, .string ⟨#[]⟩, .int .i64 0, .int .i64 0, .string ⟨#[]⟩, .int .i64 0] 26))
    have m1 : 8000 ≤ maxLen := by unfold maxLen; omega
    have KR := fun (A : Option Addr) (c : Nat) (W : World) h => Lib.hid (adr.right_impl A c (cutI s) W h (Nat.le_trans zp m1) (Nat.le_trans zt m1) (Nat.le_trans zn m1) (Nat.le_trans zk m1))
    have KT := fun (A : Option Addr) (c : Nat) (W : World) h => Lib.hid (txt.text_impl A c (cutI s) W h (Nat.le_trans zp m1) (Nat.le_trans zt m1) (Nat.le_trans zn m1) (Nat.le_trans zk m1))
    have KP := fun (A : Option Addr) (c : Nat) (W : World) h => Lib.hid (bare.copy_impl A c (cutI s) W h (by omega) (by omega) (by omega) (by omega) (fun k hk => by have := ze k hk; omega))
    clear zp zt zn zk ze hE hM
    by_cases hr : addrB (cutI s) = true
    · by_cases hv : HasA s (cutI s)
      · have e2 : bs (addrT (cutI s)) = s := by
          have := (hasA_iff (has_neA hv)).1 hv
          rw [this]; rfl
        rw [ansA_yes h8 hu hv]
        rw [hr] at KR
        rw [e2] at KT
        generalize cutI s = d at *
        clear hu hv e2 h8
        go_enter Tryd.func5, Tryd.ntmps5
        go_wp2_with fail
        refine (KC _ EW.out MW.out).out.mono ?_
        rintro _ w1 ⟨B, c, rfl, hst, hb⟩
        have S1 := Lib.hid (hst.alloc (.cells #[.slice B d.path.length c, .string d.typ, .string d.nam, .int .i64 d.kind, .int .i64 d.n, .string d.key] 24))
        have E1 := Lib.hid (below_da (below_then (below_a1 w _) hb (Nat.le_refl _)) (Nat.le_refl _) (.cells #[.slice B d.path.length c, .string d.typ, .string d.nam, .int .i64 d.kind, .int .i64 d.n, .string d.key] 24))
        have G1 := Lib.hid (((Blk.new w _ _).step hb).alloc (.cells #[.slice B d.path.length c, .string d.typ, .string d.nam, .int .i64 d.kind, .int .i64 d.n, .string d.key] 24))
        have A1 := Lib.hid (Blk.new w1 24 #[.slice B d.path.length c, .string d.typ, .string d.nam, .int .i64 d.kind, .int .i64 d.n, .string d.key])
        clear hst hb
        go_wp2_with fail
        refine (KR _ _ _ S1.out).out.mono ?_
        rintro _ w2 ⟨rfl, hb⟩
        have S2 := Lib.hid (S1.out.below hb)
        have E2 := Lib.hid (below_then E1.out hb (Nat.le_refl _))
        have G2 := Lib.hid (G1.out.step hb)
        have A2 := Lib.hid (A1.out.step hb)
        have a2 := A2.out.cell
        clear hb
        go_wp2_with fail
        refine (KT _ _ _ S2.out).out.mono ?_
        rintro _ w3 ⟨rfl, hb⟩
        have S3 := Lib.hid (S2.out.below hb)
        have E3 := Lib.hid (below_then E2.out hb (Nat.le_refl _))
        have G3 := Lib.hid (G2.out.step hb)
        have A3 := Lib.hid (A2.out.step hb)
        have a3 := A3.out.cell
        clear hb a2
        go_wp2_with fail
        refine (KP _ _ _ S3.out).out.mono ?_
        rintro _ w4 ⟨B4, c4, rfl, hown, hb⟩
        have E4 := Lib.hid (below_then E3.out hb (Nat.le_refl _))
        have G4 := Lib.hid (G3.out.step hb)
        have O4 := Lib.hid hown
        have g4 := G4.out.cell
        have h4 := G4.out.free
        have y4 := G3.out.lt
        clear hb hown a3
        go_wp2
        refine bodyPost_ret (v := .agg #[.slice B4 d.path.length c4, .string d.typ, .string d.nam, .int .i64 d.kind, .int .i64 d.n, .string d.key, .int .i64 0]) (by simp [results, Tryd.results5, go_sem, g4, h4]; try rfl) rfl ⟨B4, c4, rfl, ?_, ?_⟩
        · refine Own.mono (base := w3.heap.size) ?_ (by omega)
          repeat (first | with_reducible exact O4.out | with_reducible refine Own.far ?_ (by simp <;> omega) _)
        · repeat (first | with_reducible exact E4.out | with_reducible refine Below.setCell ?_ (by simp <;> omega) _)
      · have hno := noA_of hu hv
        rw [ansA_no h8 hno]
        have hc0 : ((bs (addrT (cutI s))).toList == s.toList) = false := by
          rw [tl_beq]; simp
          intro e
          refine hv ⟨hr, ?_⟩
          have := congrArg (fun x : ByteArray => x.data.toList) e
          rw [addrT, if_pos hr] at this
          exact this
        rw [hr] at KR
        generalize bs (addrT (cutI s)) = T at *
        generalize cutI s = d at *
        clear hu hv hno h8
        go_enter Tryd.func5, Tryd.ntmps5
        go_wp2_with fail
        refine (KC _ EW.out MW.out).out.mono ?_
        rintro _ w1 ⟨B, c, rfl, hst, hb⟩
        have S1 := Lib.hid (hst.alloc (.cells #[.slice B d.path.length c, .string d.typ, .string d.nam, .int .i64 d.kind, .int .i64 d.n, .string d.key] 24))
        have E1 := Lib.hid (below_da (below_then (below_a1 w _) hb (Nat.le_refl _)) (Nat.le_refl _) (.cells #[.slice B d.path.length c, .string d.typ, .string d.nam, .int .i64 d.kind, .int .i64 d.n, .string d.key] 24))
        have G1 := Lib.hid (((Blk.new w _ _).step hb).alloc (.cells #[.slice B d.path.length c, .string d.typ, .string d.nam, .int .i64 d.kind, .int .i64 d.n, .string d.key] 24))
        have A1 := Lib.hid (Blk.new w1 24 #[.slice B d.path.length c, .string d.typ, .string d.nam, .int .i64 d.kind, .int .i64 d.n, .string d.key])
        clear hst hb
        go_wp2_with fail
        refine (KR _ _ _ S1.out).out.mono ?_
        rintro _ w2 ⟨rfl, hb⟩
        have S2 := Lib.hid (S1.out.below hb)
        have E2 := Lib.hid (below_then E1.out hb (Nat.le_refl _))
        have G2 := Lib.hid (G1.out.step hb)
        have A2 := Lib.hid (A1.out.step hb)
        have a2 := A2.out.cell
        clear hb
        go_wp2_with fail
        refine (KT _ _ _ S2.out).out.mono ?_
        rintro _ w3 ⟨rfl, hb⟩
        have E3 := Lib.hid (below_then E2.out hb (Nat.le_refl _))
        have G3 := Lib.hid (G2.out.step hb)
        have g3 := G3.out.cell
        have h3 := G3.out.free
        clear hb a2
        go_wp2
        refine bodyPost_ret (v := .agg #[.slice none 0 0, .string ByteArray.empty, .string ByteArray.empty, .int .i64 0, .int .i64 0, .string ByteArray.empty, .int .i64 3]) (by simp [results, Tryd.results5, go_sem, g3, h3]; try rfl) rfl ⟨none, 0, rfl, Own.nil _ _, ?_⟩
        repeat (first | with_reducible exact E3.out | with_reducible refine Below.setCell ?_ (by simp <;> omega) _)
    · have hno : ¬ ∃ u, HasA s u := noA_of hu (fun h => hr h.1)
      rw [ansA_no h8 hno]
      have hrf : addrB (cutI s) = false := by simpa using hr
      rw [hrf] at KR
      generalize cutI s = d at *
      clear hu hno h8 hr
      go_enter Tryd.func5, Tryd.ntmps5
      go_wp2_with fail
      refine (KC _ EW.out MW.out).out.mono ?_
      rintro _ w1 ⟨B, c, rfl, hst, hb⟩
      have S1 := Lib.hid (hst.alloc (.cells #[.slice B d.path.length c, .string d.typ, .string d.nam, .int .i64 d.kind, .int .i64 d.n, .string d.key] 24))
      have E1 := Lib.hid (below_da (below_then (below_a1 w _) hb (Nat.le_refl _)) (Nat.le_refl _) (.cells #[.slice B d.path.length c, .string d.typ, .string d.nam, .int .i64 d.kind, .int .i64 d.n, .string d.key] 24))
      have G1 := Lib.hid (((Blk.new w _ _).step hb).alloc (.cells #[.slice B d.path.length c, .string d.typ, .string d.nam, .int .i64 d.kind, .int .i64 d.n, .string d.key] 24))
      clear hst hb
      go_wp2_with fail
      refine (KR _ _ _ S1.out).out.mono ?_
      rintro _ w2 ⟨rfl, hb⟩
      have E2 := Lib.hid (below_then E1.out hb (Nat.le_refl _))
      have G2 := Lib.hid (G1.out.step hb)
      have g2 := G2.out.cell
      have h2 := G2.out.free
      clear hb
      go_wp2
      refine bodyPost_ret (v := .agg #[.slice none 0 0, .string ByteArray.empty, .string ByteArray.empty, .int .i64 0, .int .i64 0, .string ByteArray.empty, .int .i64 3]) (by simp [results, Tryd.results5, go_sem, g2, h2]; try rfl) rfl ⟨none, 0, rfl, Own.nil _ _, ?_⟩
      repeat (first | with_reducible exact E2.out | with_reducible refine Below.setCell ?_ (by simp <;> omega) _)
end Go.Proofs.YtfjfneliajmjbaaDoor.ari
