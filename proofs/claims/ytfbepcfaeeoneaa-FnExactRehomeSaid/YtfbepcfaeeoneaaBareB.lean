/- Bare, of the program and of the model. -/
import Derived.Test.YtfbepcfaeeoneaaBare
import Derived.Deep.RegionHeld3
namespace Go.Proofs.Ytfbepcfaeeoneaa.bare
open ad mem own
open Go.ChangeShapes Go.WideShapes Go.ChangeAt Go.RowKit Go.Lib
set_option linter.unusedVariables false
set_option linter.unusedSimpArgs false

set_option maxHeartbeats 2000000 in
theorem bare_impl (A : Option Addr) (c : Nat) (d : AddrD) (w : World) (h : Strs w A d.path) (hl : d.path.length ≤ 1048576) (ht : d.typ.size ≤ maxLen) (hn : d.nam.size ≤ maxLen) (hk : d.key.size ≤ maxLen) :
    Calls Try.prog 25 #[.agg #[.slice A d.path.length c, .string d.typ, .string d.nam, .int .i64 d.kind, .int .i64 d.n, .string d.key]] w (Made w (bareD d)) := by
  have hlm : d.path.length ≤ maxLen := by unfold maxLen; omega
  cases hr : addrB d
  · rw [bare_no hr]
    have H := Lib.hid h
    have K := Lib.hid (fun W h => hr ▸ adr.right_impl A c d W h hlm ht hn hk)
    clear hr h hl hlm
    go_enter Try.func25, Try.ntmps25
    go_wp2_with fail
    refine (K.out _ (H.out.below (below_a2 _ _ _))).mono ?_
    rintro _ w1 ⟨rfl, hb⟩
    have E1 := Lib.hid (below_then (below_a2 _ _ _) hb (Nat.le_refl _))
    have P1 := Lib.hid ((Blk.new1 w _ _ _).step hb)
    have p1 := P1.out.cell
    have g1 := P1.out.free
    clear hb
    go_wp2
    refine bodyPost_ret (v := .agg #[.slice none 0 0, .string ByteArray.empty, .string ByteArray.empty, .int .i64 0, .int .i64 0, .string ByteArray.empty]) (by simp [results, Try.results25, go_sem, p1, g1]; try rfl) rfl ⟨none, 0, rfl, Own.nil _ _, ?_⟩
    repeat (refine Below.setCell ?_ (by simp <;> omega) _)
    exact E1.out
  · rw [bare_yes hr]
    have H := Lib.hid h
    have K := Lib.hid (fun W h => hr ▸ adr.right_impl A c d W h hlm ht hn hk)
    obtain ⟨hp, h1, h2, h3⟩ := txt.addr_parts hr
    obtain ⟨hp1, hp2⟩ := txt.path_words hp
    have z1 := txt.word_size h1
    have z2 := txt.word_size h2
    have h3' := h3
    simp only [keyB, Bool.or_eq_true, Bool.and_eq_true, beq_iff_eq, decide_eq_true_eq] at h3'
    have z3 : d.key.size ≤ 8 := by
      rcases h3' with (⟨⟨k0, k1⟩, k2⟩ | ⟨⟨⟨k0, k1⟩, k2⟩, k3⟩) | ⟨⟨k0, k1⟩, k2⟩
      · omega
      · omega
      · exact txt.word_size k2
    have KC := Lib.hid (fun W h => copy_impl A c d W h (by omega) (by omega) (by omega) (by omega) (fun k hk => by have := txt.word_size (hp2 d.path[k] (List.getElem_mem hk)); omega))
    clear hr h hl hlm hp h1 h2 h3 h3' hp2
    go_enter Try.func25, Try.ntmps25
    go_wp2_with fail
    refine (K.out _ (H.out.below (below_a2 _ _ _))).mono ?_
    rintro _ w1 ⟨rfl, hb⟩
    have E1 := Lib.hid (below_then (below_a2 _ _ _) hb (Nat.le_refl _))
    have Q1 := Lib.hid (((Blk.new w _ _).alloc _).step hb)
    have P1 := Lib.hid ((Blk.new1 w _ _ _).step hb)
    have q1 := Q1.out.cell
    clear hb
    go_wp2_with fail
    refine (KC.out _ (H.out.below E1.out)).mono ?_
    rintro _ w2 ⟨B, cp, rfl, ho, hb⟩
    have E2 := Lib.hid (below_then E1.out hb (Nat.le_refl _))
    have P2 := Lib.hid (P1.out.step hb)
    have O2 := Lib.hid (ho.mono (show w.heap.size + 1 + 1 ≤ w1.heap.size from P1.out.lt))
    clear hb ho q1
    go_wp2_with fail
    refine (adr.withKey_no _ _ _ _ _ _ _ _ _).mono ?_
    rintro _ w3 ⟨rfl, hb⟩
    have E3 := Lib.hid (below_then E2.out hb (Nat.le_refl _))
    have P3 := Lib.hid (P2.out.step hb)
    have O3 := Lib.hid (O2.out.step hb)
    have p3 := P3.out.cell
    have g3 := P3.out.free
    clear hb
    go_wp2
    refine bodyPost_ret (v := .agg #[.slice B d.path.length cp, .string d.typ, .string d.nam, .int .i64 0, .int .i64 0, .string ByteArray.empty]) (by simp [results, Try.results25, go_sem, p3, g3]) rfl ⟨B, cp, rfl, ?_, ?_⟩
    · refine Own.mono (base := w.heap.size + 1 + 1) ?_ (by omega)
      iterate 6 refine Own.far ?_ (by simp <;> omega) _
      exact O3.out
    · repeat (refine Below.setCell ?_ (by simp <;> omega) _)
      exact E3.out

theorem own_new (W : World) (g base : Nat) (hg : W.heap.size = g) (hb : base ≤ g) : Own (W.alloc (.cells #[] 9)) base (.slice (some ⟨g, 0, none⟩) 0 0) [] := by
  subst hg
  exact ⟨rfl, .inr ⟨W.heap.size, 0, #[], rfl, hb, heap_alloc_new W _, Nat.le_refl _, Nat.zero_le _, rfl, rfl⟩⟩
theorem Blk.drewN {w : World} {g : Nat} {T : TypeId} {cs : Array Value} (h : Blk w g T cs) (n : Nat) : Blk (w.drewN n) g T cs := h

set_option maxHeartbeats 2000000 in
theorem l02Bare_any (A : Option Addr) (c : Nat) (d : AddrD) (w : World) (h : Strs w A d.path) (hl : d.path.length ≤ 1000000) :
    Calls Try.prog 53 #[.agg #[.slice A d.path.length c, .string d.typ, .string d.nam, .int .i64 d.kind, .int .i64 d.n, .string d.key]] w (Made w ⟨d.path, d.typ, d.nam, 0, 0, ByteArray.empty⟩) := by
  have H := Lib.hid h
  have HL := Lib.hid hl
  clear h hl
  go_enter Try.func53, Try.ntmps53
  go_wp2_with fail
  have E0 := Lib.hid (below_a2 w (.cells #[.slice A d.path.length c, .string d.typ, .string d.nam, .int .i64 d.kind, .int .i64 d.n, .string d.key] 28) (.cells #[.slice none 0 0, .string ⟨#[]⟩, .string ⟨#[]⟩, .int .i64 0, .int .i64 0, .string ⟨#[]⟩] 28))
  have Q0 := Lib.hid ((Blk.new w 28 #[.slice A d.path.length c, .string d.typ, .string d.nam, .int .i64 d.kind, .int .i64 d.n, .string d.key]).alloc (.cells #[.slice none 0 0, .string ⟨#[]⟩, .string ⟨#[]⟩, .int .i64 0, .int .i64 0, .string ⟨#[]⟩] 28))
  have P0 := Lib.hid (Blk.new1 w (.cells #[.slice A d.path.length c, .string d.typ, .string d.nam, .int .i64 d.kind, .int .i64 d.n, .string d.key] 28) 28 #[.slice none 0 0, .string ⟨#[]⟩, .string ⟨#[]⟩, .int .i64 0, .int .i64 0, .string ⟨#[]⟩])
  have hz0 : ((w.alloc (.cells #[.slice A d.path.length c, .string d.typ, .string d.nam, .int .i64 d.kind, .int .i64 d.n, .string d.key] 28)).alloc (.cells #[.slice none 0 0, .string ⟨#[]⟩, .string ⟨#[]⟩, .int .i64 0, .int .i64 0, .string ⟨#[]⟩] 28)).heap.size = w.heap.size + 1 + 1 := by simp
  generalize ((w.alloc (.cells #[.slice A d.path.length c, .string d.typ, .string d.nam, .int .i64 d.kind, .int .i64 d.n, .string d.key] 28)).alloc (.cells #[.slice none 0 0, .string ⟨#[]⟩, .string ⟨#[]⟩, .int .i64 0, .int .i64 0, .string ⟨#[]⟩] 28)) = W0 at *
  have HZ := Lib.hid hz0
  have q0 := Q0.out.cell
  have hz1 : w.heap.size + 1 + 1 ≤ W0.heap.size := by omega
  have HR : Hid (∀ k, (Value.slice (some (⟨W0.heap.size, 0, none⟩ : Addr)) 0 0).ownBlock = some k → w.heap.size + 1 + 1 ≤ k) := by
    intro k hk
    have e : W0.heap.size = k := by simpa [Value.ownBlock] using hk
    omega
  clear hz0
  go_region_held3 (fun w' => w'.cell? ⟨w.heap.size, 0, none⟩ = some (.slice A d.path.length c) ∧ w'.cell? ⟨w.heap.size, 1, none⟩ = some (.string d.typ) ∧ w'.cell? ⟨w.heap.size, 2, none⟩ = some (.string d.nam) ∧ w'.cell? ⟨w.heap.size, 3, none⟩ = some (.int .i64 d.kind) ∧ w'.cell? ⟨w.heap.size, 4, none⟩ = some (.int .i64 d.n) ∧ w'.cell? ⟨w.heap.size, 5, none⟩ = some (.string d.key)) (go_keep)
    (first
    | (refine step_append (by rfl) _ _ (by rfl) (w.heap.size + 1 + 1) (.slice (some ⟨W0.heap.size, 0, none⟩) 0 0) [] (by rfl) (own_new _ _ _ rfl hz1) A c d.path (by rfl) ?_ ?_ ?_ ?_; exact H.out.below (E0.out.alloc (Nat.le_trans (by omega) hz1) _).drew; (simp; exact Nat.le_trans HL.out (by omega)); (simp; omega); intro v' w2 ho0 hg; have ho : Own w2 (w.heap.size + 1 + 1) v' d.path := ho0; obtain ⟨B, cp, rfl⟩ := ho.form; have hr := HR.out; have E2 := Lib.hid ((E0.out.alloc (Nat.le_trans (by omega) hz1) _).drew.grown hg (by simp; omega) (fun k hk => Nat.le_trans (by omega) (hr k hk))); have Q2 := Lib.hid (blk_grown (Blk.drew (Q0.out.alloc _)) hg (fun e => by have := hr _ e; omega)); have P2 := Lib.hid (blk_grown (Blk.drew (P0.out.alloc _)) hg (fun e => by have := hr _ e; omega)); have q2 := Q2.out.cell; have p2 := P2.out.cell; have g2 := P2.out.free; have O2 := Lib.hid ho; clear ho ho0 hg hr))
  go_wp2
  refine bodyPost_ret (v := .agg #[.slice B d.path.length cp, .string d.typ, .string d.nam, .int .i64 0, .int .i64 0, .string ByteArray.empty]) (by simp [results, Try.results53, go_sem, p2, g2]; try rfl) rfl ⟨B, cp, rfl, ?_, ?_⟩
  · refine Own.mono (base := w.heap.size + 1 + 1) ?_ (by omega)
    iterate 6 refine Own.far ?_ (by simp <;> omega) _
    exact O2.out
  · repeat (refine Below.setCell ?_ (by simp <;> omega) _)
    exact E2.out
end Go.Proofs.Ytfbepcfaeeoneaa.bare
