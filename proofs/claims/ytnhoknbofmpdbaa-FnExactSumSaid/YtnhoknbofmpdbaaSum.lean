/- Sum, of the program and of the model. -/
import Derived.Test.YtnhoknbofmpdbaaVlL
import Derived.Deep.RegionHeld3
namespace Go.Proofs.Ytnhoknbofmpdbaa.vl
open ad mem adl
open Go.ChangeShapes Go.WideShapes Go.ChangeAt Go.RowKit Go.Lib
set_option linter.unusedVariables false
set_option linter.unusedSimpArgs false

def outV (k n c : Int) (t : ByteArray) : Value := .agg #[.int .i64 k, .int .i64 n, .string t, .int .i64 c]
/-- what Sum tells. -/
noncomputable def sumO (a b : ValD) : Value :=
  if valB a = false ∨ valB b = false then outV 0 0 1 ByteArray.empty else if a.kind ≠ 1 ∨ b.kind ≠ 1 then outV 0 0 11 ByteArray.empty
  else if a.n + b.n < -1000000 ∨ 1000000 < a.n + b.n then outV 0 0 8 ByteArray.empty else outV 1 (a.n + b.n) 0 ByteArray.empty
theorem sum_form {a b : ValD} (h : valB a = false ∨ valB b = false) : sumO a b = outV 0 0 1 ByteArray.empty := by simp [sumO, h]
theorem sum_kind {a b : ValD} (h1 : valB a = true) (h2 : valB b = true) (h : a.kind ≠ 1 ∨ b.kind ≠ 1) : sumO a b = outV 0 0 11 ByteArray.empty := by simp only [sumO, h1, h2, h]; simp
theorem sum_range {a b : ValD} (h1 : valB a = true) (h2 : valB b = true) (k1 : a.kind = 1) (k2 : b.kind = 1) (h : a.n + b.n < -1000000 ∨ 1000000 < a.n + b.n) : sumO a b = outV 0 0 8 ByteArray.empty := by simp only [sumO, h1, h2, k1, k2, h]; simp
theorem sum_ok {a b : ValD} (h1 : valB a = true) (h2 : valB b = true) (k1 : a.kind = 1) (k2 : b.kind = 1) (h : ¬ (a.n + b.n < -1000000 ∨ 1000000 < a.n + b.n)) : sumO a b = outV 1 (a.n + b.n) 0 ByteArray.empty := by simp only [sumO, h1, h2, k1, k2, h]; simp
theorem empty_le : ByteArray.empty.size ≤ maxLen := Nat.zero_le _
theorem num_in {a : ValD} (h : valB a = true) (k : a.kind = 1) : -1000000 ≤ a.n ∧ a.n ≤ 1000000 := by
  simp only [valB, k, Bool.or_eq_true, Bool.and_eq_true, beq_iff_eq, decide_eq_true_eq] at h
  rcases h with ⟨⟨⟨_, h1⟩, h2⟩, _⟩ | ⟨⟨h, _⟩, _⟩
  · exact ⟨h1, h2⟩
  · omega
theorem val_num (x : Int) : valB ⟨1, x, ByteArray.empty⟩ = (decide (-1000000 ≤ x) && decide (x ≤ 1000000)) := by
  have e : ByteArray.empty.size = 0 := rfl
  simp [valB, e]

set_option maxHeartbeats 4000000 in
theorem sum_spec (a b : ValD) (w : World) (ha : a.text.size ≤ maxLen) (hb : b.text.size ≤ maxLen) :
    Calls Try.prog 17 #[.agg #[.int .i64 a.kind, .int .i64 a.n, .string a.text], .agg #[.int .i64 b.kind, .int .i64 b.n, .string b.text]] w (Told w (sumO a b)) := by
  have HS := Lib.hid (And.intro ha hb)
  clear ha hb
  cases hr : valB a
  · have K := Lib.hid (fun W => hr ▸ right_spec a W HS.out.1)
    have HR := Lib.hid hr
    clear hr
    go_enter Try.func17, Try.ntmps17
    go_wp2_with fail
    refine (K.out _).mono ?_
    rintro _ w1 ⟨rfl, hb⟩
    have E1 := Lib.hid (below_then (below_a3 _ _ _ _) hb (Nat.le_refl _))
    have A1 := Lib.hid (((Blk.new w _ _).alloc _ |>.alloc _).step hb)
    have B1 := Lib.hid ((((Blk.new1 w _ _ _).alloc _)).step hb)
    have C1 := Lib.hid ((Blk.new2 w _ _ _ _).step hb)
    have a1 := A1.out.cell
    have b1 := B1.out.cell
    have c1 := C1.out.cell
    have d1 := C1.out.free
    have z1 := C1.out.lt
    clear hb
    go_wp2
    refine bodyPost_ret (v := outV 0 0 1 ByteArray.empty) (by simp [results, Try.results17, go_sem, c1, d1, z1]; try rfl) rfl ⟨?_, ?_⟩
    · rw [sum_form (.inl HR.out)]
    · repeat (refine Below.setCell ?_ (by simp <;> omega) _)
      exact E1.out
  have K := Lib.hid (fun W => hr ▸ right_spec a W HS.out.1)
  have HR := Lib.hid hr
  clear hr
  cases hr : valB b
  · have K' := Lib.hid (fun W => hr ▸ right_spec b W HS.out.2)
    have HR' := Lib.hid hr
    clear hr
    go_enter Try.func17, Try.ntmps17
    go_wp2_with fail
    refine (K.out _).mono ?_
    rintro _ w1 ⟨rfl, hb⟩
    have E1 := Lib.hid (below_then (below_a3 _ _ _ _) hb (Nat.le_refl _))
    have A1 := Lib.hid (((Blk.new w _ _).alloc _ |>.alloc _).step hb)
    have B1 := Lib.hid ((((Blk.new1 w _ _ _).alloc _)).step hb)
    have C1 := Lib.hid ((Blk.new2 w _ _ _ _).step hb)
    have a1 := A1.out.cell
    have b1 := B1.out.cell
    have c1 := C1.out.cell
    have d1 := C1.out.free
    have z1 := C1.out.lt
    clear hb
    go_wp2_with fail
    refine (K'.out _).mono ?_
    rintro _ w2 ⟨rfl, hb⟩
    have E2 := Lib.hid (below_then E1.out hb (Nat.le_refl _))
    have A2 := Lib.hid (A1.out.step hb)
    have B2 := Lib.hid (B1.out.step hb)
    have C2 := Lib.hid (C1.out.step hb)
    have a2 := A2.out.cell
    have b2 := B2.out.cell
    have c2 := C2.out.cell
    have d2 := C2.out.free
    have z2 := C2.out.lt
    clear hb a1 b1 c1 d1 z1 A1 B1 C1 E1
    go_wp2
    refine bodyPost_ret (v := outV 0 0 1 ByteArray.empty) (by simp [results, Try.results17, go_sem, c2, d2, z2]; try rfl) rfl ⟨?_, ?_⟩
    · rw [sum_form (.inr HR'.out)]
    · repeat (refine Below.setCell ?_ (by simp <;> omega) _)
      exact E2.out
  have K' := Lib.hid (fun W => hr ▸ right_spec b W HS.out.2)
  have HR' := Lib.hid hr
  clear hr
  by_cases h1 : a.kind = 1
  · by_cases h2 : b.kind = 1
    · have k1 : (a.kind != 1) = false := by simp [h1]
      have k2 : (b.kind != 1) = false := by simp [h2]
      obtain ⟨n1, n2⟩ := num_in HR.out h1
      obtain ⟨m1, m2⟩ := num_in HR'.out h2
      have HK := Lib.hid (And.intro h1 h2)
      have hw : IntKind.i64.wrap (a.n + b.n) = a.n + b.n := IntWalk.i64_in _ (by omega)
      have HW := Lib.hid hw
      clear h1 h2 hw
      by_cases h3 : a.n + b.n < -1000000 ∨ 1000000 < a.n + b.n
      · have hv : valB ⟨1, a.n + b.n, ByteArray.empty⟩ = false := by rw [val_num]; simp; omega
        have KV := Lib.hid (fun W => hv ▸ right_spec ⟨1, a.n + b.n, ByteArray.empty⟩ W empty_le)
        have H3 := Lib.hid h3
        clear h3 hv
        go_enter Try.func17, Try.ntmps17
        go_wp2_with fail
        refine (K.out _).mono ?_
        rintro _ w1 ⟨rfl, hb⟩
        have E1 := Lib.hid (below_then (below_a3 _ _ _ _) hb (Nat.le_refl _))
        have A1 := Lib.hid (((Blk.new w _ _).alloc _ |>.alloc _).step hb)
        have B1 := Lib.hid ((((Blk.new1 w _ _ _).alloc _)).step hb)
        have C1 := Lib.hid ((Blk.new2 w _ _ _ _).step hb)
        have a1 := A1.out.cell
        have b1 := B1.out.cell
        have c1 := C1.out.cell
        have d1 := C1.out.free
        have z1 := C1.out.lt
        clear hb
        go_wp2_with fail
        refine (K'.out _).mono ?_
        rintro _ w2 ⟨rfl, hb⟩
        have E2 := Lib.hid (below_then E1.out hb (Nat.le_refl _))
        have A2 := Lib.hid (A1.out.step hb)
        have B2 := Lib.hid (B1.out.step hb)
        have C2 := Lib.hid (C1.out.step hb)
        have a2 := A2.out.cell
        have b2 := B2.out.cell
        have c2 := C2.out.cell
        have d2 := C2.out.free
        have z2 := C2.out.lt
        clear hb a1 b1 c1 d1 z1 A1 B1 C1 E1
        go_wp2_with fail
        refine (KV.out _).mono ?_
        rintro _ w3 ⟨rfl, hb⟩
        have E3 := Lib.hid (below_then (below_da E2.out (Nat.le_refl _) _) hb (Nat.le_refl _))
        have C3 := Lib.hid ((C2.out.alloc _).step hb)
        have c3 := C3.out.cell
        have d3 := C3.out.free
        have z3 := C3.out.lt
        have V3 := Lib.hid ((Blk.new w2 _ _).step hb)
        have v3 := V3.out.cell
        clear hb c2 d2 z2
        go_wp2
        refine bodyPost_ret (v := outV 0 0 8 ByteArray.empty) (by simp [results, Try.results17, go_sem, c3, d3, z3]; try rfl) rfl ⟨?_, ?_⟩
        · rw [sum_range HR.out HR'.out HK.out.1 HK.out.2 H3.out]
        · repeat (refine Below.setCell ?_ (by simp <;> omega) _)
          exact E3.out
      · have hv : valB ⟨1, a.n + b.n, ByteArray.empty⟩ = true := by rw [val_num]; simp; omega
        have KV := Lib.hid (fun W => hv ▸ right_spec ⟨1, a.n + b.n, ByteArray.empty⟩ W empty_le)
        have H3 := Lib.hid h3
        clear h3 hv
        go_enter Try.func17, Try.ntmps17
        go_wp2_with fail
        refine (K.out _).mono ?_
        rintro _ w1 ⟨rfl, hb⟩
        have E1 := Lib.hid (below_then (below_a3 _ _ _ _) hb (Nat.le_refl _))
        have A1 := Lib.hid (((Blk.new w _ _).alloc _ |>.alloc _).step hb)
        have B1 := Lib.hid ((((Blk.new1 w _ _ _).alloc _)).step hb)
        have C1 := Lib.hid ((Blk.new2 w _ _ _ _).step hb)
        have a1 := A1.out.cell
        have b1 := B1.out.cell
        have c1 := C1.out.cell
        have d1 := C1.out.free
        have z1 := C1.out.lt
        clear hb
        go_wp2_with fail
        refine (K'.out _).mono ?_
        rintro _ w2 ⟨rfl, hb⟩
        have E2 := Lib.hid (below_then E1.out hb (Nat.le_refl _))
        have A2 := Lib.hid (A1.out.step hb)
        have B2 := Lib.hid (B1.out.step hb)
        have C2 := Lib.hid (C1.out.step hb)
        have a2 := A2.out.cell
        have b2 := B2.out.cell
        have c2 := C2.out.cell
        have d2 := C2.out.free
        have z2 := C2.out.lt
        clear hb a1 b1 c1 d1 z1 A1 B1 C1 E1
        go_wp2_with fail
        refine (KV.out _).mono ?_
        rintro _ w3 ⟨rfl, hb⟩
        have E3 := Lib.hid (below_then (below_da E2.out (Nat.le_refl _) _) hb (Nat.le_refl _))
        have C3 := Lib.hid ((C2.out.alloc _).step hb)
        have c3 := C3.out.cell
        have d3 := C3.out.free
        have z3 := C3.out.lt
        have V3 := Lib.hid ((Blk.new w2 _ _).step hb)
        have v3 := V3.out.cell
        clear hb c2 d2 z2
        go_wp2
        refine bodyPost_ret (v := outV 1 (a.n + b.n) 0 ByteArray.empty) (by simp [results, Try.results17, go_sem, c3, d3, z3]; try rfl) rfl ⟨?_, ?_⟩
        · rw [sum_ok HR.out HR'.out HK.out.1 HK.out.2 H3.out]
        · repeat (refine Below.setCell ?_ (by simp <;> omega) _)
          exact E3.out
    · have k1 : (a.kind != 1) = false := by simp [h1]
      have k2 : (b.kind != 1) = true := by simp [h2]
      have HK := Lib.hid h2
      clear h1 h2
      go_enter Try.func17, Try.ntmps17
      go_wp2_with fail
      refine (K.out _).mono ?_
      rintro _ w1 ⟨rfl, hb⟩
      have E1 := Lib.hid (below_then (below_a3 _ _ _ _) hb (Nat.le_refl _))
      have A1 := Lib.hid (((Blk.new w _ _).alloc _ |>.alloc _).step hb)
      have B1 := Lib.hid ((((Blk.new1 w _ _ _).alloc _)).step hb)
      have C1 := Lib.hid ((Blk.new2 w _ _ _ _).step hb)
      have a1 := A1.out.cell
      have b1 := B1.out.cell
      have c1 := C1.out.cell
      have d1 := C1.out.free
      have z1 := C1.out.lt
      clear hb
      go_wp2_with fail
      refine (K'.out _).mono ?_
      rintro _ w2 ⟨rfl, hb⟩
      have E2 := Lib.hid (below_then E1.out hb (Nat.le_refl _))
      have A2 := Lib.hid (A1.out.step hb)
      have B2 := Lib.hid (B1.out.step hb)
      have C2 := Lib.hid (C1.out.step hb)
      have a2 := A2.out.cell
      have b2 := B2.out.cell
      have c2 := C2.out.cell
      have d2 := C2.out.free
      have z2 := C2.out.lt
      clear hb a1 b1 c1 d1 z1 A1 B1 C1 E1
      go_wp2
      refine bodyPost_ret (v := outV 0 0 11 ByteArray.empty) (by simp [results, Try.results17, go_sem, c2, d2, z2]; try rfl) rfl ⟨?_, ?_⟩
      · rw [sum_kind HR.out HR'.out (.inr HK.out)]
      · repeat (refine Below.setCell ?_ (by simp <;> omega) _)
        exact E2.out
  · have k1 : (a.kind != 1) = true := by simp [h1]
    have HK := Lib.hid h1
    clear h1
    go_enter Try.func17, Try.ntmps17
    go_wp2_with fail
    refine (K.out _).mono ?_
    rintro _ w1 ⟨rfl, hb⟩
    have E1 := Lib.hid (below_then (below_a3 _ _ _ _) hb (Nat.le_refl _))
    have A1 := Lib.hid (((Blk.new w _ _).alloc _ |>.alloc _).step hb)
    have B1 := Lib.hid ((((Blk.new1 w _ _ _).alloc _)).step hb)
    have C1 := Lib.hid ((Blk.new2 w _ _ _ _).step hb)
    have a1 := A1.out.cell
    have b1 := B1.out.cell
    have c1 := C1.out.cell
    have d1 := C1.out.free
    have z1 := C1.out.lt
    clear hb
    go_wp2_with fail
    refine (K'.out _).mono ?_
    rintro _ w2 ⟨rfl, hb⟩
    have E2 := Lib.hid (below_then E1.out hb (Nat.le_refl _))
    have A2 := Lib.hid (A1.out.step hb)
    have B2 := Lib.hid (B1.out.step hb)
    have C2 := Lib.hid (C1.out.step hb)
    have a2 := A2.out.cell
    have b2 := B2.out.cell
    have c2 := C2.out.cell
    have d2 := C2.out.free
    have z2 := C2.out.lt
    clear hb a1 b1 c1 d1 z1 A1 B1 C1 E1
    go_wp2
    refine bodyPost_ret (v := outV 0 0 11 ByteArray.empty) (by simp [results, Try.results17, go_sem, c2, d2, z2]; try rfl) rfl ⟨?_, ?_⟩
    · rw [sum_kind HR.out HR'.out (.inl HK.out)]
    · repeat (refine Below.setCell ?_ (by simp <;> omega) _)
      exact E2.out

set_option maxHeartbeats 4000000 in
theorem sum_impl (a b : ValD) (w : World) (ha : a.text.size ≤ maxLen) (hb : b.text.size ≤ maxLen) :
    Calls Try.prog 18 #[.agg #[.int .i64 a.kind, .int .i64 a.n, .string a.text], .agg #[.int .i64 b.kind, .int .i64 b.n, .string b.text]] w (Told w (sumO a b)) := by
  have HS := Lib.hid (And.intro ha hb)
  clear ha hb
  cases hr : valB a
  · have K := Lib.hid (fun W => hr ▸ right_impl a W HS.out.1)
    have HR := Lib.hid hr
    clear hr
    go_enter Try.func18, Try.ntmps18
    go_wp2_with fail
    refine (K.out _).mono ?_
    rintro _ w1 ⟨rfl, hb⟩
    have E1 := Lib.hid (below_then (below_a3 _ _ _ _) hb (Nat.le_refl _))
    have A1 := Lib.hid (((Blk.new w _ _).alloc _ |>.alloc _).step hb)
    have B1 := Lib.hid ((((Blk.new1 w _ _ _).alloc _)).step hb)
    have C1 := Lib.hid ((Blk.new2 w _ _ _ _).step hb)
    have a1 := A1.out.cell
    have b1 := B1.out.cell
    have c1 := C1.out.cell
    have d1 := C1.out.free
    have z1 := C1.out.lt
    clear hb
    go_wp2
    refine bodyPost_ret (v := outV 0 0 1 ByteArray.empty) (by simp [results, Try.results18, go_sem, c1, d1, z1]; try rfl) rfl ⟨?_, ?_⟩
    · rw [sum_form (.inl HR.out)]
    · repeat (refine Below.setCell ?_ (by simp <;> omega) _)
      exact E1.out
  have K := Lib.hid (fun W => hr ▸ right_impl a W HS.out.1)
  have HR := Lib.hid hr
  clear hr
  cases hr : valB b
  · have K' := Lib.hid (fun W => hr ▸ right_impl b W HS.out.2)
    have HR' := Lib.hid hr
    clear hr
    go_enter Try.func18, Try.ntmps18
    go_wp2_with fail
    refine (K.out _).mono ?_
    rintro _ w1 ⟨rfl, hb⟩
    have E1 := Lib.hid (below_then (below_a3 _ _ _ _) hb (Nat.le_refl _))
    have A1 := Lib.hid (((Blk.new w _ _).alloc _ |>.alloc _).step hb)
    have B1 := Lib.hid ((((Blk.new1 w _ _ _).alloc _)).step hb)
    have C1 := Lib.hid ((Blk.new2 w _ _ _ _).step hb)
    have a1 := A1.out.cell
    have b1 := B1.out.cell
    have c1 := C1.out.cell
    have d1 := C1.out.free
    have z1 := C1.out.lt
    clear hb
    go_wp2_with fail
    refine (K'.out _).mono ?_
    rintro _ w2 ⟨rfl, hb⟩
    have E2 := Lib.hid (below_then E1.out hb (Nat.le_refl _))
    have A2 := Lib.hid (A1.out.step hb)
    have B2 := Lib.hid (B1.out.step hb)
    have C2 := Lib.hid (C1.out.step hb)
    have a2 := A2.out.cell
    have b2 := B2.out.cell
    have c2 := C2.out.cell
    have d2 := C2.out.free
    have z2 := C2.out.lt
    clear hb a1 b1 c1 d1 z1 A1 B1 C1 E1
    go_wp2
    refine bodyPost_ret (v := outV 0 0 1 ByteArray.empty) (by simp [results, Try.results18, go_sem, c2, d2, z2]; try rfl) rfl ⟨?_, ?_⟩
    · rw [sum_form (.inr HR'.out)]
    · repeat (refine Below.setCell ?_ (by simp <;> omega) _)
      exact E2.out
  have K' := Lib.hid (fun W => hr ▸ right_impl b W HS.out.2)
  have HR' := Lib.hid hr
  clear hr
  by_cases h1 : a.kind = 1
  · by_cases h2 : b.kind = 1
    · have k1 : (a.kind != 1) = false := by simp [h1]
      have k2 : (b.kind != 1) = false := by simp [h2]
      obtain ⟨n1, n2⟩ := num_in HR.out h1
      obtain ⟨m1, m2⟩ := num_in HR'.out h2
      have HK := Lib.hid (And.intro h1 h2)
      have hw : IntKind.i64.wrap (a.n + b.n) = a.n + b.n := IntWalk.i64_in _ (by omega)
      have HW := Lib.hid hw
      clear h1 h2 hw
      by_cases h3 : a.n + b.n < -1000000 ∨ 1000000 < a.n + b.n
      · have hv : valB ⟨1, a.n + b.n, ByteArray.empty⟩ = false := by rw [val_num]; simp; omega
        have KV := Lib.hid (fun W => hv ▸ right_impl ⟨1, a.n + b.n, ByteArray.empty⟩ W empty_le)
        have H3 := Lib.hid h3
        clear h3 hv
        go_enter Try.func18, Try.ntmps18
        go_wp2_with fail
        refine (K.out _).mono ?_
        rintro _ w1 ⟨rfl, hb⟩
        have E1 := Lib.hid (below_then (below_a3 _ _ _ _) hb (Nat.le_refl _))
        have A1 := Lib.hid (((Blk.new w _ _).alloc _ |>.alloc _).step hb)
        have B1 := Lib.hid ((((Blk.new1 w _ _ _).alloc _)).step hb)
        have C1 := Lib.hid ((Blk.new2 w _ _ _ _).step hb)
        have a1 := A1.out.cell
        have b1 := B1.out.cell
        have c1 := C1.out.cell
        have d1 := C1.out.free
        have z1 := C1.out.lt
        clear hb
        go_wp2_with fail
        refine (K'.out _).mono ?_
        rintro _ w2 ⟨rfl, hb⟩
        have E2 := Lib.hid (below_then E1.out hb (Nat.le_refl _))
        have A2 := Lib.hid (A1.out.step hb)
        have B2 := Lib.hid (B1.out.step hb)
        have C2 := Lib.hid (C1.out.step hb)
        have a2 := A2.out.cell
        have b2 := B2.out.cell
        have c2 := C2.out.cell
        have d2 := C2.out.free
        have z2 := C2.out.lt
        clear hb a1 b1 c1 d1 z1 A1 B1 C1 E1
        go_wp2_with fail
        refine (KV.out _).mono ?_
        rintro _ w3 ⟨rfl, hb⟩
        have E3 := Lib.hid (below_then (below_da E2.out (Nat.le_refl _) _) hb (Nat.le_refl _))
        have C3 := Lib.hid ((C2.out.alloc _).step hb)
        have c3 := C3.out.cell
        have d3 := C3.out.free
        have z3 := C3.out.lt
        have V3 := Lib.hid ((Blk.new w2 _ _).step hb)
        have v3 := V3.out.cell
        clear hb c2 d2 z2
        go_wp2
        refine bodyPost_ret (v := outV 0 0 8 ByteArray.empty) (by simp [results, Try.results18, go_sem, c3, d3, z3]; try rfl) rfl ⟨?_, ?_⟩
        · rw [sum_range HR.out HR'.out HK.out.1 HK.out.2 H3.out]
        · repeat (refine Below.setCell ?_ (by simp <;> omega) _)
          exact E3.out
      · have hv : valB ⟨1, a.n + b.n, ByteArray.empty⟩ = true := by rw [val_num]; simp; omega
        have KV := Lib.hid (fun W => hv ▸ right_impl ⟨1, a.n + b.n, ByteArray.empty⟩ W empty_le)
        have H3 := Lib.hid h3
        clear h3 hv
        go_enter Try.func18, Try.ntmps18
        go_wp2_with fail
        refine (K.out _).mono ?_
        rintro _ w1 ⟨rfl, hb⟩
        have E1 := Lib.hid (below_then (below_a3 _ _ _ _) hb (Nat.le_refl _))
        have A1 := Lib.hid (((Blk.new w _ _).alloc _ |>.alloc _).step hb)
        have B1 := Lib.hid ((((Blk.new1 w _ _ _).alloc _)).step hb)
        have C1 := Lib.hid ((Blk.new2 w _ _ _ _).step hb)
        have a1 := A1.out.cell
        have b1 := B1.out.cell
        have c1 := C1.out.cell
        have d1 := C1.out.free
        have z1 := C1.out.lt
        clear hb
        go_wp2_with fail
        refine (K'.out _).mono ?_
        rintro _ w2 ⟨rfl, hb⟩
        have E2 := Lib.hid (below_then E1.out hb (Nat.le_refl _))
        have A2 := Lib.hid (A1.out.step hb)
        have B2 := Lib.hid (B1.out.step hb)
        have C2 := Lib.hid (C1.out.step hb)
        have a2 := A2.out.cell
        have b2 := B2.out.cell
        have c2 := C2.out.cell
        have d2 := C2.out.free
        have z2 := C2.out.lt
        clear hb a1 b1 c1 d1 z1 A1 B1 C1 E1
        go_wp2_with fail
        refine (KV.out _).mono ?_
        rintro _ w3 ⟨rfl, hb⟩
        have E3 := Lib.hid (below_then (below_da E2.out (Nat.le_refl _) _) hb (Nat.le_refl _))
        have C3 := Lib.hid ((C2.out.alloc _).step hb)
        have c3 := C3.out.cell
        have d3 := C3.out.free
        have z3 := C3.out.lt
        have V3 := Lib.hid ((Blk.new w2 _ _).step hb)
        have v3 := V3.out.cell
        clear hb c2 d2 z2
        go_wp2
        refine bodyPost_ret (v := outV 1 (a.n + b.n) 0 ByteArray.empty) (by simp [results, Try.results18, go_sem, c3, d3, z3]; try rfl) rfl ⟨?_, ?_⟩
        · rw [sum_ok HR.out HR'.out HK.out.1 HK.out.2 H3.out]
        · repeat (refine Below.setCell ?_ (by simp <;> omega) _)
          exact E3.out
    · have k1 : (a.kind != 1) = false := by simp [h1]
      have k2 : (b.kind != 1) = true := by simp [h2]
      have HK := Lib.hid h2
      clear h1 h2
      go_enter Try.func18, Try.ntmps18
      go_wp2_with fail
      refine (K.out _).mono ?_
      rintro _ w1 ⟨rfl, hb⟩
      have E1 := Lib.hid (below_then (below_a3 _ _ _ _) hb (Nat.le_refl _))
      have A1 := Lib.hid (((Blk.new w _ _).alloc _ |>.alloc _).step hb)
      have B1 := Lib.hid ((((Blk.new1 w _ _ _).alloc _)).step hb)
      have C1 := Lib.hid ((Blk.new2 w _ _ _ _).step hb)
      have a1 := A1.out.cell
      have b1 := B1.out.cell
      have c1 := C1.out.cell
      have d1 := C1.out.free
      have z1 := C1.out.lt
      clear hb
      go_wp2_with fail
      refine (K'.out _).mono ?_
      rintro _ w2 ⟨rfl, hb⟩
      have E2 := Lib.hid (below_then E1.out hb (Nat.le_refl _))
      have A2 := Lib.hid (A1.out.step hb)
      have B2 := Lib.hid (B1.out.step hb)
      have C2 := Lib.hid (C1.out.step hb)
      have a2 := A2.out.cell
      have b2 := B2.out.cell
      have c2 := C2.out.cell
      have d2 := C2.out.free
      have z2 := C2.out.lt
      clear hb a1 b1 c1 d1 z1 A1 B1 C1 E1
      go_wp2
      refine bodyPost_ret (v := outV 0 0 11 ByteArray.empty) (by simp [results, Try.results18, go_sem, c2, d2, z2]; try rfl) rfl ⟨?_, ?_⟩
      · rw [sum_kind HR.out HR'.out (.inr HK.out)]
      · repeat (refine Below.setCell ?_ (by simp <;> omega) _)
        exact E2.out
  · have k1 : (a.kind != 1) = true := by simp [h1]
    have HK := Lib.hid h1
    clear h1
    go_enter Try.func18, Try.ntmps18
    go_wp2_with fail
    refine (K.out _).mono ?_
    rintro _ w1 ⟨rfl, hb⟩
    have E1 := Lib.hid (below_then (below_a3 _ _ _ _) hb (Nat.le_refl _))
    have A1 := Lib.hid (((Blk.new w _ _).alloc _ |>.alloc _).step hb)
    have B1 := Lib.hid ((((Blk.new1 w _ _ _).alloc _)).step hb)
    have C1 := Lib.hid ((Blk.new2 w _ _ _ _).step hb)
    have a1 := A1.out.cell
    have b1 := B1.out.cell
    have c1 := C1.out.cell
    have d1 := C1.out.free
    have z1 := C1.out.lt
    clear hb
    go_wp2_with fail
    refine (K'.out _).mono ?_
    rintro _ w2 ⟨rfl, hb⟩
    have E2 := Lib.hid (below_then E1.out hb (Nat.le_refl _))
    have A2 := Lib.hid (A1.out.step hb)
    have B2 := Lib.hid (B1.out.step hb)
    have C2 := Lib.hid (C1.out.step hb)
    have a2 := A2.out.cell
    have b2 := B2.out.cell
    have c2 := C2.out.cell
    have d2 := C2.out.free
    have z2 := C2.out.lt
    clear hb a1 b1 c1 d1 z1 A1 B1 C1 E1
    go_wp2
    refine bodyPost_ret (v := outV 0 0 11 ByteArray.empty) (by simp [results, Try.results18, go_sem, c2, d2, z2]; try rfl) rfl ⟨?_, ?_⟩
    · rw [sum_kind HR.out HR'.out (.inl HK.out)]
    · repeat (refine Below.setCell ?_ (by simp <;> omega) _)
      exact E2.out

noncomputable def sumC (a b : ValD) : Int :=
  if valB a = false ∨ valB b = false then 1 else if a.kind ≠ 1 ∨ b.kind ≠ 1 then 11 else if a.n + b.n < -1000000 ∨ 1000000 < a.n + b.n then 8 else 0
noncomputable def sumK (a b : ValD) : Int := if sumC a b = 0 then 1 else 0
noncomputable def sumN (a b : ValD) : Int := if sumC a b = 0 then a.n + b.n else 0
theorem sumO_eq (a b : ValD) : sumO a b = .agg #[.int .i64 (sumK a b), .int .i64 (sumN a b), .string ByteArray.empty, .int .i64 (sumC a b)] := by
  by_cases h1 : valB a = false ∨ valB b = false
  · have e : sumC a b = 1 := by unfold sumC; rw [if_pos h1]
    unfold sumO sumK sumN outV; rw [if_pos h1, e]; rfl
  · by_cases h2 : a.kind ≠ 1 ∨ b.kind ≠ 1
    · have e : sumC a b = 11 := by unfold sumC; rw [if_neg h1, if_pos h2]
      unfold sumO sumK sumN outV; rw [if_neg h1, if_pos h2, e]; rfl
    · by_cases h3 : a.n + b.n < -1000000 ∨ 1000000 < a.n + b.n
      · have e : sumC a b = 8 := by unfold sumC; rw [if_neg h1, if_neg h2, if_pos h3]
        unfold sumO sumK sumN outV; rw [if_neg h1, if_neg h2, if_pos h3, e]; rfl
      · have e : sumC a b = 0 := by unfold sumC; rw [if_neg h1, if_neg h2, if_neg h3]
        unfold sumO sumK sumN outV; rw [if_neg h1, if_neg h2, if_neg h3, e]; rfl
theorem sumA_spec (a b : ValD) (w : World) (ha : a.text.size ≤ maxLen) (hb : b.text.size ≤ maxLen) :
    Calls Try.prog 17 #[.agg #[.int .i64 a.kind, .int .i64 a.n, .string a.text], .agg #[.int .i64 b.kind, .int .i64 b.n, .string b.text]] w (Told w (.agg #[.int .i64 (sumK a b), .int .i64 (sumN a b), .string ByteArray.empty, .int .i64 (sumC a b)])) := by
  rw [← sumO_eq]; exact sum_spec a b w ha hb
theorem sumA_impl (a b : ValD) (w : World) (ha : a.text.size ≤ maxLen) (hb : b.text.size ≤ maxLen) :
    Calls Try.prog 18 #[.agg #[.int .i64 a.kind, .int .i64 a.n, .string a.text], .agg #[.int .i64 b.kind, .int .i64 b.n, .string b.text]] w (Told w (.agg #[.int .i64 (sumK a b), .int .i64 (sumN a b), .string ByteArray.empty, .int .i64 (sumC a b)])) := by
  rw [← sumO_eq]; exact sum_impl a b w ha hb
end Go.Proofs.Ytnhoknbofmpdbaa.vl
