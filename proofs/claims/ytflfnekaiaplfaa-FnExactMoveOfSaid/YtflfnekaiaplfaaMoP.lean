/- Plain: what a move does to an address, as data. -/
import Derived.Test.YtflfnekaiaplfaaMwP
import Derived.Test.YtflfnekaiaplfaaReh
import Derived.Test.YtflfnekaiaplfaaCpS
import Derived.Test.YtflfnekaiaplfaaGd
namespace Go.Proofs.Ytflfnekaiaplfaa.cf
open ad mem vl ex un
open Go.ChangeShapes Go.WideShapes Go.ChangeAt Go.RowKit Go.Lib
set_option linter.unusedVariables false
set_option linter.unusedSimpArgs false

noncomputable def goesB (m : MoveD) (a : AddrD) : Bool := if m.kind = 1 then adl.eqA m.src a else if m.kind = 2 then adl.eqA m.src (kBare a) else decide (reh.codeR a m.src.path m.dst.path = 0)
noncomputable def goesTo (m : MoveD) (a : AddrD) : AddrD := if m.kind = 1 then m.dst else if m.kind = 2 then ⟨m.dst.path, m.dst.typ, m.dst.nam, a.kind, a.n, a.key⟩ else reh.dataR a m.src.path m.dst.path
noncomputable def moveCode (m : MoveD) (a : AddrD) : Int := if (moveB m && addrB a) = true then (if goesB m a = true then 0 else 6) else 1
noncomputable def moveTo (m : MoveD) (a : AddrD) : AddrD := if moveCode m a = 0 then goesTo m a else bare.zeroD
noncomputable def outX (d : AddrD) (c : Int) : List DC := [.l (dS d.path), .s d.typ, .s d.nam, .i d.kind, .i d.n, .s d.key, .i c]
noncomputable def moveX (m : MoveD) (a : AddrD) : List DC := outX (moveTo m a) (moveCode m a)
/-- what the program's place tells beside the address. -/
noncomputable def placeC (m : MoveD) (a : AddrD) : Int := if m.kind = 3 then reh.codeR a m.src.path m.dst.path else 0
theorem goes_eq {m : MoveD} {a : AddrD} (hm : MvOk m) (ha : addrB a = true) : goesB m a = (holdB m.kind m.src a && decide (placeC m a = 0)) := by
  rcases hm.kind with k | k | k
  · simp [goesB, holdB, placeC, k]
  · simp [goesB, holdB, placeC, k]
  · have h1 := home_path (hm.home k).1
    have h2 := home_path (hm.home k).2
    simp only [goesB, holdB, placeC, k]
    by_cases hu : cm.pre a.path m.src.path = m.src.path.length
    · simp [begB, hu]
    · have l1 : m.src.path.length ≤ 2 := (txt.path_words h1).1
      have l2 : m.dst.path.length ≤ 2 := (txt.path_words h2).1
      have hc := reh.code_six (d := a) (f := m.src.path) (t := m.dst.path) (by omega) (by omega) ⟨ha, h1, h2⟩ hu
      simp [begB, hu, hc]
theorem small_home {d : AddrD} (h : homeB d = true) : d.path.length ≤ 2 ∧ ∀ k (h : k < d.path.length), d.path[k].size ≤ 8 := by
  have h1 := txt.path_words (home_path h)
  exact ⟨h1.1, fun k hk => txt.word_size (h1.2 _ (List.getElem_mem hk))⟩
theorem zero_sz : Sz bare.zeroD := ⟨by simp [bare.zeroD, maxLen], by simp [bare.zeroD, maxLen], by simp [bare.zeroD, maxLen], fun k h => by simp [bare.zeroD] at h, by show R64 0; unfold R64; omega, by show R64 0; unfold R64; omega⟩
/-- where it goes is small. -/
structure Fits (d : AddrD) : Prop where
  len : d.path.length ≤ 4
  typ : d.typ.size ≤ 8
  nam : d.nam.size ≤ 8
  key : d.key.size ≤ 8
  path : ∀ k (h : k < d.path.length), d.path[k].size ≤ 8
theorem Small.fits {d : AddrD} (h : Small d) : Fits d := ⟨by have := h.len; omega, h.typ, h.nam, h.key, h.path⟩
theorem zero_fits : Fits bare.zeroD := ⟨by simp [bare.zeroD], by simp [bare.zeroD], by simp [bare.zeroD], by simp [bare.zeroD], fun k h => by simp [bare.zeroD] at h⟩
theorem goes_fits {m : MoveD} {a : AddrD} (hm : MvOk m) (ha : addrB a = true) : Fits (goesTo m a) := by
  have sa := small_of ha
  rcases hm.kind with k | k | k
  · have := (small_of (hm.right (by omega)).2).fits
    simpa [goesTo, k] using this
  · have s := small_of (hm.right (by omega)).2
    simp only [goesTo, k]
    exact ⟨by have := s.len; simp; omega, s.typ, s.nam, sa.key, s.path⟩
  · have hg : goesTo m a = reh.dataR a m.src.path m.dst.path := by simp [goesTo, k]
    rw [hg]
    by_cases hc : reh.codeR a m.src.path m.dst.path = 0
    · rw [reh.data_ok hc]
      have t := small_home (hm.home k).2
      refine ⟨?_, sa.typ, sa.nam, sa.key, fun j hj => ?_⟩
      · have h1 := t.1; have h2 := sa.len; simp only [reh.pathR, List.length_append, List.length_drop]; omega
      · have hmem : (reh.pathR a m.src.path m.dst.path)[j] ∈ m.dst.path ++ a.path.drop m.src.path.length := List.getElem_mem hj
        rcases List.mem_append.1 hmem with h1 | h1
        · obtain ⟨i, hi, e⟩ := List.mem_iff_getElem.1 h1
          have := t.2 i hi
          show (reh.pathR a m.src.path m.dst.path)[j].size ≤ 8
          rw [← e]; exact this
        · obtain ⟨i, hi, e⟩ := List.mem_iff_getElem.1 (List.mem_of_mem_drop h1)
          have := sa.path i hi
          show (reh.pathR a m.src.path m.dst.path)[j].size ≤ 8
          rw [← e]; exact this
    · rw [reh.data_no hc]; exact zero_fits
theorem goes_sz {m : MoveD} {a : AddrD} (hm : MvOk m) (ha : addrB a = true) (h1 : Sz m.dst) (h2 : Sz a) : Sz (goesTo m a) := by
  have f := goes_fits hm ha
  have hr : ∀ s : ByteArray, s.size ≤ 8 → s.size ≤ maxLen := fun s h => Nat.le_trans h (by decide)
  refine ⟨hr _ f.typ, hr _ f.nam, hr _ f.key, fun k hk => hr _ (f.path k hk), ?_, ?_⟩
  · rcases hm.kind with k | k | k
    · simpa [goesTo, k] using h1.kind
    · simpa [goesTo, k] using h2.kind
    · have hg : goesTo m a = reh.dataR a m.src.path m.dst.path := by simp [goesTo, k]
      rw [hg]
      by_cases hc : reh.codeR a m.src.path m.dst.path = 0
      · rw [reh.data_ok hc]; exact h2.kind
      · rw [reh.data_no hc]; exact zero_sz.kind
  · rcases hm.kind with k | k | k
    · simpa [goesTo, k] using h1.n
    · simpa [goesTo, k] using h2.n
    · have hg : goesTo m a = reh.dataR a m.src.path m.dst.path := by simp [goesTo, k]
      rw [hg]
      by_cases hc : reh.codeR a m.src.path m.dst.path = 0
      · rw [reh.data_ok hc]; exact h2.n
      · rw [reh.data_no hc]; exact zero_sz.n
theorem move_fits (m : MoveD) (a : AddrD) : Fits (moveTo m a) := by
  unfold moveTo
  by_cases h : moveCode m a = 0
  · rw [if_pos h]
    unfold moveCode at h
    by_cases h2 : (moveB m && addrB a) = true
    · rw [Bool.and_eq_true] at h2; exact goes_fits (mv_ok h2.1) h2.2
    · rw [if_neg h2] at h; omega
  · rw [if_neg h]; exact zero_fits
theorem move_bound (m : MoveD) (a : AddrD) : nCs (moveX m a) ≤ 100 := by
  have h := (move_fits m a).len
  have e : nCs (moveX m a) = nL (dS (moveTo m a).path) + 6 := by
    have h2 := nCs_dA (moveTo m a)
    rw [nL_dS]
    simp only [moveX, outX, nCs, nC, dA] at h2 ⊢
    rw [nL_dS] at h2 ⊢
  rw [e, nL_dS]; omega
/-- a move, as data. -/
theorem move_in {B : Nat → Prop} {n : Nat} {w : World} {ds : List DC} {vs : List Value} (h : Cells B n w shMove_ ds vs) :
    ∃ A1 c1 A7 c7, vs = [.int .i64 (bM ds).kind, .slice A1 (bM ds).src.path.length c1, .string (bM ds).src.typ, .string (bM ds).src.nam, .int .i64 (bM ds).src.kind, .int .i64 (bM ds).src.n, .string (bM ds).src.key, .slice A7 (bM ds).dst.path.length c7, .string (bM ds).dst.typ, .string (bM ds).dst.nam, .int .i64 (bM ds).dst.kind, .int .i64 (bM ds).dst.n, .string (bM ds).dst.key] ∧ Strs w A1 (bM ds).src.path ∧ Strs w A7 (bM ds).dst.path ∧ Sz (bM ds).src ∧ Sz (bM ds).dst := by
  obtain ⟨x0, l1, s2, s3, x4, x5, s6, l7, s8, s9, x10, x11, s12, A1, c1, A7, c7, rfl, rfl, k0, k1, k2, k3, k4, k5, k6, k7, k8, k9, k10, k11, k12⟩ := open_Move h
  have z1 := sz_of (show Cells B n w shAddr_ [.l l1, .s s2, .s s3, .i x4, .i x5, .s s6] [.slice A1 l1.length c1, .string s2, .string s3, .int .i64 x4, .int .i64 x5, .string s6] from ⟨k1, Cell.mkS k2, Cell.mkS k3, Cell.mkI k4, Cell.mkI k5, Cell.mkS k6, trivial⟩)
  have z2 := sz_of (show Cells B n w shAddr_ [.l l7, .s s8, .s s9, .i x10, .i x11, .s s12] [.slice A7 l7.length c7, .string s8, .string s9, .int .i64 x10, .int .i64 x11, .string s12] from ⟨k7, Cell.mkS k8, Cell.mkS k9, Cell.mkI k10, Cell.mkI k11, Cell.mkS k12, trivial⟩)
  exact ⟨A1, c1, A7, c7, by simp [bM, bA, bI, bS, bL, bStrs], strs_of k1, strs_of k7, z1, z2⟩
theorem Gd.ofStrs {w : World} {A : Option Addr} {l : List ByteArray} (h : Strs w A l) : Gd (fun w => Strs w A l) w := ⟨fun w' hb => h.below hb⟩
end Go.Proofs.Ytflfnekaiaplfaa.cf
