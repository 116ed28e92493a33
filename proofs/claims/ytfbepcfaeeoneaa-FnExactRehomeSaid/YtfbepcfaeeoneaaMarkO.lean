/- Addresses with a code: compared, marked, asked by the laws. -/
import Derived.Test.YtfbepcfaeeoneaaMark
import Derived.Test.YtfbepcfaeeoneaaRehS
namespace Go.Proofs.Ytfbepcfaeeoneaa.own
open ad mem dig
open Go.ChangeShapes Go.WideShapes Go.ChangeAt Go.RowKit Go.Lib
set_option linter.unusedVariables false
set_option linter.unusedSimpArgs false

set_option maxHeartbeats 1000000 in
theorem eq_out (A B : Option Addr) (c c' : Nat) (d : AddrD) (x : Int) (w : World) (h : Strs w A d.path) (h' : Strs w B d.path) (hl : d.path.length ≤ 1048576) :
    Calls Try.prog 35 #[.agg #[.slice A d.path.length c, .string d.typ, .string d.nam, .int .i64 d.kind, .int .i64 d.n, .string d.key, .int .i64 x], .agg #[.slice B d.path.length c', .string d.typ, .string d.nam, .int .i64 d.kind, .int .i64 d.n, .string d.key, .int .i64 x]] w (dig.Told w (.bool true)) := by
  have H := Lib.hid h
  have H' := Lib.hid h'
  clear h h'
  go_enter Try.func35, Try.ntmps35
  go_wp2_with fail
  refine (adl.eq_same A B c c' d _ (H.out.below (below_a2 _ _ _)) (H'.out.below (below_a2 _ _ _)) hl).mono ?_
  rintro _ w1 ⟨rfl, hb⟩
  have E := Lib.hid (below_then (below_a2 _ _ _) hb (Nat.le_refl _))
  have q0 := (((Blk.new w _ _).alloc _).step hb).cell
  have q1 := ((Blk.new1 w _ _ _).step hb).cell
  clear hb
  go_wp2
  go_ret
  exact ⟨ret_bool (by simp), E.out⟩

set_option maxHeartbeats 1000000 in
theorem mark_out (A : Option Addr) (c base : Nat) (d : AddrD) (x : Int) (a : Int) (k : Nat) (w : World) (h : Own w base (.slice A d.path.length c) d.path) (ha : (k : Int) = a) (hl : d.path.length ≤ 1048576) (hk1 : 1 ≤ k) (hk : k ≤ 10000000) :
    Calls Try.prog 37 #[.agg #[.slice A d.path.length c, .string d.typ, .string d.nam, .int .i64 d.kind, .int .i64 d.n, .string d.key, .int .i64 x], .int .i64 a] w (MarkedI w base (.slice A d.path.length c) a k d.path.length) := by
  have H := Lib.hid h
  clear h
  have HA := Lib.hid ha
  clear ha
  go_enter Try.func37, Try.ntmps37
  go_wp2_with fail
  refine (mark_addrI A c base d a k _ (H.out.alloc _) HA.out hl hk1 hk).mono ?_
  rintro _ w1 ⟨rfl, ho, hg⟩
  have HO := Lib.hid ho
  have HG := Lib.hid (grown_then (below_a1 _ _) hg)
  clear ho hg
  go_wp2
  go_ret
  exact ⟨rfl, HO.out, HG.out⟩

set_option maxHeartbeats 1000000 in
theorem held_out (A : Option Addr) (c n : Nat) (T N K : ByteArray) (kd i x : Int) (a : Int) (k : Nat) (w : World) (h : Strs w A (marks k n)) (ha : (k : Int) = a) (hl : n ≤ 1048576) (hk1 : 1 ≤ k) (hk : k ≤ 10000000) :
    Calls Try.prog 38 #[.agg #[.slice A n c, .string T, .string N, .int .i64 kd, .int .i64 i, .string K, .int .i64 x], .int .i64 a] w (dig.Told w (.int .i64 (a + n))) := by
  have H := Lib.hid h
  have HA := Lib.hid ha
  have ha0 : 0 ≤ a := by omega
  clear h ha
  go_enter Try.func38, Try.ntmps38
  go_wp2_with fail
  refine (held_addrI A c n T N K kd i a k _ (H.out.alloc _) HA.out hl hk1 hk).mono ?_
  rintro _ w1 ⟨rfl, hb⟩
  have E := Lib.hid (below_then (below_a1 _ _) hb (Nat.le_refl _))
  clear hb
  go_wp2
  go_ret
  exact ⟨rfl, E.out⟩

theorem reh_sizes {d : AddrD} {f t : List ByteArray} (h : ∀ k (h : k < d.path.length), d.path[k].size ≤ maxLen) (ht : ∀ k (h : k < t.length), t[k].size ≤ maxLen) : ∀ k (h : k < (reh.dataR d f t).path.length), (reh.dataR d f t).path[k].size ≤ maxLen := by
  by_cases hc : reh.codeR d f t = 0
  · rw [reh.data_ok hc]
    intro k hk
    have hm : (reh.pathR d f t)[k] ∈ t ++ d.path.drop f.length := List.getElem_mem hk
    rcases List.mem_append.1 hm with h1 | h1
    · obtain ⟨j, hj, e⟩ := List.getElem_of_mem h1
      show (reh.pathR d f t)[k].size ≤ _
      rw [← e]; exact ht j hj
    · obtain ⟨j, hj, e⟩ := List.getElem_of_mem (List.mem_of_mem_drop h1)
      show (reh.pathR d f t)[k].size ≤ _
      rw [← e]; exact h j hj
  · rw [reh.data_no hc]; intro k hk; simp [bare.zeroD] at hk
theorem reh_len {d : AddrD} {f t : List ByteArray} (h : d.path.length ≤ 500000) : (reh.dataR d f t).path.length ≤ 1048576 := by
  by_cases hc : reh.codeR d f t = 0
  · rw [reh.data_ok hc]
    show (reh.pathR d f t).length ≤ _
    unfold reh.codeR at hc
    split at hc
    · omega
    · split at hc
      · omega
      · split at hc
        · omega
        · split at hc
          · omega
          · omega
  · rw [reh.data_no hc]; simp [bare.zeroD]
theorem reh_len' {d : AddrD} {f t : List ByteArray} : (reh.dataR d f t).path.length ≤ 1048576 := by
  by_cases hc : reh.codeR d f t = 0
  · rw [reh.data_ok hc]
    show (reh.pathR d f t).length ≤ _
    unfold reh.codeR at hc
    split at hc
    · omega
    · split at hc
      · omega
      · split at hc
        · omega
        · split at hc <;> omega
  · rw [reh.data_no hc]; simp [bare.zeroD]
end Go.Proofs.Ytfbepcfaeeoneaa.own
