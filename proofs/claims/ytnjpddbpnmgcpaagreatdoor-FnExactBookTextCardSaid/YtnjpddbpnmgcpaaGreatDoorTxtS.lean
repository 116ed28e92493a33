/- AddrText of the model. -/
import Derived.Test.YtnjpddbpnmgcpaaGreatDoorTxtI
namespace Go.Proofs.YtnjpddbpnmgcpaaGreatDoor.txt
open ad mem dig
open Go.ChangeShapes Go.WideShapes Go.ChangeAt Go.RowKit Go.Lib
set_option linter.unusedVariables false
set_option linter.unusedSimpArgs false

theorem pathT_snoc (l : List ByteArray) (k : Nat) (h : k < l.length) : pathT (l.take (k + 1)) = pathT (l.take k) ++ (l[k].data.toList ++ [47]) := by
  unfold pathT; rw [List.take_succ_eq_append_getElem h, List.map_append, List.flatten_append]; simp
theorem bs_eq (s : ByteArray) : s = bs s.data.toList := rfl
theorem app2 (l : List UInt8) (s : ByteArray) : bs l ++ s = bs (l ++ s.data.toList) := bs_app l s.data.toList
theorem app1 (l : List UInt8) (b : UInt8) : bs l ++ (⟨#[b]⟩ : ByteArray) = bs (l ++ [b]) := bs_app l [b]
theorem decI (x : Int) (h0 : 0 ≤ x) (h1 : x ≤ 99) (w : World) : Calls Tryz.prog 38 #[.int .i64 x] w (Told w (.string (bs (decT x)))) := by
  obtain ⟨i, rfl⟩ : ∃ i : Nat, x = i := ⟨x.toNat, by omega⟩
  exact dec_spec i w (by omega)

set_option maxHeartbeats 4000000 in
theorem l02Text_any (A : Option Addr) (c : Nat) (d : AddrD) (w : World) (h : Strs w A d.path) (hl : d.path.length ≤ 2) (ht : d.typ.size ≤ 8) (hn : d.nam.size ≤ 8) (hk : d.key.size ≤ 8) (hw : ∀ s ∈ d.path, wordB s = true) (hn1 : d.kind = 1 → 0 ≤ d.n ∧ d.n ≤ 99) :
    Calls Tryz.prog 17 #[.agg #[.slice A d.path.length c, .string d.typ, .string d.nam, .int .i64 d.kind, .int .i64 d.n, .string d.key]] w (Told w (.string (bs (rawT d)))) := by
  have H := Lib.hid h
  have HL := Lib.hid hl
  have hl2 : (d.path.length : Int) ≤ 2 := by omega
  have HW := Lib.hid hw
  have HN := Lib.hid hn1
  clear h hl hw hn1
  go_enter Tryz.func17, Tryz.ntmps17
  go_wp2
  go_loop [3, 4] (fun t i => ∃ k : Nat, k ≤ d.path.length ∧ i = .int .i64 k ∧ t = .string (bs (pathT (d.path.take k)))) (fun _ i => d.path.length - (RowKit.intOf i).toNat)
  case atStart => exact ⟨0, Nat.zero_le _, rfl, rfl⟩
  case round =>
    obtain ⟨k, hk', rfl, rfl⟩ := hrel
    have hps : (bs (pathT (d.path.take k))).size ≤ 18 := by
      have h1 := path_size (d.path.take k) (fun s hs => HW.out s (List.mem_of_mem_take hs))
      have h2 : (d.path.take k).length ≤ 2 := by simp; have := HL.out; omega
      rw [bs_size]; omega
    by_cases hlt : k < d.path.length
    · obtain ⟨b, o, rfl, hbg, hc, _⟩ := H.out k hlt
      have hcr : (w.alloc (.cells #[.slice (some ⟨b, o, none⟩) d.path.length c, .string d.typ, .string d.nam, .int .i64 d.kind, .int .i64 d.n, .string d.key] 46)).cell? ⟨b, o + k, none⟩ = some (.string d.path[k]) := by rw [World.cell?_alloc_lt _ _ _ hbg]; exact hc
      have hsz := word_size (HW.out d.path[k] (List.getElem_mem hlt))
      have HE := Lib.hid (pathT_snoc d.path k hlt)
      clear hc
      go_wp2
      go_round
      case rel => exact ⟨k + 1, hlt, by go_num, by rw [HE.out, app2, app1, List.append_assoc]⟩
      case measure => simp [RowKit.intOf]; omega
    · obtain rfl : k = d.path.length := by omega
      rw [List.take_length] at hps ⊢
      by_cases h1 : d.kind = 1
      · have hk1 : (d.kind == 1) = true := by simp [h1]
        have HK := Lib.hid h1
        obtain ⟨n0, n1⟩ := HN.out h1
        have hd := dec_len d.n.toNat
        have hds : (bs (decT d.n)).size ≤ 100 := by rw [bs_size]; unfold decT; omega
        clear h1 hd
        go_wp2_with fail
        refine (decI d.n n0 n1 _).mono ?_
        rintro _ w1 ⟨rfl, hb⟩
        have E1 := Lib.hid (below_then (below_a1 _ _) hb (Nat.le_refl _))
        clear hb
        go_wp2
        go_ret
        refine ⟨ret_str ?_, E1.out⟩
        simp only [app2, app1, bs_app]
        congr 1
        simp [rawT, keyT, HK.out, bs_data]
      · have hk1 : (d.kind == 1) = false := by simp [h1]
        have HK1 := Lib.hid h1
        clear h1
        by_cases h2 : d.kind = 2
        · have hk2 : (d.kind == 2) = true := by simp [h2]
          have HK2 := Lib.hid h2
          clear h2
          go_wp2
          go_ret
          refine ⟨ret_str ?_, below_a1 _ _⟩
          simp only [app2, app1, bs_app]
          congr 1
          simp [rawT, keyT, HK1.out, HK2.out]
        · have hk2 : (d.kind == 2) = false := by simp [h2]
          have HK2 := Lib.hid h2
          clear h2
          go_wp2
          go_ret
          refine ⟨ret_str ?_, below_a1 _ _⟩
          simp only [app2, app1, bs_app]
          congr 1
          simp [rawT, keyT, HK1.out, HK2.out]

set_option maxHeartbeats 1000000 in
theorem text_spec (A : Option Addr) (c : Nat) (d : AddrD) (w : World) (h : Strs w A d.path) (hl : d.path.length ≤ maxLen) (ht : d.typ.size ≤ maxLen) (hn : d.nam.size ≤ maxLen) (hk : d.key.size ≤ maxLen) :
    Calls Tryz.prog 50 #[.agg #[.slice A d.path.length c, .string d.typ, .string d.nam, .int .i64 d.kind, .int .i64 d.n, .string d.key]] w (Told w (.string (bs (addrT d)))) := by
  cases hr : addrB d
  · have e : addrT d = [] := by simp [addrT, hr]
    rw [e]
    have H := Lib.hid h
    have K := Lib.hid (fun W h => hr ▸ adr.right_spec A c d W h hl ht hn hk)
    clear hr h e hl
    go_enter Tryz.func50, Tryz.ntmps50
    go_wp2_with fail
    refine (K.out _ (H.out.alloc _)).mono ?_
    rintro _ w1 ⟨rfl, hb⟩
    have E1 := Lib.hid (below_then (below_a1 _ _) hb (Nat.le_refl _))
    clear hb
    go_wp2
    go_ret
    exact ⟨rfl, E1.out⟩
  · have e : addrT d = rawT d := by simp [addrT, hr]
    rw [e]
    obtain ⟨hp, h1, h2, h3⟩ := addr_parts hr
    obtain ⟨hp1, hp2⟩ := path_words hp
    have z1 := word_size h1
    have z2 := word_size h2
    have h3' := h3
    simp only [keyB, Bool.or_eq_true, Bool.and_eq_true, beq_iff_eq, decide_eq_true_eq] at h3'
    have z3 : d.key.size ≤ 8 := by
      rcases h3' with (⟨⟨k0, k1⟩, k2⟩ | ⟨⟨⟨k0, k1⟩, k2⟩, k3⟩) | ⟨⟨k0, k1⟩, k2⟩
      · omega
      · omega
      · exact word_size k2
    have z4 : d.kind = 1 → 0 ≤ d.n ∧ d.n ≤ 99 := by
      intro e; rcases h3' with (⟨⟨k0, k1⟩, k2⟩ | ⟨⟨⟨k0, k1⟩, k2⟩, k3⟩) | ⟨⟨k0, k1⟩, k2⟩ <;> omega
    have KT := Lib.hid (fun W h => l02Text_any A c d W h hp1 z1 z2 z3 hp2 z4)
    have H := Lib.hid h
    have K := Lib.hid (fun W h => hr ▸ adr.right_spec A c d W h hl ht hn hk)
    clear hr h e hl hp h1 h2 h3 h3' hp2 z4
    go_enter Tryz.func50, Tryz.ntmps50
    go_wp2_with fail
    refine (K.out _ (H.out.alloc _)).mono ?_
    rintro _ w1 ⟨rfl, hb⟩
    have E1 := Lib.hid (below_then (below_a1 _ _) hb (Nat.le_refl _))
    have q1 := ((Blk.new w _ _).step hb).cell
    clear hb
    go_wp2_with fail
    refine (KT.out _ (H.out.below E1.out)).mono ?_
    rintro _ w2 ⟨rfl, hb⟩
    have E2 := Lib.hid (below_then E1.out hb (Nat.le_refl _))
    clear hb
    go_wp2
    go_ret
    exact ⟨rfl, E2.out⟩
end Go.Proofs.YtnjpddbpnmgcpaaGreatDoor.txt
