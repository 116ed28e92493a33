/- AddrRead of the program. -/
import Derived.Test.YtfjfneliajmjbaaDoorArS
import Derived.Test.YtfjfneliajmjbaaDoorPar
import Derived.Test.YtfjfneliajmjbaaDoorSpl
import Derived.Test.YtfjfneliajmjbaaDoorAdJ
import Derived.Test.YtfjfneliajmjbaaDoorTxtI
import Derived.Lib.SplitLaws
namespace Go.Proofs.YtfjfneliajmjbaaDoor.ari
open ad mem own bare ard nump rda dig ars
open Go.ChangeShapes Go.WideShapes Go.ChangeAt Go.RowKit Go.Lib
set_option linter.unusedVariables false
set_option maxRecDepth 8000
set_option linter.unusedSimpArgs false

/-- what the program takes a key's text for. -/
noncomputable def keyR (t : ByteArray) : Int × Int × ByteArray :=
  if wordB t = true then (2, 0, t) else match Lib.parseIntB 64 t.data.toList with
    | .ok v => (1, v, ByteArray.empty)
    | _ => (0, 0, ByteArray.empty)
theorem keyR_word {t : ByteArray} (h : wordB t = true) : keyR t = (2, 0, t) := by unfold keyR; rw [if_pos h]
theorem keyR_ok {t : ByteArray} (h : wordB t = false) {v : Int} (hp : Lib.parseIntB 64 t.data.toList = .ok v) : keyR t = (1, v, ByteArray.empty) := by
  unfold keyR; rw [if_neg (by rw [h]; decide), hp]
theorem keyR_bad {t : ByteArray} (h : wordB t = false) (hp : ∀ v, Lib.parseIntB 64 t.data.toList ≠ .ok v) : keyR t = (0, 0, ByteArray.empty) := by
  unfold keyR; rw [if_neg (by rw [h]; decide)]
  split
  · rename_i v e; exact absurd e (hp v)
  · rfl
/-- what stands behind the '[', if there is one. -/
noncomputable def keyI (ok : Bool) (y : ByteArray) : Int × Int × ByteArray := if ok = true then keyR (bs (Lib.trimSuffix y.data.toList [93])) else (0, 0, ByteArray.empty)
theorem trim_b (x : List UInt8) (b : UInt8) : Lib.trimSuffix (x ++ [b]) [b] = x := by
  unfold Lib.trimSuffix Lib.hasSuffix
  rw [if_pos (by rw [List.isSuffixOf_iff_suffix]; exact List.suffix_append _ _)]
  simp
theorem trim_le (x : List UInt8) : (Lib.trimSuffix x [93]).length ≤ x.length := by
  unfold Lib.trimSuffix
  split <;> simp
theorem bs_data (s : ByteArray) : bs s.data.toList = s := rfl
theorem word_dig {n : Nat} : wordB (bs (Lib.decDigits n)) = false := by
  cases hc : Lib.decDigits n with
  | nil => exact absurd hc (nump.dec_ne n)
  | cons c r =>
    have h1 := ard.dec_dig n c (by rw [hc]; simp)
    refine wordB_at (k := 0) (by rw [bs_size]; simp) (.inl ?_)
    show ((bs (c :: r)).data.toList[0]'(by simp [bs]) |>.toNat : Int) < 97
    have e : (bs (c :: r)).data.toList[0]'(by simp [bs]) = c := by simp [bs]
    rw [e]; omega
theorem keyI_is {d : AddrD} (h : addrB d = true) {ok : Bool} {y : ByteArray} (hy : (d.kind = 0 ∧ ok = false) ∨ (d.kind ≠ 0 ∧ ok = true ∧ y.data.toList = keyIn d ++ [93])) : keyI ok y = (d.kind, d.n, d.key) := by
  obtain ⟨_, _, _, h4⟩ := key_parts h
  rcases hy with ⟨k, rfl⟩ | ⟨k, rfl, hy⟩
  · rcases h4 with ⟨_, n, e⟩ | ⟨k', _⟩ | ⟨k', _⟩
    · unfold keyI; rw [if_neg (by decide), k, n, e]
    · omega
    · omega
  · unfold keyI
    rw [if_pos rfl, hy, trim_b]
    rcases h4 with ⟨k', _⟩ | ⟨k', n0, n1, e⟩ | ⟨k', n, hw⟩
    · omega
    · have hd : keyIn d = decDigits d.n.toNat := by simp [keyIn, k', decT]
      have hz2 : ((d.n.toNat : Nat) : Int) = d.n := by omega
      have hp : Lib.parseIntB 64 (bs (keyIn d)).data.toList = .ok d.n := by
        have := parseI_itoa d.n (by omega) (by omega)
        unfold Lib.itoa at this
        rw [if_neg (by omega)] at this
        show Lib.parseIntB 64 (keyIn d) = _
        rw [hd]; exact this
      rw [keyR_ok (by rw [hd]; exact word_dig) hp, k', e]
    · have hd : keyIn d = d.key.data.toList := by simp [keyIn, k']
      rw [hd, bs_data, keyR_word hw, k', n]

/-- strings.Cut at one byte. -/
theorem cutL_cases (l : List UInt8) (b : UInt8) : (∃ p q, l = p ++ b :: q ∧ b ∉ p ∧ Lib.cut l [b] = (p, q, true)) ∨ (b ∉ l ∧ Lib.cut l [b] = (l, [], false)) := by
  by_cases h : b ∈ l
  · obtain ⟨p, q, rfl, hp⟩ := first_of h
    exact .inl ⟨p, q, rfl, hp, cut_hit hp⟩
  · exact .inr ⟨h, cut_miss h⟩
theorem cut_len (l : List UInt8) (b : UInt8) : (Lib.cut l [b]).1.length ≤ l.length ∧ (Lib.cut l [b]).2.1.length ≤ l.length := by
  rcases cutL_cases l b with ⟨p, q, rfl, _, e⟩ | ⟨_, e⟩
  · rw [e]; simp; omega
  · rw [e]; simp

/-- the pieces that strings.Split makes. -/
noncomputable def parts (s : ByteArray) : List ByteArray := Lib.splitB ⟨#[47]⟩ 0 (Lib.countB s ⟨#[47]⟩) s
theorem parts_is (s : ByteArray) : ssplit.Pieces s 47 (parts s) := by
  unfold ssplit.Pieces parts
  have h := Lib.splitB_data ⟨#[47]⟩ 0 (Lib.countB s ⟨#[47]⟩) s
  have e := splitK_is 47 s.data.toList.length s.data.toList (Nat.le_refl _)
  exact h.trans e

/-- what the program takes a text for. -/
noncomputable def cutI (s : ByteArray) : AddrD :=
  let x := ((parts s).getLast?.getD ByteArray.empty).data.toList
  let r := (Lib.cut x [46]).2.1
  let k := keyI (Lib.cut r [91]).2.2 (bs (Lib.cut r [91]).2.1)
  ⟨(parts s).dropLast, bs (Lib.cut x [46]).1, bs (Lib.cut r [91]).1, k.1, k.2.1, k.2.2⟩
theorem cutI_is {s : ByteArray} {d : AddrD} (h : HasA s d) : cutI s = d := by
  obtain ⟨x, hl, hx⟩ := pieces_has (parts_is s) h
  have hb := h.1
  have n91 := words_no hb (b := 91) (by decide)
  have n46 := words_no hb (b := 46) (by decide)
  unfold cutI
  rw [hl]
  simp only [List.getLast?_concat, Option.getD_some, List.dropLast_concat]
  have e1 : x.data.toList = d.typ.data.toList ++ 46 :: (d.nam.data.toList ++ keyT d.kind d.n d.key) := by rw [hx]; simp [tailT]
  rw [e1, cut_hit n46.1]
  rcases keyT_parts hb with ⟨k, hk⟩ | ⟨k, hk⟩
  · rw [hk, List.append_nil, cut_miss n91.2]
    simp only [bs_data]
    rw [keyI_is hb (.inl ⟨k, rfl⟩)]
  · rw [hk, cut_hit n91.2]
    simp only [bs_data]
    rw [keyI_is hb (ok := true) (y := bs (keyIn d ++ [93])) (.inr ⟨k, rfl, rfl⟩)]

set_option maxHeartbeats 1000000 in
theorem readKey_any (t : ByteArray) (w : World) (hs : t.size ≤ 1000000000) (hE : par.Errs w) :
    Calls Tryd.prog 25 #[.string t] w (vl.Told w (adr.keyV (keyR t).1 (keyR t).2.1 (keyR t).2.2)) := by
  have HE := Lib.hid hE
  have KW := fun (W : World) => Lib.hid (wd.impl_any t W (Nat.le_trans hs (by unfold maxLen; omega)))
  clear hE
  cases hw : wordB t
  · rw [hw] at KW
    by_cases hp : ∃ v, Lib.parseIntB 64 t.data.toList = .ok v
    · obtain ⟨v, hv⟩ := hp
      rw [keyR_ok hw hv]
      have KI := fun (W : World) => Lib.hid (par.parse_ok t v hv hs W)
      clear hw hv HE
      go_enter Tryd.func25, Tryd.ntmps25
      go_wp2_with fail
      refine (KW _).out.mono ?_
      rintro _ _ ⟨rfl, rfl⟩
      go_wp2_with fail
      refine (KI _).out.mono ?_
      rintro _ w1 ⟨rfl, hb⟩
      have E1 := Lib.hid hb
      clear hb
      go_wp2
      go_ret
      exact ⟨rfl, E1.out⟩
    · rw [keyR_bad hw (fun v hv => hp ⟨v, hv⟩)]
      have KI := fun (W : World) h => Lib.hid (par.parse_bad t (fun v hv => hp ⟨v, hv⟩) hs W h)
      clear hw hp
      go_enter Tryd.func25, Tryd.ntmps25
      go_wp2_with fail
      refine (KW _).out.mono ?_
      rintro _ _ ⟨rfl, rfl⟩
      go_wp2_with fail
      refine (KI _ HE.out).out.mono ?_
      rintro _ w1 ⟨n, t, p, rfl, hb⟩
      have E1 := Lib.hid hb
      clear hb
      go_wp2
      go_ret
      exact ⟨rfl, E1.out⟩
  · rw [hw] at KW
    rw [keyR_word hw]
    clear hw HE
    go_enter Tryd.func25, Tryd.ntmps25
    go_wp2_with fail
    refine (KW _).out.mono ?_
    rintro _ _ ⟨rfl, rfl⟩
    go_wp2
    go_ret
    exact ⟨rfl, Below.refl _ _⟩
end Go.Proofs.YtfjfneliajmjbaaDoor.ari
