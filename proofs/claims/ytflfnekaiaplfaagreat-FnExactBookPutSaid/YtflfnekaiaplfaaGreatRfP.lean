/- Plain: addresses are in a total order; rising lists of the same members are one. Plain: the addresses of an expression, rising, no two alike: put in one by one, or sorted and with no two alike left. Plain: of a right expression: how many references there are, and that each is right. -/
import Derived.Test.YtflfnekaiaplfaaGreatLess
import Derived.Test.YtflfnekaiaplfaaGreatEx
namespace Go.Proofs.YtflfnekaiaplfaaGreat.rf
open ad cm
open Go.RowKit
set_option linter.unusedVariables false
set_option linter.unusedSimpArgs false

/-- a total order by signs. -/
structure TP {α : Type} (c : α → α → Int) : Prop where
  neg : ∀ x y, c x y < 0 ↔ 0 < c y x
  tr : ∀ x y z, c x y ≤ 0 → c y z ≤ 0 → c x z ≤ 0
theorem TP.zero {α : Type} {c : α → α → Int} (h : TP c) {x y : α} (h0 : c x y = 0) : c y x = 0 := by
  have h1 := h.neg x y; have h2 := h.neg y x; omega
theorem TP.lt_le {α : Type} {c : α → α → Int} (h : TP c) {x y z : α} (h1 : c x y < 0) (h2 : c y z ≤ 0) : c x z < 0 := by
  have a := h.neg x z; have b := h.neg z x; have d := (h.neg x y).1 h1
  by_cases hh : c x z < 0
  · exact hh
  · have := h.tr y z x h2 (by omega); omega
theorem TP.le_lt {α : Type} {c : α → α → Int} (h : TP c) {x y z : α} (h1 : c x y ≤ 0) (h2 : c y z < 0) : c x z < 0 := by
  have a := h.neg x z; have b := h.neg z x; have d := (h.neg y z).1 h2
  by_cases hh : c x z < 0
  · exact hh
  · have := h.tr z x y (by omega) h1; omega
theorem TP.both {α : Type} {c d : α → α → Int} (h : TP c) (k : TP d) : TP (fun x y => if c x y = 0 then d x y else c x y) := by
  refine ⟨fun x y => ?_, fun x y z h1 h2 => ?_⟩
  · have a := h.neg x y; have b := h.neg y x; have e := k.neg x y
    show (if c x y = 0 then d x y else c x y) < 0 ↔ 0 < (if c y x = 0 then d y x else c y x)
    split <;> split <;> omega
  · have h1' : (if c x y = 0 then d x y else c x y) ≤ 0 := h1
    have h2' : (if c y z = 0 then d y z else c y z) ≤ 0 := h2
    show (if c x z = 0 then d x z else c x z) ≤ 0
    have hxy : c x y ≤ 0 := by revert h1'; split <;> omega
    have hyz : c y z ≤ 0 := by revert h2'; split <;> omega
    have hxz := h.tr x y z hxy hyz
    by_cases e : c x z = 0
    · have e' := h.zero e
      have a1 := h.tr y z x hyz (by omega)
      have a2 := h.tr z x y (by omega) hxy
      have b1 := h.neg x y; have b2 := h.neg y x; have b3 := h.neg y z; have b4 := h.neg z y
      have c1 : c x y = 0 := by omega
      have c2 : c y z = 0 := by omega
      rw [if_pos c1] at h1'
      rw [if_pos c2] at h2'
      rw [if_pos e]
      exact k.tr x y z h1' h2'
    · rw [if_neg e]; omega
theorem TP.by {α β : Type} {c : β → β → Int} (h : TP c) (f : α → β) : TP (fun x y => c (f x) (f y)) := ⟨fun x y => h.neg _ _, fun x y z => h.tr _ _ _⟩
theorem tpI : TP cmpI := ⟨fun x y => by unfold cmpI; split <;> split <;> (try split) <;> omega, fun x y z => by unfold cmpI; intro h1 h2; revert h1 h2; split <;> split <;> (try split) <;> (try split) <;> (try split) <;> omega⟩
theorem lt_trS {s t u : ByteArray} (h : ltS s t) (k : ltS t u) : ltS s u := List.lt_trans h k
theorem tpS : TP cmpS := by
  refine ⟨fun x y => ?_, fun x y z h1 h2 => ?_⟩
  · rw [cmpS_neg]
    constructor
    · intro h; rw [cmpS_gt (lt_asy h) h]; omega
    · intro h
      by_cases e : ltS y x
      · rw [cmpS_lt e] at h; omega
      · by_cases e2 : ltS x y
        · exact e2
        · rw [cmpS_eq e e2] at h; omega
  · have key : ∀ a b, cmpS a b ≤ 0 ↔ (ltS a b ∨ a = b) := fun a b => by
      constructor
      · intro h
        by_cases e : a = b
        · exact .inr e
        · have : cmpS a b ≠ 0 := fun h0 => e (cmpS_zero.1 h0)
          exact .inl (cmpS_neg.1 (by omega))
      · rintro (h | h)
        · have := cmpS_neg.2 h; omega
        · rw [h, cmpS_self]; omega
    rw [key] at h1 h2 ⊢
    rcases h1 with h1 | rfl
    · rcases h2 with h2 | rfl
      · exact .inl (lt_trS h1 h2)
      · exact .inl h1
    · exact h2
theorem words_nn : wordsI [] [] = 0 := words_zero.2 rfl
theorem words_nc (y : ByteArray) (ys : List ByteArray) : wordsI [] (y :: ys) < 0 := by
  rw [words_end (.inl (by simp [pre]))]; unfold cmpI; simp
theorem words_cn (x : ByteArray) (xs : List ByteArray) : 0 < wordsI (x :: xs) [] := by
  rw [words_end (.inr (by simp [pre]))]; unfold cmpI; simp only [List.length_cons, List.length_nil]; split
  · omega
  · split <;> omega
theorem words_cc (x y : ByteArray) (xs ys : List ByteArray) : wordsI (x :: xs) (y :: ys) = if x = y then wordsI xs ys else cmpS x y := by
  by_cases e : x = y
  · subst e
    rw [if_pos rfl]
    have hp : pre (x :: xs) (x :: ys) = pre xs ys + 1 := pre_yes rfl
    by_cases h1 : pre xs ys < xs.length
    · by_cases h2 : pre xs ys < ys.length
      · rw [words_at hp (by simpa using h1) (by simpa using h2), words_at rfl h1 h2]; simp
      · have h3 := pre_le_r xs ys
        rw [words_end (.inr (by rw [hp]; simp; omega)), words_end (.inr (by omega))]
        unfold cmpI; simp
    · have h3 := pre_le_l xs ys
      rw [words_end (.inl (by rw [hp]; simp; omega)), words_end (.inl (by omega))]
      unfold cmpI; simp
  · rw [if_neg e, words_at (k := 0) (pre_no e) (by simp) (by simp)]; rfl
theorem tpW : TP wordsI := by
  refine ⟨fun x => ?_, fun x => ?_⟩
  · induction x with
    | nil => intro y; cases y with
      | nil => rw [words_nn]
      | cons y ys => have h1 := words_nc y ys; have h2 := words_cn y ys; simp [h1, h2]
    | cons x xs ih => intro y; cases y with
      | nil => have h1 := words_nc x xs; have h2 := words_cn x xs; omega
      | cons y ys =>
        rw [words_cc, words_cc]
        by_cases e : x = y
        · subst e; simp only [if_true]; exact ih ys
        · rw [if_neg e, if_neg (fun h => e h.symm)]; exact tpS.neg x y
  · induction x with
    | nil => intro y z h1 h2; cases z with
      | nil => rw [words_nn]; omega
      | cons z zs => have := words_nc z zs; omega
    | cons x xs ih => intro y z h1 h2; cases y with
      | nil => have := words_cn x xs; omega
      | cons y ys => cases z with
        | nil => have := words_cn y ys; omega
        | cons z zs =>
          rw [words_cc] at h1 h2 ⊢
          by_cases e1 : x = y
          · subst e1
            rw [if_pos rfl] at h1
            by_cases e2 : x = z
            · subst e2; rw [if_pos rfl] at h2 ⊢; exact ih ys zs h1 h2
            · rw [if_neg e2] at h2 ⊢; exact h2
          · rw [if_neg e1] at h1
            by_cases e2 : y = z
            · subst e2; rw [if_neg e1]; exact h1
            · rw [if_neg e2] at h2
              have h3 := tpS.tr x y z h1 h2
              by_cases e3 : x = z
              · subst e3
                have h4 : cmpS x y ≠ 0 := fun h0 => e1 (cmpS_zero.1 h0)
                have h5 := tpS.neg x y; omega
              · rw [if_neg e3]; exact h3
/-- which address is ahead, by signs. -/
noncomputable def cmpA (d e : AddrD) : Int := orI (looks d e)
theorem cmpA_eq (d e : AddrD) : cmpA d e = if wordsI d.path e.path = 0 then if cmpS d.typ e.typ = 0 then if cmpS d.nam e.nam = 0 then if cmpI d.kind e.kind = 0 then if cmpI d.n e.n = 0 then if cmpS d.key e.key = 0 then 0 else cmpS d.key e.key else cmpI d.n e.n else cmpI d.kind e.kind else cmpS d.nam e.nam else cmpS d.typ e.typ else wordsI d.path e.path := by
  simp only [cmpA, looks, orI]
theorem tp0 {α : Type} : TP (fun _ _ : α => (0 : Int)) := ⟨fun _ _ => by simp, fun _ _ _ _ _ => by simp⟩
theorem tpA : TP cmpA := by
  have := (tpW.by AddrD.path).both ((tpS.by AddrD.typ).both ((tpS.by AddrD.nam).both ((tpI.by AddrD.kind).both ((tpI.by AddrD.n).both ((tpS.by AddrD.key).both tp0)))))
  have e : cmpA = _ := funext fun d => funext fun e => cmpA_eq d e
  rw [e]; exact this
theorem cmpA_zero {d e : AddrD} : cmpA d e = 0 ↔ d = e := by
  constructor
  · intro h
    rw [cmpA_eq] at h
    have h1 : wordsI d.path e.path = 0 := by
      by_cases x : wordsI d.path e.path = 0
      · exact x
      · rw [if_neg x] at h; exact h
    rw [if_pos h1] at h
    have h2 : cmpS d.typ e.typ = 0 := by
      by_cases x : cmpS d.typ e.typ = 0
      · exact x
      · rw [if_neg x] at h; exact h
    rw [if_pos h2] at h
    have h3 : cmpS d.nam e.nam = 0 := by
      by_cases x : cmpS d.nam e.nam = 0
      · exact x
      · rw [if_neg x] at h; exact h
    rw [if_pos h3] at h
    have h4 : cmpI d.kind e.kind = 0 := by
      by_cases x : cmpI d.kind e.kind = 0
      · exact x
      · rw [if_neg x] at h; exact h
    rw [if_pos h4] at h
    have h5 : cmpI d.n e.n = 0 := by
      by_cases x : cmpI d.n e.n = 0
      · exact x
      · rw [if_neg x] at h; exact h
    rw [if_pos h5] at h
    have h6 : cmpS d.key e.key = 0 := by
      by_cases x : cmpS d.key e.key = 0
      · exact x
      · rw [if_neg x] at h; exact h
    cases d; cases e
    simp only [AddrD.mk.injEq]
    exact ⟨words_zero.1 h1, cmpS_zero.1 h2, cmpS_zero.1 h3, cmpI_zero.1 h4, cmpI_zero.1 h5, cmpS_zero.1 h6⟩
  · rintro rfl
    rw [cmpA_eq]
    simp [words_zero.2 rfl, cmpS_self, cmpI_zero.2 rfl]

/-- rising, no two alike. -/
def Ris (l : List AddrD) : Prop := l.Pairwise (fun a b => cmpA a b < 0)
/-- rising lists with the same members are one. -/
theorem ris_one : ∀ {l m : List AddrD}, Ris l → Ris m → (∀ a, a ∈ l ↔ a ∈ m) → l = m
  | [], [], _, _, _ => rfl
  | [], b :: m, _, _, h => absurd ((h b).2 (by simp)) (by simp)
  | a :: l, [], _, _, h => absurd ((h a).1 (by simp)) (by simp)
  | a :: l, b :: m, hl, hm, h => by
    have hl' := List.pairwise_cons.1 hl
    have hm' := List.pairwise_cons.1 hm
    have hab : a = b := by
      rcases List.mem_cons.1 ((h a).1 (by simp)) with e | e
      · exact e
      rcases List.mem_cons.1 ((h b).2 (by simp)) with e2 | e2
      · exact e2.symm
      have h1 := hm'.1 a e
      have h2 := hl'.1 b e2
      have := (tpA.neg a b).1 h2
      omega
    subst hab
    have irr : ∀ x, ¬ cmpA x x < 0 := fun x hx => by rw [cmpA_zero.2 rfl] at hx; omega
    congr 1
    refine ris_one hl'.2 hm'.2 fun x => ⟨fun hx => ?_, fun hx => ?_⟩
    · rcases List.mem_cons.1 ((h x).1 (by simp [hx])) with e | e
      · subst e; exact absurd (hl'.1 x hx) (irr x)
      · exact e
    · rcases List.mem_cons.1 ((h x).2 (by simp [hx])) with e | e
      · subst e; exact absurd (hm'.1 x hx) (irr x)
      · exact e
end Go.Proofs.YtflfnekaiaplfaaGreat.rf
namespace Go.Proofs.YtflfnekaiaplfaaGreat.rf
open ad cm vl ex
open Go.RowKit
set_option linter.unusedVariables false
set_option linter.unusedSimpArgs false

mutual
/-- the addresses of the references, in the text's order. -/
def gat : ExprD → List AddrD
  | .mk k _ a _ l => (if k = 2 then [a] else []) ++ gatL l
def gatL : List ExprD → List AddrD
  | [] => []
  | e :: es => gat e ++ gatL es
end
theorem gat_eq (e : ExprD) : gat e = (if e.kind = 2 then [e.addr] else []) ++ gatL e.args := by cases e; rfl
theorem gatL_app : ∀ (l m : List ExprD), gatL (l ++ m) = gatL l ++ gatL m
  | [], m => by simp [gatL]
  | e :: es, m => by simp [gatL, gatL_app es m]
theorem gatL_take (l : List ExprD) (k : Nat) (h : k < l.length) : gatL (l.take (k + 1)) = gatL (l.take k) ++ gat l[k] := by
  rw [List.take_succ_eq_append_getElem h, gatL_app]; simp [gatL]
/-- one put into a rising list. -/
noncomputable def put : List AddrD → AddrD → List AddrD
  | [], a => [a]
  | b :: l, a => if cmpA b a < 0 then b :: put l a else if cmpA b a = 0 then b :: l else a :: b :: l
theorem put_mem : ∀ (l : List AddrD) (a x : AddrD), x ∈ put l a ↔ x = a ∨ x ∈ l
  | [], a, x => by simp [put]
  | b :: l, a, x => by
    rw [put]
    split
    · rw [List.mem_cons, put_mem l a x, List.mem_cons]
      constructor
      · rintro (h | h | h)
        · exact .inr (.inl h)
        · exact .inl h
        · exact .inr (.inr h)
      · rintro (h | h | h)
        · exact .inr (.inl h)
        · exact .inl h
        · exact .inr (.inr h)
    · split
      · rename_i h0
        have := cmpA_zero.1 h0
        subst this
        constructor
        · intro h; exact .inr h
        · rintro (rfl | h)
          · simp
          · exact h
      · simp [List.mem_cons]
theorem put_ris : ∀ {l : List AddrD} (a : AddrD), Ris l → Ris (put l a)
  | [], a, _ => by simp [put, Ris]
  | b :: l, a, h => by
    have h' := List.pairwise_cons.1 h
    rw [put]
    split
    · rename_i h0
      refine List.pairwise_cons.2 ⟨fun x hx => ?_, put_ris a h'.2⟩
      rcases (put_mem l a x).1 hx with rfl | hx
      · exact h0
      · exact h'.1 x hx
    · split
      · exact h
      · rename_i h0 h1
        have hab : cmpA a b < 0 := (tpA.neg a b).2 (by omega)
        refine List.pairwise_cons.2 ⟨fun x hx => ?_, h⟩
        rcases List.mem_cons.1 hx with rfl | hx
        · exact hab
        · exact tpA.lt_le hab (by have := h'.1 x hx; omega)
/-- all put in, one by one. -/
noncomputable def puts (l : List AddrD) (m : List AddrD) : List AddrD := m.foldl put l
theorem puts_app (l m k : List AddrD) : puts l (m ++ k) = puts (puts l m) k := by simp [puts]
theorem puts_ris : ∀ (m : List AddrD) {l : List AddrD}, Ris l → Ris (puts l m)
  | [], l, h => h
  | a :: m, l, h => puts_ris m (put_ris a h)
theorem puts_mem : ∀ (m l : List AddrD) (x : AddrD), x ∈ puts l m ↔ x ∈ m ∨ x ∈ l
  | [], l, x => by simp [puts]
  | a :: m, l, x => by
    show x ∈ puts (put l a) m ↔ _
    rw [puts_mem m, put_mem, List.mem_cons]
    constructor
    · rintro (h | h | h)
      · exact .inl (.inr h)
      · exact .inl (.inl h)
      · exact .inr h
    · rintro ((h | h) | h)
      · exact .inr (.inl h)
      · exact .inl h
      · exact .inr (.inr h)
theorem put_len : ∀ (l : List AddrD) (a : AddrD), (put l a).length ≤ l.length + 1
  | [], a => by simp [put]
  | b :: l, a => by
    have := put_len l a
    rw [put]; split
    · simp; omega
    · split <;> simp
theorem puts_len : ∀ (m l : List AddrD), (puts l m).length ≤ l.length + m.length
  | [], l => by simp [puts]
  | a :: m, l => by
    have h1 := puts_len m (put l a)
    have h2 := put_len l a
    show (puts (put l a) m).length ≤ _
    simp; omega
/-- what stands in the place: so many are ahead; then it is there, or not. -/
theorem put_at : ∀ {l : List AddrD} {a : AddrD} {k : Nat}, k ≤ l.length → (∀ j (h : j < l.length), j < k → cmpA l[j] a < 0) → (∀ h : k < l.length, ¬ cmpA l[k] a < 0) →
    put l a = if ∃ h : k < l.length, cmpA l[k] a = 0 then l else l.take k ++ a :: l.drop k
  | [], a, k, hk, _, _ => by
    obtain rfl : k = 0 := by simpa using hk
    rw [if_neg (by rintro ⟨h, _⟩; simp at h)]; rfl
  | b :: l, a, 0, hk, _, h2 => by
    have h2' : ¬ cmpA b a < 0 := h2 (by simp)
    rw [put, if_neg h2']
    by_cases h0 : cmpA b a = 0
    · rw [if_pos h0, if_pos ⟨by simp, h0⟩]
    · rw [if_neg h0, if_neg (by rintro ⟨_, h⟩; exact h0 h)]; rfl
  | b :: l, a, k + 1, hk, h1, h2 => by
    have h0 : cmpA b a < 0 := h1 0 (by simp) (by omega)
    rw [put, if_pos h0, put_at (k := k) (by simpa using hk) (fun j h hj => h1 (j + 1) (by simpa using h) (by omega)) (fun h => h2 (by simpa using h))]
    by_cases hz : ∃ h : k < l.length, cmpA l[k] a = 0
    · rw [if_pos hz, if_pos (by obtain ⟨h, e⟩ := hz; exact ⟨by simpa using h, e⟩)]
    · rw [if_neg hz, if_neg (by rintro ⟨h, e⟩; exact hz ⟨by simpa using h, e⟩)]; rfl

/-- of alike neighbours one is left. -/
noncomputable def cpt : List AddrD → List AddrD
  | [] => []
  | [a] => [a]
  | a :: b :: l => if cmpA a b = 0 then cpt (b :: l) else a :: cpt (b :: l)
theorem cpt_mem : ∀ (l : List AddrD) (x : AddrD), x ∈ cpt l ↔ x ∈ l
  | [], x => by simp [cpt]
  | [a], x => by simp [cpt]
  | a :: b :: l, x => by
    rw [cpt]
    have ih := cpt_mem (b :: l) x
    split
    · rename_i h
      have := cmpA_zero.1 h
      subst this
      rw [ih]; simp
    · rw [List.mem_cons, ih]; simp
theorem cpt_ris : ∀ {l : List AddrD}, l.Pairwise (fun a b => cmpA a b ≤ 0) → Ris (cpt l)
  | [], _ => by simp [cpt, Ris]
  | [a], _ => by simp [cpt, Ris]
  | a :: b :: l, h => by
    have h' := List.pairwise_cons.1 h
    rw [cpt]
    split
    · exact cpt_ris h'.2
    · rename_i h0
      have hab : cmpA a b < 0 := by have := h'.1 b (by simp); omega
      refine List.pairwise_cons.2 ⟨fun x hx => ?_, cpt_ris h'.2⟩
      have hx' := (cpt_mem _ x).1 hx
      rcases List.mem_cons.1 hx' with rfl | hx'
      · exact hab
      · exact tpA.lt_le hab ((List.pairwise_cons.1 h'.2).1 x hx')
/-- sorted, and of alike ones one left: what is put in one by one. -/
theorem cpt_puts {l s : List AddrD} (hs : s.Pairwise (fun a b => cmpA a b ≤ 0)) (hm : ∀ x, x ∈ s ↔ x ∈ l) : cpt s = puts [] l :=
  ris_one (cpt_ris hs) (puts_ris l (by simp [Ris])) fun x => by rw [cpt_mem, hm, puts_mem]; simp
end Go.Proofs.YtflfnekaiaplfaaGreat.rf
namespace Go.Proofs.YtflfnekaiaplfaaGreat.rf
open ad cm vl ex
open Go.RowKit
set_option linter.unusedVariables false
set_option linter.unusedSimpArgs false
theorem right_args {n : Nat} {e : ExprD} (h : exprB (n + 1) e = true) (hk : e.kind ≠ 5) : e.args = [] := by
  simp only [exprB, Bool.and_eq_true, Bool.or_eq_true, beq_iff_eq, List.isEmpty_iff] at h
  rcases h.1.2 with h1 | h1
  · exact absurd h1 hk
  · exact h1
theorem right_two {n : Nat} {e : ExprD} (h : exprB (n + 1) e = true) (hk : e.kind = 5) : ∃ x y, e.args = [x, y] ∧ exprB n x = true ∧ exprB n y = true := by
  simp only [exprB, hk, Bool.and_eq_true, Bool.or_eq_true, beq_iff_eq] at h
  have h5 := h.2
  have h6 : two (exprB n) e.args = true := by
    rcases h5 with (((h5 | h5) | h5) | h5) | h5
    · exact absurd h5.1 (by decide)
    · exact absurd h5.1.1 (by decide)
    · exact absurd h5 (by decide)
    · exact absurd h5 (by decide)
    · exact h5.2
  match ha : e.args, h6 with
  | [x, y], h6 => simp only [two, Bool.and_eq_true] at h6; exact ⟨x, y, rfl, h6.1, h6.2⟩
theorem right_ref {n : Nat} {e : ExprD} (h : exprB (n + 1) e = true) (hk : e.kind = 2) : addrB e.addr = true := by
  simp only [exprB, hk, Bool.and_eq_true, Bool.or_eq_true, beq_iff_eq] at h
  rcases h.2 with (((h5 | h5) | h5) | h5) | h5
  · exact absurd h5.1 (by decide)
  · exact h5.1.2
  · exact absurd h5 (by decide)
  · exact absurd h5 (by decide)
  · exact absurd h5.1 (by decide)
theorem gat_len : ∀ (n : Nat) {e : ExprD}, exprB (n + 1) e = true → (gat e).length ≤ 2 ^ n
  | 0, e, h => by
    by_cases hk : e.kind = 5
    · obtain ⟨x, y, _, hx, _⟩ := right_two h hk; simp [exprB] at hx
    · rw [gat_eq, right_args h hk]; split <;> simp [gatL]
  | n + 1, e, h => by
    by_cases hk : e.kind = 5
    · obtain ⟨x, y, ha, hx, hy⟩ := right_two h hk
      have h1 := gat_len n hx
      have h2 := gat_len n hy
      rw [gat_eq, ha, hk]
      simp [gatL]
      rw [Nat.pow_succ]; omega
    · rw [gat_eq, right_args h hk]
      have : 1 ≤ 2 ^ (n + 1) := Nat.one_le_two_pow
      split <;> simp [gatL]; omega
theorem gat_right : ∀ (n : Nat) {e : ExprD}, exprB (n + 1) e = true → ∀ a ∈ gat e, addrB a = true
  | n, e, h, a, ha => by
    by_cases hk : e.kind = 5
    · obtain ⟨x, y, hxy, hx, hy⟩ := right_two h hk
      rw [gat_eq, hxy, hk] at ha
      simp [gatL] at ha
      cases n with
      | zero => simp [exprB] at hx
      | succ n =>
        rcases ha with ha | ha
        · exact gat_right n hx a ha
        · exact gat_right n hy a ha
    · rw [gat_eq, right_args h hk] at ha
      by_cases h2 : e.kind = 2
      · simp [gatL, h2] at ha; subst ha; exact right_ref h h2
      · simp [gatL, h2] at ha
end Go.Proofs.YtflfnekaiaplfaaGreat.rf
