/- The laws' own helpers on expressions: lists of them copied in. -/
import Derived.Test.YtgkcohclejmhkaaExT
namespace Go.Proofs.Ytgkcohclejmhkaa.ex
open ad mem vl
open Go.ChangeShapes Go.WideShapes Go.ChangeAt Go.RowKit Go.Lib
set_option linter.unusedVariables false
set_option maxRecDepth 8000
set_option linter.unusedSimpArgs false

theorem blk_cells {g : Nat} {T : TypeId} : ∀ (vs : List Value) (o : Nat) {w : World} {cs : Array Value}, Blk w g T cs → ∃ cs', Blk (w.setCells g o vs) g T cs' ∧ cs'.size = cs.size
  | [], _, _, cs, h => ⟨cs, h, rfl⟩
  | v :: vs, o, w, cs, h => by
    obtain ⟨cs', h1, h2⟩ := blk_cells vs (o + 1) (Blk.set_ h o v)
    exact ⟨cs', h1, by rw [h2]; simp⟩
theorem one_cells (e : ExprD) (pa : Option Addr) (pc : Nat) (aa : Option Addr) (ac : Nat) : (cellsE e pa pc aa ac).toArray.all (·.oneCell') = true := by simp [cellsE, Value.oneCell']
theorem below_cells {B : Nat} {a : World} {g : Nat} (hg : B ≤ g) : ∀ (vs : List Value) (o : Nat) {w : World}, Below B a w → Below B a (w.setCells g o vs)
  | [], _, _, h => h
  | v :: vs, o, w, h => below_cells hg vs (o + 1) (Below.setCell h (p := ⟨g, o, none⟩) hg v)
theorem blk_there {w : World} {g : Nat} {T : TypeId} {cs : Array Value} (h : Blk w g T cs) {o n : Nat} (hs : o + n ≤ cs.size) : w.there g o n := fun j hj => by
  refine ⟨?_, h.free _⟩
  rw [h.cell, Array.getElem?_eq_getElem (by omega)]; rfl
def NewC (w : World) (n : Nat) (e : ExprD) (en : Ending) (w' : World) : Prop := ∃ pa aa cs, Hid (cs = cellsE e pa e.addr.path.length aa e.args.length) ∧ en = .returned (.agg cs.toArray) ∧ In w.heap.size n w' pa aa e ∧ Below w.heap.size w w'
theorem newC {w : World} {n : Nat} {e : ExprD} {en : Ending} {w' : World} (h : NewE w n e en w') : NewC w n e en w' := by
  obtain ⟨pa, aa, h1, h2, h3⟩ := h
  exact ⟨pa, aa, _, Lib.hid rfl, h1, h2, h3⟩
/-- the first k of a list are laid in block g. -/
def Fill (n : Nat) (l : List ExprD) (g k : Nat) (w : World) : Prop := (∃ cs, Blk w g 37 cs ∧ cs.size = l.length * 12) ∧
  ∀ j (h : j < l.length), j < k → ∃ pa pc aa ac, w.rangeAt g (j * 12) (cellsE l[j] pa pc aa ac) ∧ In (g + 1) n w pa aa l[j]
theorem Fill.below {n : Nat} {l : List ExprD} {g k : Nat} {w w' : World} (h : Fill n l g k w) (hb : Below w.heap.size w w') : Fill n l g k w' := by
  obtain ⟨⟨cs, h1, h2⟩, h3⟩ := h
  refine ⟨⟨cs, h1.step hb, h2⟩, fun j hj hk => ?_⟩
  obtain ⟨pa, pc, aa, ac, h4, h5⟩ := h3 j hj hk
  exact ⟨pa, pc, aa, ac, range_below h4 hb h1.lt, h5.below hb⟩
theorem Fill.store {n : Nat} {l : List ExprD} {g k : Nat} {w : World} (h : Fill n l g k w) (hk : k < l.length) {pa aa : Option Addr} {pc ac : Nat} (hin : In (g + 1) n w pa aa l[k]) : Fill n l g (k + 1) (w.setCells g (k * 12) (cellsE l[k] pa pc aa ac)) := by
  obtain ⟨⟨cs, h1, h2⟩, h3⟩ := h
  obtain ⟨cs', h4, h5⟩ := blk_cells (cellsE l[k] pa pc aa ac) (k * 12) h1
  have hag := Agree.of_cells (lo := g + 1) w g (k * 12) (cellsE l[k] pa pc aa ac) (by omega)
  refine ⟨⟨cs', h4, by rw [h5, h2]⟩, fun j hj hjk => ?_⟩
  by_cases e : j = k
  · subst e
    exact ⟨pa, pc, aa, ac, World.rangeAt_setCells_same _ _ _ _ (blk_there h1 (by rw [h2, cells_len]; omega)), hin.agree hag⟩
  · obtain ⟨pa', pc', aa', ac', h6, h7⟩ := h3 j hj (by omega)
    exact ⟨pa', pc', aa', ac', World.rangeAt_setCells_apart h6 _ _ _ (.inr (.inl (by rw [cells_len]; omega))), h7.agree hag⟩
theorem Fill.done {n : Nat} {l : List ExprD} {g lo : Nat} {w : World} (h : Fill n l g l.length w) (hl : lo ≤ g) : Ar (n + 1) lo w (some ⟨g, 0, none⟩) l := fun k hk => by
  obtain ⟨⟨cs, h1, h2⟩, h3⟩ := h
  obtain ⟨pa, pc, aa, ac, h4, h5⟩ := h3 k hk hk
  have h6 := h5.down (lo' := lo) (by omega)
  exact ⟨g, 0, pa, pc, aa, ac, rfl, hl, h1.lt, by rw [Nat.zero_add]; exact h4, h6.strs, h6.far, h6.args, h6.sz⟩

-- [PLAIN
set_option maxHeartbeats 1000000 in
theorem toS_zero : ToS 0 := fun A c l w h hc => by
  have H := Lib.hid (show l = [] from h)
  have hl0 : (l.length : Int) ≤ 0 := by rw [H.out]; simp
  have hl : l.length ≤ 1048576 := by omega
  obtain ⟨cs, hcs, hmk⟩ := make_exprs l.length hl w
  clear h hc hcs
  go_enter Try.func37, Try.ntmps37
  go_wp2
  clear hmk
  go_loopw [4] (fun i wr => ∃ k : Nat, k ≤ l.length ∧ i = .int .i64 k ∧ Below w.heap.size w wr) (fun i _ => l.length - (intOf i).toNat)
  case atStart => exact ⟨0, Nat.zero_le _, rfl, below_a1 _ _⟩
  case round =>
    obtain ⟨k, hk, rfl, hb⟩ := hrel
    have HB := Lib.hid hb
    clear hb
    obtain rfl : k = l.length := by omega
    go_wp2
    go_ret
    exact ⟨w.heap.size, rfl, Nat.le_refl _, H.out, HB.out⟩

set_option maxHeartbeats 1000000 in
theorem toS_succ {n : Nat} (ih : ToS n) : ToS (n + 1) := fun A c l w h hc => by
  have H := Lib.hid h
  have IH := Lib.hid ih
  have hl : l.length ≤ 1048576 := by omega
  have HC := Lib.hid hc
  obtain ⟨cs, hcs, hmk⟩ := make_exprs l.length hl w
  have HF : Hid (Fill n l w.heap.size 0 (w.alloc (.cells cs 37))) := by
    refine ⟨⟨cs, Blk.new _ _ _, hcs⟩, fun j _ hj => absurd hj (by omega)⟩
  clear h ih hc hcs
  go_enter Try.func37, Try.ntmps37
  go_wp2
  clear hmk
  go_loopw [4] (fun i wr => ∃ k : Nat, k ≤ l.length ∧ i = .int .i64 k ∧ Fill n l w.heap.size k wr ∧ Below w.heap.size w wr) (fun i _ => l.length - (intOf i).toNat)
  case atStart => exact ⟨0, Nat.zero_le _, rfl, HF.out, below_a1 _ _⟩
  case round =>
    clear HF
    obtain ⟨k, hk, rfl, hf, hb⟩ := hrel
    have HF := Lib.hid hf
    have HB := Lib.hid hb
    clear hf hb
    by_cases hlt : k < l.length
    · obtain ⟨b, o, pa, pc, aa, ac, rfl, _, hbl, hr, hin⟩ := (H.out.below HB.out).at k hlt
      have HR := Lib.hid hr
      have HIN := Lib.hid hin
      have HS := Lib.hid (cntEs_at hlt)
      clear hr hin
      go_wp2_with (refine wpList_load_mid rfl 29 (.tmp 18) rfl b (o + k * 12) rfl (cellsE l[k] pa pc aa ac) _ HR.out Try.underlying29 rfl isz ?_)
      go_wp2_with fail
      refine ((toExpr_of IH.out pa aa pc ac l[k] _ HIN.out (by have := HS.out; have := HC.out; omega)).mono fun _ _ h => newC h).mono ?_
      rintro _ w2 ⟨qa, qb, cs, HCS, rfl, hin2, hb⟩
      have HN := Lib.hid (In.down hin2 (lo' := w.heap.size + 1) (by have := HF.out.1; obtain ⟨cs, h1, _⟩ := this; have := h1.lt; omega))
      have HF2 := Lib.hid (HF.out.below hb)
      have E2 := Lib.hid (below_then HB.out hb (Nat.le_refl _))
      have HT : Hid (w2.there w.heap.size (k * 12) 12) := by
        obtain ⟨⟨cs, h1, h2⟩, _⟩ := HF2.out
        exact blk_there h1 (by rw [h2]; omega)
      clear hb hin2
      have hsz : cs.toArray.size = 12 := by rw [HCS.out]; rfl
      have HSZ := Lib.hid hsz
      clear hsz
      go_wp2_with (refine wpList_store_mid rfl 37 (.tmp 21) (.tmp 20) rfl w.heap.size (k * 12) cs.toArray rfl rfl (by rw [HSZ.out]; exact HT.out) (by rw [HSZ.out]; exact isz2) (by rw [HCS.out]; exact one_cells _ _ _ _ _) ?_)
      go_wp2
      go_roundw
      case rel => exact ⟨k + 1, hlt, by go_num, by (show Fill _ _ _ _ (w2.setCells _ _ cs)); rw [HCS.out]; exact HF2.out.store hlt HN.out, below_cells (Nat.le_refl _) _ _ E2.out⟩
      case measure => simp [intOf]; omega
    · obtain rfl : k = l.length := by omega
      go_wp2
      go_ret
      exact ⟨w.heap.size, rfl, Nat.le_refl _, HF.out.done (Nat.le_refl _), HB.out⟩
theorem toS_all : ∀ n, ToS n
  | 0 => toS_zero
  | n + 1 => toS_succ (toS_all n)
-- PLAIN]
end Go.Proofs.Ytgkcohclejmhkaa.ex
