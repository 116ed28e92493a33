/- Rehome of the model. -/
import Derived.Test.YtflfnekaiaplfaaReh
namespace Go.Proofs.Ytflfnekaiaplfaa.reh
open ad mem own bare
open Go.ChangeShapes Go.WideShapes Go.ChangeAt Go.RowKit Go.Lib
set_option linter.unusedVariables false
set_option linter.unusedSimpArgs false

set_option maxHeartbeats 2000000 in
theorem copy_spec (A : Option Addr) (c : Nat) (d : AddrD) (w : World) (h : Strs w A d.path) (hl : d.path.length ≤ 1000000) :
    Calls Try.prog 38 #[.agg #[.slice A d.path.length c, .string d.typ, .string d.nam, .int .i64 d.kind, .int .i64 d.n, .string d.key]] w (Made w d) := by
  have H := Lib.hid h
  have HL := Lib.hid hl
  clear h hl
  go_enter Try.func38, Try.ntmps38
  have HO := Lib.hid (own_new ((w.alloc (.cells #[.slice A d.path.length c, .string d.typ, .string d.nam, .int .i64 d.kind, .int .i64 d.n, .string d.key] 29)).alloc (.cells #[.slice none 0 0, .string ⟨#[]⟩, .string ⟨#[]⟩, .int .i64 0, .int .i64 0, .string ⟨#[]⟩] 29)) (w.heap.size + 1 + 1) (w.heap.size + 1 + 1) (by simp) (Nat.le_refl _))
  go_wp2_with (at_builtin; refine wpList_append rfl (.tmp 3) (.tmp 5) rfl (w.heap.size + 1 + 1) (.slice (some ⟨w.heap.size + 1 + 1, 0, none⟩) 0 0) [] rfl HO.out A c d.path rfl (H.out.below (below_a3 _ _ _ _)) ?c1 ?c2 ?_)
  case c1 => simp; exact Nat.le_trans HL.out (by omega)
  case c2 => simp <;> omega
  intro v' w2 ho0 hg
  have ho : Own w2 (w.heap.size + 1 + 1) v' d.path := ho0
  obtain ⟨B, cp, rfl⟩ := ho.form
  have hr : ∀ k, (Value.slice (some (⟨w.heap.size + 1 + 1, 0, none⟩ : Addr)) 0 0).ownBlock = some k → w.heap.size + 1 + 1 ≤ k := by
    intro k hk
    have e : w.heap.size + 1 + 1 = k := by simpa [Value.ownBlock] using hk
    omega
  have E2 := Lib.hid ((below_a3 _ _ _ _).grown hg (by simp; omega) (fun k hk => by have := hr k hk; omega))
  have Q2 := Lib.hid (blk_grown (((Blk.new w _ _).alloc _).alloc _) hg (fun e => by have := hr _ e; omega))
  have P2 := Lib.hid (blk_grown ((Blk.new1 w _ _ _).alloc _) hg (fun e => by have := hr _ e; omega))
  have O2 := Lib.hid ho
  have q2 := Q2.out.cell
  have f2 := Q2.out.free
  have p2 := P2.out.cell
  have g2 := P2.out.free
  clear ho ho0 hg hr
  go_wp2
  refine bodyPost_ret (v := .agg #[.slice B d.path.length cp, .string d.typ, .string d.nam, .int .i64 d.kind, .int .i64 d.n, .string d.key]) (by simp [results, Try.results38, go_sem, q2, f2, p2, g2]; try rfl) rfl ⟨B, cp, rfl, ?_, ?_⟩
  · refine Own.mono (base := w.heap.size + 1 + 1) ?_ (by omega)
    iterate 7 refine Own.far ?_ (by simp <;> omega) _
    exact O2.out
  · repeat (refine Below.setCell ?_ (by simp <;> omega) _)
    exact E2.out

set_option maxHeartbeats 2000000 in
theorem spec_long1 (A : Option Addr) (c : Nat) (B : Option Addr) (c' : Nat) (C : Option Addr) (c'' : Nat) (d : AddrD) (f t : List ByteArray) (w : World) (h : Strs w A d.path) (hf : Strs w B f) (ht : Strs w C t) (hl1 : d.path.length ≤ maxLen) (hl2 : f.length ≤ maxLen) (hl3 : t.length ≤ maxLen) (z1 : d.typ.size ≤ maxLen) (z2 : d.nam.size ≤ maxLen) (z3 : d.key.size ≤ maxLen) (hc0 : d.path.length ≤ c) (hc1 : c ≤ maxLen) (hc : 400 < f.length) :
    Calls Try.prog 40 #[.agg #[.slice A d.path.length c, .string d.typ, .string d.nam, .int .i64 d.kind, .int .i64 d.n, .string d.key], .slice B f.length c', .slice C t.length c''] w (MadeO w zeroD 2) := by
  have H := Lib.hid h
  have HF := Lib.hid hf
  have HT := Lib.hid ht
  have hx : (400 : Int) < f.length := by omega
  clear hc
  clear h hf ht
  go_enter Try.func40, Try.ntmps40
  go_wp2
  refine bodyPost_ret (v := .agg #[.slice none 0 0, .string ByteArray.empty, .string ByteArray.empty, .int .i64 0, .int .i64 0, .string ByteArray.empty, .int .i64 2]) (by simp [results, Try.results40, go_sem]; try rfl) rfl ⟨none, 0, rfl, Own.nil _ _, ?_⟩
  first | exact below_a2 _ _ _ | (repeat (refine Below.setCell ?_ (by simp <;> omega) _); exact below_a2 _ _ _)

set_option maxHeartbeats 2000000 in
theorem spec_long2 (A : Option Addr) (c : Nat) (B : Option Addr) (c' : Nat) (C : Option Addr) (c'' : Nat) (d : AddrD) (f t : List ByteArray) (w : World) (h : Strs w A d.path) (hf : Strs w B f) (ht : Strs w C t) (hl1 : d.path.length ≤ maxLen) (hl2 : f.length ≤ maxLen) (hl3 : t.length ≤ maxLen) (z1 : d.typ.size ≤ maxLen) (z2 : d.nam.size ≤ maxLen) (z3 : d.key.size ≤ maxLen) (hc0 : d.path.length ≤ c) (hc1 : c ≤ maxLen) (hc0' : f.length ≤ 400) (hc : 400 < t.length) :
    Calls Try.prog 40 #[.agg #[.slice A d.path.length c, .string d.typ, .string d.nam, .int .i64 d.kind, .int .i64 d.n, .string d.key], .slice B f.length c', .slice C t.length c''] w (MadeO w zeroD 2) := by
  have H := Lib.hid h
  have HF := Lib.hid hf
  have HT := Lib.hid ht
  have hx1 : (f.length : Int) ≤ 400 := by omega
  have hx : (400 : Int) < t.length := by omega
  clear hc hc0'
  clear h hf ht
  go_enter Try.func40, Try.ntmps40
  go_wp2
  refine bodyPost_ret (v := .agg #[.slice none 0 0, .string ByteArray.empty, .string ByteArray.empty, .int .i64 0, .int .i64 0, .string ByteArray.empty, .int .i64 2]) (by simp [results, Try.results40, go_sem]; try rfl) rfl ⟨none, 0, rfl, Own.nil _ _, ?_⟩
  first | exact below_a2 _ _ _ | (repeat (refine Below.setCell ?_ (by simp <;> omega) _); exact below_a2 _ _ _)

set_option maxHeartbeats 2000000 in
theorem spec_bad1 (A : Option Addr) (c : Nat) (B : Option Addr) (c' : Nat) (C : Option Addr) (c'' : Nat) (d : AddrD) (f t : List ByteArray) (w : World) (h : Strs w A d.path) (hf : Strs w B f) (ht : Strs w C t) (hl1 : d.path.length ≤ maxLen) (hl2 : f.length ≤ maxLen) (hl3 : t.length ≤ maxLen) (z1 : d.typ.size ≤ maxLen) (z2 : d.nam.size ≤ maxLen) (z3 : d.key.size ≤ maxLen) (hc0 : d.path.length ≤ c) (hc1 : c ≤ maxLen) (k1 : f.length ≤ 400) (k2 : t.length ≤ 400) (hr : addrB d = false) :
    Calls Try.prog 40 #[.agg #[.slice A d.path.length c, .string d.typ, .string d.nam, .int .i64 d.kind, .int .i64 d.n, .string d.key], .slice B f.length c', .slice C t.length c''] w (MadeO w zeroD 1) := by
  have H := Lib.hid h
  have HF := Lib.hid hf
  have HT := Lib.hid ht
  have hx1 : (f.length : Int) ≤ 400 := by omega
  have hx2 : (t.length : Int) ≤ 400 := by omega
  have KR := Lib.hid (fun W h => hr ▸ adr.right_spec A c d W h hl1 z1 z2 z3)
  clear hr k1 k2
  clear h hf ht
  go_enter Try.func40, Try.ntmps40
  go_wp2_with fail
  refine (KR.out _ (H.out.below (below_a2 _ _ _))).mono ?_
  rintro _ w1 ⟨rfl, hb⟩
  have E1 := Lib.hid (below_then (below_a2 _ _ _) hb (Nat.le_refl _))
  have Q1 := Lib.hid (((Blk.new w _ _).alloc _).step hb)
  have P1 := Lib.hid ((Blk.new1 w _ _ _).step hb)
  have q1 := Q1.out.cell
  have p1 := P1.out.cell
  have g1 := P1.out.free
  clear hb
  go_wp2
  refine bodyPost_ret (v := .agg #[.slice none 0 0, .string ByteArray.empty, .string ByteArray.empty, .int .i64 0, .int .i64 0, .string ByteArray.empty, .int .i64 1]) (by simp [results, Try.results40, go_sem, p1, g1]; try rfl) rfl ⟨none, 0, rfl, Own.nil _ _, ?_⟩
  repeat (refine Below.setCell ?_ (by simp <;> omega) _)
  exact E1.out

set_option maxHeartbeats 2000000 in
theorem spec_bad2 (A : Option Addr) (c : Nat) (B : Option Addr) (c' : Nat) (C : Option Addr) (c'' : Nat) (d : AddrD) (f t : List ByteArray) (w : World) (h : Strs w A d.path) (hf : Strs w B f) (ht : Strs w C t) (hl1 : d.path.length ≤ maxLen) (hl2 : f.length ≤ maxLen) (hl3 : t.length ≤ maxLen) (z1 : d.typ.size ≤ maxLen) (z2 : d.nam.size ≤ maxLen) (z3 : d.key.size ≤ maxLen) (hc0 : d.path.length ≤ c) (hc1 : c ≤ maxLen) (k1 : f.length ≤ 400) (k2 : t.length ≤ 400) (hr : addrB d = true) (hpf : pathB f = false) :
    Calls Try.prog 40 #[.agg #[.slice A d.path.length c, .string d.typ, .string d.nam, .int .i64 d.kind, .int .i64 d.n, .string d.key], .slice B f.length c', .slice C t.length c''] w (MadeO w zeroD 1) := by
  have H := Lib.hid h
  have HF := Lib.hid hf
  have HT := Lib.hid ht
  have hx1 : (f.length : Int) ≤ 400 := by omega
  have hx2 : (t.length : Int) ≤ 400 := by omega
  have KR := Lib.hid (fun W h => hr ▸ adr.right_spec A c d W h hl1 z1 z2 z3)
  have KF := Lib.hid (fun W h => hpf ▸ adr.path_spec B c' f W h hl2)
  clear hr hpf k1 k2
  clear h hf ht
  go_enter Try.func40, Try.ntmps40
  go_wp2_with fail
  refine (KR.out _ (H.out.below (below_a2 _ _ _))).mono ?_
  rintro _ w1 ⟨rfl, hb⟩
  have E1 := Lib.hid (below_then (below_a2 _ _ _) hb (Nat.le_refl _))
  have Q1 := Lib.hid (((Blk.new w _ _).alloc _).step hb)
  have P1 := Lib.hid ((Blk.new1 w _ _ _).step hb)
  have q1 := Q1.out.cell
  have p1 := P1.out.cell
  have g1 := P1.out.free
  clear hb
  go_wp2_with fail
  refine (KF.out _ (HF.out.below E1.out)).mono ?_
  rintro _ _ ⟨rfl, rfl⟩
  go_wp2
  refine bodyPost_ret (v := .agg #[.slice none 0 0, .string ByteArray.empty, .string ByteArray.empty, .int .i64 0, .int .i64 0, .string ByteArray.empty, .int .i64 1]) (by simp [results, Try.results40, go_sem, p1, g1]; try rfl) rfl ⟨none, 0, rfl, Own.nil _ _, ?_⟩
  repeat (refine Below.setCell ?_ (by simp <;> omega) _)
  exact E1.out

set_option maxHeartbeats 2000000 in
theorem spec_bad3 (A : Option Addr) (c : Nat) (B : Option Addr) (c' : Nat) (C : Option Addr) (c'' : Nat) (d : AddrD) (f t : List ByteArray) (w : World) (h : Strs w A d.path) (hf : Strs w B f) (ht : Strs w C t) (hl1 : d.path.length ≤ maxLen) (hl2 : f.length ≤ maxLen) (hl3 : t.length ≤ maxLen) (z1 : d.typ.size ≤ maxLen) (z2 : d.nam.size ≤ maxLen) (z3 : d.key.size ≤ maxLen) (hc0 : d.path.length ≤ c) (hc1 : c ≤ maxLen) (k1 : f.length ≤ 400) (k2 : t.length ≤ 400) (hr : addrB d = true) (hpf : pathB f = true) (hpt : pathB t = false) :
    Calls Try.prog 40 #[.agg #[.slice A d.path.length c, .string d.typ, .string d.nam, .int .i64 d.kind, .int .i64 d.n, .string d.key], .slice B f.length c', .slice C t.length c''] w (MadeO w zeroD 1) := by
  have H := Lib.hid h
  have HF := Lib.hid hf
  have HT := Lib.hid ht
  have hx1 : (f.length : Int) ≤ 400 := by omega
  have hx2 : (t.length : Int) ≤ 400 := by omega
  have KR := Lib.hid (fun W h => hr ▸ adr.right_spec A c d W h hl1 z1 z2 z3)
  have KF := Lib.hid (fun W h => hpf ▸ adr.path_spec B c' f W h hl2)
  have KT := Lib.hid (fun W h => hpt ▸ adr.path_spec C c'' t W h hl3)
  clear hr hpf hpt k1 k2
  clear h hf ht
  go_enter Try.func40, Try.ntmps40
  go_wp2_with fail
  refine (KR.out _ (H.out.below (below_a2 _ _ _))).mono ?_
  rintro _ w1 ⟨rfl, hb⟩
  have E1 := Lib.hid (below_then (below_a2 _ _ _) hb (Nat.le_refl _))
  have Q1 := Lib.hid (((Blk.new w _ _).alloc _).step hb)
  have P1 := Lib.hid ((Blk.new1 w _ _ _).step hb)
  have q1 := Q1.out.cell
  have p1 := P1.out.cell
  have g1 := P1.out.free
  clear hb
  go_wp2_with fail
  refine (KF.out _ (HF.out.below E1.out)).mono ?_
  rintro _ _ ⟨rfl, rfl⟩
  go_wp2_with fail
  refine (KT.out _ (HT.out.below E1.out)).mono ?_
  rintro _ _ ⟨rfl, rfl⟩
  go_wp2
  refine bodyPost_ret (v := .agg #[.slice none 0 0, .string ByteArray.empty, .string ByteArray.empty, .int .i64 0, .int .i64 0, .string ByteArray.empty, .int .i64 1]) (by simp [results, Try.results40, go_sem, p1, g1]; try rfl) rfl ⟨none, 0, rfl, Own.nil _ _, ?_⟩
  repeat (refine Below.setCell ?_ (by simp <;> omega) _)
  exact E1.out

set_option maxHeartbeats 2000000 in
theorem spec_apart (A : Option Addr) (c : Nat) (B : Option Addr) (c' : Nat) (C : Option Addr) (c'' : Nat) (d : AddrD) (f t : List ByteArray) (w : World) (h : Strs w A d.path) (hf : Strs w B f) (ht : Strs w C t) (hl1 : d.path.length ≤ maxLen) (hl2 : f.length ≤ maxLen) (hl3 : t.length ≤ maxLen) (z1 : d.typ.size ≤ maxLen) (z2 : d.nam.size ≤ maxLen) (z3 : d.key.size ≤ maxLen) (hc0 : d.path.length ≤ c) (hc1 : c ≤ maxLen) (k1 : f.length ≤ 400) (k2 : t.length ≤ 400) (hr : addrB d = true) (hpf : pathB f = true) (hpt : pathB t = true) (hu : decide (cm.pre d.path f = f.length) = false) :
    Calls Try.prog 40 #[.agg #[.slice A d.path.length c, .string d.typ, .string d.nam, .int .i64 d.kind, .int .i64 d.n, .string d.key], .slice B f.length c', .slice C t.length c''] w (MadeO w zeroD 6) := by
  have H := Lib.hid h
  have HF := Lib.hid hf
  have HT := Lib.hid ht
  have hx1 : (f.length : Int) ≤ 400 := by omega
  have hx2 : (t.length : Int) ≤ 400 := by omega
  have KR := Lib.hid (fun W h => hr ▸ adr.right_spec A c d W h hl1 z1 z2 z3)
  have KF := Lib.hid (fun W h => hpf ▸ adr.path_spec B c' f W h hl2)
  have KT := Lib.hid (fun W h => hpt ▸ adr.path_spec C c'' t W h hl3)
  have KU := Lib.hid (fun W h h' => hu ▸ cm.l02Under_any A B c c' d f W h h' hl1 hl2 hc0 hc1)
  clear hr hpf hpt hu k1 k2
  clear h hf ht
  go_enter Try.func40, Try.ntmps40
  go_wp2_with fail
  refine (KR.out _ (H.out.below (below_a2 _ _ _))).mono ?_
  rintro _ w1 ⟨rfl, hb⟩
  have E1 := Lib.hid (below_then (below_a2 _ _ _) hb (Nat.le_refl _))
  have Q1 := Lib.hid (((Blk.new w _ _).alloc _).step hb)
  have P1 := Lib.hid ((Blk.new1 w _ _ _).step hb)
  have q1 := Q1.out.cell
  have p1 := P1.out.cell
  have g1 := P1.out.free
  clear hb
  go_wp2_with fail
  refine (KF.out _ (HF.out.below E1.out)).mono ?_
  rintro _ _ ⟨rfl, rfl⟩
  go_wp2_with fail
  refine (KT.out _ (HT.out.below E1.out)).mono ?_
  rintro _ _ ⟨rfl, rfl⟩
  go_wp2_with fail
  refine (KU.out _ (H.out.below E1.out) (HF.out.below E1.out)).mono ?_
  rintro _ w2 ⟨rfl, hb⟩
  have E2 := Lib.hid (below_then E1.out hb (Nat.le_refl _))
  have Q2 := Lib.hid (Q1.out.step hb)
  have P2 := Lib.hid (P1.out.step hb)
  have q2 := Q2.out.cell
  have p2 := P2.out.cell
  have g2 := P2.out.free
  clear hb q1 p1 g1
  go_wp2
  refine bodyPost_ret (v := .agg #[.slice none 0 0, .string ByteArray.empty, .string ByteArray.empty, .int .i64 0, .int .i64 0, .string ByteArray.empty, .int .i64 6]) (by simp [results, Try.results40, go_sem, p2, g2]; try rfl) rfl ⟨none, 0, rfl, Own.nil _ _, ?_⟩
  repeat (refine Below.setCell ?_ (by simp <;> omega) _)
  exact E2.out

set_option maxHeartbeats 2000000 in
theorem spec_full (A : Option Addr) (c : Nat) (B : Option Addr) (c' : Nat) (C : Option Addr) (c'' : Nat) (d : AddrD) (f t : List ByteArray) (w : World) (h : Strs w A d.path) (hf : Strs w B f) (ht : Strs w C t) (hl1 : d.path.length ≤ maxLen) (hl2 : f.length ≤ maxLen) (hl3 : t.length ≤ maxLen) (z1 : d.typ.size ≤ maxLen) (z2 : d.nam.size ≤ maxLen) (z3 : d.key.size ≤ maxLen) (hc0 : d.path.length ≤ c) (hc1 : c ≤ maxLen) (k1 : f.length ≤ 400) (k2 : t.length ≤ 400) (hr : addrB d = true) (hpf : pathB f = true) (hpt : pathB t = true) (hu : decide (cm.pre d.path f = f.length) = true) (k3 : d.path.length ≤ 2) (k4 : f.length ≤ 2) (k5 : t.length ≤ 2) (hfull : (2 : Int) < (d.path.length : Int) - (f.length : Int) + (t.length : Int)) :
    Calls Try.prog 40 #[.agg #[.slice A d.path.length c, .string d.typ, .string d.nam, .int .i64 d.kind, .int .i64 d.n, .string d.key], .slice B f.length c', .slice C t.length c''] w (MadeO w zeroD 9) := by
  have H := Lib.hid h
  have HF := Lib.hid hf
  have HT := Lib.hid ht
  have hx1 : (f.length : Int) ≤ 400 := by omega
  have hx2 : (t.length : Int) ≤ 400 := by omega
  have KR := Lib.hid (fun W h => hr ▸ adr.right_spec A c d W h hl1 z1 z2 z3)
  have KF := Lib.hid (fun W h => hpf ▸ adr.path_spec B c' f W h hl2)
  have KT := Lib.hid (fun W h => hpt ▸ adr.path_spec C c'' t W h hl3)
  have KU := Lib.hid (fun W h h' => hu ▸ cm.l02Under_any A B c c' d f W h h' hl1 hl2 hc0 hc1)
  have y3 : (d.path.length : Int) ≤ 2 := by omega
  have y4 : (f.length : Int) ≤ 2 := by omega
  have y5 : (t.length : Int) ≤ 2 := by omega
  clear hr hpf hpt hu k1 k2
  clear h hf ht
  go_enter Try.func40, Try.ntmps40
  go_wp2_with fail
  refine (KR.out _ (H.out.below (below_a2 _ _ _))).mono ?_
  rintro _ w1 ⟨rfl, hb⟩
  have E1 := Lib.hid (below_then (below_a2 _ _ _) hb (Nat.le_refl _))
  have Q1 := Lib.hid (((Blk.new w _ _).alloc _).step hb)
  have P1 := Lib.hid ((Blk.new1 w _ _ _).step hb)
  have q1 := Q1.out.cell
  have p1 := P1.out.cell
  have g1 := P1.out.free
  clear hb
  go_wp2_with fail
  refine (KF.out _ (HF.out.below E1.out)).mono ?_
  rintro _ _ ⟨rfl, rfl⟩
  go_wp2_with fail
  refine (KT.out _ (HT.out.below E1.out)).mono ?_
  rintro _ _ ⟨rfl, rfl⟩
  go_wp2_with fail
  refine (KU.out _ (H.out.below E1.out) (HF.out.below E1.out)).mono ?_
  rintro _ w2 ⟨rfl, hb⟩
  have E2 := Lib.hid (below_then E1.out hb (Nat.le_refl _))
  have Q2 := Lib.hid (Q1.out.step hb)
  have P2 := Lib.hid (P1.out.step hb)
  have q2 := Q2.out.cell
  have p2 := P2.out.cell
  have g2 := P2.out.free
  clear hb q1 p1 g1
  go_wp2
  refine bodyPost_ret (v := .agg #[.slice none 0 0, .string ByteArray.empty, .string ByteArray.empty, .int .i64 0, .int .i64 0, .string ByteArray.empty, .int .i64 9]) (by simp [results, Try.results40, go_sem, p2, g2]; try rfl) rfl ⟨none, 0, rfl, Own.nil _ _, ?_⟩
  repeat (refine Below.setCell ?_ (by simp <;> omega) _)
  exact E2.out

theorem step_append_n {w : World} {ops : Array Oper} {o : Oper} {a : Act} {K : Act → World → Prop} {Q : Exit → Act → World → Prop} {E : Prop} (hgd : o.guard = none) (s x : Operand)
    (ho : o.op = .call { callee := .builtin .append, args := #[s, x], argTypes := #[22, 22] })
    (base : Nat) (v : Value) (l : List ByteArray) (hs : a.eval s = v) (hown : Own w base v l) (A : Option Addr) (c n : Nat) (m : List ByteArray) (hn : n = m.length) (hx : a.eval x = .slice A n c) (hm : Strs w A m)
    (h63 : l.length + m.length ≤ 2000000) (hbase : base ≤ w.heap.size)
    (h : ∀ v' w', Own w' base v' (l ++ m) → w.grownBy w' v.ownBlock → K (a.put o.dst v') w') :
    if Region.wanted o (yielded ops a.tmps) = true then Oper.wp Try.prog o a w K Q else E := by
  subst hn
  exact step_append hgd s x ho base v l hs hown A c m hx hm h63 hbase h

set_option maxHeartbeats 4000000 in
theorem tail_spec (b o : Nat) (c : Nat) (B : Option Addr) (c' : Nat) (C : Option Addr) (c'' : Nat) (d : AddrD) (f t : List ByteArray) (w : World) (h : Strs w (some ⟨b, o, none⟩) d.path) (hf : Strs w B f) (ht : Strs w C t) (hp : d.path.length ≤ 2) (hcap : d.path.length ≤ c) (hc1 : c ≤ maxLen) (hfl : f.length ≤ 2) (htl : t.length ≤ 2)
    (hr : addrB d = true) (hpf : pathB f = true) (hpt : pathB t = true) (hu : decide (cm.pre d.path f = f.length) = true) (z1 : d.typ.size ≤ 8) (z2 : d.nam.size ≤ 8) (z3 : d.key.size ≤ 8) (hle : f.length ≤ d.path.length) (hcond : f.length < c) (hok : ¬ (2 : Int) < (d.path.length : Int) - (f.length : Int) + (t.length : Int)) :
    Calls Try.prog 40 #[.agg #[.slice (some ⟨b, o, none⟩) d.path.length c, .string d.typ, .string d.nam, .int .i64 d.kind, .int .i64 d.n, .string d.key], .slice B f.length c', .slice C t.length c''] w (MadeO w ⟨pathR d f t, d.typ, d.nam, d.kind, d.n, d.key⟩ 0) := by
  have H := Lib.hid h
  have HF := Lib.hid hf
  have HT := Lib.hid ht
  have hx1 : (f.length : Int) ≤ 2 := by omega
  have hx2 : (t.length : Int) ≤ 2 := by omega
  have hx3 : (d.path.length : Int) ≤ 2 := by omega
  have hx4 : (d.path.length : Int) ≤ c := by omega
  have hx5 : (f.length : Int) < c := by omega
  have hx6 : (f.length : Int) ≤ d.path.length := by omega
  have hne : ¬ (c = f.length) := by omega
  have KR := Lib.hid (fun W h => hr ▸ adr.right_spec (some ⟨b, o, none⟩) c d W h (by unfold maxLen; omega) (by unfold maxLen; omega) (by unfold maxLen; omega) (by unfold maxLen; omega))
  have KF := Lib.hid (fun W h => hpf ▸ adr.path_spec B c' f W h (by unfold maxLen; omega))
  have KT := Lib.hid (fun W h => hpt ▸ adr.path_spec C c'' t W h (by unfold maxLen; omega))
  have KU := Lib.hid (fun W h h' => hu ▸ cm.l02Under_any (some ⟨b, o, none⟩) B c c' d f W h h' (by unfold maxLen; omega) (by unfold maxLen; omega) hcap hc1)
  have KC := Lib.hid (fun W h => copy_spec (some ⟨b, o, none⟩) c d W h (by omega))
  unfold maxLen at hc1
  clear h hf ht hr hpf hpt hu
  go_enter Try.func40, Try.ntmps40
  go_wp2_with fail
  refine (KR.out _ (H.out.below (below_a2 _ _ _))).mono ?_
  rintro _ w1 ⟨rfl, hb⟩
  have E1 := Lib.hid (below_then (below_a2 _ _ _) hb (Nat.le_refl _))
  have Q1 := Lib.hid (((Blk.new w _ _).alloc _).step hb)
  have P1 := Lib.hid ((Blk.new1 w _ _ _).step hb)
  have q1 := Q1.out.cell
  clear hb
  go_wp2_with fail
  refine (KF.out _ (HF.out.below E1.out)).mono ?_
  rintro _ _ ⟨rfl, rfl⟩
  go_wp2_with fail
  refine (KT.out _ (HT.out.below E1.out)).mono ?_
  rintro _ _ ⟨rfl, rfl⟩
  go_wp2_with fail
  refine (KU.out _ (H.out.below E1.out) (HF.out.below E1.out)).mono ?_
  rintro _ w2 ⟨rfl, hb⟩
  have E2 := Lib.hid (below_then E1.out hb (Nat.le_refl _))
  have Q2 := Lib.hid (Q1.out.step hb)
  have P2 := Lib.hid (P1.out.step hb)
  have q2 := Q2.out.cell
  clear hb q1
  go_wp2_with fail
  refine (KC.out _ (H.out.below E2.out)).mono ?_
  rintro _ w3 ⟨V, cv, rfl, ho, hb⟩
  have E3 := Lib.hid (below_then E2.out hb (Nat.le_refl _))
  have Q3 := Lib.hid (Q2.out.step hb)
  have P3 := Lib.hid (P2.out.step hb)
  have q3 := Q3.out.cell
  clear hb q2 ho
  go_wp2_with fail
  have E0 := Lib.hid (E3.out.alloc E3.out.size (.cells #[.slice V d.path.length cv, .string d.typ, .string d.nam, .int .i64 d.kind, .int .i64 d.n, .string d.key] 29))
  have Q0 := Lib.hid (Q3.out.alloc (.cells #[.slice V d.path.length cv, .string d.typ, .string d.nam, .int .i64 d.kind, .int .i64 d.n, .string d.key] 29))
  have P0 := Lib.hid (P3.out.alloc (.cells #[.slice V d.path.length cv, .string d.typ, .string d.nam, .int .i64 d.kind, .int .i64 d.n, .string d.key] 29))
  have X0 := Lib.hid (Blk.new w3 29 #[.slice V d.path.length cv, .string d.typ, .string d.nam, .int .i64 d.kind, .int .i64 d.n, .string d.key])
  have hz0 : (w3.alloc (.cells #[.slice V d.path.length cv, .string d.typ, .string d.nam, .int .i64 d.kind, .int .i64 d.n, .string d.key] 29)).heap.size = w3.heap.size + 1 := by simp
  have hz3 : w.heap.size + 1 < w3.heap.size := P3.out.lt
  generalize w3.alloc (.cells #[.slice V d.path.length cv, .string d.typ, .string d.nam, .int .i64 d.kind, .int .i64 d.n, .string d.key] 29) = W0 at *
  have HZ := Lib.hid hz0
  have q0 := Q0.out.cell
  have hz1 : w3.heap.size + 1 ≤ W0.heap.size := by omega
  have HR : Hid (∀ k, (Value.slice (some (⟨W0.heap.size, 0, none⟩ : Addr)) 0 0).ownBlock = some k → w3.heap.size + 1 ≤ k) := by
    intro k hk
    have e : W0.heap.size = k := by simpa [Value.ownBlock] using hk
    omega
  have hn2 : d.path.length - f.length = (d.path.drop f.length).length := by simp
  have HN2 := Lib.hid hn2
  have HL1 : Hid (([] : List ByteArray).length + t.length ≤ 2000000) := by show _ ≤ _; simp; omega
  have HL2 : Hid (t.length + (d.path.drop f.length).length ≤ 2000000) := by show _ ≤ _; simp; omega
  have hna : ¬ (w.heap.size = w3.heap.size) := by omega
  have hnb : ¬ (w3.heap.size = w.heap.size) := by omega
  clear hz0 q3 hn2
  go_region_held3 (fun w' => w'.cell? ⟨w.heap.size, 0, none⟩ = some (.slice (some ⟨b, o, none⟩) d.path.length c) ∧ w'.cell? ⟨w.heap.size, 1, none⟩ = some (.string d.typ) ∧ w'.cell? ⟨w.heap.size, 2, none⟩ = some (.string d.nam) ∧ w'.cell? ⟨w.heap.size, 3, none⟩ = some (.int .i64 d.kind) ∧ w'.cell? ⟨w.heap.size, 4, none⟩ = some (.int .i64 d.n) ∧ w'.cell? ⟨w.heap.size, 5, none⟩ = some (.string d.key)) (go_keep)
    (first
    | (refine step_append_n (by rfl) _ _ (by rfl) (w3.heap.size + 1) (.slice V1 t.length c1) t (by rfl) ?_ (some ⟨b, o + f.length, none⟩) (c - f.length) (d.path.length - f.length) (d.path.drop f.length) HN2.out (by rfl) ?_ HL2.out ?_ ?_; exact O5.out; exact Strs_drop (H.out.below E5.out) f.length; exact Z5.out; intro v' w6 ho0 hg; have ho : Own w6 (w3.heap.size + 1) v' (pathR d f t) := ho0; obtain ⟨V2, c2, rfl⟩ := ho.form; have hr := O5.out.row; have E6 : Hid (Below w.heap.size w w6) := (by first | exact E5.out.grown hg E5.out.size (fun k hk => Nat.le_trans (by omega) (hr k hk).1) | exact E5.out.drew.grown hg E5.out.size (fun k hk => Nat.le_trans (by omega) (hr k hk).1)); have Q6 : Hid (Blk w6 w.heap.size 29 #[.slice (some ⟨b, o, none⟩) d.path.length c, .string d.typ, .string d.nam, .int .i64 d.kind, .int .i64 d.n, .string d.key]) := (by first | exact blk_grown Q5.out hg (fun e => by have := (hr _ e).1; omega) | exact blk_grown (Blk.drew Q5.out) hg (fun e => by have := (hr _ e).1; omega)); have P6 : Hid (Blk w6 (w.heap.size + 1) 31 #[.slice none 0 0, .string ByteArray.empty, .string ByteArray.empty, .int .i64 0, .int .i64 0, .string ByteArray.empty, .int .i64 0]) := (by first | exact blk_grown P5.out hg (fun e => by have := (hr _ e).1; omega) | exact blk_grown (Blk.drew P5.out) hg (fun e => by have := (hr _ e).1; omega)); have X6 : Hid (Blk w6 w3.heap.size 29 #[.slice V d.path.length cv, .string d.typ, .string d.nam, .int .i64 d.kind, .int .i64 d.n, .string d.key]) := (by first | exact blk_grown X5.out hg (fun e => by have := (hr _ e).1; omega) | exact blk_grown (Blk.drew X5.out) hg (fun e => by have := (hr _ e).1; omega)); have q6 := Q6.out.cell; have p6 := P6.out.cell; have g6 := P6.out.free; have x6 := X6.out.cell; have y6 := X6.out.free; have O6 := Lib.hid ho; have hz6 : w3.heap.size < w6.heap.size := X6.out.lt; clear ho ho0 hg hr)
    | (refine step_append (by rfl) _ _ (by rfl) (w3.heap.size + 1) (.slice (some ⟨W0.heap.size, 0, none⟩) 0 0) [] (by rfl) (own_new _ _ _ rfl hz1) C c'' t (by rfl) ?_ HL1.out ?_ ?_; exact HT.out.below (E0.out.alloc E0.out.size _).drew; (simp; omega); intro v' w5 ho0 hg; have ho : Own w5 (w3.heap.size + 1) v' t := ho0; obtain ⟨V1, c1, rfl⟩ := ho.form; have hr := HR.out; have E5 := Lib.hid ((E0.out.alloc E0.out.size _).drew.grown hg (Nat.le_trans E0.out.size (by simp)) (fun k hk => Nat.le_trans (by omega) (hr k hk))); have Q5 := Lib.hid (blk_grown (Blk.drew (Q0.out.alloc _)) hg (fun e => by have := hr _ e; omega)); have P5 := Lib.hid (blk_grown (Blk.drew (P0.out.alloc _)) hg (fun e => by have := hr _ e; omega)); have X5 := Lib.hid (blk_grown (Blk.drew (X0.out.alloc _)) hg (fun e => by have := hr _ e; omega)); have q5 := Q5.out.cell; have O5 := Lib.hid ho; have Z5 : Hid (w3.heap.size + 1 ≤ w5.heap.size) := X5.out.lt; clear ho ho0 hg hr))
  go_wp2
  refine bodyPost_ret (v := .agg #[.slice V2 (pathR d f t).length c2, .string d.typ, .string d.nam, .int .i64 d.kind, .int .i64 d.n, .string d.key, .int .i64 0]) (by simp [results, Try.results40, go_sem, p6, g6, x6, y6]; try rfl) rfl ⟨V2, c2, rfl, ?_, ?_⟩
  · show Own _ _ (.slice V2 (pathR d f t).length c2) (pathR d f t)
    refine Own.mono (base := w3.heap.size + 1) ?_ (by omega)
    iterate 8 refine Own.far ?_ (by simp <;> omega) _
    exact O6.out
  · repeat (refine Below.setCell ?_ (by simp <;> omega) _)
    exact E6.out
set_option maxHeartbeats 4000000 in
theorem tail_specs (A : Option Addr) (c : Nat) (B : Option Addr) (c' : Nat) (C : Option Addr) (c'' : Nat) (d : AddrD) (f t : List ByteArray) (w : World) (h : Strs w A d.path) (hf : Strs w B f) (ht : Strs w C t) (hp : d.path.length ≤ 2) (hcap : d.path.length ≤ c) (hc1 : c ≤ maxLen) (hfl : f.length ≤ 2) (htl : t.length ≤ 2)
    (hr : addrB d = true) (hpf : pathB f = true) (hpt : pathB t = true) (hu : decide (cm.pre d.path f = f.length) = true) (z1 : d.typ.size ≤ 8) (z2 : d.nam.size ≤ 8) (z3 : d.key.size ≤ 8) (hle : f.length ≤ d.path.length) (hcond : c = f.length) (hok : ¬ (2 : Int) < (d.path.length : Int) - (f.length : Int) + (t.length : Int)) :
    Calls Try.prog 40 #[.agg #[.slice A d.path.length c, .string d.typ, .string d.nam, .int .i64 d.kind, .int .i64 d.n, .string d.key], .slice B f.length c', .slice C t.length c''] w (MadeO w ⟨pathR d f t, d.typ, d.nam, d.kind, d.n, d.key⟩ 0) := by
  subst hcond
  have H := Lib.hid h
  have HF := Lib.hid hf
  have HT := Lib.hid ht
  have hx1 : (f.length : Int) ≤ 2 := by omega
  have hx2 : (t.length : Int) ≤ 2 := by omega
  have hx3 : (d.path.length : Int) ≤ 2 := by omega
  have hx4 : (d.path.length : Int) ≤ f.length := by omega
  have hx6 : (f.length : Int) ≤ d.path.length := by omega
  have KR := Lib.hid (fun W h => hr ▸ adr.right_spec A f.length d W h (by unfold maxLen; omega) (by unfold maxLen; omega) (by unfold maxLen; omega) (by unfold maxLen; omega))
  have KF := Lib.hid (fun W h => hpf ▸ adr.path_spec B c' f W h (by unfold maxLen; omega))
  have KT := Lib.hid (fun W h => hpt ▸ adr.path_spec C c'' t W h (by unfold maxLen; omega))
  have KU := Lib.hid (fun W h h' => hu ▸ cm.l02Under_any A B f.length c' d f W h h' (by unfold maxLen; omega) (by unfold maxLen; omega) hcap hc1)
  have KC := Lib.hid (fun W h => copy_spec A f.length d W h (by omega))
  unfold maxLen at hc1
  clear h hf ht hr hpf hpt hu
  go_enter Try.func40, Try.ntmps40
  go_wp2_with fail
  refine (KR.out _ (H.out.below (below_a2 _ _ _))).mono ?_
  rintro _ w1 ⟨rfl, hb⟩
  have E1 := Lib.hid (below_then (below_a2 _ _ _) hb (Nat.le_refl _))
  have Q1 := Lib.hid (((Blk.new w _ _).alloc _).step hb)
  have P1 := Lib.hid ((Blk.new1 w _ _ _).step hb)
  have q1 := Q1.out.cell
  clear hb
  go_wp2_with fail
  refine (KF.out _ (HF.out.below E1.out)).mono ?_
  rintro _ _ ⟨rfl, rfl⟩
  go_wp2_with fail
  refine (KT.out _ (HT.out.below E1.out)).mono ?_
  rintro _ _ ⟨rfl, rfl⟩
  go_wp2_with fail
  refine (KU.out _ (H.out.below E1.out) (HF.out.below E1.out)).mono ?_
  rintro _ w2 ⟨rfl, hb⟩
  have E2 := Lib.hid (below_then E1.out hb (Nat.le_refl _))
  have Q2 := Lib.hid (Q1.out.step hb)
  have P2 := Lib.hid (P1.out.step hb)
  have q2 := Q2.out.cell
  clear hb q1
  go_wp2_with fail
  refine (KC.out _ (H.out.below E2.out)).mono ?_
  rintro _ w3 ⟨V, cv, rfl, ho, hb⟩
  have E3 := Lib.hid (below_then E2.out hb (Nat.le_refl _))
  have Q3 := Lib.hid (Q2.out.step hb)
  have P3 := Lib.hid (P2.out.step hb)
  have q3 := Q3.out.cell
  clear hb q2 ho
  go_wp2_with fail
  have E0 := Lib.hid (E3.out.alloc E3.out.size (.cells #[.slice V d.path.length cv, .string d.typ, .string d.nam, .int .i64 d.kind, .int .i64 d.n, .string d.key] 29))
  have Q0 := Lib.hid (Q3.out.alloc (.cells #[.slice V d.path.length cv, .string d.typ, .string d.nam, .int .i64 d.kind, .int .i64 d.n, .string d.key] 29))
  have P0 := Lib.hid (P3.out.alloc (.cells #[.slice V d.path.length cv, .string d.typ, .string d.nam, .int .i64 d.kind, .int .i64 d.n, .string d.key] 29))
  have X0 := Lib.hid (Blk.new w3 29 #[.slice V d.path.length cv, .string d.typ, .string d.nam, .int .i64 d.kind, .int .i64 d.n, .string d.key])
  have hz0 : (w3.alloc (.cells #[.slice V d.path.length cv, .string d.typ, .string d.nam, .int .i64 d.kind, .int .i64 d.n, .string d.key] 29)).heap.size = w3.heap.size + 1 := by simp
  have hz3 : w.heap.size + 1 < w3.heap.size := P3.out.lt
  generalize w3.alloc (.cells #[.slice V d.path.length cv, .string d.typ, .string d.nam, .int .i64 d.kind, .int .i64 d.n, .string d.key] 29) = W0 at *
  have HZ := Lib.hid hz0
  have q0 := Q0.out.cell
  have hz1 : w3.heap.size + 1 ≤ W0.heap.size := by omega
  have HR : Hid (∀ k, (Value.slice (some (⟨W0.heap.size, 0, none⟩ : Addr)) 0 0).ownBlock = some k → w3.heap.size + 1 ≤ k) := by
    intro k hk
    have e : W0.heap.size = k := by simpa [Value.ownBlock] using hk
    omega
  have hn2 : d.path.length - f.length = (d.path.drop f.length).length := by simp
  have HN3 : Hid (0 = (d.path.drop f.length).length) := by show _ = _; simp; omega
  have HL1 : Hid (([] : List ByteArray).length + t.length ≤ 2000000) := by show _ ≤ _; simp; omega
  have HL2 : Hid (t.length + (d.path.drop f.length).length ≤ 2000000) := by show _ ≤ _; simp; omega
  have hna : ¬ (w.heap.size = w3.heap.size) := by omega
  have hnb : ¬ (w3.heap.size = w.heap.size) := by omega
  clear hz0 q3 hn2
  go_region_held3 (fun w' => w'.cell? ⟨w.heap.size, 0, none⟩ = some (.slice A d.path.length f.length) ∧ w'.cell? ⟨w.heap.size, 1, none⟩ = some (.string d.typ) ∧ w'.cell? ⟨w.heap.size, 2, none⟩ = some (.string d.nam) ∧ w'.cell? ⟨w.heap.size, 3, none⟩ = some (.int .i64 d.kind) ∧ w'.cell? ⟨w.heap.size, 4, none⟩ = some (.int .i64 d.n) ∧ w'.cell? ⟨w.heap.size, 5, none⟩ = some (.string d.key)) (go_keep)
    (first
    | (refine step_append_n (by rfl) _ _ (by rfl) (w3.heap.size + 1) (.slice V1 t.length c1) t (by rfl) ?_ A 0 0 (d.path.drop f.length) HN3.out (by rfl) ?_ HL2.out ?_ ?_; exact O5.out; exact fun k hk => absurd hk (by simp; omega); exact Z5.out; intro v' w6 ho0 hg; have ho : Own w6 (w3.heap.size + 1) v' (pathR d f t) := ho0; obtain ⟨V2, c2, rfl⟩ := ho.form; have hr := O5.out.row; have E6 : Hid (Below w.heap.size w w6) := (by first | exact E5.out.grown hg E5.out.size (fun k hk => Nat.le_trans (by omega) (hr k hk).1) | exact E5.out.drew.grown hg E5.out.size (fun k hk => Nat.le_trans (by omega) (hr k hk).1)); have Q6 : Hid (Blk w6 w.heap.size 29 #[.slice A d.path.length f.length, .string d.typ, .string d.nam, .int .i64 d.kind, .int .i64 d.n, .string d.key]) := (by first | exact blk_grown Q5.out hg (fun e => by have := (hr _ e).1; omega) | exact blk_grown (Blk.drew Q5.out) hg (fun e => by have := (hr _ e).1; omega)); have P6 : Hid (Blk w6 (w.heap.size + 1) 31 #[.slice none 0 0, .string ByteArray.empty, .string ByteArray.empty, .int .i64 0, .int .i64 0, .string ByteArray.empty, .int .i64 0]) := (by first | exact blk_grown P5.out hg (fun e => by have := (hr _ e).1; omega) | exact blk_grown (Blk.drew P5.out) hg (fun e => by have := (hr _ e).1; omega)); have X6 : Hid (Blk w6 w3.heap.size 29 #[.slice V d.path.length cv, .string d.typ, .string d.nam, .int .i64 d.kind, .int .i64 d.n, .string d.key]) := (by first | exact blk_grown X5.out hg (fun e => by have := (hr _ e).1; omega) | exact blk_grown (Blk.drew X5.out) hg (fun e => by have := (hr _ e).1; omega)); have q6 := Q6.out.cell; have p6 := P6.out.cell; have g6 := P6.out.free; have x6 := X6.out.cell; have y6 := X6.out.free; have O6 := Lib.hid ho; have hz6 : w3.heap.size < w6.heap.size := X6.out.lt; clear ho ho0 hg hr)
    | (refine step_append (by rfl) _ _ (by rfl) (w3.heap.size + 1) (.slice (some ⟨W0.heap.size, 0, none⟩) 0 0) [] (by rfl) (own_new _ _ _ rfl hz1) C c'' t (by rfl) ?_ HL1.out ?_ ?_; exact HT.out.below (E0.out.alloc E0.out.size _).drew; (simp; omega); intro v' w5 ho0 hg; have ho : Own w5 (w3.heap.size + 1) v' t := ho0; obtain ⟨V1, c1, rfl⟩ := ho.form; have hr := HR.out; have E5 := Lib.hid ((E0.out.alloc E0.out.size _).drew.grown hg (Nat.le_trans E0.out.size (by simp)) (fun k hk => Nat.le_trans (by omega) (hr k hk))); have Q5 := Lib.hid (blk_grown (Blk.drew (Q0.out.alloc _)) hg (fun e => by have := hr _ e; omega)); have P5 := Lib.hid (blk_grown (Blk.drew (P0.out.alloc _)) hg (fun e => by have := hr _ e; omega)); have X5 := Lib.hid (blk_grown (Blk.drew (X0.out.alloc _)) hg (fun e => by have := hr _ e; omega)); have q5 := Q5.out.cell; have O5 := Lib.hid ho; have Z5 : Hid (w3.heap.size + 1 ≤ w5.heap.size) := X5.out.lt; clear ho ho0 hg hr))
  go_wp2
  refine bodyPost_ret (v := .agg #[.slice V2 (pathR d f t).length c2, .string d.typ, .string d.nam, .int .i64 d.kind, .int .i64 d.n, .string d.key, .int .i64 0]) (by simp [results, Try.results40, go_sem, p6, g6, x6, y6]; try rfl) rfl ⟨V2, c2, rfl, ?_, ?_⟩
  · show Own _ _ (.slice V2 (pathR d f t).length c2) (pathR d f t)
    refine Own.mono (base := w3.heap.size + 1) ?_ (by omega)
    iterate 8 refine Own.far ?_ (by simp <;> omega) _
    exact O6.out
  · repeat (refine Below.setCell ?_ (by simp <;> omega) _)
    exact E6.out

theorem sum_len (d : AddrD) (f t : List ByteArray) (h : f.length ≤ d.path.length) : ((pathR d f t).length : Int) = (d.path.length : Int) - (f.length : Int) + (t.length : Int) := by
  simp [pathR]; omega
theorem reh_spec (A : Option Addr) (c : Nat) (B : Option Addr) (c' : Nat) (C : Option Addr) (c'' : Nat) (d : AddrD) (f t : List ByteArray) (w : World) (h : Strs w A d.path) (hf : Strs w B f) (ht : Strs w C t) (hl1 : d.path.length ≤ maxLen) (hl2 : f.length ≤ maxLen) (hl3 : t.length ≤ maxLen) (z1 : d.typ.size ≤ maxLen) (z2 : d.nam.size ≤ maxLen) (z3 : d.key.size ≤ maxLen) (hc0 : d.path.length ≤ c) (hc1 : c ≤ maxLen) (hA : (∃ b o, A = some ⟨b, o, none⟩) ∨ (A = none ∧ c = 0)) :
    Calls Try.prog 40 #[.agg #[.slice A d.path.length c, .string d.typ, .string d.nam, .int .i64 d.kind, .int .i64 d.n, .string d.key], .slice B f.length c', .slice C t.length c''] w (MadeO w (dataR d f t) (codeR d f t)) := by
  by_cases k1 : 400 < f.length
  · exact reh_of (spec_long1 A c B c' C c'' d f t w h hf ht hl1 hl2 hl3 z1 z2 z3 hc0 hc1 k1) (code_two (.inl k1)) (by decide)
  by_cases k2 : 400 < t.length
  · exact reh_of (spec_long2 A c B c' C c'' d f t w h hf ht hl1 hl2 hl3 z1 z2 z3 hc0 hc1 (by omega) k2) (code_two (.inr k2)) (by decide)
  have k1' : f.length ≤ 400 := by omega
  have k2' : t.length ≤ 400 := by omega
  cases hr : addrB d
  · exact reh_of (spec_bad1 A c B c' C c'' d f t w h hf ht hl1 hl2 hl3 z1 z2 z3 hc0 hc1 k1' k2' hr) (code_one k1' k2' (by simp [hr])) (by decide)
  cases hpf : pathB f
  · exact reh_of (spec_bad2 A c B c' C c'' d f t w h hf ht hl1 hl2 hl3 z1 z2 z3 hc0 hc1 k1' k2' hr hpf) (code_one k1' k2' (by simp [hpf])) (by decide)
  cases hpt : pathB t
  · exact reh_of (spec_bad3 A c B c' C c'' d f t w h hf ht hl1 hl2 hl3 z1 z2 z3 hc0 hc1 k1' k2' hr hpf hpt) (code_one k1' k2' (by simp [hpt])) (by decide)
  by_cases hu : cm.pre d.path f = f.length
  · obtain ⟨s1, s2, s3, s4, s5, s6, s7, s8⟩ := rights hr hpf hpt
    have hle : f.length ≤ d.path.length := by have := cm.pre_le_l d.path f; omega
    have hsum := sum_len d f t hle
    have hud : decide (cm.pre d.path f = f.length) = true := by simp [hu]
    by_cases hfull : 2 < (pathR d f t).length
    · exact reh_of (spec_full A c B c' C c'' d f t w h hf ht hl1 hl2 hl3 z1 z2 z3 hc0 hc1 k1' k2' hr hpf hpt hud s1 s2 s3 (by omega)) (code_full s2 s3 hr hpf hpt hu hfull) (by decide)
    · have e := code_ok s2 s3 hr hpf hpt hu hfull
      rw [data_ok e, e]
      by_cases hcf : c = f.length
      · exact tail_specs A c B c' C c'' d f t w h hf ht s1 hc0 hc1 s2 s3 hr hpf hpt hud s4 s5 s6 hle hcf (by omega)
      · rcases hA with ⟨b, o, rfl⟩ | ⟨rfl, h0⟩
        · exact tail_spec b o c B c' C c'' d f t w h hf ht s1 hc0 hc1 s2 s3 hr hpf hpt hud s4 s5 s6 hle (by omega) (by omega)
        · omega
  · exact reh_of (spec_apart A c B c' C c'' d f t w h hf ht hl1 hl2 hl3 z1 z2 z3 hc0 hc1 k1' k2' hr hpf hpt (by simp [hu])) (code_six k1' k2' ⟨hr, hpf, hpt⟩ hu) (by decide)
end Go.Proofs.Ytflfnekaiaplfaa.reh
