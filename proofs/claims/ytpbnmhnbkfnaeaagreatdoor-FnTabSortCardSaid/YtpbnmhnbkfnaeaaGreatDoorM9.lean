/- A part of the proof, put together out of smaller texts. -/
import Derived.Test.YtpbnmhnbkfnaeaaGreatDoorM8
import Derived.Deep.QuietTactic
import Derived.BigQuiet
import Derived.Laws.StructEq
import Derived.Deep.Cut
import Derived.Deep.CutRange
import Derived.Deep.RegionHeld3
import Derived.Deep.AppendLies
import Derived.Shelf.Small.Utf8
import Derived.Shelf.Small.Strs
import Derived.Shelf.Utf8.RuneCount
import Derived.Shelf.Strings.Runes
import Derived.Lib.OthersKept
import Derived.Laws.IdiomStrings
import Derived.Laws.Runes
import Derived.WalkMore
import Derived.Lib.Strings
import Derived.Shelf.Unicode.ValidAny
import Derived.Lib.Bytealg
set_option linter.all false
set_option maxRecDepth 100000
set_option maxHeartbeats 32000000
namespace Go.Proofs.YtpbnmhnbkfnaeaaGreatDoor
open Go.RowKit Nt
theorem vA (t : List UInt8) : xg (numTx t) := by
 have h := zbc t 10
 unfold numTx xg
 cases e : zu t 10 with
 | none => simp [nilT]
 | some p =>
  rw [e] at h
  obtain ⟨n, u, d⟩ := p
  simp only [ansU, ansD] at h
  exact ⟨by simp only [putT]; omega, by simp only [putT]; omega⟩
theorem kJ {a b : Nd} (h : a.1 ≠ b.1) : zR a b = cmpI a.1 b.1 := by unfold zR; rw [if_pos h]
theorem xU {a b : Nd} (h : a.1 = b.1) (h1 : a.1 = 1) : zR a b = cmpT (numTx a.2.1) (numTx b.2.1) := by unfold zR; rw [if_neg (by simp [h]), if_pos h1]
theorem ku {a b : Nd} (h : a.1 = b.1) (h1 : a.1 ≠ 1) (h2 : a.2.1 ≠ b.2.1) : zR a b = Lib.compareBytes a.2.1 b.2.1 := by unfold zR; rw [if_neg (by simp [h]), if_neg h1, if_pos h2]
theorem xW {a b : Nd} (h : a.1 = b.1) (h1 : a.1 ≠ 1) (h2 : a.2.1 = b.2.1) : zR a b = cmpI a.2.2.length b.2.2.length := by unfold zR; rw [if_neg (by simp [h]), if_neg h1, if_neg (by simp [h2])]
theorem Ku (a b : Nd) (a1 a2 : Option Addr) (c1 c2 : Nat) (w : World) (ht1 : a.2.1.length ≤ 1048576) (ht2 : b.2.1.length ≤ 1048576) (hk1 : a.2.2.length ≤ 1048576) (hk2 : b.2.2.length ≤ 1048576) :
  Calls Tryz.prog 63 #[.agg #[.int .i64 a.1, .string (B a.2.1), .slice a1 a.2.2.length c1], .agg #[.int .i64 b.1, .string (B b.2.1), .slice a2 b.2.2.length c2]] w fun e w' => e = .returned (.int .i64 (zR a b)) ∧ Below w.heap.size w w' := by
 obtain ⟨R, hR⟩ : ∃ R, zR a b = R := ⟨_, rfl⟩
 rw [hR]
 by_cases hs : a.1 = b.1
 ·by_cases h1 : a.1 = 1
  ·have HQ := hide ((xU hs h1).symm.trans hR)
   clear hR
   obtain ⟨s1, t1, k1⟩ := a
   obtain ⟨s2, t2, k2⟩ := b
   simp only at *
   have HB := hide (qF w (.int .i64 s1) (.string (B t1)) (.slice a1 k1.length c1) (.int .i64 s2) (.string (B t2)) (.slice a2 k2.length c2) 56)
   have HA1 := hide ((AtC3.new w (.int .i64 s1) (.string (B t1)) (.slice a1 k1.length c1) 56).below (zf (Below.refl _ _) (.cells #[.int .i64 s2, .string (B t2), .slice a2 k2.length c2] 56)))
   have HA2 := hide (AtC3.new (w.alloc (.cells #[.int .i64 s1, .string (B t1), .slice a1 k1.length c1] 56)) (.int .i64 s2) (.string (B t2)) (.slice a2 k2.length c2) 56)
   rw [World.size_alloc] at HA2
   subst h1
   subst hs
   have hP1 := qP t1 10
   have hP2 := qP t2 10
   unfold zg at hP1 hP2
   rw [Q0] at hP1 hP2
   have hc := fun W => Jh (numTx t1) (numTx t2) W (vA t1) (vA t2)
   rw [za HQ] at hc
   obtain ⟨X1, hX1⟩ : ∃ X, numTx t1 = X := ⟨_, rfl⟩
   obtain ⟨X2, hX2⟩ : ∃ X, numTx t2 = X := ⟨_, rfl⟩
   rw [hX1] at hP1 hc
   rw [hX2] at hP2 hc
   clear hX1 hX2
   obtain ⟨n1, u1, d1⟩ := X1
   obtain ⟨n2, u2, d2⟩ := X2
   unfold numT at hP1 hP2 hc
   simp only at hP1 hP2 hc
   have HP1 := hide hP1
   have HP2 := hide hP2
   have HC := hide hc
   clear hP1 hP2 hc
   go_enter Tryz.func63, Tryz.ntmps63
   go_wp2_with fail
   obtain ⟨W, hW⟩ : ∃ W, (w.alloc (.cells #[.int .i64 1, .string (B t1), .slice a1 k1.length c1] 56)).alloc (.cells #[.int .i64 1, .string (B t2), .slice a2 k2.length c2] 56) = W := ⟨_, rfl⟩
   rw [hW] at HB HA1 HA2 ⊢
   clear hW
   refine (za HP1 W (by omega)).mono ?_
   rintro e w1 ⟨rfl, hb1⟩
   have HA3 := hide ((za HA2).below (hb1.trans ((zf (Below.refl _ _) (.cells #[.bool n1, .string (B u1), .string (B d1)] 79)).mono hb1.size)))
   have HN1 := hide (AtC3.new w1 (.bool n1) (.string (B u1)) (.string (B d1)) 79)
   have HB1 := hide (zf (zj (za HB) hb1) (.cells #[.bool n1, .string (B u1), .string (B d1)] 79))
   have q1 := (za HA3).n1
   clear hb1 HB HA1 HA2
   go_wp2_with fail
   obtain ⟨W1, hW⟩ : ∃ W1, w1.alloc (.cells #[.bool n1, .string (B u1), .string (B d1)] 79) = W1 := ⟨_, rfl⟩
   rw [hW] at HB1 HN1 HA3 q1 ⊢
   clear hW
   refine (za HP2 W1 (by omega)).mono ?_
   rintro e w2 ⟨rfl, hb2⟩
   have HN2 := hide (AtC3.new w2 (.bool n2) (.string (B u2)) (.string (B d2)) 79)
   have HN3 := hide (((za HN1).below hb2).below (zf (Below.refl _ _) (.cells #[.bool n2, .string (B u2), .string (B d2)] 79)))
   have HB2 := hide (zf (zj (za HB1) hb2) (.cells #[.bool n2, .string (B u2), .string (B d2)] 79))
   have x0 := (za HN3).n0
   have x1 := (za HN3).n1
   have x2 := (za HN3).n2
   clear hb2 HB1 HN1 HA3 q1
   go_wp2_with fail
   obtain ⟨W2, hW⟩ : ∃ W2, w2.alloc (.cells #[.bool n2, .string (B u2), .string (B d2)] 79) = W2 := ⟨_, rfl⟩
   rw [hW] at HB2 ⊢
   refine (za HC W2).mono ?_
   rintro e w3 ⟨rfl, hb3⟩
   have HB3 := hide (zj (za HB2) hb3)
   clear hb3
   go_wp2_with fail
   go_ret
   exact ⟨rfl, za HB3⟩
  ·by_cases h2 : a.2.1 = b.2.1
   ·have HQ := hide ((xW hs h1 h2).symm.trans hR)
    clear hR
    obtain ⟨s1, t1, k1⟩ := a
    obtain ⟨s2, t2, k2⟩ := b
    simp only at *
    have HB := hide (qF w (.int .i64 s1) (.string (B t1)) (.slice a1 k1.length c1) (.int .i64 s2) (.string (B t2)) (.slice a2 k2.length c2) 56)
    have HA1 := hide ((AtC3.new w (.int .i64 s1) (.string (B t1)) (.slice a1 k1.length c1) 56).below (zf (Below.refl _ _) (.cells #[.int .i64 s2, .string (B t2), .slice a2 k2.length c2] 56)))
    have HA2 := hide (AtC3.new (w.alloc (.cells #[.int .i64 s1, .string (B t1), .slice a1 k1.length c1] 56)) (.int .i64 s2) (.string (B t2)) (.slice a2 k2.length c2) 56)
    rw [World.size_alloc] at HA2
    subst hs
    subst h2
    have e1 : (s1 == 1) = false := beq_eq_false_iff_ne.2 h1
    have e2 : ((B t1).toList == (B t1).toList) = true := by simp
    have HI := hide (fun W => Qi (k1.length : Int) (k2.length : Int) W)
    rw [za HQ] at HI
    clear h1 HQ
    go_enter Tryz.func63, Tryz.ntmps63
    go_wp2_with fail
    refine (za HI _).mono ?_
    rintro e w1 ⟨rfl, rfl⟩
    go_wp2_with fail
    go_ret
    exact ⟨rfl, za HB⟩
   ·have HQ := hide ((ku hs h1 h2).symm.trans hR)
    clear hR
    obtain ⟨s1, t1, k1⟩ := a
    obtain ⟨s2, t2, k2⟩ := b
    simp only at *
    have HB := hide (qF w (.int .i64 s1) (.string (B t1)) (.slice a1 k1.length c1) (.int .i64 s2) (.string (B t2)) (.slice a2 k2.length c2) 56)
    have HA1 := hide ((AtC3.new w (.int .i64 s1) (.string (B t1)) (.slice a1 k1.length c1) 56).below (zf (Below.refl _ _) (.cells #[.int .i64 s2, .string (B t2), .slice a2 k2.length c2] 56)))
    have HA2 := hide (AtC3.new (w.alloc (.cells #[.int .i64 s1, .string (B t1), .slice a1 k1.length c1] 56)) (.int .i64 s2) (.string (B t2)) (.slice a2 k2.length c2) 56)
    rw [World.size_alloc] at HA2
    subst hs
    have e1 : (s1 == 1) = false := beq_eq_false_iff_ne.2 h1
    have e2 : ((B t1).toList == (B t2).toList) = false := by rw [B_tl, B_tl, beq_eq_false_iff_ne]; exact h2
    have HI := hide (fun W => VZ t1 t2 W)
    rw [za HQ] at HI
    clear h1 h2 HQ
    go_enter Tryz.func63, Tryz.ntmps63
    go_wp2_with fail
    refine (za HI _).mono ?_
    rintro e w1 ⟨rfl, rfl⟩
    go_wp2_with fail
    go_ret
    exact ⟨rfl, za HB⟩
 ·have HQ := hide ((kJ hs).symm.trans hR)
  clear hR
  obtain ⟨s1, t1, k1⟩ := a
  obtain ⟨s2, t2, k2⟩ := b
  simp only at *
  have HB := hide (qF w (.int .i64 s1) (.string (B t1)) (.slice a1 k1.length c1) (.int .i64 s2) (.string (B t2)) (.slice a2 k2.length c2) 56)
  have HA1 := hide ((AtC3.new w (.int .i64 s1) (.string (B t1)) (.slice a1 k1.length c1) 56).below (zf (Below.refl _ _) (.cells #[.int .i64 s2, .string (B t2), .slice a2 k2.length c2] 56)))
  have HA2 := hide (AtC3.new (w.alloc (.cells #[.int .i64 s1, .string (B t1), .slice a1 k1.length c1] 56)) (.int .i64 s2) (.string (B t2)) (.slice a2 k2.length c2) 56)
  rw [World.size_alloc] at HA2
  have e1 : (s1 == s2) = false := beq_eq_false_iff_ne.2 hs
  have HI := hide (fun W => Qi s1 s2 W)
  rw [za HQ] at HI
  clear hs HQ
  go_enter Tryz.func63, Tryz.ntmps63
  go_wp2_with fail
  refine (za HI _).mono ?_
  rintro e w1 ⟨rfl, rfl⟩
  go_wp2_with fail
  go_ret
  exact ⟨rfl, za HB⟩
theorem Tryz.infoPair : (Tryz.prog.info? 87).map (fun i => (i.zero, i.size, i.bytes)) = some (some (.agg #[.int .i64 0, .int .i64 0]), 2, 16) := by kernel_rfl
def pv (l : List (Int × Int)) : List Value := l.flatMap fun p => [.int .i64 p.1, .int .i64 p.2]
theorem YV (l : List (Int × Int)) (x : Int × Int) : pv (l ++ [x]) = pv l ++ [.int .i64 x.1, .int .i64 x.2] := by unfold pv; rw [List.flatMap_append]; rfl
theorem zau : ∀ {l : List (Int × Int)} {j : Nat} {x : Int × Int}, l[j]? = some x → (pv l)[j * 2]? = some (.int .i64 x.1) ∧ (pv l)[j * 2 + 1]? = some (.int .i64 x.2)
 | [], j, x, h => by simp at h
 | y :: r, 0, x, h => by
  simp at h
  subst h
  exact ⟨rfl, rfl⟩
 | y :: r, j + 1, x, h => by
  simp only [List.getElem?_cons_succ] at h
  obtain ⟨a, b⟩ := zau h
  have e : ∀ i, (pv (y :: r))[(j + 1) * 2 + i]? = (pv r)[j * 2 + i]? := fun i => by
   show ([Value.int .i64 y.1, .int .i64 y.2] ++ pv r)[(j + 1) * 2 + i]? = _
   rw [List.getElem?_append_right (by simp; omega)]
   congr 1
   simp; omega
  exact ⟨by have := e 0; simp only [Nat.add_zero] at this; rw [this]; exact a, by rw [e]; exact b⟩
abbrev RowP (w : World) (base : Nat) (T : TypeId) (v : Value) (l : List (Int × Int)) : Prop := w.ownsRow base T 2 v l.length (pv l)
theorem RowP.form {w : World} {base : Nat} {T : TypeId} {v : Value} {l : List (Int × Int)} (h : RowP w base T v l) (h0 : 0 < l.length) : ∃ g cap, v = .slice (some ⟨g, 0, none⟩) l.length cap ∧ l.length ≤ cap ∧ cap ≤ maxLen ∧ base ≤ g ∧
  ∀ j x, l[j]? = some x → w.cell? ⟨g, j * 2, none⟩ = some (.int .i64 x.1) ∧ w.cell? ⟨g, j * 2 + 1, none⟩ = some (.int .i64 x.2) := by
 have hr := h
 rcases h.2 with ⟨rfl, h1⟩ | ⟨g, cap, cur, rfl, hb, hg, h1, h2, h3, h4⟩
 ·omega
 ·refine ⟨g, cap, rfl, h1, h2, hb, fun j x hx => ?_⟩
  obtain ⟨a, b⟩ := zau hx
  have hj := (List.getElem?_eq_some_iff.1 hx).1
  exact ⟨by rw [hr.cellAt (j * 2) (by omega)]; exact a, by rw [hr.cellAt (j * 2 + 1) (by omega)]; exact b⟩
theorem JY {l ks : List (Int × Int)} {k : Nat} {x : Int × Int} (h : ks[k]? = some x) : nxtP l (ks.take (k + 1)) = if x ∈ nxtP l (ks.take k) then nxtP l (ks.take k) else nxtP l (ks.take k) ++ [x] := by
 rw [List.take_add_one, h, qU]
 rfl
theorem Xl {l : List (Int × Int)} {j : Nat} {y x : Int × Int} (h : l[j]? = some y) : decide (x ∈ l.take (j + 1)) = (decide (x ∈ l.take j) || decide (y = x)) := by
 rw [List.take_add_one, h, Bool.eq_iff_iff]
 simp only [Option.toList_some, List.mem_append, List.mem_singleton, Bool.or_eq_true, decide_eq_true_eq]
 constructor
 ·rintro (h | h)
  ·exact .inl h
  ·exact .inr h.symm
 ·rintro (h | h)
  ·exact .inl h
  ·exact .inr h.symm
def From (ns ms : List Nd) (R : Int) (i : Nat) (l : List (Int × Int)) : Prop := ∀ f, ns.length * ms.length < f + i → walkP (labP ns ms) (kidsP ns ms) f i l = R
theorem From.start {ns ms : List Nd} (hn : ns.all (ndOk ns.length) = true) (hm : ms.all (ndOk ms.length) = true) {a b : Int} (hab : InP ns.length ms.length (a, b)) : From ns ms (cmpAt ns ms a b) 0 [(a, b)] := fun f hf =>
 Zy (js hn hm) (by simp) (fun x hx => by
  have : x = (a, b) := by simpa using hx
  rw [this]; exact hab) (by omega) (by omega)
theorem From.done {ns ms : List Nd} {R : Int} {l : List (Int × Int)} (h : From ns ms R l.length l) : R = 0 := by
 rw [← h (ns.length * ms.length + 1) (by omega)]
 unfold walkP
 rw [List.getElem?_eq_none (Nat.le_refl _)]
theorem From.stop {ns ms : List Nd} {R : Int} {i : Nat} {l : List (Int × Int)} (h : From ns ms R i l) {a b : Int} (hx : l[i]? = some (a, b)) (hne : labP ns ms a b ≠ 0) : R = labP ns ms a b := by
 rw [← h (ns.length * ms.length + 1) (by omega)]
 unfold walkP
 rw [hx]
 simp only
 rw [if_neg hne]
theorem From.next {ns ms : List Nd} {R : Int} {i : Nat} {l : List (Int × Int)} (h : From ns ms R i l) {a b : Int} (hx : l[i]? = some (a, b)) (h0 : labP ns ms a b = 0) : From ns ms R (i + 1) (nxtP l (kidsP ns ms a b)) := fun f hf => by
 rw [← h (f + 1) (by omega)]
 conv => rhs; unfold walkP
 rw [hx]
 simp only
 rw [if_pos h0]
theorem YX {n m : Nat} {a b : Int} : InP n m (a, b) ↔ (0 ≤ a ∧ a < n) ∧ 0 ≤ b ∧ b < m := Iff.rfl
theorem Yn (W : World) (x y : Operand) (xs ys : Array Value) : (eqGuard .eql 87 x y (.agg xs) (.agg ys)).run Tryz.prog W = .ok () W := run_eqGuard_agg W .eql 87 x y xs ys (by kernel_rfl)
theorem zaM (W : World) (p q x y : Int) : (binOp .eql 87 (.agg #[.int .i64 p, .int .i64 q]) (.agg #[.int .i64 x, .int .i64 y])).run Tryz.prog W = .ok (.bool (decide ((p, q) = (x, y)))) W := by
 have hp : Tryz.prog.stoodInHeld 87 = false := by kernel_rfl
 rw [run_eql_struct]
 rw [show (10000 : Nat) = 9999 + 1 from rfl, run_equalIn_agg W 9999 87 _ _ (by kernel_rfl) hp]
 simp [go_sem, Op.eqFields, Program.fieldsOf, Tryz.underlying87, part, Tryz.underlying3]
 by_cases h1 : p = x <;> by_cases h2 : q = y <;> simp [h1, h2]
theorem KB (w : World) (a b : Int) (T : TypeId) : RowP (w.alloc (.cells #[.int .i64 a, .int .i64 b] T)) w.heap.size T (.slice (some ⟨w.heap.size, 0, none⟩) 1 1) [(a, b)] :=
 ⟨rfl, .inr ⟨w.heap.size, 1, _, rfl, Nat.le_refl _, heap_alloc_new w _, Nat.le_refl _, by unfold maxLen; omega, rfl, rfl⟩⟩
theorem z7 {w : World} {base size : Nat} {T : TypeId} {v : Value} {n : Nat} {xs : List Value} (h : w.ownsRow base T size v n xs) : ∃ p cap, v = .slice p n cap := by
 rcases h.2 with ⟨rfl, h1⟩ | ⟨g, cap, cur, rfl, _⟩
 ·exact ⟨none, 0, by rw [h1]⟩
 ·exact ⟨_, _, rfl⟩
theorem zd {w w' : World} (k : Below w.heap.size w w') {a : Addr} {v : Value} (h : w.cell? a = some v) : w'.cell? a = some v := (k.cell (World.block_lt_of_cell? _ _ h)).trans h
theorem xQ {w : World} {b base n size : Nat} {x y z kv : Value} {T e : TypeId} {xs : List Value} (h : AtC3 w b x y z T) (ho : w.ownsRow base e size kv n xs) (hne : e ≠ T) : kv.ownBlock ≠ some b := by
 unfold AtC3 at h
 rcases ho.2 with ⟨rfl, _⟩ | ⟨g1, c1, k1, rfl, _, hg1, _⟩
 ·intro e; simp [Value.ownBlock] at e
 ·intro e
  simp [Value.ownBlock] at e
  subst e
  rw [hg1] at h
  simp at h
  exact hne h.2
theorem AtC3.grown {w w' : World} {b : Nat} {x y z : Value} {T : TypeId} {row : Option Nat} (h : AtC3 w b x y z T) (hg : w.grownBy w' row) (hne : row ≠ some b) : AtC3 w' b x y z T :=
 (hg.block b h.lt (Ne.symm hne)).trans h
theorem Vu {ns : List Nd} (hs : zM ns) {x : Int} {nd : Nd} (h : ns[x.toNat]? = some nd) : nd.2.1.length ≤ 1048576 ∧ nd.2.2.length ≤ 1048576 := hs nd (List.mem_of_getElem? h)
theorem XH (ns ms : List Nd) (a b : Int) (xv yv : Value) (w : World) (hx : NodesAt w xv ns) (hy : NodesAt w yv ms) (okn : ns.all (ndOk ns.length) = true) (okm : ms.all (ndOk ms.length) = true)
  (hab : InP ns.length ms.length (a, b)) (hsn : zM ns) (hsm : zM ms) (hl1 : ns.length ≤ 80) (hl2 : ms.length ≤ 80) :
  Calls Tryz.prog 33 #[xv, .int .i64 a, yv, .int .i64 b] w fun e w' => e = .returned (.int .i64 (cmpAt ns ms a b)) ∧ Below w.heap.size w w' := by
 obtain ⟨i0, hi, hz0, hz1, hz2⟩ := info_parts Tryz.infoPair
 have hF := From.start okn okm hab
 obtain ⟨R, hR⟩ : ∃ R, cmpAt ns ms a b = R := ⟨_, rfl⟩
 rw [hR] at hF ⊢
 have HF := hide hF
 have HX := hide hx
 have HY := hide hy
 obtain ⟨xa, xo, xc, rfl, hx1, hx2, _⟩ := hx.form (by have := hab.1; omega)
 obtain ⟨ya, yo, yc, rfl, hy1, hy2, _⟩ := hy.form (by have := hab.2; omega)
 unfold maxLen at hx2 hy2
 have hnm : ns.length * ms.length ≤ 6400 := Nat.mul_le_mul hl1 hl2
 have HNM := hide hnm
 have HOK := hide (And.intro okn okm)
 have HSN := hide hsn
 have HSM := hide hsm
 have HL0 : Hid ([(a, b)].Nodup ∧ ∀ x ∈ [(a, b)], InP ns.length ms.length x) := hide ⟨by simp, by
  intro x hx
  have : x = (a, b) := by simpa using hx
  rw [this]; exact hab⟩
 have HRW := hide (KB w a b 87)
 have HB := hide (zf (Below.refl w.heap.size w) (.cells #[.int .i64 a, .int .i64 b] 87))
 clear hF hR hx hy okn okm hsn hsm hab hnm
 go_enter Tryz.func33, Tryz.ntmps33
 go_wp2_with fail
 go_loopw [9, 10] (fun lv iv' wr => ∃ (l : List (Int × Int)) (i : Nat), i ≤ l.length ∧ iv' = .int .i64 i ∧ Hid (RowP wr w.heap.size 87 lv l) ∧ Hid (Below w.heap.size w wr) ∧ Hid (l.Nodup ∧ ∀ x ∈ l, InP ns.length ms.length x) ∧ Hid (From ns ms R i l))
  (fun _ iv' _ => 6400 - (intOf iv').toNat)
 case atStart => exact ⟨[(a, b)], 0, by simp, rfl, HRW, HB, HL0, HF⟩
 case round =>
  clear HRW HB HF HL0
  obtain ⟨l, i, hil, rfl, HRW, HB, HL, HF⟩ := hrel
  obtain ⟨Wi, hWi⟩ : ∃ Wi, Wi = wr := ⟨_, rfl⟩
  subst hWi
  have hll : l.length ≤ 6400 := Nat.le_trans (jb (za HL).1 (za HL).2) (za HNM)
  by_cases hlt : i < l.length
  ·obtain ⟨g, cap, rfl, hc1, hc2, hgb, hcell⟩ := (za HRW).form (by omega)
   obtain ⟨⟨pa, pb⟩, hp⟩ : ∃ p, l[i]? = some p := ⟨_, List.getElem?_eq_getElem hlt⟩
   obtain ⟨g0, g1⟩ := hcell i _ hp
   simp only at g0 g1
   have hpin := (za HL).2 _ (List.mem_of_getElem? hp)
   obtain ⟨⟨pa0, pa1⟩, pb0, pb1⟩ := YX.1 hpin
   obtain ⟨na, hna⟩ : ∃ nd, ns[pa.toNat]? = some nd := ⟨_, List.getElem?_eq_getElem (by omega)⟩
   obtain ⟨nb, hnb⟩ : ∃ nd, ms[pb.toNat]? = some nd := ⟨_, List.getElem?_eq_getElem (by omega)⟩
   obtain ⟨kva, x0, x1, x2, _, hka⟩ := (za HX).node hna
   obtain ⟨kvb, y0, y1, y2, _, hkb⟩ := (za HY).node hnb
   have x0 := zd (za HB) x0
   have x1 := zd (za HB) x1
   have x2 := zd (za HB) x2
   have y0 := zd (za HB) y0
   have y1 := zd (za HB) y1
   have y2 := zd (za HB) y2
   have sa := Vu (za HSN) hna
   have sb := Vu (za HSM) hnb
   have HPI := hide hp
   have HPA : Hid (ndI ns pa = na) := hide (jj hna)
   have HPB : Hid (ndI ms pb = nb) := hide (jj hnb)
   have HKA := hide hka
   have HKB := hide hkb
   obtain ⟨aka, akc, rfl, ak1, ak2⟩ := hka.form
   obtain ⟨bka, bkc, rfl, bk1, bk2⟩ := hkb.form
   unfold maxLen at ak2 bk2 hc2
   have HOA : Hid (ndOk ns.length na = true) := hide (List.all_eq_true.1 (za HOK).1 _ (List.mem_of_getElem? hna))
   have HOB : Hid (ndOk ms.length nb = true) := hide (List.all_eq_true.1 (za HOK).2 _ (List.mem_of_getElem? hnb))
   obtain ⟨sa1, ta, ka⟩ := na
   obtain ⟨sb1, tb, kb⟩ := nb
   simp only at x0 x1 x2 y0 y1 y2 sa sb HKA HKB ak1 bk1
   have ei : ((i : Int)).toNat = i := by omega
   have pan : (pa.toNat : Int) = pa := by omega
   have pbn : (pb.toNat : Int) = pb := by omega
   clear hp hna hnb hka hkb hcell hpin
   have hb1 := zf (Below.refl Wi.heap.size Wi) (.cells #[.int .i64 sa1, .string (B ta), .slice aka ka.length akc] 56)
   have hb2 := zf hb1 (.cells #[.int .i64 sb1, .string (B tb), .slice bka kb.length bkc] 56)
   have g1' := zd hb1 g1
   have y0' := zd hb1 y0
   have y1' := zd hb1 y1
   have y2' := zd hb1 y2
   have HBB := hide hb2
   have HN1 := hide ((AtC3.new Wi (.int .i64 sa1) (.string (B ta)) (.slice aka ka.length akc) 56).below (zf (Below.refl _ _) (.cells #[.int .i64 sb1, .string (B tb), .slice bka kb.length bkc] 56)))
   have HN2 := hide (AtC3.new (Wi.alloc (.cells #[.int .i64 sa1, .string (B ta), .slice aka ka.length akc] 56)) (.int .i64 sb1) (.string (B tb)) (.slice bka kb.length bkc) 56)
   rw [World.size_alloc] at HN2
   clear g1 y0 y1 y2 hb1 hb2
   go_wp2_with fail
   obtain ⟨W2, hW⟩ : ∃ W2, (Wi.alloc (.cells #[.int .i64 sa1, .string (B ta), .slice aka ka.length akc] 56)).alloc (.cells #[.int .i64 sb1, .string (B tb), .slice bka kb.length bkc] 56) = W2 := ⟨_, rfl⟩
   rw [hW] at HBB HN1 HN2 ⊢
   clear hW g0 g1' x0 x1 x2 y0' y1' y2'
   have h := Ku (sa1, ta, ka) (sb1, tb, kb) aka bka akc bkc W2 sa.1 sb.1 sa.2 sb.2
   refine h.mono ?_
   clear h
   rintro e W3 ⟨rfl, hb3⟩
   have HB3 := hide (zj (za HB) ((za HBB).trans (hb3.mono (za HBB).size)))
   have HRW3 := hide (zr (za HRW) ((za HBB).trans (hb3.mono (za HBB).size)))
   have HM1 := hide ((za HN1).below hb3)
   have HM2 := hide ((za HN2).below hb3)
   have HLAB : Hid (labP ns ms pa pb = zR (sa1, ta, ka) (sb1, tb, kb)) := hide (by unfold labP; rw [za HPA, za HPB])
   have HKID : Hid (kidsP ns ms pa pb = ka.zip kb) := hide (by unfold kidsP; rw [za HPA, za HPB])
   clear hb3 HBB HN1 HN2 HB HRW
   obtain ⟨c, hc⟩ : ∃ c, zR (sa1, ta, ka) (sb1, tb, kb) = c := ⟨_, rfl⟩
   rw [hc] at HLAB ⊢
   have HC := hide hc
   clear hc
   by_cases hc0 : c = 0
   ·subst hc0
    have hlen : ka.length = kb.length := Yt (za HOA) (za HOB) (za HC)
    have HLEN := hide hlen
    have HST : Hid (l = nxtP l ((ka.zip kb).take 0)) := hide rfl
    have HBx := HB3
    clear hlen
    go_wp2_with fail
    go_loopw [9, 14] (fun lv kv wr => ∃ (k : Nat) (l' : List (Int × Int)), k ≤ ka.length ∧ kv = .int .i64 k ∧ Hid (l' = nxtP l ((ka.zip kb).take k)) ∧ Hid (RowP wr w.heap.size 87 lv l') ∧ Hid (Below w.heap.size w wr) ∧
      Hid (AtC3 wr Wi.heap.size (.int .i64 sa1) (.string (B ta)) (.slice aka ka.length akc) 56) ∧ Hid (AtC3 wr (Wi.heap.size + 1) (.int .i64 sb1) (.string (B tb)) (.slice bka kb.length bkc) 56))
     (fun _ kv _ => ka.length - (intOf kv).toNat)
    case atStart => exact ⟨0, l, by omega, rfl, HST, HRW3, HB3, HM1, HM2⟩
    case round =>
     clear HST HRW3 HB3 HM1 HM2
     obtain ⟨k, l', hkl, rfl, HLK, HRW, HB, HM1, HM2⟩ := hrel
     have m12 := (za HM1).n2
     have m22 := (za HM2).n2
     obtain ⟨Wk, hWk⟩ : ∃ Wk, Wk = wr := ⟨_, rfl⟩
     subst hWk
     by_cases hlt2 : k < ka.length
     ·have hlb : k < kb.length := by have := za HLEN; omega
      obtain ⟨x, hx⟩ : ∃ x, ka[k]? = some x := ⟨_, List.getElem?_eq_getElem hlt2⟩
      obtain ⟨y, hy⟩ : ∃ y, kb[k]? = some y := ⟨_, List.getElem?_eq_getElem hlb⟩
      have HZ : Hid ((ka.zip kb)[k]? = some (x, y)) := hide (by rw [List.getElem?_zip_eq_some]; exact ⟨hx, hy⟩)
      obtain ⟨ga, oa, rfl, _, u0⟩ := ((za HKA).below (za HB)).cell hx
      obtain ⟨gb, ob, rfl, _, u1⟩ := ((za HKB).below (za HB)).cell hy
      have k0 : (0 : Int) ≤ (k : Int) := by omega
      have k1 : (k : Int) < (ka.length : Int) := by omega
      have k2 : (k : Int) < (kb.length : Int) := by omega
      have k3 : ((k : Int)).toNat = k := by omega
      have hal := zf (Below.refl Wk.heap.size Wk) (.cells #[.int .i64 0, .int .i64 0] 87)
      have n12 := zd hal m12
      have n22 := zd hal m22
      have v0 := zd hal u0
      have v1 := zd hal u1
      have HAL := hide hal
      clear hx hy hal
      go_wp2_with fail
      go_region
      obtain ⟨W4, hW4⟩ : ∃ W4, (Wk.alloc (.cells #[.int .i64 x, .int .i64 y] 87)).drew = W4 := ⟨_, rfl⟩
      have hbk : Below Wk.heap.size Wk (Wk.alloc (.cells #[.int .i64 x, .int .i64 y] 87)).drew := (zf (Below.refl _ _) _).drew
      have HBX : Hid (AtC2 (Wk.alloc (.cells #[.int .i64 x, .int .i64 y] 87)).drew Wk.heap.size (.int .i64 x) (.int .i64 y) 87) := hide ((AtC2.new Wk _ _ _).below (Below.refl _ _).drew)
      rw [hW4] at hbk HBX ⊢
      have HB4 := hide (zj (za HB) hbk)
      have HRW4 := hide (zr (za HRW) hbk)
      have HM14 := hide ((za HM1).below hbk)
      have HM24 := hide ((za HM2).below hbk)
      have hl0 : 0 < l'.length := by
       obtain ⟨r, hr⟩ := j6 (ks := (ka.zip kb).take k) (l := l)
       rw [za HLK, hr, List.length_append]; omega
      obtain ⟨g2, cap2, rfl, hd1, hd2, hgb2, hcell2⟩ := RowP.form (za HRW4) hl0
      unfold maxLen at hd2
      have HCELL := hide hcell2
      have hll2 : l'.length ≤ 6400 := by
       have := jU (za HL).1 (za HL).2 (ks := (ka.zip kb).take k) (fun z hz => js (za HOK).1 (za HOK).2 pa pb ((za HL).2 _ (List.mem_of_getElem? (za HPI))) z (by rw [za HKID]; exact List.mem_of_mem_take hz))
       rw [za HLK]
       exact Nat.le_trans (jb this.1 this.2.1) (za HNM)
      clear hW4 hbk HAL n12 n22 v0 v1 u0 u1 m12 m22 HM1 HM2 HRW HB hcell2 hl0
      have hbase : Hid (Below W4.heap.size W4 W4) := hide (Below.refl _ _)
      go_wp2_with fail
      go_loopw [16, 17] (fun sv jv wr => ∃ j : Nat, j ≤ l'.length ∧ jv = .int .i64 j ∧ sv = .bool (decide ((x, y) ∈ l'.take j)) ∧ Hid (Below W4.heap.size W4 wr))
       (fun _ jv _ => l'.length - (intOf jv).toNat)
      case atStart => exact ⟨0, by omega, rfl, by simp, hbase⟩
      case round =>
       clear hbase
       obtain ⟨j, hjl, rfl, rfl, HBJ⟩ := hrel
       by_cases hjlt : j < l'.length
       ·obtain ⟨⟨p, q⟩, hpq⟩ : ∃ z, l'[j]? = some z := ⟨_, List.getElem?_eq_getElem hjlt⟩
        obtain ⟨z0, z1⟩ := za HCELL j _ hpq
        simp only at z0 z1
        have z0 := zd (za HBJ) z0
        have z1 := zd (za HBJ) z1
        have e0 := ((za HBX).below (za HBJ)).n0
        have e1 := ((za HBX).below (za HBJ)).n1
        have HMT := hide (Xl (x := (x, y)) hpq)
        have j0 : (0 : Int) ≤ (j : Int) := by omega
        have j1 : (j : Int) < (l'.length : Int) := by omega
        have j3 : ((j : Int)).toNat = j := by omega
        clear hpq
        go_wp2_with fail
        rcases Bool.eq_false_or_eq_true (decide ((x, y) ∈ l'.take j)) with hm | hm
        ·rw [hm]
         have HX : Hid (true = decide ((x, y) ∈ l'.take (j + 1))) := hide (by rw [za HMT, hm]; rfl)
         clear hm
         go_region
         go_wp2_with fail
         go_roundw
         case rel => exact ⟨j + 1, by omega, by go_num, congrArg Value.bool (za HX), hide ((za HBJ).trans ((Below.refl _ _).drew))⟩
         case measure => simp [intOf]; omega
        ·rw [hm]
         have HX : Hid ((decide (p = x) && decide (q = y)) = decide ((x, y) ∈ l'.take (j + 1))) := hide (by rw [za HMT, hm, Bool.false_or, Bool.eq_iff_iff]; simp)
         have HDN := hide (qO (za HBJ))
         have hpg := Yn
         have hpe := fun W => zaM W p q x y
         clear hm
         go_quiet (fail)
         clear hpg hpe
         go_wp2_with fail
         go_roundw
         case rel => exact ⟨j + 1, by omega, by go_num, congrArg Value.bool (za HX), hide (za HDN _)⟩
         case measure => simp [intOf]; omega
       ·obtain rfl : j = l'.length := by omega
        rw [List.take_of_length_le (Nat.le_refl _)]
        have HN := hide (JY (l := l) (za HZ))
        have HRW5 := hide (zr (za HRW4) (za HBJ))
        have HB5 := hide (zj (za HB4) (za HBJ))
        have HM15 := hide ((za HM14).below (za HBJ))
        have HM25 := hide ((za HM24).below (za HBJ))
        have e0 := ((za HBX).below (za HBJ)).n0
        have e1 := ((za HBX).below (za HBJ)).n1
        clear HBX HRW4 HB4 HM14 HM24 HBJ
        by_cases hm : (x, y) ∈ l'
        ·rw [decide_eq_true hm]
         have HLK2 : Hid (l' = nxtP l ((ka.zip kb).take (k + 1))) := hide (by rw [za HN, ← za HLK, if_pos hm])
         clear hm
         go_wp2_with fail
         go_roundw
         case rel => exact ⟨k + 1, l', by omega, by go_num, HLK2, HRW5, HB5, HM15, HM25⟩
         case measure => simp [intOf]; omega
        ·rw [decide_eq_false hm]
         have HLK2 : Hid (l' ++ [(x, y)] = nxtP l ((ka.zip kb).take (k + 1))) := hide (by rw [za HN, ← za HLK, if_neg hm])
         have hal := zf (Below.refl wr.heap.size wr) (.cells #[.int .i64 x, .int .i64 y] 87)
         have HRW6 := hide (zr (za HRW5) hal)
         have HB6 := hide (zj (za HB5) hal)
         have HM16 := hide ((za HM15).below hal)
         have HM26 := hide ((za HM25).below hal)
         clear hm hal HRW5 HM15 HM25
         go_wp2_with (at_builtin; refine wpList_append_own _ rfl (.tmp 85) (.tmp 87) 88 rfl w.heap.size 87 i0 (.agg #[.int .i64 0, .int .i64 0]) 2 16 Tryz.underlying88 hi hz0 hz1 hz2 rfl (by decide) _ l'.length (pv l') rfl (za HRW6) ⟨wr.heap.size, 0, none⟩ 1 1 [.int .i64 x, .int .i64 y] rfl rfl (World.news_of_block (cs := #[.int .i64 x, .int .i64 y]) (t := 87) (fr := (0, 0)) (heap_alloc_new wr _)) (by intro u hu; simp at hu; rcases hu with rfl | rfl <;> rfl) (by unfold maxLen; omega) (by omega) (by have := (za HB5).size; simp; omega) ?_; intro v' w7 hown7 hg7 hnil7; clear hnil7)
         have HRW7 : Hid (RowP w7 w.heap.size 87 v' (l' ++ [(x, y)])) := hide (by unfold RowP; rw [YV, List.length_append]; exact hown7)
         have HB7 := hide (zw (za HB6) (za HRW6) hg7 (za HB6).size)
         have HM17 := hide ((za HM16).grown hg7 (xQ (za HM16) (za HRW6) (by decide)))
         have HM27 := hide ((za HM26).grown hg7 (xQ (za HM26) (za HRW6) (by decide)))
         obtain ⟨p7, c7, rfl⟩ := z7 hown7
         clear hown7 hg7 HB6 HRW6 HM16 HM26
         go_wp2_with fail
         go_roundw
         case rel => exact ⟨k + 1, _, by omega, by go_num, HLK2, HRW7, HB7, HM17, HM27⟩
         case measure => simp [intOf]; omega
     ·obtain rfl : k = ka.length := by omega
      have HK : Hid (l' = nxtP l (kidsP ns ms pa pb)) := hide (by rw [za HLK, za HKID, List.take_of_length_le (by rw [List.length_zip]; omega)])
      have hok := jU (za HL).1 (za HL).2 (ks := kidsP ns ms pa pb) (fun z hz => js (za HOK).1 (za HOK).2 pa pb ((za HL).2 _ (List.mem_of_getElem? (za HPI))) z hz)
      have hF2 := (za HF).next (za HPI) (za HLAB)
      rw [← za HK] at hok hF2
      have hpre : i + 1 ≤ l'.length := by
       obtain ⟨r, hr⟩ := j6 (ks := kidsP ns ms pa pb) (l := l)
       rw [za HK, hr, List.length_append]; omega
      have HL2 : Hid (l'.Nodup ∧ ∀ z ∈ l', InP ns.length ms.length z) := hide ⟨hok.1, hok.2.1⟩
      have HF2 := hide hF2
      obtain ⟨p8, c8, rfl⟩ := z7 (za HRW)
      clear hok hF2
      go_wp2_with fail
      go_roundw
      case rel => exact ⟨l', i + 1, hpre, by go_num, HRW, HB, HL2, HF2⟩
      case measure => simp [intOf]; omega
   ·have hcz : (c == 0) = false := beq_eq_false_iff_ne.2 hc0
    have HQ := hide ((za HF).stop (za HPI) (by rw [za HLAB]; exact hc0))
    clear hc0
    go_wp2_with fail
    go_ret
    exact ⟨zF (by rw [za HQ, za HLAB]), za HB3⟩
  ·obtain rfl : i = l.length := by omega
   have HQ := hide (za HF).done
   obtain ⟨p9, c9, rfl⟩ := z7 (za HRW)
   go_wp2_with fail
   go_ret
   exact ⟨zF (za HQ).symm, za HB⟩
theorem zaI {d e : Dt} (h : okD d = false) : tabM d e = 0 := by unfold tabM; rw [h]; rfl
theorem zaU {d e : Dt} (h : okD e = false) : tabM d e = 0 := by unfold tabM; rw [h, Bool.and_false]; rfl
theorem XI {d e : Dt} (h : d.2 = []) : tabM d e = 0 := by unfold tabM; rw [h]; split <;> rfl
theorem zar {d e : Dt} (h : e.2 = []) : tabM d e = 0 := by unfold tabM; rw [h]; split <;> (try rfl); split <;> first | rfl | simp_all
theorem YB {ns ms : List Nd} {a b : Int} {rs ss : List Int} (h1 : okD (ns, a :: rs) = true) (h2 : okD (ms, b :: ss) = true) : tabM (ns, a :: rs) (ms, b :: ss) = cmpAt ns ms a b := by unfold tabM; rw [h1, h2]; rfl
theorem qt {ns : List Nd} {rs : List Int} (h : okD (ns, rs) = true) : ns.length ≤ 80 ∧ rs.length ≤ 12 ∧ ns.all (ndOk ns.length) = true ∧ ∀ r ∈ rs, 0 ≤ r ∧ r < ns.length := by
 unfold okD qG at h
 simp only [Bool.and_eq_true, decide_eq_true_eq] at h
 obtain ⟨⟨⟨h1, h2⟩, h3⟩, h4⟩ := h
 refine ⟨h1, h2, h3, fun r hr => ?_⟩
 have := List.all_eq_true.1 h4 r hr
 unfold inR at this
 simpa using this
theorem Z9 (d : Dt) (u : Value) (most : Int) (w : World) (hd : DataAt w u d) (hsd : d.1.length ≤ 1048576 ∧ d.2.length ≤ 1048576 ∧ zM d.1) :
  Calls Tryz.prog 19 #[u, .int .i64 most] w fun r W' => r = .returned (.int .i64 (hashM d most)) ∧ Below w.heap.size w W' := by
 obtain ⟨ns, rs⟩ := d
 have HD := hide hd
 obtain ⟨nv, rv, rfl, hn, hr⟩ := hd
 simp only at hn hr hsd
 have HN := hide hn
 have HR := hide hr
 obtain ⟨an, cn, rfl, hn1, hn2⟩ := hn.form0
 obtain ⟨ar, cr, rfl, hr1, hr2⟩ := hr.form
 unfold maxLen at hn2 hr2
 have HSD := hide hsd
 obtain ⟨R, hR⟩ : ∃ R, hashM (ns, rs) most = R := ⟨_, rfl⟩
 rw [hR]
 have HTR := hide hR
 have HB := hide (zf (Below.refl w.heap.size w) (.cells #[.slice an ns.length cn, .slice ar rs.length cr] 26))
 have HP := hide (AtC2.new w (.slice an ns.length cn) (.slice ar rs.length cr) 26)
 clear hn hr hsd hR
 go_enter Tryz.func19, Tryz.ntmps19
 go_wp2_with fail
 obtain ⟨W, hW⟩ : ∃ W, w.alloc (.cells #[.slice an ns.length cn, .slice ar rs.length cr] 26) = W := ⟨_, rfl⟩
 rw [hW] at HB HP ⊢
 clear hW
 have h := vQ (ns, rs) _ W ((za HD).below (za HB)) (za HSD)
 refine h.mono ?_
 clear h
 rintro e' W1 ⟨rfl, hb1⟩
 have HB1 := hide (zj (za HB) hb1)
 have HP1 := hide ((za HP).below hb1)
 clear hb1 HB HP
 have p0 := (za HP1).n0
 have p1 := (za HP1).n1
 rcases Bool.eq_false_or_eq_true (okD (ns, rs)) with ho | ho
 ·rw [ho]
  have HO1 := hide ho
  clear ho
  by_cases hr0 : rs = []
  ·have HZ : Hid (R = 0) := hide (by rw [← za HTR]; exact Qh hr0)
   have r1 : ((rs.length : Int) == 0) = true := by rw [hr0]; rfl
   clear hr0
   go_wp2_with fail
   go_ret
   exact ⟨zF (za HZ).symm, za HB1⟩
  ·obtain ⟨a, rt, har⟩ : ∃ a t, rs = a :: t := by cases rs with | nil => exact absurd rfl hr0 | cons a t => exact ⟨a, t, rfl⟩
   have hrl : 0 < rs.length := List.length_pos_iff.2 hr0
   have r1 : ((rs.length : Int) == 0) = false := by rw [beq_eq_false_iff_ne]; omega
   by_cases hm : most < 1
   ·have HZ : Hid (R = 0) := hide (by rw [← za HTR]; exact Ql hm)
    clear hr0 har hrl
    go_wp2_with fail
    go_ret
    exact ⟨zF (za HZ).symm, za HB1⟩
   ·obtain ⟨l1, _, k1, j1⟩ := qt (za HO1)
    have ha := j1 a (by rw [har]; exact List.mem_cons_self)
    obtain ⟨M, hM⟩ : ∃ M, hashD ns 3 a = M := ⟨_, rfl⟩
    have HZ : Hid (((M : Nat) : Int).tmod most = R) := hide (by rw [← za HTR, ← hM]; have h1 := za HO1; rw [har] at h1 ⊢; exact (Qc h1 (by omega)).symm)
    obtain ⟨ga, oa, rfl, _, u0⟩ := ((za HR).below (za HB1)).cell (k := 0) (x := a) (by rw [har]; rfl)
    rw [Nat.add_zero] at u0
    have HC : Hid (∀ X, Below W1.heap.size W1 X → Calls Tryz.prog 46 #[.slice an ns.length cn, .int .i64 a, .int .i64 3] X fun r W' => r = .returned (.int .i64 (M : Int)) ∧ Below X.heap.size X W') := hide (fun X hX => by
     rw [← hM]
     exact K4 ns an cn k1 (za HSD).2.2 3 (Nat.le_refl _) a X ha ((za HN).below (zj (za HB1) hX)))
    have t0 : (0 : Int) < (rs.length : Int) := by omega
    have z0 := za HZ
    have m0 : ¬ most = 0 := by omega
    clear k1 j1 ha har hM l1
    have d0 : W1.drew.cell? ⟨w.heap.size, 0, none⟩ = _ := p0
    have d1 : W1.drew.cell? ⟨w.heap.size, 1, none⟩ = _ := p1
    have d2 : W1.drew.cell? ⟨ga, oa, none⟩ = _ := u0
    go_wp2_with fail
    go_region_held3 (fun w' => w'.cell? ⟨w.heap.size, 0, none⟩ = some (.slice an ns.length cn) ∧ w'.cell? ⟨w.heap.size, 1, none⟩ = some (.slice (some ⟨ga, oa, none⟩) rs.length cr) ∧ w'.cell? ⟨ga, oa, none⟩ = some (.int .i64 a)) (((try dsimp only); (repeat' apply And.intro) <;> (with_reducible assumption))) ((go_at_call 46; refine (za HC W1.drew (Below.refl _ _).drew).mono ?_; rintro e w5 ⟨rfl, hb5⟩; have HB5 : Hid (Below W1.heap.size W1 w5) := (Below.refl _ _).drew.trans hb5; have c1 := zd (za HB5) p0; have c2 := zd (za HB5) p1; have c3 := zd (za HB5) u0; clear hb5))
    go_wp2_with fail
    go_ret
    exact ⟨rfl, zj (za HB1) (za HB5)⟩
 ·rw [ho]
  have HZ : Hid (R = 0) := hide (by rw [← za HTR]; exact Qr ho)
  clear ho
  go_wp2_with fail
  go_ret
  exact ⟨zF (za HZ).symm, za HB1⟩
end Go.Proofs.YtpbnmhnbkfnaeaaGreatDoor
namespace Go.Proofs.YtpbnmhnbkfnaeaaGreatDoor
open Go.Shelf
def Tryz.lays119_ren : Go.Shelf.Ren := ⟨fun | 119 => 229 | n => n, fun | 21 => 21 | 4 => 4 | n => n, fun | n => n⟩
theorem Tryz.lays119 : Go.Proofs.Lays.n119 Tryz.prog Tryz.lays119_ren := {
 mixed := by kernel_rfl
 f119 := Tryz.func229.trans (congrArg some (by kernel_rfl))
 t4 := Tryz.underlying4
 a4 := Tryz.isAgg4
 z4 := Tryz.sizeOf4
 v4 := Tryz.zeroValue4
 t21 := Tryz.underlying21
 a21 := Tryz.isAgg21
 z21 := Tryz.sizeOf21
 v21 := Tryz.zeroValue21 }
theorem Tryz.utf8_ValidRune (r : Int) (w : World) :
  Calls Tryz.prog 229 #[.int .i32 r] w fun e w' => e = .returned (.bool (Lib.validRune r)) ∧ w' = w := Any.utf8_ValidRune Tryz.lays119 r w
def Tryz.lays213_ren : Go.Shelf.Ren := ⟨fun | 213 => 154 | 265 => 177 | n => n, fun | 9 => 9 | 3 => 3 | n => n, fun | n => n⟩
def Tryz.lays106_ren : Go.Shelf.Ren := ⟨fun | 106 => 127 | 213 => 154 | 265 => 177 | n => n, fun | 9 => 9 | 3 => 3 | n => n, fun | n => n⟩
theorem Tryz.lays106 : Go.Proofs.Lays.n106 Tryz.prog Tryz.lays106_ren := {
 mixed := by kernel_rfl
 f106 := Tryz.func127.trans (congrArg some (by kernel_rfl))
 f213 := Tryz.func154.trans (congrArg some (by kernel_rfl))
 f265 := Tryz.func177.trans (congrArg some (by kernel_rfl))
 t3 := Tryz.underlying3
 a3 := Tryz.isAgg3
 z3 := Tryz.sizeOf3
 v3 := Tryz.zeroValue3
 t9 := Tryz.underlying9
 a9 := Tryz.isAgg9
 z9 := Tryz.sizeOf9
 v9 := Tryz.zeroValue9 }
open Go.RowKit in
theorem Tryz.strings_Compare (a b : ByteArray) (w : World) :
  Calls Tryz.prog 127 #[.string a, .string b] w fun e w' => e = .returned (.int .i64 (Lib.compareBytes a.data.toList b.data.toList)) ∧ w' = w := Any.strings_Compare Tryz.lays106 a b w
def Tryz.lays137_ren : Go.Shelf.Ren := ⟨fun | 137 => 228 | 217 => 221 | 266 => 226 | n => n, fun | 9 => 9 | 5 => 5 | 3 => 3 | n => n, fun | n => n⟩
theorem Tryz.lays137 : Go.Proofs.Lays.n137 Tryz.prog Tryz.lays137_ren := {
 mixed := by kernel_rfl
 f137 := Tryz.func228.trans (congrArg some (by kernel_rfl))
 f217 := Tryz.func221.trans (congrArg some (by kernel_rfl))
 f266 := Tryz.func226.trans (congrArg some (by kernel_rfl))
 t3 := Tryz.underlying3
 a3 := Tryz.isAgg3
 z3 := Tryz.sizeOf3
 v3 := Tryz.zeroValue3
 t5 := Tryz.underlying5
 a5 := Tryz.isAgg5
 z5 := Tryz.sizeOf5
 v5 := Tryz.zeroValue5
 t9 := Tryz.underlying9
 a9 := Tryz.isAgg9
 z9 := Tryz.sizeOf9
 v9 := Tryz.zeroValue9 }
open Go.RowKit in
theorem Tryz.strings_IndexByte (s : ByteArray) (c : Int) (w : World) :
  Calls Tryz.prog 228 #[.string s, .int .u8 c] w fun e w' => e = .returned (.int .i64 (Lib.indexByte s.data.toList c.toNat.toUInt8)) ∧ w' = w := Any.strings_IndexByte Tryz.lays137 s c w
def Tryz.lays195_ren : Go.Shelf.Ren := ⟨fun | 195 => 168 | n => n, fun | 9 => 9 | 3 => 3 | 0 => 0 | 4 => 4 | n => n, fun | n => n⟩
theorem Tryz.lays195 : Go.Proofs.Lays.n195 Tryz.prog Tryz.lays195_ren := {
 mixed := by kernel_rfl
 f195 := Tryz.func168.trans (congrArg some (by kernel_rfl))
 t0 := Tryz.underlying0
 a0 := Tryz.isAgg0
 z0 := Tryz.sizeOf0
 v0 := Tryz.zeroValue0
 t3 := Tryz.underlying3
 a3 := Tryz.isAgg3
 z3 := Tryz.sizeOf3
 v3 := Tryz.zeroValue3
 t4 := Tryz.underlying4
 a4 := Tryz.isAgg4
 z4 := Tryz.sizeOf4
 v4 := Tryz.zeroValue4
 t9 := Tryz.underlying9
 a9 := Tryz.isAgg9
 z9 := Tryz.sizeOf9
 v9 := Tryz.zeroValue9 }
open Go.RowKit in
theorem Tryz.utf8_RuneCountInString (s : ByteArray) (w : World) (hs : s.size < 9223372036854775807) :
  Calls Tryz.prog 168 #[.string s] w fun e w' => e = .returned (.int .i64 (Lib.runeCount s)) ∧ ∃ pos, w' = w.iter s pos := Any.utf8_RuneCountInString Tryz.lays195 s w hs
def Tryz.lays151_ren : Go.Shelf.Ren := ⟨fun | 151 => 218 | 152 => 225 | 137 => 228 | 119 => 229 | 224 => 223 | 225 => 222 | 217 => 221 | 266 => 226 | n => n, fun | 9 => 9 | 21 => 21 | 4 => 4 | 3 => 3 | 5 => 5 | 0 => 0 | 46 => 150 | n => n, fun | n => n⟩
theorem Tryz.lays151 : Go.Proofs.Lays.n151 Tryz.prog Tryz.lays151_ren := {
 mixed := by kernel_rfl
 f119 := Tryz.func229.trans (congrArg some (by kernel_rfl))
 f137 := Tryz.func228.trans (congrArg some (by kernel_rfl))
 f151 := Tryz.func218.trans (congrArg some (by kernel_rfl))
 f152 := Tryz.func225.trans (congrArg some (by kernel_rfl))
 f217 := Tryz.func221.trans (congrArg some (by kernel_rfl))
 f224 := Tryz.func223.trans (congrArg some (by kernel_rfl))
 f225 := Tryz.func222.trans (congrArg some (by kernel_rfl))
 f266 := Tryz.func226.trans (congrArg some (by kernel_rfl))
 t0 := Tryz.underlying0
 a0 := Tryz.isAgg0
 z0 := Tryz.sizeOf0
 v0 := Tryz.zeroValue0
 t3 := Tryz.underlying3
 a3 := Tryz.isAgg3
 z3 := Tryz.sizeOf3
 v3 := Tryz.zeroValue3
 t4 := Tryz.underlying4
 a4 := Tryz.isAgg4
 z4 := Tryz.sizeOf4
 v4 := Tryz.zeroValue4
 t5 := Tryz.underlying5
 a5 := Tryz.isAgg5
 z5 := Tryz.sizeOf5
 v5 := Tryz.zeroValue5
 t9 := Tryz.underlying9
 a9 := Tryz.isAgg9
 z9 := Tryz.sizeOf9
 v9 := Tryz.zeroValue9
 t21 := Tryz.underlying21
 a21 := Tryz.isAgg21
 z21 := Tryz.sizeOf21
 v21 := Tryz.zeroValue21
 t46 := Tryz.underlying150
 a46 := Tryz.isAgg150
 z46 := Tryz.sizeOf150
 v46 := Tryz.zeroValue150 }
open Go.RowKit Go.Lib in
theorem Tryz.strings_ContainsRune_ascii (s : ByteArray) (r : Int) (w : World) (h0 : 0 ≤ r) (h1 : r < 128) :
  Calls Tryz.prog 218 #[.string s, .int .i32 r] w fun e w' => e = .returned (.bool (decide (0 ≤ Lib.indexByte s.data.toList r.toNat.toUInt8))) ∧ w' = w := Any.strings_ContainsRune_ascii Tryz.lays151 s r w h0 h1
end Go.Proofs.YtpbnmhnbkfnaeaaGreatDoor
namespace Go.Proofs.YtpbnmhnbkfnaeaaGreatDoor
open Go.RowKit Nt
def j4 (c : Nat) : Prop := c < 55296 ∨ (57344 ≤ c ∧ c ≤ 1114111)
theorem Vn (s : ByteArray) (k : Nat) : j4 (Utf8.decode s k).1 := by
 rw [Lib.decode_at]
 have l0 := (s.get! k).toNat_lt
 have key : ∀ (n b0 b1 b2 b3 : Nat), b0 < 256 → j4 (Lib.decodeN n b0 b1 b2 b3).1 := by
  intro n b0 b1 b2 b3 h0
  unfold Lib.decodeN j4
  repeat' split
  all_goals (dsimp only at *; omega)
 exact key _ _ _ _ _ l0
theorem VQ (c : Nat) (hv : j4 c) : Utf8.valid (c : Int) = true := by
  unfold Utf8.valid
  rcases hv with hv | ⟨hv, hv2⟩
  ·rw [decide_eq_true (show (0 : Int) ≤ (c : Int) by omega), decide_eq_true (show (c : Int) < 55296 by omega)]
   rfl
  ·rw [decide_eq_true (show (57344 : Int) ≤ (c : Int) by omega), decide_eq_true (show (c : Int) ≤ 1114111 by omega)]
   simp
theorem zaK (c : Nat) (h : 128 ≤ c) (h1 : c < 2048) (hv : Utf8.valid (c : Int) = true) : (Utf8.encode (c : Int)) = ⟨#[UInt8.ofNat (192 + c / 64), UInt8.ofNat (128 + c % 64)]⟩ := by
 unfold Utf8.encode
 simp only [hv, if_true, Int.toNat_natCast]
 rw [if_neg (by omega), if_pos h1]
theorem KG (c : Nat) (h : 2048 ≤ c) (h1 : c < 65536) (hv : Utf8.valid (c : Int) = true) : (Utf8.encode (c : Int)) = ⟨#[UInt8.ofNat (224 + c / 4096), UInt8.ofNat (128 + c / 64 % 64), UInt8.ofNat (128 + c % 64)]⟩ := by
 unfold Utf8.encode
 simp only [hv, if_true, Int.toNat_natCast]
 rw [if_neg (by omega), if_neg (by omega), if_pos h1]
theorem Xx (c : Nat) (h : 65536 ≤ c) (hv : Utf8.valid (c : Int) = true) : (Utf8.encode (c : Int)) = ⟨#[UInt8.ofNat (240 + c / 262144), UInt8.ofNat (128 + c / 4096 % 64), UInt8.ofNat (128 + c / 64 % 64), UInt8.ofNat (128 + c % 64)]⟩ := by
 unfold Utf8.encode
 simp only [hv, if_true, Int.toNat_natCast]
 rw [if_neg (by omega), if_neg (by omega), if_neg (by omega)]
theorem zbm (x y : UInt8) (h : 1 < (⟨#[x, y]⟩ : ByteArray).size) : (⟨#[x, y]⟩ : ByteArray)[1]'h = y := by rw [ByteArray.getElem_eq_getElem_data]; rfl
theorem Kd (x y z : UInt8) (h : 2 < (⟨#[x, y, z]⟩ : ByteArray).size) : (⟨#[x, y, z]⟩ : ByteArray)[2]'h = z := by rw [ByteArray.getElem_eq_getElem_data]; rfl
theorem XG (x y z u : UInt8) (h : 3 < (⟨#[x, y, z, u]⟩ : ByteArray).size) : (⟨#[x, y, z, u]⟩ : ByteArray)[3]'h = u := by rw [ByteArray.getElem_eq_getElem_data]; rfl
theorem zac (c : Nat) (h : 128 ≤ c) (hv : j4 c) (E : ByteArray) (hE : Utf8.encode (c : Int) = E) : ∃ z : Nat, E.size = z + 1 ∧ 1 ≤ z ∧ z ≤ 3 ∧ ∃ b : UInt8, 128 ≤ b.toNat ∧ ∀ hz : z < E.size, E[z]'hz = b := by
 have hval := VQ c hv
 have hb : 128 ≤ (UInt8.ofNat (128 + c % 64)).toNat := by rw [UInt8.toNat_ofNat']; omega
 by_cases h1 : c < 2048
 ·rw [zaK c h h1 hval] at hE
  subst hE
  exact ⟨1, rfl, by omega, by omega, _, hb, fun hz => zbm _ _ hz⟩
 ·by_cases h2 : c < 65536
  ·rw [KG c (by omega) h2 hval] at hE
   subst hE
   exact ⟨2, rfl, by omega, by omega, _, hb, fun hz => Kd _ _ _ hz⟩
  ·rw [Xx c (by omega) hval] at hE
   subst hE
   exact ⟨3, rfl, by omega, by omega, _, hb, fun hz => XG _ _ _ _ hz⟩
theorem VA : ∀ {l : List UInt8} {b : UInt8}, (∀ c ∈ l, c ≠ b) → Lib.indexByte l b = -1
 | [], _, _ => rfl
 | c :: l, b, h => by
  unfold Lib.indexByte
  rw [VA (fun d hd => h d (List.mem_cons_of_mem _ hd))]
  have : (c == b) = false := beq_eq_false_iff_ne.2 (h c List.mem_cons_self)
  rw [this]
  rfl
theorem Qb : ∀ {l : List UInt8} {b : UInt8}, 0 ≤ Lib.indexByte l b ↔ b ∈ l
 | [], _ => by simp [Lib.indexByte]
 | c :: l, b => by
  have ih := Qb (l := l) (b := b)
  have hg := Lib.indexByte_ge l b
  unfold Lib.indexByte
  by_cases e : c = b
  ·subst e; simp
  ·rw [if_neg (by simpa using e), List.mem_cons]
   by_cases e2 : Lib.indexByte l b = -1
   ·rw [e2] at ih
    have : ¬ b ∈ l := fun h => by have := ih.2 h; omega
    simp [e2, this]
    exact fun h => e h.symm
   ·rw [if_neg (by simpa using e2)]
    constructor
    ·intro _; exact .inr (ih.1 (by omega))
    ·rintro (h | h)
     ·exact absurd h.symm e
     ·have := ih.2 h; omega
theorem zbP {c : Nat} (h : j4 c) : Lib.validRune (c : Int) = true := by
 unfold Lib.validRune j4 at *
 rw [decide_eq_true_eq]
 omega
theorem ZI (l : List UInt8) (c : Nat) (w : World) (hl : ∀ d ∈ l, d.toNat < 128) (h128 : 128 ≤ c) (hv : j4 c) (_hlen : l.length ≤ 1000) :
  Calls Tryz.prog 225 #[.string (B l), .int .i32 c] w fun e w' => e = .returned (.int .i64 (-1)) ∧ Below w.heap.size w w' := by
 have c0 : (0 : Int) ≤ (c : Int) := by omega
 have c1 : ¬ (c : Int) < 128 := by omega
 have HL := hide hl
 by_cases he : c = 65533
 ·subst he
  go_enter Tryz.func225, Tryz.ntmps225
  go_wp2_with fail
  go_loopw [4] (fun _ wr => ∃ pos : Nat, pos ≤ l.length ∧ wr.heap[w.heap.size]? = some (.stringIter (B l) pos) ∧ Below w.heap.size w wr)
   (fun _ wr => l.length - wr.iterPos w.heap.size)
  case atStart => exact ⟨0, Nat.zero_le _, World.iter_heap _ _ _, (Below.refl _ _).alloc (Nat.le_refl _) _⟩
  case round =>
   obtain ⟨pos, hpl, hit, hb⟩ := hrel
   have hpos0 := iterPos_of hit
   by_cases hlt : pos < l.length
   ·have hlt2 : pos < (B l).size := by rw [zi]; exact hlt
    have hd := (za HL) (l[pos]'hlt) (List.getElem_mem hlt)
    have hnx := fun ty => Lib.run_next_ascii_at (P := Tryz.prog) wr w.heap.size (B l) pos ty hit hlt2 (by rw [B_get]; exact hd)
    have hit2 := Lib.iterAt_heap wr w.heap.size (B l) pos (pos + 1) hit
    have hb2 := Lib.below_iterAt hb (k := w.heap.size) (Nat.le_refl _) (B l) (pos + 1)
    have hpos2 := iterPos_of hit2
    have hne : ((((B l)[pos]'hlt2).toNat : Int) == 65533) = false := by rw [beq_eq_false_iff_ne, B_get]; omega
    have Hit2 := hide hit2
    have Hp0 := hide hpos0
    have Hp2 := hide hpos2
    clear hit hit2 hpos0 hpos2 hd
    go_wp2_with fail
    go_roundw
    case rel => exact ⟨pos + 1, by omega, za Hit2, hb2⟩
    case measure => rw [za Hp0, za Hp2]; omega
   ·have hlt2 : ¬ pos < (B l).size := by rw [zi]; exact hlt
    have hnx := fun ty => Lib.run_next_end_at (P := Tryz.prog) wr w.heap.size (B l) pos ty hit hlt2
    clear hit hpos0
    go_wp2_with fail
    go_ret
    exact ⟨rfl, hb⟩
 ·have hee : ((c : Int) == 65533) = false := by rw [beq_eq_false_iff_ne]; omega
  have HV := hide (fun W => (by have := Tryz.utf8_ValidRune (c : Int) W; rw [zbP hv] at this; exact this : Calls Tryz.prog 229 #[.int .i32 c] W fun e w' => e = .returned (.bool true) ∧ w' = W))
  obtain ⟨E, hE⟩ : ∃ E, Utf8.encode (c : Int) = E := ⟨_, rfl⟩
  obtain ⟨z, hz, hz1, hz3, b, hb128, hzb⟩ := zac c h128 hv E hE
  have hzl : z < E.size := by omega
  have hzc : E[z]'hzl = b := hzb hzl
  clear hzb
  have HBB := hide hb128
  have hnb : ∀ d ∈ l, d ≠ b := fun d hd e => by have := hl d hd; rw [e] at this; omega
  have HNB := hide hnb
  have hsz := zi l
  clear he hl hv h128 hb128 hnb
  go_enter Tryz.func225, Tryz.ntmps225
  go_wp2_with fail
  refine (za HV w).mono ?_
  rintro e w1 ⟨rfl, rfl⟩
  go_wp2_with fail
  go_step3
  go_wp2_with fail
  refine wp_loop_rounds 1 ?_
  rw [rounds_succ]
  by_cases hzl2 : z < l.length
  ·have i0 : (z : Int) < ((B l).size : Int) := by omega
   have i1 : z < (B l).size := by omega
   obtain ⟨d, hd⟩ : ∃ d, (B l)[z]'i1 = d := ⟨_, rfl⟩
   have hdm : d ∈ l := by rw [← hd, B_get]; exact List.getElem_mem _
   obtain ⟨m, hm⟩ : ∃ m, d.toNat = m := ⟨_, rfl⟩
   obtain ⟨n, hn⟩ : ∃ n, b.toNat = n := ⟨_, rfl⟩
   have hdb : ((m : Int) == (n : Int)) = false := by
    rw [beq_eq_false_iff_ne]
    have := za HNB d hdm
    intro e
    exact this (UInt8.toNat_inj.1 (by omega))
   have hdn : ((m : Int) != (n : Int)) = true := by rw [bne, hdb]; rfl
   have hx : (B l).extract (z + 1) l.length = B (l.drop (z + 1)) := by rw [zW, List.take_length]
   have HI : Hid (∀ W, Calls Tryz.prog 228 #[.string ((B l).extract (z + 1) l.length), .int .u8 (n : Int)] W fun e w' => e = .returned (.int .i64 (-1)) ∧ w' = W) := hide (fun W => by
    rw [← hn]
    have h := Tryz.strings_IndexByte (B (l.drop (z + 1))) (b.toNat : Int) W
    rw [x9, Int.toNat_natCast, show b.toNat.toUInt8 = b from by simp, VA (fun c hc => za HNB c (List.mem_of_mem_drop hc))] at h
    rw [hx]
    exact h)
   have q0 : (0 : Int) ≤ (z : Int) := by omega
   have q1 : ((z : Int)).toNat = z := by omega
   have q2 : (z : Int) < (E.size : Int) := by omega
   have q3 : ((z : Int) + 1).toNat = z + 1 := by omega
   have q4 : IntKind.i64.wrap ((z : Int) + 1) = (z : Int) + 1 := by rw [wi64] <;> omega
   have q5 : (0 : Int) ≤ (z : Int) + 1 := by omega
   have q6 : (z : Int) + 1 ≤ ((B l).size : Int) := by omega
   have q7 : ¬ ((B l).size : Int) < (z : Int) + 1 := by omega
   clear hx
   go_wp2_with fail
   go_step3
   go_wp2_with fail
   go_big_quiet (fail)
   have HBW := hide (jM w1 nq)
   obtain ⟨W2, hW2⟩ : ∃ W2, w1.drewN nq = W2 := ⟨_, rfl⟩
   rw [hW2] at HBW ⊢
   clear hW2
   go_wp2_with fail
   go_quiet ((go_at_call 228; exact Calls.quiet_of_same (za HI _)))
   go_wp2_with fail
   simp only [Exit.noGoto_ret, Exit.inBlock, Exit.then]
   go_ret
   exact ⟨rfl, zj (za HBW) (jM _ _)⟩
  ·have i0 : ¬ (z : Int) < ((B l).size : Int) := by omega
   go_wp2_with fail
   go_ret
   exact ⟨rfl, Below.refl _ _⟩
def hasN (l : List UInt8) (c : Nat) : Bool := l.any fun d => d.toNat == c
theorem ve (l : List UInt8) (c : Nat) (w : World) (hl : ∀ d ∈ l, d.toNat < 128) (hv : j4 c) (hlen : l.length ≤ 1000) :
  Calls Tryz.prog 218 #[.string (B l), .int .i32 c] w fun e w' => e = .returned (.bool (hasN l c)) ∧ Below w.heap.size w w' := by
 by_cases h : c < 128
 ·have h1 := Tryz.strings_ContainsRune_ascii (B l) (c : Int) w (by omega) (by omega)
  rw [x9, Int.toNat_natCast] at h1
  have e : decide (0 ≤ Lib.indexByte l c.toUInt8) = hasN l c := by
   rw [Bool.eq_iff_iff, decide_eq_true_eq, Qb]
   unfold hasN
   rw [List.any_eq_true]
   have hc : c.toUInt8.toNat = c := by rw [Nat.toUInt8, UInt8.toNat_ofNat']; omega
   constructor
   ·intro hm; exact ⟨_, hm, by rw [hc]; simp⟩
   ·rintro ⟨d, hd, he⟩
    have : d.toNat = c := by simpa using he
    rw [← UInt8.toNat_inj.1 (show d.toNat = c.toUInt8.toNat by rw [hc]; exact this)]
    exact hd
  rw [e] at h1
  refine h1.mono ?_
  rintro e w' ⟨rfl, rfl⟩
  exact ⟨rfl, Below.refl _ _⟩
 ·have e : hasN l c = false := by
   unfold hasN
   rw [List.any_eq_false]
   intro d hd
   have := hl d hd
   simp; omega
  rw [e]
  have HI := hide (ZI l c w hl (by omega) hv hlen)
  go_enter Tryz.func218, Tryz.ntmps218
  go_wp2_with fail
  refine (za HI).mono ?_
  rintro e w1 ⟨rfl, hb⟩
  have HB := hide hb
  clear hb
  go_wp2_with fail
  go_ret
  exact ⟨rfl, za HB⟩
def Jk : List UInt8 := [32, 9, 10, 13, 40, 41, 34, 59, 39]
theorem VK (c : Nat) : hasN Jk c = endN c := by
 unfold hasN Jk endN
 simp only [List.any_cons, List.any_nil, Bool.or_false]
 rw [Bool.eq_iff_iff]
 simp only [Bool.or_eq_true, beq_iff_eq, UInt8.toNat_ofNat]
 omega
theorem Zr (c : Nat) (w : World) (hv : j4 c) :
  Calls Tryz.prog 211 #[.int .i32 c] w fun e w' => e = .returned (.bool (endN c)) ∧ Below w.heap.size w w' := by
 have HI : Hid (Calls Tryz.prog 218 #[.string ⟨#[32, 9, 10, 13, 40, 41, 34, 59, 39]⟩, .int .i32 c] w fun e w' => e = .returned (.bool (endN c)) ∧ Below w.heap.size w w') := hide (by
  have h := ve Jk c w (by decide) hv (by decide)
  rw [VK] at h
  exact h)
 go_enter Tryz.func211, Tryz.ntmps211
 go_wp2_with fail
 refine (za HI).mono ?_
 rintro e w1 ⟨rfl, hb⟩
 have HB := hide hb
 clear hb
 go_wp2_with fail
 go_ret
 exact ⟨rfl, za HB⟩
theorem Kr {c : Nat} (h : endN c = true) : c < 128 := by
 unfold endN at h
 simp only [Bool.or_eq_true, beq_iff_eq] at h
 omega
theorem Zx {p : Nat → Bool} (hp : ∀ c, p c = true → c < 128) (t : List UInt8) (k : Nat) (h : k < t.length) :
  1 ≤ (Utf8.decode (B t) k).2 ∧ k + (Utf8.decode (B t) k).2 ≤ t.length ∧ (p (Utf8.decode (B t) k).1 = true → p (t[k]'h).toNat = true) ∧
  (p (Utf8.decode (B t) k).1 = false → ∀ i (hi : i < t.length), k ≤ i → i < k + (Utf8.decode (B t) k).2 → p (t[i]'hi).toNat = false) := by
 obtain ⟨a1, a2, a3, a4⟩ := Q2 (B t) k (by rw [zi]; exact h)
 rw [zi] at a2
 have hg : ∀ i (hi : i < t.length), (B t).get! i = t[i]'hi := fun i hi => by
  rw [YM _ _ (by rw [zi]; exact hi), B_get]
 refine ⟨a1, a2, fun hq => ?_, fun hq i hi h1 h2 => ?_⟩
 ·obtain ⟨_, e⟩ := a3 (hp _ hq)
  rw [hg k h] at e
  rw [e]; exact hq
 ·by_cases hc : (Utf8.decode (B t) k).1 < 128
  ·obtain ⟨e1, e⟩ := a3 hc
   obtain rfl : i = k := by omega
   rw [hg i hi] at e
   rw [e]; exact hq
  ·have := a4 (by omega) i h1 h2
   rw [hg i hi] at this
   cases e : p (t[i]'hi).toNat with
   | false => rfl
   | true => have := hp _ e; omega
theorem Vr (t : List UInt8) (w : World) (_hs : t.length ≤ 1048576) :
  Calls Tryz.prog 210 #[.string (B t), .func (.func 211) #[] #[]] w fun e w' => e = .returned (.int .i64 (jR endN t : Nat)) ∧ Below w.heap.size w w' := by
 go_enter Tryz.func210, Tryz.ntmps210
 go_wp2_with fail
 go_loopw [5] (fun _ wr => ∃ pos : Nat, pos ≤ t.length ∧ Hid (wr.heap[w.heap.size]? = some (.stringIter (B t) pos)) ∧ Hid (Below w.heap.size w wr) ∧ Hid (∀ j (hj : j < t.length), j < pos → endN (t[j]'hj).toNat = false))
  (fun _ wr => t.length - wr.iterPos w.heap.size)
 case atStart => exact ⟨0, Nat.zero_le _, hide (World.iter_heap _ _ _), hide ((Below.refl _ _).alloc (Nat.le_refl _) _), hide (fun j _ h => by omega)⟩
 case round =>
  obtain ⟨pos, hpl, HIT, HB, HV⟩ := hrel
  have hpos0 := iterPos_of (za HIT)
  by_cases hlt : pos < t.length
  ·have hlt2 : pos < (B t).size := by rw [zi]; exact hlt
   have hnx := fun ty => Lib.run_next_any_at (P := Tryz.prog) wr w.heap.size (B t) pos ty (za HIT) hlt2
   have hb2 := Lib.below_iterAt (za HB) (k := w.heap.size) (Nat.le_refl _) (B t) (pos + (Utf8.decode (B t) pos).2)
   have hit2 := Lib.iterAt_heap wr w.heap.size (B t) pos (pos + (Utf8.decode (B t) pos).2) (za HIT)
   have HRB := hide (Zx (p := endN) (fun c h => Kr h) t pos hlt)
   have HE := hide (fun W => Zr (Utf8.decode (B t) pos).1 W (Vn (B t) pos))
   obtain ⟨c, wd, hcw⟩ : ∃ c wd, Utf8.decode (B t) pos = (c, wd) := ⟨_, _, rfl⟩
   rw [hcw] at hnx hb2 hit2 HRB HE
   simp only at hnx hb2 hit2 HRB HE
   have HB2 := hide hb2
   have HIT2 := hide hit2
   have HP0 := hide hpos0
   clear hcw hb2 hit2 hpos0 HB HIT
   go_wp2_with fail
   refine (za HE _).mono ?_
   rintro e w2 ⟨rfl, hb3⟩
   have HB3 := hide (zj (za HB2) hb3)
   have HIT3 : Hid (w2.heap[w.heap.size]? = some (.stringIter (B t) (pos + wd))) := hide ((hb3.block w.heap.size (Array.getElem?_eq_some_iff.1 (za HIT2)).1).trans (za HIT2))
   have HP3 := hide (iterPos_of (za HIT3))
   clear hb3
   obtain ⟨r1, r2, r3, r4⟩ := za HRB
   rcases Bool.eq_false_or_eq_true (endN c) with he | he
   ·have HU : Hid (jR endN t = pos) := hide (Zc (fun i h hi => za HV i h hi) (fun _ => r3 he) hpl)
    rw [he]
    clear he r3 r4
    go_wp2_with fail
    go_ret
    exact ⟨by rw [za HU]; rfl, za HB3⟩
   ·have HV2 : Hid (∀ j (hj : j < t.length), j < pos + wd → endN (t[j]'hj).toNat = false) := hide (fun j hj h => by
     by_cases h2 : j < pos
     ·exact za HV j hj h2
     ·exact r4 he j hj (by omega) h)
    rw [he]
    clear he r3 r4
    go_wp2_with fail
    go_roundw
    case rel => exact ⟨pos + wd, r2, HIT3, HB3, HV2⟩
    case measure => rw [za HP0, za HP3]; omega
  ·have hlt2 : ¬ pos < (B t).size := by rw [zi]; exact hlt
   have hnx := fun ty => Lib.run_next_end_at (P := Tryz.prog) wr w.heap.size (B t) pos ty (za HIT) hlt2
   obtain rfl : pos = t.length := by omega
   have HU : Hid (((B t).size : Int) = (jR endN t : Nat)) := hide (by rw [Zc (fun i h hi => za HV i h hi) (fun h => by omega) (Nat.le_refl _), zi])
   clear hpos0
   go_wp2_with fail
   go_ret
   exact ⟨zF (za HU), za HB⟩
theorem ZK (t : List UInt8) (w : World) (hs : t.length ≤ 1048576) :
  Calls Tryz.prog 191 #[.string (B t)] w fun e w' => e = .returned (.string (B (headW t))) ∧ Below w.heap.size w w' := by
 have hle : jR endN t ≤ t.length := by unfold jR; exact (List.takeWhile_prefix _).length_le
 have HX : Hid ((B t).extract 0 (jR endN t) = B (headW t)) := hide (by rw [zW, zat]; simp)
 have hsz := zi t
 have HU := hide (Vr t w hs)
 obtain ⟨k, hk⟩ : ∃ k, jR endN t = k := ⟨_, rfl⟩
 rw [hk] at hle HX HU
 clear hk
 go_enter Tryz.func191, Tryz.ntmps191
 go_wp2_with fail
 refine (za HU).mono ?_
 rintro e w1 ⟨rfl, hb⟩
 have HB := hide hb
 clear hb
 go_wp2_with fail
 go_ret
 exact ⟨by rw [← za HX]; rfl, za HB⟩
theorem QP (t : List UInt8) (w : World) (hs : t.length ≤ 1048576) :
  Calls Tryz.prog 165 #[.string (B t)] w fun e w' => e = .returned (.iface 222 (.agg #[.string (B (headW t))])) ∧ Below w.heap.size w w' := by
 have HU := hide (ZK t w hs)
 go_enter Tryz.func165, Tryz.ntmps165
 go_wp2_with fail
 refine (za HU).mono ?_
 rintro e w1 ⟨rfl, hb⟩
 have HB := hide hb
 clear hb
 go_wp2_with fail
 go_ret
 exact ⟨rfl, za HB⟩
end Go.Proofs.YtpbnmhnbkfnaeaaGreatDoor
namespace Go.Proofs.YtpbnmhnbkfnaeaaGreatDoor
open Go.Shelf
def Tryz.lays196_ren : Go.Shelf.Ren := ⟨fun | 196 => 167 | 259 => 192 | n => n, fun | 9 => 9 | 4 => 4 | 3 => 3 | 5 => 5 | 12 => 12 | 119 => 224 | 0 => 0 | 46 => 150 | 139 => 227 | 138 => 226 | 53 => 173 | n => n, fun | 3 => 1 | 4 => 2 | n => n⟩
theorem Tryz.lays196 : Go.Proofs.Lays.n196 Tryz.prog Tryz.lays196_ren := {
 mixed := by kernel_rfl
 f196 := Tryz.func167.trans (congrArg some (by kernel_rfl))
 f259 := Tryz.func192.trans (congrArg some (by kernel_rfl))
 t0 := Tryz.underlying0
 a0 := Tryz.isAgg0
 z0 := Tryz.sizeOf0
 v0 := Tryz.zeroValue0
 t3 := Tryz.underlying3
 a3 := Tryz.isAgg3
 z3 := Tryz.sizeOf3
 v3 := Tryz.zeroValue3
 t4 := Tryz.underlying4
 a4 := Tryz.isAgg4
 z4 := Tryz.sizeOf4
 v4 := Tryz.zeroValue4
 t5 := Tryz.underlying5
 a5 := Tryz.isAgg5
 z5 := Tryz.sizeOf5
 v5 := Tryz.zeroValue5
 t9 := Tryz.underlying9
 a9 := Tryz.isAgg9
 z9 := Tryz.sizeOf9
 v9 := Tryz.zeroValue9
 t12 := Tryz.underlying12
 a12 := Tryz.isAgg12
 z12 := Tryz.sizeOf12
 v12 := Tryz.zeroValue12
 t46 := Tryz.underlying150
 a46 := Tryz.isAgg150
 z46 := Tryz.sizeOf150
 v46 := Tryz.zeroValue150
 t53 := Tryz.underlying173
 a53 := Tryz.isAgg173
 z53 := Tryz.sizeOf173
 v53 := Tryz.zeroValue173
 t119 := Tryz.underlying224
 a119 := Tryz.isAgg224
 z119 := Tryz.sizeOf224
 t138 := Tryz.underlying226
 a138 := Tryz.isAgg226
 z138 := Tryz.sizeOf226
 v138 := Tryz.zeroValue226
 t139 := Tryz.underlying227
 a139 := Tryz.isAgg227
 z139 := Tryz.sizeOf227
 v139 := Tryz.zeroValue227
 g3 := by kernel_rfl
 g4 := by kernel_rfl }
open Go.RowKit in
theorem Tryz.utf8_ValidString (s : ByteArray) (w : World) (hs : s.size ≤ 9223372036854775807) (hT : Lib.Utf8Tabs 1 2 w) :
  Calls Tryz.prog 167 #[.string s] w fun e w' => e = .returned (.bool (Lib.validD s.data.toList)) ∧ Below w.heap.size w w' := Any.utf8_ValidString Tryz.lays196 s w hs hT
end Go.Proofs.YtpbnmhnbkfnaeaaGreatDoor
namespace Go.Proofs.YtpbnmhnbkfnaeaaGreatDoor
open Go.RowKit Nt
def Tabz (w : World) : Prop := Lib.Utf8Tabs 1 2 w
theorem Tabz.below {B : Nat} {w w' : World} (h : Tabz w) (hB : 2 < B) (k : Below B w w') : Tabz w' := by
 refine ⟨fun c hc => ?_, fun i hi => ⟨?_, ?_⟩⟩
 ·exact (k.cell (p := ⟨_, c, none⟩) (by show 1 < B; omega)).trans (h.1 c hc)
 ·exact (k.cell (p := ⟨_, 2 * i, none⟩) (by show 2 < B; omega)).trans (h.2 i hi).1
 ·exact (k.cell (p := ⟨_, 2 * i + 1, none⟩) (by show 2 < B; omega)).trans (h.2 i hi).2
theorem yW (t : List UInt8) (w : World) (hs : t.length ≤ 1048576) (hT : Tabz w) :
  Calls Tryz.prog 167 #[.string (B t)] w fun e w' => e = .returned (.bool (Lib.validD t)) ∧ Below w.heap.size w w' := by
 have h := Tryz.utf8_ValidString (B t) w (by rw [zi]; omega) hT
 rw [x9] at h
 exact h
theorem J0 (t : List UInt8) (w : World) (hs : t.length ≤ 1048576) :
  Calls Tryz.prog 168 #[.string (B t)] w fun e w' => e = .returned (.int .i64 (Lib.runeCount (B t))) ∧ Below w.heap.size w w' := by
 refine (Tryz.utf8_RuneCountInString (B t) w (by rw [zi]; omega)).mono ?_
 rintro e w' ⟨rfl, pos, rfl⟩
 exact ⟨rfl, (Below.refl _ _).alloc (Nat.le_refl _) _⟩
theorem kg (t : List UInt8) (w : World) (hs : t.length ≤ 1048576) (hT : Tabz w) :
  Calls Tryz.prog 136 #[.string (B t)] w fun e w' => e = .returned (.bool (decide (t.length ≤ 200) && Lib.validD t)) ∧ Below w.heap.size w w' := by
 have HV := hide (yW t w hs hT)
 by_cases h : t.length ≤ 200
 ·have h' : ((B t).size : Int) ≤ 200 := by rw [zi]; omega
  have HQ : Hid ((decide (t.length ≤ 200) && Lib.validD t) = Lib.validD t) := hide (by rw [decide_eq_true h, Bool.true_and])
  clear h
  go_enter Tryz.func136, Tryz.ntmps136
  go_wp2_with fail
  refine (za HV).mono ?_
  rintro e w1 ⟨rfl, hb⟩
  have HB := hide hb
  clear hb
  go_wp2_with fail
  go_ret
  exact ⟨by rw [za HQ]; rfl, za HB⟩
 ·have h' : ¬ ((B t).size : Int) ≤ 200 := by rw [zi]; omega
  have HQ : Hid ((decide (t.length ≤ 200) && Lib.validD t) = false) := hide (by rw [decide_eq_false h, Bool.false_and])
  clear h
  go_enter Tryz.func136, Tryz.ntmps136
  go_wp2_with fail
  go_ret
  exact ⟨by rw [za HQ]; rfl, Below.refl _ _⟩
theorem kB (t : List UInt8) (w : World) (hs : t.length ≤ 1048576) (hT : Tabz w) :
  Calls Tryz.prog 137 #[.string (B t)] w fun e w' => e = .returned (.bool (oneM t)) ∧ Below w.heap.size w w' := by
 have HV := hide (yW t w hs hT)
 have HC := hide (fun W => J0 t W hs)
 obtain ⟨n, hn⟩ : ∃ n, Lib.runeCount (B t) = n := ⟨_, rfl⟩
 have he := zbq t
 rw [hn] at HC he
 have HE := hide he
 clear he hn
 cases hv : Lib.validD t with
 | false =>
  rw [hv] at HV HE
  clear hv
  go_enter Tryz.func137, Tryz.ntmps137
  go_wp2_with fail
  refine (za HV).mono ?_
  rintro e w1 ⟨rfl, hb⟩
  have HB := hide hb
  clear hb
  go_wp2_with fail
  go_ret
  exact ⟨by rw [za HE]; rfl, za HB⟩
 | true =>
  rw [hv] at HV HE
  have HQ : Hid (oneM t = ((n : Int) == 1)) := hide (by rw [za HE, Bool.true_and, Bool.eq_iff_iff]; simp; omega)
  clear hv
  go_enter Tryz.func137, Tryz.ntmps137
  go_wp2_with fail
  refine (za HV).mono ?_
  rintro e w1 ⟨rfl, hb⟩
  have HB := hide hb
  clear hb
  go_wp2_with fail
  refine (za HC w1).mono ?_
  rintro e w2 ⟨rfl, hb⟩
  have HB2 := hide (zj (za HB) hb)
  clear hb
  go_wp2_with fail
  go_ret
  exact ⟨by rw [za HQ]; rfl, za HB2⟩
def Jm : List UInt8 := [48, 49, 50, 51, 52, 53, 54, 55, 56, 57, 35, 44, 96]
def badsL : List UInt8 := [40, 41, 34, 59, 39, 92, 124]
theorem Yw (c : Nat) : hasN Jm c = headN c := by
 unfold hasN Jm headN
 simp only [List.any_cons, List.any_nil, Bool.or_false]
 rw [Bool.eq_iff_iff]
 simp only [Bool.or_eq_true, Bool.and_eq_true, beq_iff_eq, UInt8.toNat_ofNat, decide_eq_true_eq]
 omega
theorem Xq (c : Nat) (h : ¬ c < 33) (h2 : c ≠ 127) : hasN badsL c = badN c := by
 unfold hasN badsL badN endN
 simp only [List.any_cons, List.any_nil, Bool.or_false]
 rw [Bool.eq_iff_iff]
 simp only [Bool.or_eq_true, beq_iff_eq, UInt8.toNat_ofNat, decide_eq_true_eq]
 omega
theorem Kj {c : Nat} (h : badN c = true) : c < 128 := by
 unfold badN endN at h
 simp only [Bool.or_eq_true, beq_iff_eq, decide_eq_true_eq] at h
 omega
theorem zaQ {c : Nat} (h : c < 33) : badN c = true := by
 unfold badN; rw [decide_eq_true h]; simp
theorem za8 : badN 127 = true := by decide
theorem Zj {l : List UInt8} {k : Nat} (h : k < l.length) (hb : badN (l[k]'h).toNat = true) : (l.all fun c => !badN c.toNat) = false := by
 rw [List.all_eq_false]; exact ⟨l[k]'h, List.getElem_mem h, by simp [hb]⟩
theorem Kh {l : List UInt8} (h : ∀ i (hi : i < l.length), badN (l[i]'hi).toNat = false) : (l.all fun c => !badN c.toNat) = true := by
 rw [List.all_eq_true]
 intro c hc
 obtain ⟨i, hi, rfl⟩ := List.mem_iff_getElem.1 hc
 simp [h i hi]
theorem y9 (t : List UInt8) (w : World) (hs : t.length ≤ 1048576) (hT : Tabz w) :
  Calls Tryz.prog 250 #[.string (B t)] w fun e w' => e = .returned (.bool (wordM t)) ∧ Below w.heap.size w w' := by
 have HT := hide (kg t w hs hT)
 by_cases hne : t = []
 ·have e0 : ((B t).toList.isEmpty) = true := by rw [hne, B_tl]; rfl
  have HQ : Hid (wordM t = false) := hide (by rw [hne]; rfl)
  clear hne
  go_enter Tryz.func250, Tryz.ntmps250
  go_wp2_with fail
  go_ret
  exact ⟨by rw [za HQ]; rfl, Below.refl _ _⟩
 ·have e0 : ((B t).toList.isEmpty) = false := by rw [B_tl]; cases t with | nil => exact absurd rfl hne | cons a r => rfl
  obtain ⟨c, r, hcr⟩ : ∃ c r, t = c :: r := by cases t with | nil => exact absurd rfl hne | cons c r => exact ⟨c, r, rfl⟩
  have HW : Hid (wordM t = (!headN c.toNat && decide (t.length ≤ 200) && Lib.validD t && t.all fun c => !badN c.toNat)) := hide (by rw [hcr]; rfl)
  have hz : 0 < (B t).size := by rw [zi, hcr]; simp
  have hc : (B t)[0]'hz = c := by rw [B_get]; subst hcr; rfl
  clear hcr hne
  rcases Bool.eq_false_or_eq_true (decide (t.length ≤ 200) && Lib.validD t) with hv | hv
  ·rw [hv] at HT
   obtain ⟨n, hn⟩ : ∃ n, c.toNat = n := ⟨_, rfl⟩
   have hn256 : n < 256 := by rw [← hn]; exact c.toNat_lt
   have HC1 : Hid (∀ W, Calls Tryz.prog 218 #[.string ⟨#[48, 49, 50, 51, 52, 53, 54, 55, 56, 57, 35, 44, 96]⟩, .int .i32 n] W fun e w' => e = .returned (.bool (headN n)) ∧ Below W.heap.size W w') := hide (fun W => by
    have h := ve Jm n W (by decide) (by unfold j4; omega) (by decide)
    rw [Yw] at h
    exact h)
   have hw32 : wrap32 (n : Int) = (n : Int) := by unfold wrap32; omega
   have HW2 : Hid (wordM t = (!headN n && t.all fun c => !badN c.toNat)) := hide (by rw [za HW, hn, Bool.and_assoc (!headN n), hv, Bool.and_true])
   clear hv hn256 HW
   go_enter Tryz.func250, Tryz.ntmps250
   go_wp2_with fail
   refine (za HT).mono ?_
   rintro e w1 ⟨rfl, hb⟩
   have HB := hide hb
   clear hb
   go_wp2_with fail
   refine (za HC1 w1).mono ?_
   rintro e w2 ⟨rfl, hb⟩
   have HB2 := hide (zj (za HB) hb)
   clear hb HB HC1
   rcases Bool.eq_false_or_eq_true (headN n) with hh | hh
   ·have HQ : Hid (wordM t = false) := hide (by rw [za HW2, hh]; rfl)
    rw [hh]
    clear hh HW2
    go_wp2_with fail
    go_ret
    exact ⟨by rw [za HQ]; rfl, za HB2⟩
   ·have HQ : Hid (wordM t = t.all fun c => !badN c.toNat) := hide (by rw [za HW2, hh]; rfl)
    rw [hh]
    have HIT0 : Hid ((w2.iter (B t) 0).heap[w2.heap.size]? = some (.stringIter (B t) 0)) := hide (World.iter_heap _ _ _)
    have HB0 : Hid (Below w.heap.size w (w2.iter (B t) 0)) := hide ((za HB2).alloc (za HB2).size _)
    have HBZ := hide (za HB2).size
    clear hh HW2 hc hn hw32 hz e0 HT HB2
    go_wp2_with fail
    go_loopw [4] (fun _ wr => ∃ pos : Nat, pos ≤ t.length ∧ Hid (wr.heap[w2.heap.size]? = some (.stringIter (B t) pos)) ∧ Hid (Below w.heap.size w wr) ∧ Hid (∀ j (hj : j < t.length), j < pos → badN (t[j]'hj).toNat = false))
     (fun _ wr => t.length - wr.iterPos w2.heap.size)
    case atStart => exact ⟨0, Nat.zero_le _, HIT0, HB0, hide (fun j _ h => by omega)⟩
    case round =>
     clear HIT0 HB0
     obtain ⟨pos, hpl, HIT, HB, HV⟩ := hrel
     have hpos0 := iterPos_of (za HIT)
     by_cases hlt : pos < t.length
     ·have hlt2 : pos < (B t).size := by rw [zi]; exact hlt
      have hnx := fun ty => Lib.run_next_any_at (P := Tryz.prog) wr w2.heap.size (B t) pos ty (za HIT) hlt2
      have hb2 := Lib.below_iterAt (za HB) (k := w2.heap.size) (za HBZ) (B t) (pos + (Utf8.decode (B t) pos).2)
      have hit2 := Lib.iterAt_heap wr w2.heap.size (B t) pos (pos + (Utf8.decode (B t) pos).2) (za HIT)
      have HRB := hide (Zx (p := badN) (fun c h => Kj h) t pos hlt)
      have hro := Vn (B t) pos
      obtain ⟨c, wd, hcw⟩ : ∃ c wd, Utf8.decode (B t) pos = (c, wd) := ⟨_, _, rfl⟩
      rw [hcw] at hnx hb2 hit2 HRB hro
      simp only at hnx hb2 hit2 HRB hro
      have HRO := hide hro
      have HB2 := hide hb2
      have HIT2 := hide hit2
      have HP0 := hide hpos0
      have HP2 := hide (iterPos_of hit2)
      clear hcw hb2 hit2 hpos0 HB HIT hro
      by_cases h33 : c < 33
      ·have h33' : (c : Int) < 33 := by omega
       have HX : Hid (wordM t = false) := hide (by rw [za HQ]; exact Zj hlt ((za HRB).2.2.1 (zaQ h33)))
       clear h33
       go_wp2_with fail
       go_ret
       exact ⟨by rw [za HX]; rfl, za HB2⟩
      ·have h33' : ¬ (c : Int) < 33 := by omega
       by_cases h127 : c = 127
       ·subst h127
        have HX : Hid (wordM t = false) := hide (by rw [za HQ]; exact Zj hlt ((za HRB).2.2.1 za8))
        clear h33
        go_wp2_with fail
        go_ret
        exact ⟨by rw [za HX]; rfl, za HB2⟩
       ·have h127' : ((c : Int) == 127) = false := by rw [beq_eq_false_iff_ne]; omega
        have HC : Hid (∀ W, Calls Tryz.prog 218 #[.string ⟨#[40, 41, 34, 59, 39, 92, 124]⟩, .int .i32 c] W fun e w' => e = .returned (.bool (badN c)) ∧ Below W.heap.size W w') := hide (fun W => by
         have h := ve badsL c W (by decide) (za HRO) (by decide)
         rw [Xq c h33 h127] at h
         exact h)
        clear h33 h127
        go_wp2_with fail
        refine (za HC _).mono ?_
        rintro e w3 ⟨rfl, hb3⟩
        have HB3 := hide (zj (za HB2) hb3)
        have HIT3 : Hid (w3.heap[w2.heap.size]? = some (.stringIter (B t) (pos + wd))) := hide ((hb3.block w2.heap.size (Array.getElem?_eq_some_iff.1 (za HIT2)).1).trans (za HIT2))
        have HP3 := hide (iterPos_of (za HIT3))
        clear hb3
        obtain ⟨r1, r2, r3, r4⟩ := za HRB
        rcases Bool.eq_false_or_eq_true (badN c) with hb | hb
        ·have HX : Hid (wordM t = false) := hide (by rw [za HQ]; exact Zj hlt (r3 hb))
         rw [hb]
         clear hb r3 r4
         go_wp2_with fail
         go_ret
         exact ⟨by rw [za HX]; rfl, za HB3⟩
        ·have HV2 : Hid (∀ j (hj : j < t.length), j < pos + wd → badN (t[j]'hj).toNat = false) := hide (fun j hj h => by
          by_cases h2 : j < pos
          ·exact za HV j hj h2
          ·exact r4 hb j hj (by omega) h)
         rw [hb]
         clear hb r3 r4
         go_wp2_with fail
         go_roundw
         case rel => exact ⟨pos + wd, r2, HIT3, HB3, HV2⟩
         case measure => rw [za HP0, za HP3]; omega
     ·have hlt2 : ¬ pos < (B t).size := by rw [zi]; exact hlt
      have hnx := fun ty => Lib.run_next_end_at (P := Tryz.prog) wr w2.heap.size (B t) pos ty (za HIT) hlt2
      have HX : Hid (wordM t = true) := hide (by rw [za HQ]; exact Kh (fun i hi => za HV i hi (by omega)))
      clear hpos0
      go_wp2_with fail
      go_ret
      exact ⟨by rw [za HX]; rfl, za HB⟩
  ·rw [hv] at HT
   have HQ : Hid (wordM t = false) := hide (by rw [za HW, Bool.and_assoc (!headN c.toNat), hv, Bool.and_false, Bool.false_and])
   clear hv HW
   go_enter Tryz.func250, Tryz.ntmps250
   go_wp2_with fail
   refine (za HT).mono ?_
   rintro e w1 ⟨rfl, hb⟩
   have HB := hide hb
   clear hb
   go_wp2_with fail
   go_ret
   exact ⟨by rw [za HQ]; rfl, za HB⟩
theorem ZR (c : UInt8) (l : List UInt8) : Lib.indexByte l c = findI c l := by
 unfold findI
 induction l with
 | nil => rfl
 | cons d r ih =>
  unfold Lib.indexByte findB
  by_cases h : d = c
  ·simp [h]
  ·simp only [h, if_false]
   cases hf : findB c r with
   | none => rw [hf] at ih; simp_all
   | some k => rw [hf] at ih; simp_all; try omega
theorem JK (l : List UInt8) (c : UInt8) (w : World) :
  Calls Tryz.prog 221 #[.string (B l), .int .u8 c.toNat] w fun e w' => e = .returned (.int .i64 (findI c l)) ∧ w' = w := by
 go_enter Tryz.func221, Tryz.ntmps221
 go_wp2
 rw [run_callFunc_extern Tryz.func226 (by kernel_rfl) (by kernel_rfl) (by kernel_rfl) (e := Extern.BytealgIndexByte.indexByte) (by kernel_rfl), Lib.run_indexByteString]
 simp only [Result.andThen]
 rw [Oper.upon_value]
 go_wp2
 go_ret
 refine ⟨?_, rfl⟩
 exact zF (by rw [x9, ZR])
theorem zaN (l : List UInt8) (c : UInt8) (w : World) :
  Calls Tryz.prog 217 #[.string (B l), .string (B [c])] w fun e w' => e = .returned (.int .i64 (findI c l)) ∧ w' = w := by
 have hs1 : (B [c]).size = 1 := rfl
 have hg : (B [c])[0].toNat = c.toNat := rfl
 by_cases hl : [c] = l
 ·have he : ((B [c]).toList == (B l).toList) = true := by rw [B_tl, B_tl, hl]; simp
  have Hf : Hid (findI c l = 0) := by show _ = _; rw [← hl]; simp [findI, findB]
  clear hl
  go_enter Tryz.func217, Tryz.ntmps217
  go_wp2
  go_ret
  exact ⟨zF (za Hf).symm, rfl⟩
 ·have he : ((B [c]).toList == (B l).toList) = false := by rw [B_tl, B_tl, beq_eq_false_iff_ne]; exact hl
  clear hl
  go_enter Tryz.func217, Tryz.ntmps217
  go_wp2_with fail
  refine (JK l c _).mono ?_
  rintro e w1 ⟨rfl, rfl⟩
  go_wp2
  go_ret
  exact ⟨rfl, rfl⟩
def cutM (c : UInt8) (l : List UInt8) : List UInt8 × List UInt8 × Bool := match findB c l with | some k => (l.take k, l.drop (k + 1), true) | none => (l, [], false)
theorem zbo (l : List UInt8) (c : UInt8) (w : World) (hs : l.length ≤ 1000000000) :
  Calls Tryz.prog 199 #[.string (B l), .string (B [c])] w fun e w' => e = .returned (.tuple #[.string (B (cutM c l).1), .string (B (cutM c l).2.1), .bool (cutM c l).2.2]) ∧ Below w.heap.size w w' := by
 have hs1 : (B [c]).size = 1 := rfl
 have hsz : (B l).size ≤ 1000000000 := by rw [zi]; exact hs
 have hix := fun w => zaN l c w
 unfold cutM
 cases hf : findB c l with
 | none =>
  have hi : findI c l = -1 := by unfold findI; rw [hf]
  rw [hi] at hix
  have Hix := hide hix
  clear hix hi hf
  go_enter Tryz.func199, Tryz.ntmps199
  go_wp2_with fail
  refine (za Hix _).mono ?_
  rintro e w1 ⟨rfl, rfl⟩
  go_wp2
  go_ret3
  exact ⟨rfl, Below.refl _ _⟩
 | some k =>
  have hk := je hf
  have hi : findI c l = k := by unfold findI; rw [hf]
  rw [hi] at hix
  have Hix := hide hix
  have hk2 : k < (B l).size := by rw [zi]; exact hk
  clear hix hi hf
  have c1 : (0 : Int) ≤ ↑k := by omega
  have c2 : (↑k : Int) ≤ ↑(B l).size := by omega
  have c3 : (0 : Int) ≤ ↑k + ↑(B [c]).size := by omega
  have c4 : (↑k + ↑(B [c]).size : Int) ≤ ↑(B l).size := by omega
  have c5 : (0 : Int) ≤ ↑k + 1 := by omega
  have c6 : (↑k + 1 : Int) ≤ ↑(B l).size := by omega
  have w1 := wi64 ((k : Int) + 1) (by omega) (by omega)
  go_enter Tryz.func199, Tryz.ntmps199
  go_wp2_with fail
  refine (za Hix _).mono ?_
  rintro e w1 ⟨rfl, rfl⟩
  go_wp2
  go_region
  go_wp2
  go_ret3
  have e1 : (B l).extract 0 k = B (l.take k) := by rw [zW]; rfl
  have e2 : (B l).extract (k + 1) (B l).size = B (l.drop (k + 1)) := by rw [zW, zi, List.take_length]
  rw [← e1, ← e2]
  exact ⟨rfl, (Below.refl _ _).drew⟩
theorem cut_c (l : List UInt8) (c : UInt8) (w : World) (hs : l.length ≤ 1000000000) :
  Calls Tryz.prog 179 #[.string (B l), .string (B [c])] w fun e w' => e = .returned (.tuple #[.string (B (cutM c l).1), .string (B (cutM c l).2.1), .bool (cutM c l).2.2]) ∧ Below w.heap.size w w' := by
 go_enter Tryz.func179, Tryz.ntmps179
 go_wp2_with fail
 refine (zbo l c _ hs).mono ?_
 rintro e w1 ⟨rfl, hb1⟩
 go_wp2
 go_ret3
 exact ⟨rfl, hb1⟩
theorem Yu (l : List UInt8) (c : UInt8) (w : World) :
  Calls Tryz.prog 178 #[.string (B l), .string (B [c])] w fun e w' => e = .returned (.bool (l.head? == some c)) ∧ w' = w := by
 have hs1 : (B [c]).size = 1 := rfl
 cases l with
 | nil =>
  have hz : (B []).size = 0 := rfl
  go_enter Tryz.func178, Tryz.ntmps178
  go_wp2
  go_ret
  exact ⟨rfl, rfl⟩
 | cons d r =>
  have hz : (B (d :: r)).size = r.length + 1 := by rw [zi]; rfl
  have he : (((B (d :: r)).extract 0 1).toList == (B [c]).toList) = ((d :: r).head? == some c) := by
   rw [zW, B_tl, B_tl]; simp
  go_enter Tryz.func178, Tryz.ntmps178
  go_wp2
  go_ret
  exact ⟨zD (by simp), rfl⟩
theorem yH (l : List UInt8) (c : UInt8) (w : World) :
  Calls Tryz.prog 156 #[.string (B l), .string (B [c])] w fun e w' => e = .returned (.bool (l.head? == some c)) ∧ w' = w := by
 go_enter Tryz.func156, Tryz.ntmps156
 go_wp2_with fail
 refine (Yu l c _).mono ?_
 rintro e w1 ⟨rfl, rfl⟩
 go_wp2
 go_ret
 exact ⟨rfl, rfl⟩
theorem vr (r : Int) (w : World) :
  Calls Tryz.prog 155 #[.int .i64 r] w fun e w' => e = .returned (.bool (zJ r)) ∧ w' = w := by
 unfold zJ
 by_cases h2 : (r == 2) = true
 ·go_enter Tryz.func155, Tryz.ntmps155
  go_wp2
  go_ret
  exact ⟨zD (by simp [h2]), rfl⟩
 ·have h2' : (r == 2) = false := by simpa using h2
  clear h2
  by_cases h8 : (r == 8) = true
  ·go_enter Tryz.func155, Tryz.ntmps155
   go_wp2
   go_ret
   exact ⟨zD (by simp [h8, h2']), rfl⟩
  ·have h8' : (r == 8) = false := by simpa using h8
   clear h8
   by_cases h10 : (r == 10) = true
   ·go_enter Tryz.func155, Tryz.ntmps155
    go_wp2
    go_ret
    exact ⟨zD (by simp [h8', h2', h10]), rfl⟩
   ·have h10' : (r == 10) = false := by simpa using h10
    clear h10
    by_cases h16 : (r == 16) = true
    ·go_enter Tryz.func155, Tryz.ntmps155
     go_wp2
     go_ret
     exact ⟨zD (by simp [h8', h2', h10', h16]), rfl⟩
    ·have h16' : (r == 16) = false := by simpa using h16
     clear h16
     go_enter Tryz.func155, Tryz.ntmps155
     go_wp2
     go_ret
     exact ⟨zD (by simp [h8', h2', h10', h16']), rfl⟩
def digI (x : Int) : Int := if 48 ≤ x ∧ x ≤ 57 then x - 48 else if 97 ≤ x ∧ x ≤ 102 then x - 87 else 99
def digU (x : Int) : Int := if digI x = 99 then 0 else digI x
theorem Ke (c : UInt8) : digI (c.toNat : Int) = (digN c : Nat) := by
 unfold digI digN
 by_cases h1 : 48 ≤ c.toNat ∧ c.toNat ≤ 57
 ·rw [if_pos h1, if_pos (by omega)]; omega
 ·rw [if_neg h1, if_neg (by omega)]
  by_cases h2 : 97 ≤ c.toNat ∧ c.toNat ≤ 102
  ·rw [if_pos h2, if_pos (by omega)]; omega
  ·rw [if_neg h2, if_neg (by omega)]; rfl
theorem YL (x : Int) (b : Nat) (w : World) (hb : b ≤ 16) :
  Calls Tryz.prog 200 #[.int .i64 b, .int .i32 x] w fun e w' => e = .returned (.tuple #[.int .u64 (digU x), .bool (decide (digI x < b))]) ∧ w' = w := by
 by_cases h1 : 48 ≤ x ∧ x ≤ 57
 ·have hf : digI x = x - 48 := by unfold digI; rw [if_pos h1]
  have hu : digU x = x - 48 := by unfold digU; rw [hf, if_neg (by omega)]
  rw [hf, hu]
  have e1 : IntKind.wrap .i32 (x - 48) = x - 48 := by rw [IntKind.wrap_i32]; omega
  have e2 := wu64 (x - 48) (by omega) (by omega)
  have e3 := wi64 (x - 48) (by omega) (by omega)
  obtain ⟨h1a, h1b⟩ := h1
  clear hf hu
  go_enter Tryz.func200, Tryz.ntmps200
  go_wp2
  go_ret2
  exact ⟨rfl, rfl⟩
 ·by_cases h2 : 97 ≤ x ∧ x ≤ 102
  ·have hf : digI x = x - 87 := by unfold digI; rw [if_neg h1, if_pos h2]
   have hu : digU x = x - 87 := by unfold digU; rw [hf, if_neg (by omega)]
   rw [hf, hu]
   have e1 : IntKind.wrap .i32 (x - 87) = x - 87 := by rw [IntKind.wrap_i32]; omega
   have e2 := wu64 (x - 87) (by omega) (by omega)
   have e3 := wi64 (x - 87) (by omega) (by omega)
   have a1 : 48 ≤ x := by omega
   have a2 : ¬ x ≤ 57 := by omega
   obtain ⟨h2a, h2b⟩ := h2
   clear hf hu h1
   go_enter Tryz.func200, Tryz.ntmps200
   go_wp2
   go_ret2
   exact ⟨rfl, rfl⟩
  ·have hf : digI x = 99 := by unfold digI; rw [if_neg h1, if_neg h2]
   have hu : digU x = 0 := by unfold digU; rw [hf, if_pos rfl]
   have hd : decide (digI x < b) = false := by rw [hf]; exact decide_eq_false (by omega)
   rw [hd, hu]
   clear hf hu hd
   by_cases a1 : 48 ≤ x
   ·have a2 : ¬ x ≤ 57 := by omega
    by_cases a3 : 97 ≤ x
    ·have a4 : ¬ x ≤ 102 := by omega
     clear h1 h2
     go_enter Tryz.func200, Tryz.ntmps200
     go_wp2
     go_ret2
     exact ⟨rfl, rfl⟩
    ·clear h1 h2
     go_enter Tryz.func200, Tryz.ntmps200
     go_wp2
     go_ret2
     exact ⟨rfl, rfl⟩
   ·have a3 : ¬ 97 ≤ x := by omega
    clear h1 h2
    go_enter Tryz.func200, Tryz.ntmps200
    go_wp2
    go_ret2
    exact ⟨rfl, rfl⟩
theorem Xy (l : List UInt8) (pos : Nat) (h : pos < l.length) :
  ((l[pos]).toNat < 128 ∧ Utf8.decode (B l) pos = ((l[pos]).toNat, 1)) ∨ (digN (l[pos]) = 99 ∧ 128 ≤ (Utf8.decode (B l) pos).1) := by
 have h2 : pos < (B l).size := by rw [zi]; exact h
 have hg : ((B l)[pos]'h2) = l[pos]'h := B_get l pos h2
 by_cases ha : (l[pos]).toNat < 128
 ·have := decode_ascii (B l) pos h2 (by rw [hg]; exact ha)
  rw [hg] at this
  exact .inl ⟨ha, this⟩
 ·have := decode_high (B l) pos h2 (by rw [hg]; omega)
  refine .inr ⟨?_, this.1⟩
  unfold digN; rw [if_neg (by omega), if_neg (by omega)]
theorem Q6 {w : World} {base : Nat} {e : TypeId} {size : Nat} {v : Value} {n : Nat} {xs : List Value} (h : w.ownsRow base e size v n xs) {k : Nat} (hk : k < base) : v.ownBlock ≠ some k := by
 intro hh
 have := (h.lt _ hh).1
 omega
theorem yC (w : World) : isNat (w.alloc (.cells #[] 173)) (.slice (some ⟨w.heap.size, 0, none⟩) 0 0) 0 := by
 unfold isNat
 rw [ji]
 exact zK (World.ownsRow_made w #[] 0 (Nat.le_refl _) (by decide) (by simp)) (Nat.zero_le _)
theorem Q9 (l : List UInt8) (b : Nat) (w : World) (hb2 : 2 ≤ b) (hb16 : b ≤ 16) (hs : l.length ≤ 10000) :
  Calls Tryz.prog 180 #[.int .i64 b, .string (B l)] w fun e w' => (∃ v', e = .returned (.tuple #[v', .bool (okN b l)]) ∧ isNat w' v' (natV b l)) ∧ Below w.heap.size w w' := by
 go_enter Tryz.func180, Tryz.ntmps180
 go_wp2
 go_loopw [6, 8, 9, 10] (fun v _ _ _ wr => ∃ pos : Nat, pos ≤ l.length ∧ wr.heap[w.heap.size + 1]? = some (.stringIter (B l) pos) ∧ isNat wr v (rdN b (l.take pos)) ∧ v.ownBlock ≠ some (w.heap.size + 1) ∧ Below w.heap.size w wr ∧ w.heap.size + 2 ≤ wr.heap.size ∧ Hid (∀ c ∈ l.take pos, digN c < b))
  (fun _ _ _ _ wr => l.length - wr.iterPos (w.heap.size + 1))
 case atStart =>
  refine ⟨0, Nat.zero_le _, ?_, ?_, ?_, ?_, ?_, hide (by simp)⟩
  ·simpa using World.iter_heap (w.alloc (.cells #[] 173)) (B l) 0
  ·exact zr (yC w) ((Below.refl _ _).alloc (Nat.le_refl _) _)
  ·simp [Value.ownBlock]
  ·exact ((Below.refl _ _).alloc (Nat.le_refl _) _).alloc (by simp) _
  ·simp [World.iter]
 case round =>
  obtain ⟨pos, hpl, hit, hown, hob, hb, hsz, hdg⟩ := hrel
  have hpos0 := iterPos_of hit
  by_cases hlt : pos < l.length
  ·have hlt2 : pos < (B l).size := by rw [zi]; exact hlt
   have hnx := fun ty => Lib.run_next_any_at (P := Tryz.prog) wr (w.heap.size + 1) (B l) pos ty hit hlt2
   have hbad := @QX b l pos hlt
   rcases Xy l pos hlt with ⟨h1, h3⟩ | ⟨h1, h2⟩
   ·rw [h3] at hnx
    have hit2 := Lib.iterAt_heap wr (w.heap.size + 1) (B l) pos (pos + 1) hit
    have hb2 := Lib.below_iterAt hb (k := w.heap.size + 1) (by omega) (B l) (pos + 1)
    have hown2 : isNat _ _ _ := Zu hown hob (B l) (pos + 1)
    have hpos2 := iterPos_of hit2
    have hsn := Za l pos hlt
    have hlk := Yl b (l.take pos) (za hdg)
    rw [List.length_take, Nat.min_eq_left hpl] at hlk
    have hsk := yd hb16 hlk
    have hgk := jS (n := 2 * pos + 1) hsk
    have hdI := Ke (l[pos]'hlt)
    have hsz2 : w.heap.size + 2 ≤ (wr.iterAt (w.heap.size + 1) (B l) (pos + 1)).heap.size := by rw [Lib.iterAt_size]; exact hsz
    obtain ⟨W1, hW1⟩ : ∃ W1, W1 = wr.iterAt (w.heap.size + 1) (B l) (pos + 1) := ⟨_, rfl⟩
    rw [← hW1] at hnx hit2 hb2 hown2 hpos2 hsz2
    have hsnN := congrArg (rdN b) hsn
    rw [Zs] at hsnN
    generalize hnn : rdN b (l.take pos) = n at *
    generalize hcc : l[pos]'hlt = c at *
    have hvc := fun w => YL (c.toNat : Int) b w hb16
    rw [hdI] at hvc
    by_cases hge : b ≤ digN c
    ·have Hf := hide (hbad hge)
     rw [decide_eq_false (by omega)] at hvc
     have Hv := hide hvc
     clear hbad hsnN hsn hlk hnn hcc hit hpos0 h3 h1 hW1 hvc hdI
     go_wp2_with fail
     refine (za Hv _).mono ?_
     rintro e w1 ⟨rfl, rfl⟩
     go_wp2
     go_ret2
     refine ⟨⟨.slice (some ⟨w1.heap.size, 0, none⟩) 0 0, by rw [za Hf]; rfl, ?_⟩, hb2.alloc hb2.size _⟩
     unfold natV
     rw [za Hf]
     exact yC w1
    ·have hd16 : digN c < 16 := by omega
     have hdu : digU (c.toNat : Int) = digN c := by unfold digU; rw [hdI, if_neg (by omega)]
     rw [hdu, decide_eq_true (by omega)] at hvc
     have Hv := hide hvc
     have Hit2 := hide hit2
     have Hp0 := hide hpos0
     have Hp2 := hide hpos2
     have Hn := hide hsnN
     have Hdg2 : Hid (∀ x ∈ l.take (pos + 1), digN x < b) := by
      intro x hx
      rw [hsn] at hx
      rcases List.mem_append.1 hx with hx | hx
      ·exact za hdg x hx
      ·simp only [List.mem_singleton] at hx; subst hx; omega
     have e1 := wu64 (b : Int) (by omega) (by omega)
     generalize digN c = d at *
     clear hbad hsnN hsn hlk hnn hcc hit hit2 hpos0 hpos2 h3 h1 hW1 hvc hdI hdu
     go_wp2_with fail
     refine (za Hv _).mono ?_
     rintro e w1 ⟨rfl, rfl⟩
     go_wp2_with fail
     refine (xI n b d _ _ hown2 (by omega) (by omega) (by omega)).mono ?_
     rintro e w2 ⟨⟨v2, rfl, hv2⟩, hbw⟩
     have hlt3 : w.heap.size + 1 < w1.heap.size := by omega
     have Hit3 : Hid (w2.heap[w.heap.size + 1]? = some (.stringIter (B l) (pos + 1))) := by
      show _ = _
      rw [hbw.block _ hlt3]; exact za Hit2
     have Hp3 := hide (iterPos_of (za Hit3))
     have hob2 := Q6 hv2 hlt3
     have hbs := hbw.size
     go_wp2
     go_roundw
     case rel => exact ⟨pos + 1, by omega, za Hit3, by rw [za Hn]; exact hv2.nat, hob2, hb2.trans (hbw.mono hb2.size), by omega, Hdg2⟩
     case measure => rw [za Hp0, za Hp3]; omega
   ·have hb2 := Lib.below_iterAt hb (k := w.heap.size + 1) (by omega) (B l) (pos + (Utf8.decode (B l) pos).2)
    have hf := hbad (by omega)
    have Hf := hide hf
    generalize Utf8.decode (B l) pos = rw_ at *
    have hdI : digI (rw_.1 : Int) = 99 := by unfold digI; rw [if_neg (by omega), if_neg (by omega)]
    have hvc := fun w => YL (rw_.1 : Int) b w hb16
    rw [hdI, decide_eq_false (by omega)] at hvc
    have Hv := hide hvc
    clear hbad hf h1 h2 hit hpos0 hdI hvc
    go_wp2_with fail
    refine (za Hv _).mono ?_
    rintro e w1 ⟨rfl, rfl⟩
    go_wp2
    go_ret2
    refine ⟨⟨.slice (some ⟨(wr.iterAt (w.heap.size + 1) (B l) (pos + rw_.2)).heap.size, 0, none⟩) 0 0, by rw [za Hf]; rfl, ?_⟩, hb2.alloc hb2.size _⟩
    unfold natV
    rw [za Hf]
    exact yC _
  ·have hlt2 : ¬ pos < (B l).size := by rw [zi]; exact hlt
   have hnx := fun ty => Lib.run_next_end_at (P := Tryz.prog) wr (w.heap.size + 1) (B l) pos ty hit hlt2
   have htk : l.take pos = l := List.take_of_length_le (by omega)
   rw [htk] at hown
   have hall := za hdg
   rw [htk] at hall
   have hok : okN b l = !l.isEmpty := by
    cases l with
    | nil => rfl
    | cons c r => rw [Zk (by simp) hall]; rfl
   have hnv : natV b l = rdN b l := by
    unfold natV
    cases l with
    | nil => simp [rdN]
    | cons c r => rw [if_pos (Zk (by simp) hall)]
   have Hok := hide hok
   have Hnv := hide hnv
   clear hok hnv hall htk
   go_wp2
   go_ret2
   refine ⟨⟨u6, ?_, by rw [za Hnv]; exact hown⟩, hb⟩
   show Ending.returned (.tuple #[u6, .bool (!(B l).toList.isEmpty)]) = _
   rw [B_tl, za Hok]
theorem VL (p : Nat) : gr (10 ^ p) = (List.replicate (p / 9 + 1) 0).set (p / 9) (10 ^ (p % 9)) := by
 have hpow : 10 ^ (p % 9) ≤ 100000000 := by
  have : (10 : Nat) ^ (p % 9) ≤ 10 ^ 8 := Nat.pow_le_pow_right (by omega) (by omega)
  exact this
 have hpos : 10 ^ (p % 9) ≠ 0 := by have := Nat.pow_pos (n := p % 9) (show 0 < 10 by omega); omega
 have hset : (List.replicate (p / 9 + 1) 0).set (p / 9) (10 ^ (p % 9)) = List.replicate (p / 9) 0 ++ [10 ^ (p % 9)] := by
  rw [List.replicate_succ', List.set_append_right _ _ (by simp)]
  simp
 rw [hset]
 have h1 := j8 (List.replicate (p / 9) 0) (10 ^ (p % 9)) hpos
 have h2 : ∀ d ∈ List.replicate (p / 9) 0 ++ [10 ^ (p % 9)], d < 1000000000 := by
  intro d hd
  rcases List.mem_append.1 hd with h | h
  ·have := List.eq_of_mem_replicate h; omega
  ·simp only [List.mem_singleton] at h; omega
 have h3 := Vs h2
 rw [h1, zZ, z6, List.length_replicate, xr, Nat.zero_add] at h3
 exact h3.symm
theorem Vc (p : Nat) (w : World) (hp : p ≤ 10000) (hT : Tens w) :
  Calls Tryz.prog 181 #[.int .i64 p] w fun e w' => (∃ v', e = .returned v' ∧ isNat w' v' (10 ^ p)) ∧ Below w.heap.size w w' := by
 obtain ⟨i0, hi, hz0, hz1, hz2⟩ := info_parts Tryz.infoU64
 obtain ⟨q, hq⟩ : ∃ q, p / 9 = q := ⟨_, rfl⟩
 obtain ⟨r, hr⟩ : ∃ r, p % 9 = r := ⟨_, rfl⟩
 have hG : (p : Int) / 9 + 1 = ((q + 1 : Nat) : Int) := by omega
 have e1 : (p : Int).tdiv 9 = q := by rw [Int.tdiv_eq_ediv_of_nonneg (by omega)]; omega
 have e2 : (p : Int).tmod 9 = r := by rw [Int.tmod_eq_emod_of_nonneg (by omega)]; omega
 have e3 := wi64 (q : Int) (by omega) (by omega)
 have hg := VL p
 rw [hq, hr] at hg
 obtain ⟨t, ht⟩ : ∃ t, 10 ^ r = t := ⟨_, rfl⟩
 rw [ht] at hg
 have Hg := hide hg
 have HT := hide hT
 clear hg hT
 go_enter Tryz.func181, Tryz.ntmps181
 go_wp2_with (refine wpList_make_full _ rfl (.tmp 6) (.tmp 6) 178 rfl w.heap.size 173 i0 (.int .u64 0) 1 Tryz.underlying178 hi hz0 hz1 .i64 .i64 (q + 1) (q + 1) (q + 1) rfl rfl (by go_num) (by go_num) (by rw [hz2]; omega) (by unfold maxLen; omega) (Nat.le_refl _) ?_; intro w1 hown1 hg1; have hown0 : w1.ownsRow w.heap.size 173 1 (.slice (some ⟨w.heap.size, 0, none⟩) (q + 1) (q + 1)) (q + 1) (u64s (List.replicate (q + 1) 0)) := (by simpa [Value.cells, toList_madeCells_one, qE] using hown1); have hb1 : Below w.heap.size w w1 := (Below.refl _ _).grown hg1 (Nat.le_refl _) (fun _ h => by cases h); have hT2 := ((za HT).belowB hb1 (za HT).lt) r (by omega); rw [ht] at hT2; have hcx : w1.cell? ⟨w.heap.size, q, none⟩ = some (.int .u64 0) := (by have h := hown0.cellAt q (by omega); rw [zx _ _ (by simp)] at h; simpa using h); have hfr := hown0.frozenAt q; have hst2 := hown0.stored q (.int .u64 (t : Int)); rw [qS _ _ t _ rfl, ← za Hg] at hst2; have Hst2 := hide hst2; clear hst2 hown1 hg1)
 go_ret
 refine ⟨⟨_, rfl, ?_⟩, hb1.setCell (by simp) _⟩
 have h1 := (za Hst2).1
 unfold isNat
 have hl : (gr (10 ^ p)).length = q + 1 := by rw [za Hg]; simp
 rw [hl]
 exact zK h1 (Nat.zero_le _)
def zY (b : Nat) (l : List UInt8) : Nat × Nat × Bool :=
 match findB 47 l with
 | some k => (natV b (l.take k), natV b (l.drop (k + 1)), okN b (l.take k) && okN b (l.drop (k + 1)))
 | none => match findB 46 l with
  | some k => if b = 10 then (natV 10 (l.take k ++ l.drop (k + 1)), 10 ^ (l.drop (k + 1)).length, okN 10 (l.take k ++ l.drop (k + 1))) else (0, 0, false)
  | none => (natV b l, 1, okN b l)
theorem KE {c : UInt8} : ∀ {l : List UInt8} {k : Nat}, findB c l = some k → l[k]? = some c := by
 intro l
 induction l with
 | nil => intro k h; simp [findB] at h
 | cons d r ih =>
  intro k h
  simp only [findB] at h
  split at h
  ·rename_i hd; simp at h; subst h; simp [hd]
  ·cases hr : findB c r with
   | none => rw [hr] at h; simp at h
   | some j => rw [hr] at h; simp at h; subst h; simpa using ih hr
theorem yE (neg : Bool) (u : Nat) : zE neg u 0 = none := by simp [zE]
theorem y5 (neg : Bool) {b : Nat} (hb : b ≤ 16) (l : List UInt8) : bodyM neg b l = if (zY b l).2.2 then zE neg (zY b l).1 (zY b l).2.1 else none := by
 unfold bodyM zY
 cases h47 : findB 47 l with
 | some k =>
  show overM neg b _ _ = if (okN b _ && okN b _) = true then zE neg (natV b _) (natV b _) else none
  unfold overM
  by_cases h : (okN b (l.take k) && okN b (l.drop (k + 1))) = true
  ·rw [if_pos h, if_pos h]
   simp only [Bool.and_eq_true] at h
   unfold natV
   rw [if_pos h.1, if_pos h.2]
  ·rw [if_neg h, if_neg h]
 | none =>
  cases h46 : findB 46 l with
  | some k =>
   by_cases h10 : b = 10
   ·simp only [h10, if_true]
    unfold jt natV
    by_cases h : okN 10 (l.take k ++ l.drop (k + 1)) = true
    ·rw [if_pos h, if_pos h, if_pos h]
    ·rw [if_neg h, if_neg h]
   ·simp only [h10, if_false]
    unfold jw
    have hlt := je h46
    have hg := KE h46
    rw [List.getElem?_eq_getElem hlt] at hg
    have hc : l[k] = 46 := by simpa using hg
    rw [QX k hlt (by rw [hc]; show b ≤ 99; omega)]
    rfl
  | none =>
   show jw neg b l = if okN b l = true then zE neg (natV b l) 1 else none
   unfold jw natV
   by_cases h : okN b l = true
   ·rw [if_pos h, if_pos h, if_pos h]
   ·rw [if_neg h, if_neg h]
theorem yp (l : List UInt8) (b : Nat) (w : World) (hb2 : 2 ≤ b) (hb16 : b ≤ 16) (hs : l.length ≤ 1000) (hT : Tens w) :
  Calls Tryz.prog 157 #[.int .i64 b, .string (B l)] w fun e w' => (∃ vu vd, e = .returned (.tuple #[vu, vd, .bool (zY b l).2.2]) ∧ isNat w' vu (zY b l).1 ∧ isNat w' vd (zY b l).2.1) ∧ Below w.heap.size w w' := by
 have HT := hide hT
 clear hT
 have hc := fun w => cut_c l 47 w (by omega)
 unfold cutM at hc
 unfold zY
 cases h47 : findB 47 l with
 | some k =>
  rw [h47] at hc
  dsimp only at hc
  have Hc := hide hc
  have hl1 : (l.take k).length ≤ 10000 := by rw [List.length_take]; omega
  have hl2 : (l.drop (k + 1)).length ≤ 10000 := by rw [List.length_drop]; omega
  dsimp only
  generalize l.take k = x at *
  generalize l.drop (k + 1) = y at *
  clear hc h47
  go_enter Tryz.func157, Tryz.ntmps157
  go_wp2_with fail
  refine (za Hc _).mono ?_
  rintro e w1 ⟨rfl, hb1⟩
  go_wp2_with fail
  have h := Q9 x b w1 hb2 hb16 hl1
  refine h.mono ?_
  clear h
  rintro e w2 ⟨⟨v2, rfl, hv2⟩, hbb2⟩
  clear Hc
  have hb2w := hb1.trans (hbb2.mono hb1.size)
  have Hv2 := hide hv2
  clear hv2
  go_wp2_with fail
  have h := Q9 y b w2 hb2 hb16 hl2
  refine h.mono ?_
  clear h
  rintro e w3 ⟨⟨v3, rfl, hv3⟩, hbb3⟩
  have hb3w := hb2w.trans (hbb3.mono hb2w.size)
  have Hv3 := hide hv3
  have Hv2' := hide (zo (za Hv2) hbb3)
  clear hv3
  cases hx : okN b x with
  | true =>
   go_wp2
   go_ret3
   exact ⟨⟨v2, v3, by rw [hx]; rfl, za Hv2', za Hv3⟩, hb3w⟩
  | false =>
   go_wp2
   go_ret3
   exact ⟨⟨v2, v3, by rw [hx]; rfl, za Hv2', za Hv3⟩, hb3w⟩
 | none =>
  rw [h47] at hc
  have Hc := hide hc
  have hc2 := fun w => cut_c l 46 w (by omega)
  unfold cutM at hc2
  cases h46 : findB 46 l with
  | some k =>
   rw [h46] at hc2
   dsimp only at hc hc2
   have Hc2 := hide hc2
   by_cases h10 : b = 10
   ·subst h10
    have hl1 : (l.take k ++ l.drop (k + 1)).length ≤ 10000 := by rw [List.length_append, List.length_take, List.length_drop]; omega
    have hly : (l.drop (k + 1)).length ≤ 1000 := by rw [List.length_drop]; omega
    have hlx : (l.take k).length ≤ 1000 := by rw [List.length_take]; omega
    dsimp only
    rw [if_pos rfl]
    generalize l.take k = x at *
    generalize l.drop (k + 1) = y at *
    have hap := zN x y
    have hszx : ¬ 9223372036854775807 < (B x).size + (B y).size := by rw [zi, zi]; omega
    have hszy : ((B y).size : Int) = (y.length : Int) := by rw [zi]
    clear hc hc2 h47 h46
    go_enter Tryz.func157, Tryz.ntmps157
    go_wp2_with fail
    refine (za Hc _).mono ?_
    rintro e w1 ⟨rfl, hb1⟩
    go_wp2_with fail
    refine (za Hc2 _).mono ?_
    rintro e w2 ⟨rfl, hbb2⟩
    have hb2w := hb1.trans (hbb2.mono hb1.size)
    clear Hc Hc2 hbb2
    go_wp2_with fail
    have h := Q9 (x ++ y) 10 w2 (by omega) (by omega) hl1
    refine h.mono ?_
    clear h
    rintro e w3 ⟨⟨v3, rfl, hv3⟩, hbb3⟩
    have hb3w := hb2w.trans (hbb3.mono hb2w.size)
    have Hv3 := hide hv3
    clear hv3
    go_wp2_with fail
    have h := Vc y.length w3 (by omega) ((za HT).below hb3w)
    refine h.mono ?_
    clear h
    rintro e w4 ⟨⟨v4, rfl, hv4⟩, hbb4⟩
    have hb4w := hb3w.trans (hbb4.mono hb3w.size)
    have Hv4 := hide hv4
    have Hv3' := hide (zo (za Hv3) hbb4)
    clear hv4
    go_wp2
    go_ret3
    exact ⟨⟨v3, v4, rfl, za Hv3', za Hv4⟩, hb4w⟩
   ·have hnb : ((b : Int) == 10) = false := by rw [beq_eq_false_iff_ne]; omega
    dsimp only
    rw [if_neg h10]
    generalize l.take k = x at *
    generalize l.drop (k + 1) = y at *
    clear hc hc2 h47 h46
    go_enter Tryz.func157, Tryz.ntmps157
    go_wp2_with fail
    refine (za Hc _).mono ?_
    rintro e w1 ⟨rfl, hb1⟩
    go_wp2_with fail
    refine (za Hc2 _).mono ?_
    rintro e w2 ⟨rfl, hbb2⟩
    have hb2w := hb1.trans (hbb2.mono hb1.size)
    clear Hc Hc2 hbb2
    go_wp2
    go_ret3
    refine ⟨⟨.slice (some ⟨w2.heap.size, 0, none⟩) 0 0, .slice (some ⟨w2.heap.size + 1, 0, none⟩) 0 0, rfl, ?_, ?_⟩, ?_⟩
    ·exact zo (yC w2) ((Below.refl _ _).alloc (Nat.le_refl _) _)
    ·have h := yC (w2.alloc (.cells #[] 173))
     simpa using h
    ·exact (hb2w.alloc hb2w.size _).alloc (by have := hb2w.size; simp; omega) _
  | none =>
   rw [h46] at hc2
   dsimp only at hc hc2
   have Hc2 := hide hc2
   have hap : B l ++ B [] = B l := by rw [zN, List.append_nil]
   have hszx : ¬ 9223372036854775807 < (B l).size + (B []).size := by rw [zi, zi]; simp; omega
   have hszy : ((B []).size : Int) = ((0 : Nat) : Int) := rfl
   clear hc hc2 h47 h46
   go_enter Tryz.func157, Tryz.ntmps157
   go_wp2_with fail
   refine (za Hc _).mono ?_
   rintro e w1 ⟨rfl, hb1⟩
   go_wp2_with fail
   refine (za Hc2 _).mono ?_
   rintro e w2 ⟨rfl, hbb2⟩
   have hb2w := hb1.trans (hbb2.mono hb1.size)
   clear Hc Hc2 hbb2
   go_wp2_with fail
   have h := Q9 l b w2 (by omega) (by omega) (by omega)
   refine h.mono ?_
   clear h
   rintro e w3 ⟨⟨v3, rfl, hv3⟩, hbb3⟩
   have hb3w := hb2w.trans (hbb3.mono hb2w.size)
   have Hv3 := hide hv3
   clear hv3
   go_wp2_with fail
   have h := Vc 0 w3 (by omega) ((za HT).below hb3w)
   refine h.mono ?_
   clear h
   rintro e w4 ⟨⟨v4, rfl, hv4⟩, hbb4⟩
   have hb4w := hb3w.trans (hbb4.mono hb3w.size)
   have Hv4 := hide hv4
   have Hv3' := hide (zo (za Hv3) hbb4)
   clear hv4
   go_wp2
   go_ret3
   exact ⟨⟨v3, v4, rfl, za Hv3', za Hv4⟩, hb4w⟩
theorem xT {b : Nat} (hb : b ≤ 16) (l : List UInt8) : (gr (natV b l)).length ≤ 2 * l.length + 1 := by
 unfold natV
 by_cases h : okN b l = true
 ·rw [if_pos h]; exact jS (jL hb h)
 ·rw [if_neg h, ji]; simp
theorem x7 {b : Nat} (hb : b ≤ 16) (l : List UInt8) (hl : l.length ≤ 240) : (gr (zY b l).1).length ≤ 1000 ∧ (gr (zY b l).2.1).length ≤ 1000 := by
 unfold zY
 cases h47 : findB 47 l with
 | some k =>
  dsimp only
  refine ⟨Nat.le_trans (xT hb _) ?_, Nat.le_trans (xT hb _) ?_⟩
  ·rw [List.length_take]; omega
  ·rw [List.length_drop]; omega
 | none =>
  cases h46 : findB 46 l with
  | some k =>
   dsimp only
   by_cases h10 : b = 10
   ·rw [if_pos h10]
    refine ⟨Nat.le_trans (xT (by omega) _) ?_, ?_⟩
    ·rw [List.length_append, List.length_take, List.length_drop]; omega
    ·rw [VL, List.length_set, List.length_replicate, List.length_drop]; omega
   ·rw [if_neg h10, ji]; simp
  | none =>
   dsimp only
   refine ⟨Nat.le_trans (xT hb _) (by omega), ?_⟩
   have := VL 0
   rw [Nat.pow_zero] at this
   rw [this, List.length_set, List.length_replicate]; omega
theorem vt (l : List UInt8) (b : Nat) (w : World) (hb4 : b = 2 ∨ b = 8 ∨ b = 10 ∨ b = 16) (hl : l.length ≤ 240) (h45 : (l.head? == some 45) = false) (h43 : (l.head? == some 43) = false) (hT : Tens w) :
  Calls Tryz.prog 128 #[.string (B l), .int .i64 b] w fun e w' => e = .returned (zg (zu l b)) ∧ Below w.heap.size w w' := by
 have hr : zJ (b : Int) = true := by rcases hb4 with rfl | rfl | rfl | rfl <;> rfl
 have Hm : Hid (zu l (b : Int) = bodyM false b l) := by
  show _ = _
  rw [jz l b hb4 hl]
  cases l with
  | nil => rfl
  | cons c t =>
   show (if c = 45 then bodyM true b t else if c = 43 then bodyM false b t else bodyM false b (c :: t)) = _
   rw [if_neg (by simpa using h45), if_neg (by simpa using h43)]
 have hsz : ¬ (240 : Int) < ((B l).size : Int) := by rw [zi]; omega
 have h1 := fun w => vr (b : Int) w
 have h2 := fun w => yH l 45 w
 have h3 := fun w => yH l 43 w
 rw [hr] at h1
 rw [h45] at h2
 rw [h43] at h3
 have H1 := hide h1
 have H2 := hide h2
 have H3 := hide h3
 have HT := hide hT
 clear h1 h2 h3 hT hr h45 h43
 go_enter Tryz.func128, Tryz.ntmps128
 go_wp2_with fail
 refine (za H1 _).mono ?_
 rintro e w1 ⟨rfl, rfl⟩
 go_wp2_with fail
 refine (za H2 _).mono ?_
 rintro e w1 ⟨rfl, rfl⟩
 go_wp2_with fail
 refine (za H3 _).mono ?_
 rintro e w1 ⟨rfl, rfl⟩
 clear H1 H2 H3
 have Hpb : Hid (zu l (b : Int) = if (zY b l).2.2 then zE false (zY b l).1 (zY b l).2.1 else none) := hide ((za Hm).trans (y5 false (by omega) l))
 have hgs := x7 (b := b) (by omega) l (by omega)
 clear Hm
 go_wp2_with fail
 have h := yp l b (w.alloc (.cells #[.bool false, .string ⟨#[]⟩, .string ⟨#[]⟩] 79)) (by omega) (by omega) (by omega) ((za HT).below ((Below.refl _ _).alloc (Nat.le_refl _) _))
 refine h.mono ?_
 clear h
 rintro e w2 ⟨⟨vu, vd, rfl, hvu, hvd⟩, hb2⟩
 have hb0 := zn hb2
 have hz0 : w.heap.size + 1 ≤ w2.heap.size := by have := hb2.size; simpa using this
 have HT2 := hide ((za HT).below (zm hb0))
 generalize (zY b l).1 = pu at *
 generalize (zY b l).2.1 = pd at *
 generalize (zY b l).2.2 = po at *
 obtain ⟨pp, cp, hvs⟩ := zt hvd
 subst hvs
 have Hvu := hide hvu
 have Hvd := hide hvd
 clear hvu hvd hb2
 cases po with
 | false =>
  have c0 := zb hb0 0
  have c1 := zb hb0 1
  have c2 := zb hb0 2
  have f0 := zh hb0 0
  have f1 := zh hb0 1
  have f2 := zh hb0 2
  have hbX := zm hb0
  simp at c0 c1 c2
  clear hb0
  go_wp2
  refine bodyPost_ret (v := zg none) (by simp [results, Tryz.results128, go_sem, zg, numO, noNum, numV, c0, c1, c2]) rfl ⟨by rw [za Hpb]; rfl, ?_⟩
  exact zq hbX _ (Nat.le_refl _) _ _ _
 | true =>
  by_cases hd : pd = 0
  ·have hl0 : (((gr pd).length : Int) == 0) = true := by rw [hd, ji]; rfl
   have Hf : Hid (zu l (b : Int) = none) := by show _ = _; rw [za Hpb, hd, if_pos rfl, yE]
   clear hd
   have c0 := zb hb0 0
   have c1 := zb hb0 1
   have c2 := zb hb0 2
   have f0 := zh hb0 0
   have f1 := zh hb0 1
   have f2 := zh hb0 2
   have hbX := zm hb0
   simp at c0 c1 c2
   clear hb0
   go_wp2
   refine bodyPost_ret (v := zg none) (by simp [results, Tryz.results128, go_sem, zg, numO, noNum, numV, c0, c1, c2]) rfl ⟨by rw [za Hf], ?_⟩
   exact zq hbX _ (Nat.le_refl _) _ _ _
  ·have hl0 : (((gr pd).length : Int) == 0) = false := by rw [beq_eq_false_iff_ne]; have := mt vY.1 hd; omega
   have Hov2 : Hid (zu l (b : Int) = zE false pu pd) := by show _ = _; rw [za Hpb, if_pos rfl]
   have hdp : 0 < pd := by omega
   clear hd
   go_wp2_with fail
   have h := yF false pu pd vu _ w2 (za Hvu) (za Hvd) hdp (by omega) (by omega) (za HT2)
   refine h.mono ?_
   clear h
   rintro e w3 ⟨rfl, hb3⟩
   have hn3 := zk hb0 hz0 hb3
   have c0 := zb hn3.1 0
   have c1 := zb hn3.1 1
   have c2 := zb hn3.1 2
   have f0 := zh hn3.1 0
   have f1 := zh hn3.1 1
   have f2 := zh hn3.1 2
   have hbX := zm hn3.1
   simp at c0 c1 c2
   clear hb3 hb0 hn3 hl0 hdp
   generalize zE false pu pd = o at *
   unfold zg
   obtain ⟨n3, u3, d3, ho⟩ : ∃ n3 u3 d3, numO o = numV n3 u3 d3 := by
    cases o with
    | none => exact ⟨_, _, _, rfl⟩
    | some p => exact ⟨_, _, _, rfl⟩
   have Ho := hide ho
   rw [ho]
   unfold numV
   clear ho
   go_wp2
   refine bodyPost_ret (v := zg o) (by simp [results, Tryz.results128, go_sem, zg, za Ho, numV, c0, c1, c2]) rfl ⟨by rw [za Hov2], ?_⟩
   exact zq hbX _ (Nat.le_refl _) _ _ _
theorem kd (t : List UInt8) (b : Nat) (w : World) (hb4 : b = 2 ∨ b = 8 ∨ b = 10 ∨ b = 16) (hlen : (45 :: t).length ≤ 240) (hT : Tens w) :
  Calls Tryz.prog 128 #[.string (B (45 :: t)), .int .i64 b] w fun e w' => e = .returned (zg (zu (45 :: t) b)) ∧ Below w.heap.size w w' := by
 have hr : zJ (b : Int) = true := by rcases hb4 with rfl | rfl | rfl | rfl <;> rfl
 obtain ⟨l, hl⟩ : ∃ l : List UInt8, l = 45 :: t := ⟨_, rfl⟩
 rw [← hl]
 rw [← hl] at hlen
 have Hm : Hid (zu l (b : Int) = bodyM true b t) := by
  show _ = _
  rw [jz l b hb4 hlen, hl]
  rfl
 have htl : t.length ≤ 240 := by rw [hl] at hlen; simp at hlen; omega
 have hsz : ¬ (240 : Int) < ((B l).size : Int) := by rw [zi]; omega
 have hcut : (B l).extract 1 (B l).size = B t := by rw [zW, zi, List.take_length, hl]; rfl
 have hszp : (1 : Int) ≤ ((B l).size : Int) := by rw [zi, hl]; simp; omega
 have h1 := fun w => vr (b : Int) w
 have h2 := fun w => yH l 45 w
 rw [hr] at h1
 rw [show (l.head? == some 45) = true from by rw [hl]; rfl] at h2
 have H1 := hide h1
 have H2 := hide h2
 have HT := hide hT
 clear h1 h2  hT hr hl
 go_enter Tryz.func128, Tryz.ntmps128
 go_wp2_with fail
 refine (za H1 _).mono ?_
 rintro e w1 ⟨rfl, rfl⟩
 go_wp2_with fail
 refine (za H2 _).mono ?_
 rintro e w1 ⟨rfl, rfl⟩
 clear H1 H2
 have Hpb : Hid (zu l (b : Int) = if (zY b t).2.2 then zE true (zY b t).1 (zY b t).2.1 else none) := hide ((za Hm).trans (y5 true (by omega) t))
 have hgs := x7 (b := b) (by omega) t (by omega)
 clear Hm
 go_wp2_with fail
 have h := yp t b (w.alloc (.cells #[.bool false, .string ⟨#[]⟩, .string ⟨#[]⟩] 79)) (by omega) (by omega) (by omega) ((za HT).below ((Below.refl _ _).alloc (Nat.le_refl _) _))
 refine h.mono ?_
 clear h
 rintro e w2 ⟨⟨vu, vd, rfl, hvu, hvd⟩, hb2⟩
 have hb0 := zn hb2
 have hz0 : w.heap.size + 1 ≤ w2.heap.size := by have := hb2.size; simpa using this
 have HT2 := hide ((za HT).below (zm hb0))
 generalize (zY b t).1 = pu at *
 generalize (zY b t).2.1 = pd at *
 generalize (zY b t).2.2 = po at *
 obtain ⟨pp, cp, hvs⟩ := zt hvd
 subst hvs
 have Hvu := hide hvu
 have Hvd := hide hvd
 clear hvu hvd hb2
 cases po with
 | false =>
  have c0 := zb hb0 0
  have c1 := zb hb0 1
  have c2 := zb hb0 2
  have f0 := zh hb0 0
  have f1 := zh hb0 1
  have f2 := zh hb0 2
  have hbX := zm hb0
  simp at c0 c1 c2
  clear hb0
  go_wp2
  refine bodyPost_ret (v := zg none) (by simp [results, Tryz.results128, go_sem, zg, numO, noNum, numV, c0, c1, c2]) rfl ⟨by rw [za Hpb]; rfl, ?_⟩
  exact zq hbX _ (Nat.le_refl _) _ _ _
 | true =>
  by_cases hd : pd = 0
  ·have hl0 : (((gr pd).length : Int) == 0) = true := by rw [hd, ji]; rfl
   have Hf : Hid (zu l (b : Int) = none) := by show _ = _; rw [za Hpb, hd, if_pos rfl, yE]
   clear hd
   have c0 := zb hb0 0
   have c1 := zb hb0 1
   have c2 := zb hb0 2
   have f0 := zh hb0 0
   have f1 := zh hb0 1
   have f2 := zh hb0 2
   have hbX := zm hb0
   simp at c0 c1 c2
   clear hb0
   go_wp2
   refine bodyPost_ret (v := zg none) (by simp [results, Tryz.results128, go_sem, zg, numO, noNum, numV, c0, c1, c2]) rfl ⟨by rw [za Hf], ?_⟩
   exact zq hbX _ (Nat.le_refl _) _ _ _
  ·have hl0 : (((gr pd).length : Int) == 0) = false := by rw [beq_eq_false_iff_ne]; have := mt vY.1 hd; omega
   have Hov2 : Hid (zu l (b : Int) = zE true pu pd) := by show _ = _; rw [za Hpb, if_pos rfl]
   have hdp : 0 < pd := by omega
   clear hd
   go_wp2_with fail
   have h := yF true pu pd vu _ w2 (za Hvu) (za Hvd) hdp (by omega) (by omega) (za HT2)
   refine h.mono ?_
   clear h
   rintro e w3 ⟨rfl, hb3⟩
   have hn3 := zk hb0 hz0 hb3
   have c0 := zb hn3.1 0
   have c1 := zb hn3.1 1
   have c2 := zb hn3.1 2
   have f0 := zh hn3.1 0
   have f1 := zh hn3.1 1
   have f2 := zh hn3.1 2
   have hbX := zm hn3.1
   simp at c0 c1 c2
   clear hb3 hb0 hn3 hl0 hdp
   generalize zE true pu pd = o at *
   unfold zg
   obtain ⟨n3, u3, d3, ho⟩ : ∃ n3 u3 d3, numO o = numV n3 u3 d3 := by
    cases o with
    | none => exact ⟨_, _, _, rfl⟩
    | some p => exact ⟨_, _, _, rfl⟩
   have Ho := hide ho
   rw [ho]
   unfold numV
   clear ho
   go_wp2
   refine bodyPost_ret (v := zg o) (by simp [results, Tryz.results128, go_sem, zg, za Ho, numV, c0, c1, c2]) rfl ⟨by rw [za Hov2], ?_⟩
   exact zq hbX _ (Nat.le_refl _) _ _ _
theorem kx (t : List UInt8) (b : Nat) (w : World) (hb4 : b = 2 ∨ b = 8 ∨ b = 10 ∨ b = 16) (hlen : (43 :: t).length ≤ 240) (hT : Tens w) :
  Calls Tryz.prog 128 #[.string (B (43 :: t)), .int .i64 b] w fun e w' => e = .returned (zg (zu (43 :: t) b)) ∧ Below w.heap.size w w' := by
 have hr : zJ (b : Int) = true := by rcases hb4 with rfl | rfl | rfl | rfl <;> rfl
 obtain ⟨l, hl⟩ : ∃ l : List UInt8, l = 43 :: t := ⟨_, rfl⟩
 rw [← hl]
 rw [← hl] at hlen
 have Hm : Hid (zu l (b : Int) = bodyM false b t) := by
  show _ = _
  rw [jz l b hb4 hlen, hl]
  rfl
 have htl : t.length ≤ 240 := by rw [hl] at hlen; simp at hlen; omega
 have hsz : ¬ (240 : Int) < ((B l).size : Int) := by rw [zi]; omega
 have hcut : (B l).extract 1 (B l).size = B t := by rw [zW, zi, List.take_length, hl]; rfl
 have hszp : (1 : Int) ≤ ((B l).size : Int) := by rw [zi, hl]; simp; omega
 have h1 := fun w => vr (b : Int) w
 have h2 := fun w => yH l 45 w
 have h3 := fun w => yH l 43 w
 rw [hr] at h1
 rw [show (l.head? == some 45) = false from by rw [hl]; rfl] at h2
 rw [show (l.head? == some 43) = true from by rw [hl]; rfl] at h3
 have H1 := hide h1
 have H2 := hide h2
 have H3 := hide h3
 have HT := hide hT
 clear h1 h2 h3 hT hr hl
 go_enter Tryz.func128, Tryz.ntmps128
 go_wp2_with fail
 refine (za H1 _).mono ?_
 rintro e w1 ⟨rfl, rfl⟩
 go_wp2_with fail
 refine (za H2 _).mono ?_
 rintro e w1 ⟨rfl, rfl⟩
 go_wp2_with fail
 refine (za H3 _).mono ?_
 rintro e w1 ⟨rfl, rfl⟩
 clear H1 H2 H3
 have Hpb : Hid (zu l (b : Int) = if (zY b t).2.2 then zE false (zY b t).1 (zY b t).2.1 else none) := hide ((za Hm).trans (y5 false (by omega) t))
 have hgs := x7 (b := b) (by omega) t (by omega)
 clear Hm
 go_wp2_with fail
 have h := yp t b (w.alloc (.cells #[.bool false, .string ⟨#[]⟩, .string ⟨#[]⟩] 79)) (by omega) (by omega) (by omega) ((za HT).below ((Below.refl _ _).alloc (Nat.le_refl _) _))
 refine h.mono ?_
 clear h
 rintro e w2 ⟨⟨vu, vd, rfl, hvu, hvd⟩, hb2⟩
 have hb0 := zn hb2
 have hz0 : w.heap.size + 1 ≤ w2.heap.size := by have := hb2.size; simpa using this
 have HT2 := hide ((za HT).below (zm hb0))
 generalize (zY b t).1 = pu at *
 generalize (zY b t).2.1 = pd at *
 generalize (zY b t).2.2 = po at *
 obtain ⟨pp, cp, hvs⟩ := zt hvd
 subst hvs
 have Hvu := hide hvu
 have Hvd := hide hvd
 clear hvu hvd hb2
 cases po with
 | false =>
  have c0 := zb hb0 0
  have c1 := zb hb0 1
  have c2 := zb hb0 2
  have f0 := zh hb0 0
  have f1 := zh hb0 1
  have f2 := zh hb0 2
  have hbX := zm hb0
  simp at c0 c1 c2
  clear hb0
  go_wp2
  refine bodyPost_ret (v := zg none) (by simp [results, Tryz.results128, go_sem, zg, numO, noNum, numV, c0, c1, c2]) rfl ⟨by rw [za Hpb]; rfl, ?_⟩
  exact zq hbX _ (Nat.le_refl _) _ _ _
 | true =>
  by_cases hd : pd = 0
  ·have hl0 : (((gr pd).length : Int) == 0) = true := by rw [hd, ji]; rfl
   have Hf : Hid (zu l (b : Int) = none) := by show _ = _; rw [za Hpb, hd, if_pos rfl, yE]
   clear hd
   have c0 := zb hb0 0
   have c1 := zb hb0 1
   have c2 := zb hb0 2
   have f0 := zh hb0 0
   have f1 := zh hb0 1
   have f2 := zh hb0 2
   have hbX := zm hb0
   simp at c0 c1 c2
   clear hb0
   go_wp2
   refine bodyPost_ret (v := zg none) (by simp [results, Tryz.results128, go_sem, zg, numO, noNum, numV, c0, c1, c2]) rfl ⟨by rw [za Hf], ?_⟩
   exact zq hbX _ (Nat.le_refl _) _ _ _
  ·have hl0 : (((gr pd).length : Int) == 0) = false := by rw [beq_eq_false_iff_ne]; have := mt vY.1 hd; omega
   have Hov2 : Hid (zu l (b : Int) = zE false pu pd) := by show _ = _; rw [za Hpb, if_pos rfl]
   have hdp : 0 < pd := by omega
   clear hd
   go_wp2_with fail
   have h := yF false pu pd vu _ w2 (za Hvu) (za Hvd) hdp (by omega) (by omega) (za HT2)
   refine h.mono ?_
   clear h
   rintro e w3 ⟨rfl, hb3⟩
   have hn3 := zk hb0 hz0 hb3
   have c0 := zb hn3.1 0
   have c1 := zb hn3.1 1
   have c2 := zb hn3.1 2
   have f0 := zh hn3.1 0
   have f1 := zh hn3.1 1
   have f2 := zh hn3.1 2
   have hbX := zm hn3.1
   simp at c0 c1 c2
   clear hb3 hb0 hn3 hl0 hdp
   generalize zE false pu pd = o at *
   unfold zg
   obtain ⟨n3, u3, d3, ho⟩ : ∃ n3 u3 d3, numO o = numV n3 u3 d3 := by
    cases o with
    | none => exact ⟨_, _, _, rfl⟩
    | some p => exact ⟨_, _, _, rfl⟩
   have Ho := hide ho
   rw [ho]
   unfold numV
   clear ho
   go_wp2
   refine bodyPost_ret (v := zg o) (by simp [results, Tryz.results128, go_sem, zg, za Ho, numV, c0, c1, c2]) rfl ⟨by rw [za Hov2], ?_⟩
   exact zq hbX _ (Nat.le_refl _) _ _ _
theorem xN (l : List UInt8) (r : Int) (w : World) (hs : l.length ≤ 1000000000) (h : zJ r = false ∨ 240 < l.length) :
  Calls Tryz.prog 128 #[.string (B l), .int .i64 r] w fun e w' => e = .returned (zg (zu l r)) ∧ Below w.heap.size w w' := by
 rw [Qt l r h]
 have hsz : (B l).size ≤ 1000000000 := by rw [zi]; exact hs
 by_cases hr : zJ r = false
 ·clear h
  go_enter Tryz.func128, Tryz.ntmps128
  go_wp2_with fail
  refine (vr r _).mono ?_
  rintro e w1 ⟨rfl, rfl⟩
  rw [hr]
  go_wp2
  refine bodyPost_ret (v := zg none) (by simp [results, Tryz.results128, go_sem, zg, numO, noNum, numV]) rfl ⟨rfl, ?_⟩
  exact (Below.refl _ _).alloc (Nat.le_refl _) _
 ·have hr' : zJ r = true := by simpa using hr
  have hl : (240 : Int) < ((B l).size : Int) := by rw [zi]; rcases h with h | h; exact absurd h hr; omega
  clear h hr
  go_enter Tryz.func128, Tryz.ntmps128
  go_wp2_with fail
  refine (vr r _).mono ?_
  rintro e w1 ⟨rfl, rfl⟩
  rw [hr']
  go_wp2
  refine bodyPost_ret (v := zg none) (by simp [results, Tryz.results128, go_sem, zg, numO, noNum, numV]) rfl ⟨rfl, ?_⟩
  exact (Below.refl _ _).alloc (Nat.le_refl _) _
theorem vh (l : List UInt8) (r : Int) (w : World) (hs : l.length ≤ 1000000000) (hT : Tens w) :
  Calls Tryz.prog 128 #[.string (B l), .int .i64 r] w fun e w' => e = .returned (zg (zu l r)) ∧ Below w.heap.size w w' := by
 by_cases h : zJ r = false ∨ 240 < l.length
 ·exact xN l r w hs h
 ·have hr : zJ r = true := by
   cases hh : zJ r with
   | true => rfl
   | false => exact absurd (.inl hh) h
  have hl : l.length ≤ 240 := by
   apply Decidable.byContradiction
   intro hh
   exact h (.inr (by omega))
  obtain ⟨b, rfl, hb4⟩ := jN hr
  cases l with
  | nil => exact vt [] b w hb4 hl rfl rfl hT
  | cons c t =>
   by_cases h45 : c = 45
   ·subst h45; exact kd t b w hb4 hl hT
   ·by_cases h43 : c = 43
    ·subst h43; exact kx t b w hb4 hl hT
    ·exact vt (c :: t) b w hb4 hl (by simpa using h45) (by simpa using h43) hT
end Go.Proofs.YtpbnmhnbkfnaeaaGreatDoor
