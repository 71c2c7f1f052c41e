/- A part of the proof, put together out of smaller texts. -/
import Derived.Test.YtpbnmhnbkfnaeaaGreatDoorM11
set_option linter.all false
set_option maxRecDepth 100000
set_option maxHeartbeats 32000000
namespace Go.Proofs.YtpbnmhnbkfnaeaaGreatDoor
open Go.RowKit Nt
theorem zae {α : Type} {r : α → α → Int} (f : Nat) (b : List α) : mrg r f [] b = b := by cases f <;> simp [mrg]
theorem XM {α : Type} {r : α → α → Int} (f : Nat) (a : List α) : mrg r f a [] = a := by
 cases f with
 | zero => simp [mrg]
 | succ f => cases a <;> simp [mrg]
theorem Xw (w : World) (n : Nat) (hn : n ≤ maxLen) : RowI (w.alloc (.cells (madeCells #[.int .i64 0] n) 3)) w.heap.size (.slice (some ⟨w.heap.size, 0, none⟩) 0 n) [] :=
 ⟨rfl, .inr ⟨w.heap.size, n, _, rfl, Nat.le_refl _, heap_alloc_new w _, Nat.zero_le _, hn, by
  have h : (madeCells #[Value.int .i64 0] n).toList.length = n := by rw [toList_madeCells_one]; simp
  simpa using h, rfl⟩⟩
theorem zbb (n : Nat) (hn : n ≤ 1000) (W : World) :
  (Instr.makeSlice 24 (.int .i64 0) (.int .i64 (n : Int))).run Tryz.prog W = .ok (.slice (some ⟨W.heap.size, 0, none⟩) 0 n) (W.alloc (.cells (madeCells #[.int .i64 0] n) 3)) := by
 obtain ⟨i0, hi, hz0, hz1, hz2⟩ := info_parts Tryz.infoInt
 have h := run_make (P := Tryz.prog) W 24 3 i0 (.int .i64 0) Tryz.underlying24 hi hz0 .i64 .i64 0 (n : Int) (by omega) (by omega) (by rw [hz2]; omega) (by omega)
 rw [hz1] at h
 simpa [Value.cells] using h
theorem jX {w : World} {b c : Nat} {a : Option Addr} {m : List Int} {x : Int} (h : RowI w b (.slice a (m ++ [x]).length c) (m ++ [x])) : RowI w b (.slice a (m.length + 1) c) (m ++ [x]) := by
 have e : (m ++ [x]).length = m.length + 1 := by simp
 rw [← e]; exact h
theorem J2 {w : World} {b o n c : Nat} {x : Int} {p : List Int} (h : IntsAt w (.slice (some ⟨b, o, none⟩) n c) (x :: p)) (hn : n = (x :: p).length) (_ : c ≠ 1) : IntsAt w (.slice (some ⟨b, o + 1, none⟩) p.length (c - 1)) p := by
 have := h.drop (k := 1) (by simp) hn
 rw [hn] at this
 simpa [Addr.add] using this
theorem Qo {w : World} {b o n : Nat} {x : Int} {p : List Int} (h : IntsAt w (.slice (some ⟨b, o, none⟩) n 1) (x :: p)) : IntsAt w (.slice (some ⟨b, o, none⟩) p.length 0) p := by
 obtain ⟨a, c, e, h1, h2, h3⟩ := h
 injection e with e1 e2 e3
 subst e3
 have : p = [] := by cases p with | nil => rfl | cons a t => simp at h1
 subst this
 exact ⟨_, 0, rfl, Nat.le_refl _, by unfold maxLen; omega, fun h => absurd h (by simp)⟩
theorem mrg_l {r : Int → Int → Int} {x y : Int} {p q m M : List Int} (h : r x y ≤ 0) (e : M = m ++ mrg r ((x :: p).length + (y :: q).length) (x :: p) (y :: q)) : M = (m ++ [x]) ++ mrg r (p.length + (y :: q).length) p (y :: q) := by
 rw [e, show (x :: p).length + (y :: q).length = (p.length + (y :: q).length) + 1 by simp only [List.length_cons]; omega]
 conv => lhs; unfold mrg
 rw [if_pos h, List.append_assoc]
 rfl
theorem mrg_r {r : Int → Int → Int} {x y : Int} {p q m M : List Int} (h : ¬ r x y ≤ 0) (e : M = m ++ mrg r ((x :: p).length + (y :: q).length) (x :: p) (y :: q)) : M = (m ++ [y]) ++ mrg r ((x :: p).length + q.length) (x :: p) q := by
 rw [e, show (x :: p).length + (y :: q).length = ((x :: p).length + q.length) + 1 by simp only [List.length_cons]; omega]
 conv => lhs; unfold mrg
 rw [if_neg h, List.append_assoc]
 rfl
theorem Vg {w : World} {b c : Nat} {a : Option Addr} {m p : List Int} (h : RowI w b (.slice a (m ++ p).length c) (m ++ p)) : RowI w b (.slice a (m.length + p.length) c) (m ++ p) := by
 have e : (m ++ p).length = m.length + p.length := by simp
 rw [← e]; exact h
def MrgI (r : Int → Int → Int) (F : Nat) (xs ys : List Int) (w : World) (v0 v1 v7 : Value) (wr : World) : Prop :=
 ∃ (p q m : List Int), IntsAt w v0 p ∧ IntsAt w v1 q ∧ RowI wr w.heap.size v7 m ∧ m.length + (p.length + q.length) = F ∧ mrg r F xs ys = m ++ mrg r (p.length + q.length) p q ∧ Below w.heap.size w wr ∧ (∀ x ∈ p, x ∈ xs) ∧ (∀ x ∈ q, x ∈ ys)
theorem zaL (w : World) (x : Int) : IntsAt (w.alloc (.cells #[.int .i64 x] 3)) (.slice (some ⟨w.heap.size, 0, none⟩) 1 1) [x] := by
 refine ⟨some ⟨w.heap.size, 0, none⟩, 1, rfl, Nat.le_refl _, by unfold maxLen; omega, fun _ => ⟨w.heap.size, 0, rfl, by simp, fun j y hj => ?_⟩⟩
 match j, hj with
 | 0, hj =>
  simp at hj
  subst hj
  have h := heap_alloc_new w (.cells #[.int .i64 x] 3)
  unfold World.cell?
  simp only [Nat.zero_add]
  rw [h]
  rfl
theorem J8 (r : Int → Int → Int) (xs ys : List Int) (aa ba : Option Addr) (ac bc dB : Nat) (w : World) (ha : IntsAt w (.slice aa xs.length ac) xs) (hb : IntsAt w (.slice ba ys.length bc) ys) (hl : xs.length + ys.length ≤ 12)
  (hO : ∀ x ∈ xs, ∀ y ∈ ys, ∀ W, Below w.heap.size w W → Calls Tryz.prog 42 #[.int .i64 x, .int .i64 y, .pointer (some ⟨dB, 0, none⟩)] W fun e w' => e = .returned (.int .i64 (r x y)) ∧ Below W.heap.size W w') :
  Calls Tryz.prog 87 #[.slice aa xs.length ac, .slice ba ys.length bc, .func (.func 42) #[] #[.pointer (some ⟨dB, 0, none⟩)]] w fun e w' =>
   (∃ v, e = .returned v ∧ RowI w' w.heap.size v (mrg r (xs.length + ys.length) xs ys)) ∧ Below w.heap.size w w' := by
 have HA := hide ha
 have HB := hide hb
 have HO := hide hO
 have hmk := fun W => zbb (xs.length + ys.length) (by omega) W
 have hsum : wrap64 ((xs.length : Int) + (ys.length : Int)) = ((xs.length + ys.length : Nat) : Int) := by unfold wrap64; omega
 obtain ⟨F, hF⟩ : ∃ F, xs.length + ys.length = F := ⟨_, rfl⟩
 rw [hF] at hmk hsum hl ⊢
 have HF := hide hF
 clear ha hb hO hF
 go_enter Tryz.func87, Tryz.ntmps87
 go_wp2_with fail
 have h0 : MrgI r F xs ys w (.slice aa xs.length ac) (.slice ba ys.length bc) (.slice (some ⟨w.heap.size, 0, none⟩) 0 F) (w.alloc (.cells (madeCells #[.int .i64 0] F) 3)) :=
  ⟨xs, ys, [], za HA, za HB, Xw w F (by unfold maxLen; omega), by have := za HF; simp only [List.length_nil]; omega, by rw [za HF]; rfl, zf (Below.refl _ _) _, fun _ h => h, fun _ h => h⟩
 go_loopw [0, 1, 7] (fun v0 v1 v7 wr => MrgI r F xs ys w v0 v1 v7 wr) (fun v0 v1 _ _ => lenV v0 + lenV v1)
 case atStart => exact h0
 case round =>
  clear h0 hmk hsum
  obtain ⟨p, q, m, hp, hq, hm, hlen, he, hbl, hpx, hqy⟩ := hrel
  obtain ⟨pa, pc, rfl, hp1, hp2⟩ := hp.form
  obtain ⟨qa, qc, rfl, hq1, hq2⟩ := hq.form
  obtain ⟨ma, mc, rfl⟩ := z7 hm
  unfold maxLen at hp2 hq2
  have HP := hide hp
  have HQ := hide hq
  have HM := hide hm
  have HE := hide he
  have HBL := hide hbl
  by_cases hp0 : p.length = 0
  ·have k1 : decide (0 < (p.length : Int)) = false := by rw [hp0]; rfl
   have k1n : decide (0 < p.length) = false := by rw [hp0]; rfl
   have k1m : ¬ 0 < (p.length : Int) := by omega
   have hp' := List.length_eq_zero_iff.1 hp0
   clear hp0
   have HANS : Hid (mrg r F xs ys = (m ++ p) ++ q) := hide (by rw [he, hp', zae, List.append_nil])
   have hlen2 : m.length + p.length + q.length ≤ 12 := by omega
   clear hp hq hm he hbl hpx hqy
   first | clear hp' | clear hq'
   go_wp2_with (at_builtin; first | (refine zV rfl (.tmp 47) (.tmp 48) rfl w.heap.size (.slice ma m.length mc) (.slice pa p.length pc) m p rfl rfl (za HM) ((za HP).below (za HBL)) (by omega) (za HBL).size ?_; intro v6 w6 hr6 hg6 _; obtain ⟨ra, rc, rfl⟩ := z7 hr6; have HR6 := hide (Vg hr6); have HB6 : Hid (Below w.heap.size w w6) := hide (zw (za HBL) (za HM) hg6 (za HBL).size); clear hr6 hg6) | (refine zV rfl (.tmp 49) (.tmp 50) rfl w.heap.size (.slice ra (m.length + p.length) rc) (.slice qa q.length qc) (m ++ p) q rfl rfl (za HR6) ((za HQ).below (za HB6)) (by rw [List.length_append]; omega) (za HB6).size ?_; intro v7 w7 hr7 hg7 _; have HR7 := hide hr7; have HB7 : Hid (Below w.heap.size w w7) := hide (zw (za HB6) (za HR6) hg7 (za HB6).size); clear hr7 hg7))
   go_ret
   exact ⟨⟨_, rfl, by rw [za HANS]; exact za HR7⟩, za HB7⟩
  ·have k1 : decide (0 < (p.length : Int)) = true := decide_eq_true (by omega)
   by_cases hq0 : q.length = 0
   ·have k2 : decide (0 < (q.length : Int)) = false := by rw [hq0]; rfl
    have k2n : decide (0 < q.length) = false := by rw [hq0]; rfl
    have k2m : ¬ 0 < (q.length : Int) := by omega
    have k1m : 0 < (p.length : Int) := by omega
    have hq' := List.length_eq_zero_iff.1 hq0
    clear hq0 hp0
    have HANS : Hid (mrg r F xs ys = (m ++ p) ++ q) := hide (by rw [he, hq', XM, List.append_nil])
    have hlen2 : m.length + p.length + q.length ≤ 12 := by omega
    clear hp hq hm he hbl hpx hqy
    first | clear hp' | clear hq'
    go_wp2_with (at_builtin; first | (refine zV rfl (.tmp 47) (.tmp 48) rfl w.heap.size (.slice ma m.length mc) (.slice pa p.length pc) m p rfl rfl (za HM) ((za HP).below (za HBL)) (by omega) (za HBL).size ?_; intro v6 w6 hr6 hg6 _; obtain ⟨ra, rc, rfl⟩ := z7 hr6; have HR6 := hide (Vg hr6); have HB6 : Hid (Below w.heap.size w w6) := hide (zw (za HBL) (za HM) hg6 (za HBL).size); clear hr6 hg6) | (refine zV rfl (.tmp 49) (.tmp 50) rfl w.heap.size (.slice ra (m.length + p.length) rc) (.slice qa q.length qc) (m ++ p) q rfl rfl (za HR6) ((za HQ).below (za HB6)) (by rw [List.length_append]; omega) (za HB6).size ?_; intro v7 w7 hr7 hg7 _; have HR7 := hide hr7; have HB7 : Hid (Below w.heap.size w w7) := hide (zw (za HB6) (za HR6) hg7 (za HB6).size); clear hr7 hg7))
    go_ret
    exact ⟨⟨_, rfl, by rw [za HANS]; exact za HR7⟩, za HB7⟩
   ·have k2 : decide (0 < (q.length : Int)) = true := decide_eq_true (by omega)
    obtain ⟨x, p', rfl⟩ : ∃ x t, p = x :: t := by cases p with | nil => exact absurd rfl hp0 | cons x t => exact ⟨x, t, rfl⟩
    obtain ⟨y, q', rfl⟩ : ∃ x t, q = x :: t := by cases q with | nil => exact absurd rfl hq0 | cons x t => exact ⟨x, t, rfl⟩
    obtain ⟨pb, po, rfl, hpb, cx⟩ := hp.cell (k := 0) (x := x) rfl
    obtain ⟨qb, qo, rfl, hqb, cy⟩ := hq.cell (k := 0) (x := y) rfl
    rw [Nat.add_zero] at cx cy
    have HCX := hide cx
    have HCY := hide cy
    have HOO := hide ((za HO) x (hpx x List.mem_cons_self) y (hqy y List.mem_cons_self))
    have cx1 := zd hbl cx
    have cy1 := zd hbl cy
    obtain ⟨R, hR⟩ : ∃ R, r x y = R := ⟨_, rfl⟩
    rw [hR] at HOO
    have HR := hide hR
    have HX := hide hpx
    have HY := hide hqy
    have t0 : (0 : Int) < ((x :: p').length : Int) := by simp only [List.length_cons]; omega
    have t1 : (0 : Int) < ((y :: q').length : Int) := by simp only [List.length_cons]; omega
    clear hp hq hm he hbl hpx hqy cx cy hR
    have cx2 : wr.drew.cell? ⟨pb, po, none⟩ = some (.int .i64 x) := cx1
    have cy2 : wr.drew.cell? ⟨qb, qo, none⟩ = some (.int .i64 y) := cy1
    go_wp2_with fail
    go_region_held3 (fun w' => w'.cell? ⟨pb, po, none⟩ = some (.int .i64 x) ∧ w'.cell? ⟨qb, qo, none⟩ = some (.int .i64 y)) (((try dsimp only); (repeat' apply And.intro) <;> (with_reducible assumption))) ((go_at_call 42; refine (za HOO wr.drew (za HBL).drew).mono ?_; rintro e w5 ⟨rfl, hb5⟩; have HB5 : Hid (Below w.heap.size w w5) := zj (za HBL).drew hb5; have RM5 : Hid (RowI w5 w.heap.size (.slice ma m.length mc) m) := zr (za HM) ((Below.refl _ _).drew.trans hb5); have c1 := zd (za HB5) (za HCX); have c2 := zd (za HB5) (za HCY); clear hb5))
    have BA : Hid (∀ z, Below w.heap.size w (w5.alloc (.cells #[.int .i64 z] 3)).drew) := hide (fun z => (zf (za HB5) _).drew)
    have RA : Hid (∀ z, RowI (w5.alloc (.cells #[.int .i64 z] 3)).drew w.heap.size (.slice ma m.length mc) m) := hide (fun z => zr (za RM5) (zf (Below.refl _ _) (.cells #[.int .i64 z] 3)).drew)
    have NA : Hid (∀ z, IntsAt (w5.alloc (.cells #[.int .i64 z] 3)).drew (.slice (some ⟨w5.heap.size, 0, none⟩) 1 1) [z]) := hide (fun z => zaL w5 z)
    clear cx1 cy1 cx2 cy2
    by_cases hR0 : R ≤ 0
    ·have k3 : decide (R ≤ 0) = true := decide_eq_true hR0
     by_cases hpc : pc = 1
     ·subst hpc
      have HI := hide (Qo (za HP))
      have HEE := hide (mrg_l (by rw [za HR]; exact hR0) (za HE))
      have g0 := zd (za BA x) (za HCX)
      have g1 : w5.drew.cell? ⟨pb, po, none⟩ = some (.int .i64 x) := zd (za HB5) (za HCX)
      have RX := hide (za RA x)
      have NX := hide (za NA x)
      go_wp2_with fail
      go_region_held_law (fun w' => w'.cell? ⟨pb, po, none⟩ = some (.int .i64 x)) (((try dsimp only); (with_reducible assumption))) ((refine zG (by rfl) _ _ (by rfl) w.heap.size (.slice ma m.length mc) (.slice (some ⟨w5.heap.size, 0, none⟩) 1 1) m [x] (by rfl) (by rfl) (by with_reducible exact za RX) (by with_reducible exact za NX) (by simp only [List.length_cons, List.length_nil]; omega) (za BA x).size (some 36) (by rfl) ?_; intro v6 w6 hr6 hg6 _; obtain ⟨ra, rc, rfl⟩ := z7 hr6; have HR6 := hide (jX hr6); have HB6 : Hid (Below w.heap.size w w6) := hide (zw (za BA x) (za RX) hg6 (za BA x).size); have h0 := zd (za HB6) (za HCX); have HMI : Hid (MrgI r F xs ys w (.slice (some ⟨pb, po, none⟩) p'.length 0) (.slice (some ⟨qb, qo, none⟩) (y :: q').length qc) (.slice ra (m.length + 1) rc) w6) := hide ⟨p', y :: q', m ++ [x], za HI, za HQ, za HR6, (by simp only [List.length_append, List.length_cons, List.length_nil] at hlen ⊢; omega), za HEE, za HB6, fun z hz => za HX z (List.mem_cons_of_mem _ hz), za HY⟩; clear hr6 hg6; (try dsimp only)))
      all_goals (go_wp2_with fail)
      all_goals go_roundw
      all_goals first
       | exact za HMI
       | (refine ⟨_, _, _, za HMI, ?_⟩; (repeat apply Exists.intro); rfl)
       | (simp [lenV]; done)
       | (simp [lenV]; omega)
     ·
      have HI := hide (J2 (za HP) rfl hpc)
      have HEE := hide (mrg_l (by rw [za HR]; exact hR0) (za HE))
      have g0 := zd (za BA x) (za HCX)
      have g1 : w5.drew.cell? ⟨pb, po, none⟩ = some (.int .i64 x) := zd (za HB5) (za HCX)
      have RX := hide (za RA x)
      have NX := hide (za NA x)
      go_wp2_with fail
      go_region_held_law (fun w' => w'.cell? ⟨pb, po, none⟩ = some (.int .i64 x)) (((try dsimp only); (with_reducible assumption))) ((refine zG (by rfl) _ _ (by rfl) w.heap.size (.slice ma m.length mc) (.slice (some ⟨w5.heap.size, 0, none⟩) 1 1) m [x] (by rfl) (by rfl) (by with_reducible exact za RX) (by with_reducible exact za NX) (by simp only [List.length_cons, List.length_nil]; omega) (za BA x).size (some 36) (by rfl) ?_; intro v6 w6 hr6 hg6 _; obtain ⟨ra, rc, rfl⟩ := z7 hr6; have HR6 := hide (jX hr6); have HB6 : Hid (Below w.heap.size w w6) := hide (zw (za BA x) (za RX) hg6 (za BA x).size); have h0 := zd (za HB6) (za HCX); have HMI : Hid (MrgI r F xs ys w (.slice (some ⟨pb, po + 1, none⟩) p'.length (pc - 1)) (.slice (some ⟨qb, qo, none⟩) (y :: q').length qc) (.slice ra (m.length + 1) rc) w6) := hide ⟨p', y :: q', m ++ [x], za HI, za HQ, za HR6, (by simp only [List.length_append, List.length_cons, List.length_nil] at hlen ⊢; omega), za HEE, za HB6, fun z hz => za HX z (List.mem_cons_of_mem _ hz), za HY⟩; clear hr6 hg6; (try dsimp only)))
      all_goals (go_wp2_with fail)
      all_goals go_roundw
      all_goals first
       | exact za HMI
       | (refine ⟨_, _, _, za HMI, ?_⟩; (repeat apply Exists.intro); rfl)
       | (simp [lenV]; done)
       | (simp [lenV]; omega)
    ·have k3 : decide (R ≤ 0) = false := decide_eq_false hR0
     by_cases hqc : qc = 1
     ·subst hqc
      have HI := hide (Qo (za HQ))
      have HEE := hide (mrg_r (by rw [za HR]; exact hR0) (za HE))
      have g0 := zd (za BA y) (za HCY)
      have g1 : w5.drew.cell? ⟨qb, qo, none⟩ = some (.int .i64 y) := zd (za HB5) (za HCY)
      have RX := hide (za RA y)
      have NX := hide (za NA y)
      go_wp2_with fail
      go_region_held_law (fun w' => w'.cell? ⟨qb, qo, none⟩ = some (.int .i64 y)) (((try dsimp only); (with_reducible assumption))) ((refine zG (by rfl) _ _ (by rfl) w.heap.size (.slice ma m.length mc) (.slice (some ⟨w5.heap.size, 0, none⟩) 1 1) m [y] (by rfl) (by rfl) (by with_reducible exact za RX) (by with_reducible exact za NX) (by simp only [List.length_cons, List.length_nil]; omega) (za BA y).size (some 44) (by rfl) ?_; intro v6 w6 hr6 hg6 _; obtain ⟨ra, rc, rfl⟩ := z7 hr6; have HR6 := hide (jX hr6); have HB6 : Hid (Below w.heap.size w w6) := hide (zw (za BA y) (za RX) hg6 (za BA y).size); have h0 := zd (za HB6) (za HCY); have HMI : Hid (MrgI r F xs ys w (.slice (some ⟨pb, po, none⟩) (x :: p').length pc) (.slice (some ⟨qb, qo, none⟩) q'.length 0) (.slice ra (m.length + 1) rc) w6) := hide ⟨x :: p', q', m ++ [y], za HP, za HI, za HR6, (by simp only [List.length_append, List.length_cons, List.length_nil] at hlen ⊢; omega), za HEE, za HB6, za HX, fun z hz => za HY z (List.mem_cons_of_mem _ hz)⟩; clear hr6 hg6; (try dsimp only)))
      all_goals (go_wp2_with fail)
      all_goals go_roundw
      all_goals first
       | exact za HMI
       | (refine ⟨_, _, _, za HMI, ?_⟩; (repeat apply Exists.intro); rfl)
       | (simp [lenV]; done)
       | (simp [lenV]; omega)
     ·
      have HI := hide (J2 (za HQ) rfl hqc)
      have HEE := hide (mrg_r (by rw [za HR]; exact hR0) (za HE))
      have g0 := zd (za BA y) (za HCY)
      have g1 : w5.drew.cell? ⟨qb, qo, none⟩ = some (.int .i64 y) := zd (za HB5) (za HCY)
      have RX := hide (za RA y)
      have NX := hide (za NA y)
      go_wp2_with fail
      go_region_held_law (fun w' => w'.cell? ⟨qb, qo, none⟩ = some (.int .i64 y)) (((try dsimp only); (with_reducible assumption))) ((refine zG (by rfl) _ _ (by rfl) w.heap.size (.slice ma m.length mc) (.slice (some ⟨w5.heap.size, 0, none⟩) 1 1) m [y] (by rfl) (by rfl) (by with_reducible exact za RX) (by with_reducible exact za NX) (by simp only [List.length_cons, List.length_nil]; omega) (za BA y).size (some 44) (by rfl) ?_; intro v6 w6 hr6 hg6 _; obtain ⟨ra, rc, rfl⟩ := z7 hr6; have HR6 := hide (jX hr6); have HB6 : Hid (Below w.heap.size w w6) := hide (zw (za BA y) (za RX) hg6 (za BA y).size); have h0 := zd (za HB6) (za HCY); have HMI : Hid (MrgI r F xs ys w (.slice (some ⟨pb, po, none⟩) (x :: p').length pc) (.slice (some ⟨qb, qo + 1, none⟩) q'.length (qc - 1)) (.slice ra (m.length + 1) rc) w6) := hide ⟨x :: p', q', m ++ [y], za HP, za HI, za HR6, (by simp only [List.length_append, List.length_cons, List.length_nil] at hlen ⊢; omega), za HEE, za HB6, za HX, fun z hz => za HY z (List.mem_cons_of_mem _ hz)⟩; clear hr6 hg6; (try dsimp only)))
      all_goals (go_wp2_with fail)
      all_goals go_roundw
      all_goals first
       | exact za HMI
       | (refine ⟨_, _, _, za HMI, ?_⟩; (repeat apply Exists.intro); rfl)
       | (simp [lenV]; done)
       | (simp [lenV]; omega)
theorem kp {w : World} {b k : Nat} {v : Value} {l : List Int} (h : RowI w b v l) (e : l.length = k) : ∃ a c, v = .slice a k c ∧ RowI w b (.slice a k c) l := by
 subst e
 obtain ⟨a, c, rfl⟩ := z7 h
 exact ⟨a, c, rfl, h⟩
theorem X0 {w : World} {b k : Nat} {a : Option Addr} {c : Nat} {l : List Int} (h : RowI w b (.slice a k c) l) : IntsAt w (.slice a k c) l := qD h
theorem Vt (r : Int → Int → Int) (hpre : Pre r) (dB : Nat) : ∀ (n : Nat) (xs : List Int) (xa : Option Addr) (xc : Nat) (w : World), xs.length ≤ n → xs.length ≤ 12 → IntsAt w (.slice xa xs.length xc) xs →
  (∀ x ∈ xs, ∀ y ∈ xs, ∀ W, Below w.heap.size w W → Calls Tryz.prog 42 #[.int .i64 x, .int .i64 y, .pointer (some ⟨dB, 0, none⟩)] W fun e w' => e = .returned (.int .i64 (r x y)) ∧ Below W.heap.size W w') →
  Calls Tryz.prog 45 #[.slice xa xs.length xc, .func (.func 42) #[] #[.pointer (some ⟨dB, 0, none⟩)]] w fun e w' =>
   (∃ v, e = .returned v ∧ RowI w' w.heap.size v (srt r xs)) ∧ Below w.heap.size w w' := by
 intro n
 induction n with
 | zero =>
  intro xs xa xc w hn h12 hx hO
  have h2 : xs.length < 2 := by omega
  have hlt : decide ((xs.length : Int) < 2) = true := decide_eq_true (by omega)
  have HX := hide (hx.below (zf (Below.refl _ _) (.cells #[] 3)))
  have HN := hide (jp w)
  have HS := hide (QH (r := r) (l := xs) (by omega))
  obtain ⟨a, c, e, h1, hc, h3⟩ := hx
  injection e with e1 _ e3
  subst e1 e3
  unfold maxLen at hc
  clear hO h2 h3
  go_enter Tryz.func45, Tryz.ntmps45
  go_wp2_with (at_builtin; refine zV rfl (.tmp 9) (.tmp 10) rfl w.heap.size (.slice (some ⟨w.heap.size, 0, none⟩) 0 0) (.slice xa xs.length xc) [] xs rfl rfl (za HN) (za HX) (by simp only [List.length_nil]; omega) (by simp) ?_; intro v6 w6 hr6 hg6 _; have HR6 := hide hr6; have HB6 : Hid (Below w.heap.size w w6) := hide (zw (zf (Below.refl _ _) (.cells #[] 3)) (za HN) hg6 (by simp)); clear hr6 hg6)
  go_ret
  exact ⟨⟨_, rfl, by rw [za HS]; exact za HR6⟩, za HB6⟩
 | succ n ih =>
  intro xs xa xc w hn h12 hx hO
  by_cases h2 : xs.length < 2
  ·
   clear ih
   have hlt : decide ((xs.length : Int) < 2) = true := decide_eq_true (by omega)
   have HX := hide (hx.below (zf (Below.refl _ _) (.cells #[] 3)))
   have HN := hide (jp w)
   have HS := hide (QH (r := r) (l := xs) (by omega))
   obtain ⟨a, c, e, h1, hc, h3⟩ := hx
   injection e with e1 _ e3
   subst e1 e3
   unfold maxLen at hc
   clear hO h2 h3
   go_enter Tryz.func45, Tryz.ntmps45
   go_wp2_with (at_builtin; refine zV rfl (.tmp 9) (.tmp 10) rfl w.heap.size (.slice (some ⟨w.heap.size, 0, none⟩) 0 0) (.slice xa xs.length xc) [] xs rfl rfl (za HN) (za HX) (by simp only [List.length_nil]; omega) (by simp) ?_; intro v6 w6 hr6 hg6 _; have HR6 := hide hr6; have HB6 : Hid (Below w.heap.size w w6) := hide (zw (zf (Below.refl _ _) (.cells #[] 3)) (za HN) hg6 (by simp)); clear hr6 hg6)
   go_ret
   exact ⟨⟨_, rfl, by rw [za HS]; exact za HR6⟩, za HB6⟩
  ·have hlt : decide ((xs.length : Int) < 2) = false := decide_eq_false (by omega)
   obtain ⟨a, c, e, h1, hc, h3⟩ := hx
   injection e with e1 _ e3
   subst e1 e3
   obtain ⟨b, off, e, hb, _⟩ := h3 (by omega)
   subst e
   have hx : IntsAt w (.slice (some ⟨b, off, none⟩) xs.length xc) xs := ⟨_, _, rfl, h1, hc, h3⟩
   obtain ⟨h, hh⟩ : ∃ h, xs.length / 2 = h := ⟨_, rfl⟩
   have hq : Int.tdiv (xs.length : Int) 2 = (h : Int) := by rw [← hh]; simp [Int.tdiv]
   have hl1 : (xs.take h).length = h := by rw [List.length_take]; omega
   have hl2 : (xs.drop h).length = xs.length - h := List.length_drop
   have ht := hx.take (k := h) (by omega)
   have hd : IntsAt w (.slice (some ⟨b, off + h, none⟩) (xs.length - h) (xc - h)) (xs.drop h) := by
    have := hx.drop (k := h) (by omega) rfl
    have e : (⟨b, off, none⟩ : Addr).add h = ⟨b, off + h, none⟩ := by unfold Addr.add; split <;> simp_all
    rwa [e] at this
   have C1 : Hid (∀ W, Below w.heap.size w W → Calls Tryz.prog 45 #[.slice (some ⟨b, off, none⟩) h xc, .func (.func 42) #[] #[.pointer (some ⟨dB, 0, none⟩)]] W fun e w' => (∃ ra rc, e = .returned (.slice ra h rc) ∧ RowI w' W.heap.size (.slice ra h rc) (srt r (xs.take h))) ∧ Below W.heap.size W w') := hide (fun W hW => by
    have := ih (xs.take h) (some ⟨b, off, none⟩) xc W (by omega) (by omega) (by rw [hl1]; exact ht.below hW) (fun x hx y hy W' hW' => hO x (List.mem_of_mem_take hx) y (List.mem_of_mem_take hy) W' (zj hW hW'))
    rw [hl1] at this
    refine this.mono ?_
    rintro e w' ⟨⟨v, rfl, hr⟩, hb⟩
    obtain ⟨a, c, rfl, hr'⟩ := kp (k := h) hr (by rw [jh, hl1])
    exact ⟨⟨a, c, rfl, hr'⟩, hb⟩)
   have C2 : Hid (∀ W, Below w.heap.size w W → Calls Tryz.prog 45 #[.slice (some ⟨b, off + h, none⟩) (xs.length - h) (xc - h), .func (.func 42) #[] #[.pointer (some ⟨dB, 0, none⟩)]] W fun e w' => (∃ ra rc, e = .returned (.slice ra (xs.length - h) rc) ∧ RowI w' W.heap.size (.slice ra (xs.length - h) rc) (srt r (xs.drop h))) ∧ Below W.heap.size W w') := hide (fun W hW => by
    have := ih (xs.drop h) (some ⟨b, off + h, none⟩) (xc - h) W (by omega) (by omega) (by rw [hl2]; exact hd.below hW) (fun x hx y hy W' hW' => hO x (List.mem_of_mem_drop hx) y (List.mem_of_mem_drop hy) W' (zj hW hW'))
    rw [hl2] at this
    refine this.mono ?_
    rintro e w' ⟨⟨v, rfl, hr⟩, hb⟩
    obtain ⟨a, c, rfl, hr'⟩ := kp (k := xs.length - h) hr (by rw [jh, hl2])
    exact ⟨⟨a, c, rfl, hr'⟩, hb⟩)
   have C3 : Hid (∀ W ra rc qa qc, Below w.heap.size w W → IntsAt W (.slice ra h rc) (srt r (xs.take h)) → IntsAt W (.slice qa (xs.length - h) qc) (srt r (xs.drop h)) → Calls Tryz.prog 87 #[.slice ra h rc, .slice qa (xs.length - h) qc, .func (.func 42) #[] #[.pointer (some ⟨dB, 0, none⟩)]] W fun e w' => (∃ ra rc, e = .returned (.slice ra xs.length rc) ∧ RowI w' W.heap.size (.slice ra xs.length rc) (srt r xs)) ∧ Below W.heap.size W w') := hide (fun W ra rc qa qc hW hr1 hr2 => by
    have k1 : (srt r (xs.take h)).length = h := by rw [jh]; exact hl1
    have k2 : (srt r (xs.drop h)).length = xs.length - h := by rw [jh]; exact hl2
    have := J8 r (srt r (xs.take h)) (srt r (xs.drop h)) ra qa rc qc dB W (by rw [k1]; exact hr1) (by rw [k2]; exact hr2) (by rw [k1, k2]; omega) (fun x hx y hy W' hW' => hO x (List.mem_of_mem_take ((yM hpre _ _).1 hx)) y (List.mem_of_mem_drop ((yM hpre _ _).1 hy)) W' (zj hW hW'))
    rw [k1, k2] at this
    rw [zaR hpre _ _ (by omega), List.take_append_drop] at this
    refine this.mono ?_
    rintro e w' ⟨⟨v, rfl, hr⟩, hb⟩
    obtain ⟨a, c, rfl, hr'⟩ := kp hr (jh _)
    exact ⟨⟨a, c, rfl, hr'⟩, hb⟩)
   have n1 : ¬ xc = h := by omega
   have n0 : ¬ xc = 0 := by omega
   unfold maxLen at hc
   clear hx hO ih h3 ht hd hl1 hl2
   go_enter Tryz.func45, Tryz.ntmps45
   go_wp2_with fail
   go_region_with (first
    | (go_at_call 87; refine (za C3 w2 ra rc qa qc (za HB2) (X0 (za HR1')) (X0 (za HR2))).mono ?_; rintro e w3 ⟨⟨sa, sc, rfl, hr3⟩, hb3⟩; have HR3 := hide (zK hr3 (za HB2).size); have HB3 : Hid (Below w.heap.size w w3) := zj (za HB2) hb3; clear hr3 hb3)
    | (go_at_call 45; refine (za C2 w1 (za HB1)).mono ?_; rintro e w2 ⟨⟨qa, qc, rfl, hr2⟩, hb2⟩; have HR1' := hide (zr (za HR1) hb2); have HR2 := hide hr2; have HB2 : Hid (Below w.heap.size w w2) := zj (za HB1) hb2; clear hr2 hb2)
    | (go_at_call 45; refine (za C1 w.drew (Below.refl _ _).drew).mono ?_; rintro e w1 ⟨⟨ra, rc, rfl, hr1⟩, hb1⟩; have HR1 := hide hr1; have HB1 : Hid (Below w.heap.size w w1) := (Below.refl _ _).drew.trans hb1; clear hr1 hb1)
    | fail)
   all_goals (go_wp2_with fail)
   all_goals
    go_ret
    exact ⟨⟨.slice sa xs.length sc, rfl, za HR3⟩, za HB3⟩
theorem Ki (na : Option Addr) (nc : Nat) (ns : List Nd) (w : World) (h : NodesAt w (.slice na ns.length nc) ns) (hs : ns.length ≤ 1048576) (hns : zM ns) :
  Calls Tryz.prog 43 #[.slice na ns.length nc, .func (.func 44) #[] #[]] w fun e w' =>
   (∃ kvs, e = .returned (.slice (some ⟨w.heap.size, 0, none⟩) ns.length ns.length) ∧ NodesOwn w' w.heap.size w.heap.size ns.length ns kvs) ∧ Below w.heap.size w w' := by
 obtain ⟨i0, hi, hz0, hz1, hz2⟩ := info_parts Tryz.infoNode
 obtain ⟨a, cap, e, h1, h2⟩ := h.form0
 injection e with e1 _ e3
 subst e1 e3
 unfold maxLen at h2
 have H := hide h
 clear h
 go_enter Tryz.func43, Tryz.ntmps43
 go_wp2_with (refine wpList_make_full _ rfl (.tmp 9) (.tmp 9) 23 rfl w.heap.size 56 i0 (.agg #[.int .i64 0, .string ⟨#[]⟩, .slice none 0 0]) 3 Tryz.underlying23 hi hz0 hz1 .i64 .i64 ns.length ns.length ns.length rfl rfl rfl rfl (by rw [hz2]; omega) (by unfold maxLen; omega) (Nat.le_refl _) ?_; intro w1 hown1 hg1)
 have hb1 := (Below.refl w.heap.size w).grown hg1 (Nat.le_refl _) (fun _ h => by cases h)
 have hlt1 := (hown1.lt w.heap.size rfl).2
 have Hmade := hide (NodesOwn.made hown1 hlt1)
 have HB1 := hide hb1
 clear hown1 hg1 hb1
 go_loopw [13] (fun i wr => ∃ (k : Nat) (kvs : List Value), k ≤ ns.length ∧ i = .int .i64 k ∧ Hid (NodesOwn wr w.heap.size w.heap.size ns.length (ns.take k) kvs) ∧ Below w.heap.size w wr)
  (fun i _ => ns.length - (intOf i).toNat)
 case atStart => exact ⟨0, [], by omega, rfl, Hmade, za HB1⟩
 case round =>
  clear Hmade HB1 hlt1
  obtain ⟨k, kvs, hk, rfl, hno, hbl⟩ := hrel
  by_cases hlt : k < ns.length
  ·obtain ⟨nd, hnd⟩ : ∃ nd, ns[k]? = some nd := ⟨_, List.getElem?_eq_getElem hlt⟩
   obtain ⟨b, off, rfl, hb⟩ := ((za H).below hbl).addr (by omega)
   obtain ⟨kv, c0, c1, c2, htl, hk1⟩ := ((za H).below hbl).node hnd
   obtain ⟨ka, kc, rfl, hk2, hk3⟩ := hk1.form
   unfold maxLen at hk3
   have hks := hns nd (List.mem_of_getElem? hnd)
   have HK := hide (hk1.below (zf (Below.refl _ _) (.cells #[.int .i64 nd.1, .string (B nd.2.1), .slice ka nd.2.2.length kc] 56)))
   have HBX := hide (zf hbl (.cells #[.int .i64 nd.1, .string (B nd.2.1), .slice ka nd.2.2.length kc] 56))
   have hwl := (za hno).1.2.1
   have hx := AtC3.new wr (.int .i64 nd.1) (.string (B nd.2.1)) (.slice ka nd.2.2.length kc) 56
   have x0 := hx.n0
   have x1 := hx.n1
   have x2 := hx.n2
   have HNX := hide ((za hno).below (zf (Below.refl _ _) (.cells #[.int .i64 nd.1, .string (B nd.2.1), .slice ka nd.2.2.length kc] 56)))
   clear hk1 hx
   go_wp2_with fail
   have h := Xp nd ka kc _ (za HK) hks.2 hks.1
   refine h.mono ?_
   clear h
   rintro e w2 ⟨⟨ga, gc, rfl, hownk⟩, hb2⟩
   have hno2 := (za HNX).below hb2
   have hlen : (ns.take k).length = k := by rw [List.length_take]; omega
   have hold := (za HNX).old
   have hsz := hb2.size
   have hgg : ∀ i, (Value.slice ga nd.2.2.length gc).ownBlock = some i → wr.heap.size < i := fun i hi => by
    have := (hownk.lt i hi).1
    simp only [World.size_alloc] at this
    omega
   have hst := hno2.store (nd := nd) (kv := .slice ga nd.2.2.length gc) (by omega) htl (zK hownk (za HBX).size) (fun e => by have := hgg _ e; omega) (fun k' hk' i hi e => by
    have := hold k' hk' i hi
    have := (hownk.lt i e).1
    omega)
   rw [hlen] at hst
   have htk : ns.take k ++ [nd] = ns.take (k + 1) := by rw [List.take_add_one, hnd]; rfl
   rw [htk] at hst
   have hcell := hno2.2.2.1
   obtain ⟨y0, hx0⟩ := hcell (k * 3) (by omega)
   obtain ⟨y1, hx1⟩ := hcell (k * 3 + 1) (by omega)
   obtain ⟨y2, hx2⟩ := hcell (k * 3 + 2) (by omega)
   have hfr := hno2.2.1
   have Hst := hide hst
   have HB := hide ((((zj (za HBX) hb2).setCell (p := ⟨w.heap.size, k * 3, none⟩) (Nat.le_refl _) (.int .i64 nd.1)).setCell (p := ⟨w.heap.size, k * 3 + 1, none⟩) (Nat.le_refl _) (.string (B nd.2.1))).setCell (p := ⟨w.heap.size, k * 3 + 2, none⟩) (Nat.le_refl _) (.slice ga nd.2.2.length gc))
   clear hno hno2 hold hst hcell htk hownk hb2 hgg HNX HBX x0 x1 x2 hsz
   go_wp2
   go_roundw
   case rel => exact ⟨k + 1, _, by omega, by go_num, Hst, za HB⟩
   case measure => simp [intOf]; omega
  ·go_wp2
   go_ret
   have : k = ns.length := by omega
   subst this
   have := za hno
   rw [List.take_of_length_le (Nat.le_refl _)] at this
   exact ⟨⟨kvs, rfl, this⟩, hbl⟩
theorem x6 : Pre cmpI where
 neg x y := by unfold cmpI; split <;> split <;> (try split) <;> omega
 le x y z := by unfold cmpI; intro h1 h2; split at h1 <;> split at h2 <;> (try split at h1) <;> (try split at h2) <;> split <;> (try split) <;> omega
theorem ZC : ∀ (a b : List UInt8), Lib.compareBytes b a = - Lib.compareBytes a b := fun a b => by
 obtain ⟨h1, h2, h3, h4⟩ := qw a b
 obtain ⟨g1, g2, g3, g4⟩ := qw b a
 rw [h1] at g2
 rw [h2] at g1
 rw [decide_eq_decide] at g1 g2
 omega
theorem xu : ∀ {a b c : List UInt8}, Op.bytesLess a b = true → Op.bytesLess b c = true → Op.bytesLess a c = true
 | [], [], _, h, _ => by simp [Op.bytesLess] at h
 | [], _ :: _, [], _, h => by simp [Op.bytesLess] at h
 | [], _ :: _, _ :: _, _, _ => by simp [Op.bytesLess]
 | _ :: _, [], _, h, _ => by simp [Op.bytesLess] at h
 | _ :: _, _ :: _, [], _, h => by simp [Op.bytesLess] at h
 | a :: x, b :: y, c :: z, h1, h2 => by
  unfold Op.bytesLess at h1 h2 ⊢
  simp only [Bool.or_eq_true, decide_eq_true_eq, Bool.and_eq_true, beq_iff_eq] at h1 h2 ⊢
  rcases h1 with e1 | ⟨rfl, h1⟩
  ·rcases h2 with e2 | ⟨rfl, h2⟩
   ·exact .inl (UInt8.lt_trans e1 e2)
   ·exact .inl e1
  ·rcases h2 with e2 | ⟨rfl, h2⟩
   ·exact .inl e2
   ·exact .inr ⟨rfl, xu h1 h2⟩
theorem Xt : Pre Lib.compareBytes where
 neg x y := ZC x y
 le x y z h1 h2 := by
  obtain ⟨a1, a2, a3, a4⟩ := qw x y
  obtain ⟨b1, b2, b3, b4⟩ := qw y z
  obtain ⟨c1, c2, c3, c4⟩ := qw x z
  rcases a4 with e | e | e
  ·rcases b4 with f | f | f
   ·have := xu (a1.trans (decide_eq_true e)) (b1.trans (decide_eq_true f))
    rw [c1] at this
    have := of_decide_eq_true this
    omega
   ·rw [← b3.1 f, e]; omega
   ·omega
  ·rw [a3.1 e]; exact h2
  ·omega
theorem zbV {z : Int} : sgI z ≤ 0 ↔ z ≤ 0 := by unfold sgI; split <;> (try split) <;> omega
theorem Xf (p q : Rt) : cmpRt q p = - cmpRt p q := by
 unfold cmpRt
 rw [← Y3]
 congr 1
 omega
theorem zaq {a b c x y z : Int} (hx : 0 < x) (hy : 0 < y) (hz : 0 < z) (h1 : a * y - b * x ≤ 0) (h2 : b * z - c * y ≤ 0) : a * z - c * x ≤ 0 := by
 have k1 : a * y ≤ b * x := by omega
 have k2 : b * z ≤ c * y := by omega
 have m1 := Int.mul_le_mul_of_nonneg_right k1 (Int.le_of_lt hz)
 have m2 := Int.mul_le_mul_of_nonneg_right k2 (Int.le_of_lt hx)
 have e1 : b * x * z = b * z * x := by rw [Int.mul_assoc, Int.mul_comm x z, ← Int.mul_assoc]
 have e2 : a * y * z = a * z * y := by rw [Int.mul_assoc, Int.mul_comm y z, ← Int.mul_assoc]
 have e3 : c * y * x = c * x * y := by rw [Int.mul_assoc, Int.mul_comm y x, ← Int.mul_assoc]
 have k3 : a * z * y ≤ c * x * y := by rw [← e2, ← e3]; rw [e1] at m1; exact Int.le_trans m1 m2
 have k4 := Int.le_of_mul_le_mul_right k3 hy
 omega
theorem zav {p q r : Rt} (hp : 0 < p.2.2) (hq : 0 < q.2.2) (hr : 0 < r.2.2) (h1 : cmpRt p q ≤ 0) (h2 : cmpRt q r ≤ 0) : cmpRt p r ≤ 0 := by
 unfold cmpRt at *
 rw [zbV] at *
 exact zaq (by omega) (by omega) (by omega) h1 h2
def yq (nd : Nd) : Prop := textM nd.1 nd.2.1 = true ∧ cntOk nd.1 nd.2.2.length = true
theorem Kl {n : Nat} {nd : Nd} (h : ndOk n nd = true) : yq nd := by
 have c := Jj h
 unfold ndOk at h
 simp only [Bool.and_eq_true] at h
 exact ⟨h.1.2, c⟩
theorem j9 {nd : Nd} (h : yq nd) (h1 : nd.1 = 1) : okT (numTx nd.2.1) = true := by
 have h := h.1
 unfold textM at h
 rw [if_pos h1] at h
 unfold jO at h
 unfold numTx
 cases e : zu nd.2.1 10 with
 | none => rw [e] at h; exact absurd h (by simp)
 | some p => exact zaG (kP (n := p.1) (x := p.2.1) (y := p.2.2) e)
theorem yK {a b : T3} (ha : okT a = true) (hb : okT b = true) : cmpT a b = cmpRt (valT a) (valT b) := by unfold cmpT; rw [ha, hb]; rfl
theorem QL {a : T3} (ha : okT a = true) : 0 < (valT a).2.2 := zaC (zbg ha)
theorem zbl {a b : Nd} (ha : yq a) (hb : yq b) : zR b a = - zR a b := by
 by_cases h : a.1 = b.1
 ·by_cases h1 : a.1 = 1
  ·rw [xU h h1, xU h.symm (h ▸ h1), yK (j9 ha h1) (j9 hb (h ▸ h1)), yK (j9 hb (h ▸ h1)) (j9 ha h1), Xf]
  ·by_cases h2 : a.2.1 = b.2.1
   ·rw [xW h h1 h2, xW h.symm (h ▸ h1) h2.symm, x6.neg]
   ·rw [ku h h1 h2, ku h.symm (h ▸ h1) (Ne.symm h2), ZC]
 ·rw [kJ h, kJ (Ne.symm h), x6.neg]
theorem xS {a b : Int} : cmpI a b ≤ 0 ↔ a ≤ b := by unfold cmpI; split <;> (try split) <;> omega
theorem zbC {a b c : Nd} (ha : yq a) (hb : yq b) (hc : yq c) (h1 : zR a b ≤ 0) (h2 : zR b c ≤ 0) : zR a c ≤ 0 := by
 unfold zR at *
 by_cases e1 : a.1 = b.1
 ·by_cases e2 : b.1 = c.1
  ·rw [if_neg (by simp [e1])] at h1
   rw [if_neg (by simp [e2])] at h2
   rw [if_neg (by simp [e1, e2])]
   by_cases k : a.1 = 1
   ·rw [if_pos k] at h1 ⊢
    rw [if_pos (e1 ▸ k)] at h2
    have ga := j9 ha k
    have gb := j9 hb (e1 ▸ k)
    have gc := j9 hc (by omega)
    rw [yK ga gb] at h1
    rw [yK gb gc] at h2
    rw [yK ga gc]
    exact zav (QL ga) (QL gb) (QL gc) h1 h2
   ·rw [if_neg k] at h1 ⊢
    rw [if_neg (e1 ▸ k)] at h2
    by_cases t1 : a.2.1 = b.2.1
    ·rw [if_neg (by simp [t1])] at h1
     by_cases t2 : b.2.1 = c.2.1
     ·rw [if_neg (by simp [t2])] at h2
      rw [if_neg (by simp [t1, t2])]
      exact x6.le _ _ _ h1 h2
     ·rw [if_pos t2] at h2
      rw [if_pos (by rw [t1]; exact t2), t1]
      exact h2
    ·rw [if_pos t1] at h1
     by_cases t2 : b.2.1 = c.2.1
     ·rw [if_pos (by rw [← t2]; exact t1), ← t2]
      exact h1
     ·rw [if_pos t2] at h2
      have h3 := Xt.le _ _ _ h1 h2
      by_cases t3 : a.2.1 = c.2.1
      ·exfalso
       rw [t3] at h1
       have h4 := ZC c.2.1 b.2.1
       exact t2 ((qw _ _).2.2.1.1 (by omega))
      ·rw [if_pos t3]; exact h3
  ·rw [if_pos e2] at h2
   rw [if_pos (by rw [e1]; exact e2), e1]
   exact h2
 ·rw [if_pos e1] at h1
  rw [xS] at h1
  by_cases e2 : b.1 = c.1
  ·rw [if_pos (by rw [← e2]; exact e1), xS]
   omega
  ·rw [if_pos e2, xS] at h2
   rw [if_pos (by omega), xS]
   omega
end Go.Proofs.YtpbnmhnbkfnaeaaGreatDoor
namespace Go.Proofs.YtpbnmhnbkfnaeaaGreatDoor
open Go.RowKit Nt
theorem xt {c c' : Int → Int → Int} {kids kids' : Int → Int → List (Int × Int)} {n m : Nat} (hk : ∀ a b, InP n m (a, b) → ∀ x ∈ kids a b, InP n m x)
  (hc : ∀ a b, InP n m (a, b) → c a b = c' a b) (hk' : ∀ a b, InP n m (a, b) → kids a b = kids' a b) : ∀ {f i : Nat} {l : List (Int × Int)}, (∀ x ∈ l, InP n m x) → walkP c kids f i l = walkP c' kids' f i l
 | 0, _, _, _ => rfl
 | f + 1, i, l, hl => by
  unfold walkP
  cases e : l[i]? with
  | none => rfl
  | some x =>
   obtain ⟨a, b⟩ := x
   have hab := hl _ (List.mem_of_getElem? e)
   simp only
   rw [hc a b hab, hk' a b hab]
   by_cases h0 : c' a b = 0
   ·rw [if_pos h0, if_pos h0]
    refine xt hk hc hk' (fun x hx => ?_)
    have key : ∀ (ks l : List (Int × Int)), (∀ x ∈ l, InP n m x) → (∀ x ∈ ks, InP n m x) → ∀ x ∈ nxtP l ks, InP n m x := by
     intro ks
     induction ks with
     | nil => intro l hl _ x hx; exact hl x hx
     | cons y ks ih =>
      intro l hl hks x hx
      unfold nxtP at hx
      refine ih _ (fun z hz => ?_) (fun z hz => hks z (List.mem_cons_of_mem _ hz)) x hx
      split at hz
      ·exact hl z hz
      ·rcases List.mem_append.1 hz with hz | hz
       ·exact hl z hz
       ·have : z = y := by simpa using hz
        rw [this]; exact hks y List.mem_cons_self
    exact key _ l hl (by rw [← hk' a b hab]; exact hk a b hab) x hx
   ·rw [if_neg h0, if_neg h0]
def clI (n : Nat) (x : Int) : Int := if 0 ≤ x ∧ x < n then x else 0
theorem xm {n : Nat} (h : 0 < n) (x : Int) : 0 ≤ clI n x ∧ clI n x < n := by unfold clI; split <;> omega
theorem ym {n : Nat} {x : Int} (h : 0 ≤ x ∧ x < n) : clI n x = x := by unfold clI; rw [if_pos h]
abbrev GNd := {nd : Nd // yq nd}
theorem gPre : Pre (fun a b : GNd => zR a.1 b.1) := ⟨fun x y => zbl x.2 y.2, fun x y z => zbC x.2 y.2 z.2⟩
section
variable {ns ms ls : List Nd}
def datN (ns : List Nd) (h : ns.all (ndOk ns.length) = true) (h0 : 0 < ns.length) : Dat GNd :=
 ⟨fun x => (ndI ns (clI ns.length x)).2.2, fun x => ⟨ndI ns (clI ns.length x), Kl (List.all_eq_true.1 h _ (yT (xm h0 x)))⟩⟩
theorem XT (a b : GNd) (h : zR a.1 b.1 = 0) : a.1.2.2.length = b.1.2.2.length := by
 obtain ⟨a, ha⟩ := a
 obtain ⟨b, hb⟩ := b
 simp only at h ⊢
 unfold zR at h
 by_cases h1 : a.1 ≠ b.1
 ·rw [if_pos h1] at h
  exact absurd (yN.1 h) h1
 ·rw [if_neg h1] at h
  have h1 : a.1 = b.1 := Decidable.not_not.1 h1
  by_cases h2 : a.1 = 1
  ·have c1 := ha.2
   have c2 := hb.2
   rw [h2] at c1
   rw [← h1, h2] at c2
   rw [kM c1, kM c2]
  ·rw [if_neg h2] at h
   by_cases h3 : a.2.1 ≠ b.2.1
   ·rw [if_pos h3] at h
    exact absurd ((qw _ _).2.2.1.1 h) h3
   ·rw [if_neg h3] at h
    have := yN.1 h
    omega
theorem jJ (hn : ns.all (ndOk ns.length) = true) (hm : ms.all (ndOk ms.length) = true) (n0 : 0 < ns.length) (m0 : 0 < ms.length) {a b : Int} (hab : InP ns.length ms.length (a, b)) :
  IsFirst (fun s => cO (fun a b : GNd => zR a.1 b.1) ((datN ns hn n0).lb a s) ((datN ms hm m0).lb b s)) (cmpAt ns ms a b) := by
 have h := JB (cmp := fun a b : GNd => zR a.1 b.1) (ar := fun a : GNd => a.1.2.2.length) (D := datN ns hn n0) (E := datN ms hm m0) (a := a) (b := b) (fun _ => rfl) (fun _ => rfl) XT (n := ns.length) (m := ms.length) (g := ns.length * ms.length + 1)
  (fun x y hxy z hz => by
   have e1 := ym hxy.1
   have e2 := ym hxy.2
   simp only at e1 e2
   simp only [datN, e1, e2] at hz
   exact js hn hm x y hxy z hz) hab (by omega)
 have e : cmpAt ns ms a b = walkP (fun x y => zR ((datN ns hn n0).lab x).1 ((datN ms hm m0).lab y).1) (fun x y => ((datN ns hn n0).kids x).zip ((datN ms hm m0).kids y)) (ns.length * ms.length + 1) 0 [(a, b)] := by
  unfold cmpAt
  refine xt (js hn hm) (fun x y hxy => ?_) (fun x y hxy => ?_) (fun x hx => by
   have : x = (a, b) := by simpa using hx
   rw [this]; exact hab)
  ·have e1 := ym hxy.1
   have e2 := ym hxy.2
   simp only at e1 e2
   simp only [datN, e1, e2, labP]
  ·have e1 := ym hxy.1
   have e2 := ym hxy.2
   simp only at e1 e2
   simp only [datN, e1, e2, kidsP]
 rw [e]
 exact h
theorem KN (hn : ns.all (ndOk ns.length) = true) (hm : ms.all (ndOk ms.length) = true) {a b : Int} (hab : InP ns.length ms.length (a, b)) : cmpAt ms ns b a = - cmpAt ns ms a b := by
 have n0 : 0 < ns.length := by have := hab.1; omega
 have m0 : 0 < ms.length := by have := hab.2; omega
 exact Xs gPre (jJ hn hm n0 m0 hab) (jJ hm hn m0 n0 ⟨hab.2, hab.1⟩)
theorem Xn (hn : ns.all (ndOk ns.length) = true) (hm : ms.all (ndOk ms.length) = true) (hl : ls.all (ndOk ls.length) = true) {a b c : Int} (ha : 0 ≤ a ∧ a < ns.length) (hb : 0 ≤ b ∧ b < ms.length) (hc : 0 ≤ c ∧ c < ls.length)
  (h1 : cmpAt ns ms a b ≤ 0) (h2 : cmpAt ms ls b c ≤ 0) : cmpAt ns ls a c ≤ 0 ∧ (cmpAt ns ms a b < 0 ∨ cmpAt ms ls b c < 0 → cmpAt ns ls a c < 0) := by
 have n0 : 0 < ns.length := by omega
 have m0 : 0 < ms.length := by omega
 have l0 : 0 < ls.length := by omega
 exact zbh (ar := fun a : GNd => a.1.2.2.length) gPre (fun _ => rfl) (fun _ => rfl) (fun _ => rfl) XT (jJ hn hm n0 m0 ⟨ha, hb⟩) (jJ hm hl m0 l0 ⟨hb, hc⟩) (jJ hn hl n0 l0 ⟨ha, hc⟩) h1 h2
def ordI (ns : List Nd) (a b : Int) : Int := cmpAt ns ns (clI ns.length a) (clI ns.length b)
theorem kq (hn : ns.all (ndOk ns.length) = true) (n0 : 0 < ns.length) : Pre (ordI ns) :=
 ⟨fun x y => KN hn hn ⟨xm n0 x, xm n0 y⟩, fun x y z h1 h2 => (Xn hn hn hn (xm n0 x) (xm n0 y) (xm n0 z) h1 h2).1⟩
theorem YF {a b : Int} (ha : 0 ≤ a ∧ a < ns.length) (hb : 0 ≤ b ∧ b < ns.length) : ordI ns a b = cmpAt ns ns a b := by unfold ordI; rw [ym ha, ym hb]
end
end Go.Proofs.YtpbnmhnbkfnaeaaGreatDoor
namespace Go.Proofs.YtpbnmhnbkfnaeaaGreatDoor
open Go.RowKit Nt
def sortM (d : Dt) : Dt := if okD d then (d.1, srt (ordI d.1) d.2) else ([], [])
theorem jP {d : Dt} (h : okD d = true) : sortM d = (d.1, srt (ordI d.1) d.2) := by unfold sortM; rw [h]; rfl
theorem xY {d : Dt} (h : okD d = false) : sortM d = ([], []) := by unfold sortM; rw [h]; rfl
theorem Vx (w : World) (base : Nat) (_ : base ≤ w.heap.size) : DataOwn w base w.heap.size (.agg #[.slice none 0 0, .slice none 0 0]) ([], []) := by
 refine ⟨_, _, [], rfl, .inl ⟨rfl, rfl, rfl⟩, World.ownsRow_nil _ _ _ _, List.pairwise_singleton _ _, fun i hi => by simp [Value.ownBlock] at hi, fun x hx i hi => ?_, Nat.le_refl _⟩
 rcases hx with rfl | rfl | hx
 ·simp [Value.ownBlock] at hi
 ·simp [Value.ownBlock] at hi
 ·simp at hx
theorem za9 {w : World} {b : Nat} {u0 u1 v : Value} {a : Addr} (h : w.cell? a = some v) (hne : a.block ≠ b) : ((w.setCell ⟨b, 0, none⟩ u0).setCell ⟨b, 1, none⟩ u1).cell? a = some v := by
 rw [World.cell?_setCell_far _ _ _ _ (Ne.symm hne), World.cell?_setCell_far _ _ _ _ (Ne.symm hne)]
 exact h
theorem zao {ns : List Nd} {rs : List Int} (hn : ns.all (ndOk ns.length) = true) (hr : ∀ x ∈ rs, 0 ≤ x ∧ x < ns.length) : ∃ r : Int → Int → Int, Pre r ∧ srt r rs = srt (ordI ns) rs ∧ ∀ x ∈ rs, ∀ y ∈ rs, r x y = cmpAt ns ns x y := by
 by_cases h0 : 0 < ns.length
 ·exact ⟨ordI ns, kq hn h0, rfl, fun x hx y hy => YF (hr x hx) (hr y hy)⟩
 ·have hrs : rs = [] := by
   cases rs with
   | nil => rfl
   | cons x t => have := hr x List.mem_cons_self; omega
  subst hrs
  exact ⟨fun _ _ => 0, ⟨fun _ _ => rfl, fun _ _ _ _ _ => by omega⟩, rfl, fun x hx => by simp at hx⟩
theorem yX (nv rv : Value) (d : Dt) (w : World) (h : DataAt w (.agg #[nv, rv]) d) (hs : d.1.length ≤ 1048576 ∧ d.2.length ≤ 1048576 ∧ zM d.1) (hT : Tabz w) (hN : Tens w) (h3 : 3 < w.heap.size) :
  Calls Tryz.prog 15 #[.agg #[nv, rv]] w fun e w' => (∃ gn gr, e = .returned (.agg #[gn, gr]) ∧ DataOwn w' w.heap.size w'.heap.size (.agg #[gn, gr]) (sortM d)) ∧ Below w.heap.size w w' := by
 obtain ⟨ns, rs⟩ := d
 have HD := hide h
 obtain ⟨nv', rv', e, hn, hr⟩ := h
 simp only [Value.agg.injEq, Array.mk.injEq, List.cons.injEq, and_true] at e
 obtain ⟨rfl, rfl⟩ := e
 simp only at hn hr hs
 have HN := hide hn
 have HR := hide hr
 obtain ⟨na, nc, rfl, hn1, hn2⟩ := hn.form0
 obtain ⟨ra, rc, rfl, hr1, hr2⟩ := hr.form
 unfold maxLen at hn2 hr2
 have HT := hide (And.intro hT (And.intro hN h3))
 have HS := hide hs
 have HB := hide (zf (zf (Below.refl w.heap.size w) (.cells #[.slice na ns.length nc, .slice ra rs.length rc] 26)) (.cells #[.slice none 0 0, .slice none 0 0] 26))
 have HP := hide ((AtC2.new w (.slice na ns.length nc) (.slice ra rs.length rc) 26).alloc (.cells #[.slice none 0 0, .slice none 0 0] 26))
 have HQ := hide (AtC2.new (w.alloc (.cells #[.slice na ns.length nc, .slice ra rs.length rc] 26)) (.slice none 0 0) (.slice none 0 0) 26)
 rw [World.size_alloc] at HQ
 have HC : Hid (∀ W, Below w.heap.size w W → Calls Tryz.prog 37 #[.agg #[.slice na ns.length nc, .slice ra rs.length rc]] W fun e w' => e = .returned (.bool (okD (ns, rs))) ∧ Below W.heap.size W w') := hide (fun W hb => kj _ _ (ns, rs) W ((za HD).below hb) hs ((za HT).1.below (by have := (za HT).2.2; omega) hb) ((za HT).2.1.belowB hb (za HT).2.2) (Nat.lt_of_lt_of_le (za HT).2.2 hb.size))
 obtain ⟨M, hM⟩ : ∃ M, sortM (ns, rs) = M := ⟨_, rfl⟩
 rw [hM]
 have HM := hide hM
 clear hn hr hs hT hN h3 hM
 go_enter Tryz.func15, Tryz.ntmps15
 go_wp2_with fail
 obtain ⟨W, hW⟩ : ∃ W, (w.alloc (.cells #[.slice na ns.length nc, .slice ra rs.length rc] 26)).alloc (.cells #[.slice none 0 0, .slice none 0 0] 26) = W := ⟨_, rfl⟩
 rw [hW] at HB HP HQ ⊢
 clear hW
 have p0 := (za HP).n0
 have p1 := (za HP).n1
 go_wp2_with fail
 refine (za HC W (za HB)).mono ?_
 rintro e' W1 ⟨rfl, hb1⟩
 have HB1 := hide (zj (za HB) hb1)
 have HP1 := hide ((za HP).below hb1)
 have HQ1 := hide ((za HQ).below hb1)
 clear hb1 HB HP HQ p0 p1
 rcases Bool.eq_false_or_eq_true (okD (ns, rs)) with ho | ho
 ·rw [ho]
  have HO := hide ho
  obtain ⟨l1, l2, k1, j1⟩ := qt ho
  obtain ⟨r, hpre, hsr, hro⟩ := zao k1 j1
  obtain rfl : M = (ns, srt r rs) := by rw [← za HM, jP ho, hsr]
  have hl := jh (r := r) rs
  have HCE : Hid (∀ X, Below w.heap.size w X → Calls Tryz.prog 43 #[.slice na ns.length nc, .func (.func 44) #[] #[]] X fun e w' => (∃ kvs, e = .returned (.slice (some ⟨X.heap.size, 0, none⟩) ns.length ns.length) ∧ NodesOwn w' X.heap.size X.heap.size ns.length ns kvs) ∧ Below X.heap.size X w') := hide (fun X hX => Ki na nc ns X ((za HN).below hX) (by omega) (za HS).2.2)
  have HCS : Hid (∀ X, Below W1.heap.size W1 X → Calls Tryz.prog 45 #[.slice ra rs.length rc, .func (.func 42) #[] #[.pointer (some ⟨w.heap.size, 0, none⟩)]] X fun e w' => (∃ sa sc, e = .returned (.slice sa rs.length sc) ∧ RowI w' X.heap.size (.slice sa rs.length sc) (srt r rs)) ∧ Below X.heap.size X w') := hide (fun X hX => by
   have hwX := zj (za HB1) hX
   have := Vt r hpre w.heap.size 12 rs ra rc X l2 l2 ((za HR).below hwX) (fun x hx y hy Y hY => by
    rw [hro x hx y hy]
    have hx' := j1 x hx
    have hwY := zj hwX hY
    obtain ⟨gn, on, cn', e1, _, _, _⟩ := (za HN).form (show 0 < ns.length by omega)
    injection e1 with e1 _ e1c
    have hnY := (za HN).below hwY
    have hpY := ((za HP1).below hX).below hY
    rw [e1] at hnY hpY
    exact Kc ns x y gn on nc w.heap.size _ Y hpY hnY k1 ⟨hx', j1 y hy⟩ l1 ((za HT).2.1.belowB hwY (za HT).2.2) (Nat.lt_of_lt_of_le (za HT).2.2 hwY.size))
   refine this.mono ?_
   rintro e w' ⟨⟨v, rfl, hr⟩, hb⟩
   obtain ⟨a, c, rfl, hr'⟩ := kp (k := rs.length) hr hl
   exact ⟨⟨a, c, rfl, hr'⟩, hb⟩)
  have p0 := (za HP1).n0
  have p1 := (za HP1).n1
  have q0 := (za HQ1).n0
  have q1 := (za HQ1).n1
  have HPRE := hide (And.intro hpre hl)
  clear ho k1 j1 hro hsr hpre hl HC
  go_wp2_with fail
  have d0 : W1.drew.cell? ⟨w.heap.size, 0, none⟩ = some (.slice na ns.length nc) := (za HP1).n0
  have d1 : W1.drew.cell? ⟨w.heap.size, 1, none⟩ = some (.slice ra rs.length rc) := (za HP1).n1
  go_region_held3 (fun w' => w'.cell? ⟨w.heap.size, 0, none⟩ = some (.slice na ns.length nc) ∧ w'.cell? ⟨w.heap.size, 1, none⟩ = some (.slice ra rs.length rc)) (((try dsimp only); (repeat' apply And.intro) <;> (first | with_reducible assumption | (refine za9 (by with_reducible assumption) (by show w.heap.size ≠ w.heap.size + 1; omega)))))
   (first
    | (go_at_call 45; refine (za HCS w5 (za HB5)).mono ?_; rintro e w6 ⟨⟨sa, sc, rfl, hr6⟩, hb6⟩; have HR6 := hide hr6; have HN6 := hide ((za HN5).below hb6); have HB6 : Hid (Below W1.heap.size W1 w6) := zj (za HB5) hb6; have f0 := ((za HP1).below (za HB6)).n0; have f1 := ((za HP1).below (za HB6)).n1; have g0 := ((za HQ1).below (za HB6)).n0; have g1 := ((za HQ1).below (za HB6)).n1; have gf := ((za HQ1).below (za HB6)).f; clear hr6 hb6)
    | (go_at_call 43; refine (za HCE W1.drew (za HB1).drew).mono ?_; rintro e w5 ⟨⟨kvs, rfl, hn5⟩, hb5⟩; have HN5 : Hid (NodesOwn w5 W1.heap.size W1.heap.size ns.length ns kvs) := hn5; have HB5 : Hid (Below W1.heap.size W1 w5) := (Below.refl _ _).drew.trans hb5; have e0 := ((za HP1).below (za HB5)).n0; have e1 := ((za HP1).below (za HB5)).n1; clear hn5 hb5))
  obtain ⟨V0, hV0⟩ : ∃ V, Value.slice (some ⟨W1.heap.size, 0, none⟩) ns.length ns.length = V := ⟨_, rfl⟩
  obtain ⟨V1, hV1⟩ : ∃ V, Value.slice sa rs.length sc = V := ⟨_, rfl⟩
  have HRF := hide ((((za HQ1).below (za HB6)).st0 V0).st1 V1)
  have z0 := (za HRF).n0
  have z1 := (za HRF).n1
  have ql := (za HQ1).lt
  have HBF := hide (((zj (za HB1) (za HB6)).setCell (p := ⟨w.heap.size + 1, 0, none⟩) (Nat.le_succ _) V0).setCell (p := ⟨w.heap.size + 1, 1, none⟩) (Nat.le_succ _) V1)
  have h51 := (za HN5).1.2.1
  have h15 := (za HB5).size
  have hw1 := (za HB1).size
  have hN := ((za HN6).far (a := ⟨w.heap.size + 1, 0, none⟩) ql V0).far (a := ⟨w.heap.size + 1, 1, none⟩) ql V1
  have hR := ownsRow_setCell_below (ownsRow_setCell_below (za HR6) (a := ⟨w.heap.size + 1, 0, none⟩) (by show w.heap.size + 1 < _; omega) V0) (a := ⟨w.heap.size + 1, 1, none⟩) (by show w.heap.size + 1 < _; omega) V1
  have hsz : ((w6.setCell ⟨w.heap.size + 1, 0, none⟩ V0).setCell ⟨w.heap.size + 1, 1, none⟩ V1).heap.size = w6.heap.size := by simp
  have hOwn : DataOwn ((w6.setCell ⟨w.heap.size + 1, 0, none⟩ V0).setCell ⟨w.heap.size + 1, 1, none⟩ V1) w.heap.size ((w6.setCell ⟨w.heap.size + 1, 0, none⟩ V0).setCell ⟨w.heap.size + 1, 1, none⟩ V1).heap.size (.agg #[V0, V1]) (ns, srt r rs) := by
   refine ⟨V0, V1, kvs, rfl, .inr ⟨W1.heap.size, ns.length, hV0.symm, Nat.le_refl _, by unfold maxLen; omega, hN.base hw1⟩, ?_, ?_, ?_, ?_, Nat.le_refl _⟩
   ·rw [← hV1] at hR ⊢
    exact zK hR (by omega)
   ·unfold Apart
    rw [List.pairwise_cons]
    refine ⟨fun k hk i hi e => ?_, (za HN6).2.2.2.2.1⟩
    rw [← hV1] at hi
    have := ((za HR6).lt i hi).1
    have := (za HN5).old k hk i e
    omega
   ·intro i hi e
    rw [← hV0] at hi
    rw [← hV1] at e
    have := ((za HR6).lt i e).1
    simp [Value.ownBlock] at hi
    omega
   ·rw [hsz]
    intro x hx i hi
    rcases hx with rfl | rfl | hx
    ·rw [← hV0] at hi
     simp [Value.ownBlock] at hi
     have := (za HN6).1.2.1
     omega
    ·rw [← hV1] at hi
     exact ((za HR6).lt i hi).2
    ·exact (za HN6).old x hx i hi
  have HOWN := hide hOwn
  rw [hV0, hV1]
  clear hN hR hsz hOwn h51 h15 hw1 ql f0 f1 g0 g1 gf e0 e1 d0 d1 p0 p1 q0 q1 hV0 hV1
  go_wp2_with fail
  refine bodyPost_ret (v := .agg #[V0, V1]) (by simp [results, Tryz.f15, go_sem, z0, z1]) rfl ⟨⟨_, _, rfl, za HOWN⟩, za HBF⟩
 ·rw [ho]
  obtain rfl : M = ([], []) := by rw [← za HM, xY ho]
  clear ho
  have q0 := (za HQ1).n0
  have q1 := (za HQ1).n1
  have qf := (za HQ1).f
  go_wp2_with fail
  have HRF := hide (((za HQ1).st0 (.slice none 0 0)).st1 (.slice none 0 0))
  have z0 := (za HRF).n0
  have z1 := (za HRF).n1
  have HBF := hide (((za HB1).setCell (p := ⟨w.heap.size + 1, 0, none⟩) (Nat.le_succ _) (.slice none 0 0)).setCell (p := ⟨w.heap.size + 1, 1, none⟩) (Nat.le_succ _) (.slice none 0 0))
  refine bodyPost_ret (v := .agg #[.slice none 0 0, .slice none 0 0]) (by simp [results, Tryz.f15, go_sem, z0, z1]) rfl ⟨⟨_, _, rfl, Vx _ _ (za HBF).size⟩, za HBF⟩
theorem VH (r : Int → Int → Int) (x y : Int) : ∀ m : List Int, (insF r x m).count y = m.count y + (if x = y then 1 else 0) := by
 intro m
 induction m with
 | nil => simp [insF, List.count_cons]
 | cons z t ih =>
  unfold insF
  split
  ·simp only [List.count_cons]
   rw [ih]; omega
  ·simp only [List.count_cons, beq_iff_eq]
theorem KU (r : Int → Int → Int) (y : Int) (l : List Int) : (srt r l).count y = l.count y := by
 unfold srt
 have h : ∀ (l m : List Int), (l.foldl (fun m x => insF r x m) m).count y = m.count y + l.count y := by
  intro l
  induction l with
  | nil => intro m; simp
  | cons x t ih => intro m; rw [List.foldl_cons, ih, VH, List.count_cons]; simp only [beq_iff_eq]; omega
 have := h l []
 simpa using this
theorem Kw {r : Int → Int → Int} (hp : Pre r) (l : List Int) : srt r (srt r l) = srt r l :=
 Zi hp (qL hp _) (qL hp _) (fun x => kA hp _ x)
theorem zaP {d : Dt} (h : okD d = true) : okD (sortM d) = true := by
 obtain ⟨ns, rs⟩ := d
 rw [jP h]
 obtain ⟨h1, h2, h3, h4⟩ := qt h
 simp only
 by_cases hr : rs = []
 ·subst hr; exact h
 ·have h0 : 0 < ns.length := by
   obtain ⟨a, t, rfl⟩ : ∃ a t, rs = a :: t := by cases rs with | nil => exact absurd rfl hr | cons a t => exact ⟨a, t, rfl⟩
   have := h4 a List.mem_cons_self
   omega
  refine Jr ?_ h3 ?_
  ·unfold qG; simp only [Bool.and_eq_true, decide_eq_true_eq]; exact ⟨h1, by rw [jh]; exact h2⟩
  ·rw [List.all_eq_true]
   intro x hx
   have := h4 x ((yM (kq h3 h0) rs x).1 hx)
   unfold inR; simp only [Bool.and_eq_true, decide_eq_true_eq]; omega
theorem Yk {d : Dt} (h : okD d = true) : sortM (sortM d) = sortM d := by
 rw [jP (zaP h), jP h]
 obtain ⟨ns, rs⟩ := d
 obtain ⟨h1, h2, h3, h4⟩ := qt h
 simp only
 by_cases hr : rs = []
 ·subst hr; rfl
 ·have h0 : 0 < ns.length := by
   obtain ⟨a, t, rfl⟩ : ∃ a t, rs = a :: t := by cases rs with | nil => exact absurd rfl hr | cons a t => exact ⟨a, t, rfl⟩
   have := h4 a List.mem_cons_self
   omega
  rw [Kw (kq h3 h0)]
theorem Kx {ns : List Nd} {rs m : List Int} {i : Nat} {a b : Int} (h : okD (ns, rs) = true) (hm : srt (ordI ns) rs = m) (ha : m[i]? = some a) (hb : m[i + 1]? = some b) : tabM (ns, [a]) (ns, [b]) ≤ 0 := by
 obtain ⟨h1, h2, h3, h4⟩ := qt h
 have hne : rs ≠ [] := by
  intro e; subst e; subst hm
  have : (srt (ordI ns) ([] : List Int))[i]? = none := by simp [srt]
  rw [this] at ha; cases ha
 have h0 : 0 < ns.length := by
  obtain ⟨x, t, rfl⟩ : ∃ x t, rs = x :: t := by cases rs with | nil => exact absurd rfl hne | cons x t => exact ⟨x, t, rfl⟩
  have := h4 x List.mem_cons_self
  omega
 have hp := kq h3 h0
 have hin : ∀ z, z ∈ m → 0 ≤ z ∧ z < ns.length := fun z hz => h4 z ((yM hp rs z).1 (by rw [hm]; exact hz))
 have hma := hin a (List.mem_of_getElem? ha)
 have hmb := hin b (List.mem_of_getElem? hb)
 have hok : ∀ z : Int, 0 ≤ z ∧ z < ns.length → okD (ns, [z]) = true := fun z hz => by
  refine Jr ?_ h3 ?_
  ·unfold qG; simp only [Bool.and_eq_true, decide_eq_true_eq]; exact ⟨h1, by simp⟩
  ·unfold inR; simp; omega
 rw [YB (hok a hma) (hok b hmb), ← YF hma hmb]
 have hs := qL hp rs
 rw [hm] at hs
 rw [List.pairwise_iff_getElem] at hs
 obtain ⟨l1, e1⟩ := List.getElem?_eq_some_iff.1 ha
 obtain ⟨l2, e2⟩ := List.getElem?_eq_some_iff.1 hb
 have := hs i (i + 1) l1 l2 (by omega)
 rwa [e1, e2] at this
end Go.Proofs.YtpbnmhnbkfnaeaaGreatDoor
namespace Go.Proofs.YtpbnmhnbkfnaeaaGreatDoor
open Go.RowKit Nt
def rdI (i : Nat) : Bool := (decide (0 < i) && decide (i < 4)) || (decide (4 < i) && decide (i < 10)) || (decide (11 < i) && decide (i < 15))
theorem qi {w w' : World} (k : Below w.heap.size w w') {a : Addr} {v : Value} (h : w.cell? a = some v) : w'.cell? a = some v := (k.cell (World.block_lt_of_cell? _ _ h)).trans h
def Apt (v : Value) (g : Nat) : Prop := v.ownBlock ≠ some g
structure InS (W : World) (v : Nat → Value) (y : Int) (p q : List Int) (l : Array Bool) (x : Nat → Value) (w' : World) : Prop where
 sz : l.size = 17
 val : ∀ i, rdI i = true → LL l i → x i = v i
 bw : Below W.heap.size W w'
 k0 : LL l 0 → ¬ LL l 4 → (∃ g, x 0 = .slice (some ⟨g, 0, none⟩) 0 0) ∧ RowI w' W.heap.size (x 0) []
 k4 : LL l 4 → ∃ a c, x 4 = .slice a p.length c
 r4 : LL l 4 → ¬ LL l 11 → RowI w' W.heap.size (x 4) p
 n10 : LL l 10 → ¬ LL l 11 → ∃ g, x 10 = .slice (some ⟨g, 0, none⟩) 1 1 ∧ w'.cell? ⟨g, 0, none⟩ = some (.int .i64 y) ∧ g < w'.heap.size ∧ (LL l 0 → ¬ LL l 4 → Apt (x 0) g) ∧ (LL l 4 → Apt (x 4) g)
 k11 : LL l 11 → ∃ a c, x 11 = .slice a (p.length + 1) c
 r11 : LL l 11 → ¬ LL l 15 → RowI w' W.heap.size (x 11) (p ++ [y])
 r15 : LL l 15 → (∃ a c, x 15 = .slice a (p ++ [y] ++ q).length c) ∧ RowI w' W.heap.size (x 15) (p ++ [y] ++ q)
 c4 : LL l 4 → LL l 0
 c11 : LL l 11 → LL l 4 ∧ LL l 10
 c15 : LL l 15 → LL l 11
 c16 : LL l 16 → ∀ j, j < 16 → LL l j
 o16 : ¬ LL l 16 → x 16 = v 16
 a16 : LL l 16 → x 16 = x 15
section
variable {W w' w2 : World} {v x : Nat → Value} {y : Int} {p q : List Int} {l : Array Bool}
theorem InS.start (hl : l = Array.replicate 17 false) (h : Below W.heap.size W w') (h16 : x 16 = v 16) : InS W v y p q l x w' := by
 subst hl
 have hn : ∀ j, ¬ LL (Array.replicate 17 false) j := fun j h => by
  unfold LL at h
  rw [Array.getElem?_replicate] at h
  split at h <;> simp at h
 exact ⟨by simp, fun i _ h => absurd h (hn _), h, fun h => absurd h (hn _), fun h => absurd h (hn _), fun h => absurd h (hn _), fun h => absurd h (hn _), fun h => absurd h (hn _), fun h => absurd h (hn _), fun h => absurd h (hn _), fun h => absurd h (hn _), fun h => absurd h (hn _), fun h => absurd h (hn _), fun h => absurd h (hn _), fun _ => h16, fun h => absurd h (hn _)⟩
theorem InS.mk' (i : Nat) (hi : i < 17) (hn : ¬ LL l i) (h : InS W v y p q l x w') {x' : Nat → Value} (hx : ∀ j, j ≠ i → x' j = x j) (hv : rdI i = true → x' i = v i) (hb : Below W.heap.size W w2) (_ : Below W.heap.size w' w2)
  (k0 : (i = 0 ∨ LL l 0) → ¬ (i = 4 ∨ LL l 4) → (∃ g, x' 0 = .slice (some ⟨g, 0, none⟩) 0 0) ∧ RowI w2 W.heap.size (x' 0) [])
  (k4 : (i = 4 ∨ LL l 4) → ∃ a c, x' 4 = .slice a p.length c)
  (r4 : (i = 4 ∨ LL l 4) → ¬ (i = 11 ∨ LL l 11) → RowI w2 W.heap.size (x' 4) p)
  (n10 : (i = 10 ∨ LL l 10) → ¬ (i = 11 ∨ LL l 11) → ∃ g, x' 10 = .slice (some ⟨g, 0, none⟩) 1 1 ∧ w2.cell? ⟨g, 0, none⟩ = some (.int .i64 y) ∧ g < w2.heap.size ∧ ((i = 0 ∨ LL l 0) → ¬ (i = 4 ∨ LL l 4) → Apt (x' 0) g) ∧ ((i = 4 ∨ LL l 4) → Apt (x' 4) g))
  (k11 : (i = 11 ∨ LL l 11) → ∃ a c, x' 11 = .slice a (p.length + 1) c)
  (r11 : (i = 11 ∨ LL l 11) → ¬ (i = 15 ∨ LL l 15) → RowI w2 W.heap.size (x' 11) (p ++ [y]))
  (r15 : (i = 15 ∨ LL l 15) → (∃ a c, x' 15 = .slice a (p ++ [y] ++ q).length c) ∧ RowI w2 W.heap.size (x' 15) (p ++ [y] ++ q))
  (c4 : (i = 4 ∨ LL l 4) → i = 0 ∨ LL l 0) (c11 : (i = 11 ∨ LL l 11) → (i = 4 ∨ LL l 4) ∧ (i = 10 ∨ LL l 10)) (c15 : (i = 15 ∨ LL l 15) → i = 11 ∨ LL l 11)
  (c16 : i = 16 → ∀ j, j < 16 → LL l j) (a16 : i = 16 → x' 16 = x' 15) : InS W v y p q (l.setIfInBounds i true) x' w2 := by
 have e : ∀ j, LL (l.setIfInBounds i true) j ↔ (i = j ∨ LL l j) := fun j => (vG (by rw [h.sz]; exact hi) j).trans ⟨fun h => h.imp Eq.symm id, fun h => h.imp Eq.symm id⟩
 refine ⟨by simp [h.sz], fun j hj ej => ?_, hb, by rw [e, e]; exact k0, by rw [e]; exact k4, by rw [e, e]; exact r4, by rw [e, e, e, e]; exact n10, by rw [e]; exact k11, by rw [e, e]; exact r11, by rw [e]; exact r15, by rw [e, e]; exact c4, by rw [e, e, e]; exact c11, by rw [e, e]; exact c15, ?_, ?_, ?_⟩
 ·by_cases q' : j = i
  ·subst q'; exact hv hj
  ·rw [hx j q']; exact h.val j hj (((e j).1 ej).resolve_left (Ne.symm q'))
 ·intro e16 j hj
  rw [e]
  rcases (e 16).1 e16 with q' | q'
  ·exact .inr (c16 q' j hj)
  ·exact .inr (h.c16 q' j hj)
 ·intro n16
  rw [e] at n16
  have q' : (16 : Nat) ≠ i := fun q' => n16 (.inl q'.symm)
  rw [hx 16 q']; exact h.o16 (fun q => n16 (.inr q))
 ·intro e16
  rcases (e 16).1 e16 with q' | q'
  ·exact a16 q'
  ·by_cases r : i = 16
   ·exact a16 r
   ·have hi16 : i < 16 := by omega
    exact absurd (h.c16 q' i hi16) hn
theorem InS.read (h : InS W v y p q l x w') (i : Nat) (hi : rdI i = true) (hi17 : i < 17) (hn : ¬ LL l i) (u : Value) (hu : u = v i) : InS W v y p q (l.setIfInBounds i true) (fun j => if j = i then u else x j) w' := by
 have n0 : i ≠ 0 := by rintro rfl; revert hi; decide
 have n4 : i ≠ 4 := by rintro rfl; revert hi; decide
 have n10 : i ≠ 10 := by rintro rfl; revert hi; decide
 have n11 : i ≠ 11 := by rintro rfl; revert hi; decide
 have n15 : i ≠ 15 := by rintro rfl; revert hi; decide
 have n16 : i ≠ 16 := by rintro rfl; revert hi; decide
 refine InS.mk' i hi17 hn h (fun j hj => if_neg hj) (fun _ => by simpa using hu) h.bw (Below.refl _ _ |>.mono h.bw.size) ?_ ?_ ?_ ?_ ?_ ?_ ?_ ?_ ?_ ?_ (fun e => absurd e n16) (fun e => absurd e n16)
 ·simp only [n0, n4, false_or, if_neg (Ne.symm n0)]; exact h.k0
 ·simp only [n4, false_or, if_neg (Ne.symm n4)]; exact h.k4
 ·simp only [n4, n11, false_or, if_neg (Ne.symm n4)]; exact h.r4
 ·simp only [n0, n4, n10, n11, false_or, if_neg (Ne.symm n0), if_neg (Ne.symm n4), if_neg (Ne.symm n10)]; exact h.n10
 ·simp only [n11, false_or, if_neg (Ne.symm n11)]; exact h.k11
 ·simp only [n11, n15, false_or, if_neg (Ne.symm n11)]; exact h.r11
 ·simp only [n15, false_or, if_neg (Ne.symm n15)]; exact h.r15
 ·simp only [n0, n4, false_or]; exact h.c4
 ·simp only [n4, n10, n11, false_or]; exact h.c11
 ·simp only [n11, n15, false_or]; exact h.c15
theorem InS.s0 (h : InS W v y p q l x w') (hn : ¬ LL l 0) : InS W v y p q (l.setIfInBounds 0 true) (fun j => if j = 0 then .slice (some ⟨w'.heap.size, 0, none⟩) 0 0 else x j) (w'.alloc (.cells #[] 3)) := by
 have n4 : ¬ LL l 4 := fun e => hn (h.c4 e)
 have n11 : ¬ LL l 11 := fun e => n4 (h.c11 e).1
 have n15 : ¬ LL l 15 := fun e => n11 (h.c15 e)
 have hb := zf h.bw (.cells #[] 3)
 refine InS.mk' 0 (by omega) hn h (fun j hj => if_neg hj) (fun e => absurd e (by decide)) hb ((zf (Below.refl _ _) _).mono h.bw.size) (fun _ _ => ⟨⟨_, rfl⟩, zK (jp w') h.bw.size⟩) (fun e => ?_) (fun e => ?_) (fun e e' => ?_) (fun e => ?_) (fun e => ?_) (fun e => ?_) (fun e => ?_) (fun e => ?_) (fun e => ?_) (fun e => absurd e (by decide)) (fun e => absurd e (by decide))
 ·exact absurd (e.resolve_left (by decide)) n4
 ·exact absurd (e.resolve_left (by decide)) n4
 ·obtain ⟨g, e1, e2, e3, _, _⟩ := h.n10 (e.resolve_left (by decide)) n11
  refine ⟨g, e1, qi (zf (Below.refl _ _) _) e2, by simp; omega, fun _ _ q => ?_, fun e => absurd (e.resolve_left (by decide)) n4⟩
  simp [Value.ownBlock] at q
  omega
 ·exact absurd (e.resolve_left (by decide)) n11
 ·exact absurd (e.resolve_left (by decide)) n11
 ·exact absurd (e.resolve_left (by decide)) n15
 ·exact absurd (e.resolve_left (by decide)) n4
 ·exact absurd (e.resolve_left (by decide)) n11
 ·exact absurd (e.resolve_left (by decide)) n15
theorem VJ {w w' : World} {r : Option Nat} {g : Nat} {u : Value} (hg : w.grownBy w' r) (hlt : g < w.heap.size) (hne : r ≠ some g) (h : w.cell? ⟨g, 0, none⟩ = some u) : w'.cell? ⟨g, 0, none⟩ = some u := by
 have e := hg.block g hlt (Ne.symm hne)
 exact (World.cell?_of_block (a := ⟨g, 0, none⟩) e).trans h
theorem InS.s4 (h : InS W v y p q l x w') (hn : ¬ LL l 4) (h0 : LL l 0) {a : Option Addr} {c : Nat} (hr : RowI w2 W.heap.size (.slice a p.length c) p) (hg : w'.grownBy w2 (x 0).ownBlock) (hw : (Value.slice a p.length c).ownBlock = (x 0).ownBlock ∨ (Value.slice a p.length c).ownBlock = some w'.heap.size) :
  InS W v y p q (l.setIfInBounds 4 true) (fun j => if j = 4 then .slice a p.length c else x j) w2 := by
 have n11 : ¬ LL l 11 := fun e => hn (h.c11 e).1
 have n15 : ¬ LL l 15 := fun e => n11 (h.c15 e)
 have hrow := (h.k0 h0 hn).2
 have hb := zw h.bw hrow hg h.bw.size
 have hbb : Below W.heap.size w' w2 := zw (Below.refl _ _) hrow hg h.bw.size
 refine InS.mk' 4 (by omega) hn h (fun j hj => if_neg hj) (fun e => absurd e (by decide)) hb hbb (fun _ e => absurd (.inl rfl) e) (fun _ => ⟨a, c, rfl⟩) (fun _ _ => hr) (fun e e' => ?_) (fun e => ?_) (fun e => ?_) (fun e => ?_) (fun _ => .inr h0) (fun e => ?_) (fun e => ?_) (fun e => absurd e (by decide)) (fun e => absurd e (by decide))
 ·obtain ⟨g, e1, e2, e3, e4, _⟩ := h.n10 (e.resolve_left (by decide)) n11
  have hap := e4 h0 hn
  refine ⟨g, e1, VJ hg e3 hap e2, Nat.lt_of_lt_of_le e3 hbb.size, fun _ e => absurd (.inl rfl) e, fun _ q => ?_⟩
  have q : (Value.slice a p.length c).ownBlock = some g := q
  rcases hw with hw | hw
  ·rw [hw] at q; exact hap q
  ·rw [hw] at q
   simp at q
   omega
 ·exact absurd (e.resolve_left (by decide)) n11
 ·exact absurd (e.resolve_left (by decide)) n11
 ·exact absurd (e.resolve_left (by decide)) n15
 ·exact absurd (e.resolve_left (by decide)) n11
 ·exact absurd (e.resolve_left (by decide)) n15
theorem Y6 {w : World} {b : Nat} {u : Value} {m : List Int} (h : RowI w b u m) : Apt u w.heap.size := fun e => by have := (h.lt _ e).2; omega
theorem InS.s10 (h : InS W v y p q l x w') (hn : ¬ LL l 10) : InS W v y p q (l.setIfInBounds 10 true) (fun j => if j = 10 then .slice (some ⟨w'.heap.size, 0, none⟩) 1 1 else x j) (w'.alloc (.cells #[.int .i64 y] 3)) := by
 have n11 : ¬ LL l 11 := fun e => hn (h.c11 e).2
 have n15 : ¬ LL l 15 := fun e => n11 (h.c15 e)
 have hab := zf (Below.refl w'.heap.size w') (.cells #[.int .i64 y] 3)
 refine InS.mk' 10 (by omega) hn h (fun j hj => if_neg hj) (fun e => absurd e (by decide)) (zf h.bw _) (hab.mono h.bw.size) (fun e e' => ?_) (fun e => ?_) (fun e _ => ?_) (fun _ _ => ?_) (fun e => ?_) (fun e => ?_) (fun e => ?_) (fun e => ?_) (fun e => ?_) (fun e => ?_) (fun e => absurd e (by decide)) (fun e => absurd e (by decide))
 ·obtain ⟨k1, k2⟩ := h.k0 (e.resolve_left (by decide)) (fun q => e' (.inr q))
  exact ⟨k1, zr k2 hab⟩
 ·exact h.k4 (e.resolve_left (by decide))
 ·exact zr (h.r4 (e.resolve_left (by decide)) n11) hab
 ·refine ⟨_, rfl, ?_, by simp, fun e e' => ?_, fun e => ?_⟩
  ·have := heap_alloc_new w' (.cells #[.int .i64 y] 3)
   unfold World.cell?
   simp only
   rw [this]
   rfl
  ·exact Y6 (h.k0 (e.resolve_left (by decide)) (fun q => e' (.inr q))).2
  ·exact Y6 (h.r4 (e.resolve_left (by decide)) n11)
 ·exact absurd (e.resolve_left (by decide)) n11
 ·exact absurd (e.resolve_left (by decide)) n11
 ·exact absurd (e.resolve_left (by decide)) n15
 ·exact .inr (h.c4 (e.resolve_left (by decide)))
 ·exact absurd (e.resolve_left (by decide)) n11
 ·exact absurd (e.resolve_left (by decide)) n15
theorem InS.s11 (h : InS W v y p q l x w') (hn : ¬ LL l 11) (h4 : LL l 4) (h10 : LL l 10) {a : Option Addr} {c : Nat} (hr : RowI w2 W.heap.size (.slice a (p.length + 1) c) (p ++ [y])) (hg : w'.grownBy w2 (x 4).ownBlock) :
  InS W v y p q (l.setIfInBounds 11 true) (fun j => if j = 11 then .slice a (p.length + 1) c else x j) w2 := by
 have n15 : ¬ LL l 15 := fun e => hn (h.c15 e)
 have hrow := h.r4 h4 hn
 have hb := zw h.bw hrow hg h.bw.size
 have hbb : Below W.heap.size w' w2 := zw (Below.refl _ _) hrow hg h.bw.size
 refine InS.mk' 11 (by omega) hn h (fun j hj => if_neg hj) (fun e => absurd e (by decide)) hb hbb (fun _ e => absurd (.inr h4) e) (fun _ => h.k4 h4) (fun _ e => absurd (.inl rfl) e) (fun _ e => absurd (.inl rfl) e) (fun _ => ⟨a, c, rfl⟩) (fun _ _ => hr) (fun e => ?_) (fun _ => .inr (h.c4 h4)) (fun _ => ⟨.inr h4, .inr h10⟩) (fun _ => .inl rfl) (fun e => absurd e (by decide)) (fun e => absurd e (by decide))
 exact absurd (e.resolve_left (by decide)) n15
theorem InS.s15 (h : InS W v y p q l x w') (hn : ¬ LL l 15) (h11 : LL l 11) {a : Option Addr} {c : Nat} (hr : RowI w2 W.heap.size (.slice a (p ++ [y] ++ q).length c) (p ++ [y] ++ q)) (hg : w'.grownBy w2 (x 11).ownBlock) :
  InS W v y p q (l.setIfInBounds 15 true) (fun j => if j = 15 then .slice a (p ++ [y] ++ q).length c else x j) w2 := by
 have hrow := h.r11 h11 hn
 have hb := zw h.bw hrow hg h.bw.size
 have hbb : Below W.heap.size w' w2 := zw (Below.refl _ _) hrow hg h.bw.size
 have h4 := (h.c11 h11).1
 exact InS.mk' 15 (by omega) hn h (fun j hj => if_neg hj) (fun e => absurd e (by decide)) hb hbb (fun _ e => absurd (.inr h4) e) (fun _ => h.k4 h4) (fun _ e => absurd (.inr h11) e) (fun _ e => absurd (.inr h11) e) (fun _ => h.k11 h11) (fun _ e => absurd (.inl rfl) e) (fun _ => ⟨⟨a, c, rfl⟩, hr⟩) (fun _ => .inr (h.c4 h4)) (fun _ => ⟨.inr h4, .inr (h.c11 h11).2⟩) (fun _ => .inr h11) (fun e => absurd e (by decide)) (fun e => absurd e (by decide))
theorem InS.s16 (h : InS W v y p q l x w') (hn : ¬ LL l 16) (hall : ∀ j, j < 16 → LL l j) (u : Value) (hu : u = x 15) : InS W v y p q (l.setIfInBounds 16 true) (fun j => if j = 16 then u else x j) w' := by
 have h11 := hall 11 (by omega)
 have h15 := hall 15 (by omega)
 exact InS.mk' 16 (by omega) hn h (fun j hj => if_neg hj) (fun e => absurd e (by decide)) h.bw ((Below.refl _ _).mono h.bw.size) (fun _ e => absurd (.inr (hall 4 (by omega))) e) (fun _ => h.k4 (hall 4 (by omega))) (fun _ e => absurd (.inr h11) e) (fun _ e => absurd (.inr h11) e) (fun _ => h.k11 h11) (fun _ e => absurd (.inr h15) e) (fun _ => h.r15 h15) (fun _ => .inr (hall 0 (by omega))) (fun _ => ⟨.inr (hall 4 (by omega)), .inr (hall 10 (by omega))⟩) (fun _ => .inr h11) (fun _ => hall) (fun _ => by simpa using hu)
end
end Go.Proofs.YtpbnmhnbkfnaeaaGreatDoor
