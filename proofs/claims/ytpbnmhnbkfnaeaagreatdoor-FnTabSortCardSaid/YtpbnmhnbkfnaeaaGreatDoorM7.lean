/- A part of the proof, put together out of smaller texts. -/
import Derived.Test.YtpbnmhnbkfnaeaaGreatDoorM6
import Derived.Deep.RegionWith
import Derived.Lib.DecodeN
import Derived.Lib.ValidLaws
import Derived.Lib.RuneCount
import Derived.Lib.Bytealg
import Derived.BigQuiet
import Derived.Laws.IdiomStrings
import Derived.Laws.Runes
import Derived.Lib.Strings
import Derived.Deep.QuietTactic
set_option linter.all false
set_option maxRecDepth 100000
set_option maxHeartbeats 32000000
namespace Go.Proofs.YtpbnmhnbkfnaeaaGreatDoor
open Go.RowKit Nt
theorem QE (neg : Bool) (u d : List UInt8) : okM neg u d = (plain u && plain d && decide (zy d ≠ 0) && !(neg && decide (zy u = 0)) && decide (Nat.gcd (zy u) (zy d) = 1)) := by
 unfold okM plain
 cases decide (u.length ≤ 60) <;> cases decide (d.length ≤ 60) <;> cases isDec u <;> cases isDec d <;> simp
theorem jS {x n : Nat} (h : (dec x).size ≤ n) : (gr x).length ≤ n := by
 have h1 := qH x
 apply jW (by omega)
 have h2 : (10 : Nat) ^ (dec x).size ≤ 1000000000 ^ n := Nat.le_trans (Nat.pow_le_pow_left (by omega) _) (Nat.pow_le_pow_right (by omega) h)
 omega
theorem Jy (neg : Bool) (u d : List UInt8) (w : World) (hsu : u.length ≤ 1000000000) (hsd : d.length ≤ 1000000000) (h : (plain u && plain d) = false) :
  Calls Tryz.prog 159 #[numB neg u d] w fun e w' => e = .returned (.bool (okM neg u d)) ∧ Below w.heap.size w w' := by
 have Hok : Hid (okM neg u d = false) := by show _ = _; rw [QE, h]; simp
 unfold numB
 have h1 := fun w => vP u w hsu
 have h2 := fun w => vP d w hsd
 have H2 := hide h2
 cases hu : plain u with
 | false =>
  rw [hu] at h1
  have H1 := hide h1
  clear h hu h1 h2
  go_enter Tryz.func159, Tryz.ntmps159
  go_wp2_with fail
  refine (za H1 _).mono ?_
  rintro e w1 ⟨rfl, hb1⟩
  have hb0 := zn hb1
  have hz0 : w.heap.size + 1 ≤ w1.heap.size := by have := hb1.size; simpa using this
  clear hb1
  go_wp2
  go_ret
  exact ⟨zD (za Hok).symm, zm hb0⟩
 | true =>
  rw [hu] at h1 h
  have hd : plain d = false := by simpa using h
  rw [hd] at H2
  have H1 := hide h1
  clear h hu hd h1 h2
  go_enter Tryz.func159, Tryz.ntmps159
  go_wp2_with fail
  refine (za H1 _).mono ?_
  rintro e w1 ⟨rfl, hb1⟩
  have hb0 := zn hb1
  have hz0 : w.heap.size + 1 ≤ w1.heap.size := by have := hb1.size; simpa using this
  clear hb1
  have c0 := zb hb0 0
  have c1 := zb hb0 1
  have c2 := zb hb0 2
  simp at c0 c1 c2
  go_wp2_with fail
  refine (za H2 _).mono ?_
  rintro e w2 ⟨rfl, hb2⟩
  have hn2 := zk hb0 hz0 hb2
  go_wp2
  go_ret
  exact ⟨zD (za Hok).symm, zm hn2.1⟩
theorem ZU (neg : Bool) (u d : List UInt8) (w : World) (hu : plain u = true) (hd : plain d = true) (hT : Tens w) :
  Calls Tryz.prog 159 #[numB neg u d] w fun e w' => e = .returned (.bool (okM neg u d)) ∧ Below w.heap.size w w' := by
 have hu' := hu
 have hd' := hd
 unfold plain at hu' hd'
 simp only [Bool.and_eq_true, decide_eq_true_eq] at hu' hd'
 have Hok : Hid (okM neg u d = (decide (zy d ≠ 0) && !(neg && decide (zy u = 0)) && decide (Nat.gcd (zy u) (zy d) = 1))) := by
  show _ = _; rw [QE, hu, hd]; simp
 have h1 := fun w => vP u w (by omega)
 have h2 := fun w => vP d w (by omega)
 rw [hu] at h1
 rw [hd] at h2
 have Bu : B u = dec (zy u) := by unfold dec txt; rw [← qj hu'.1]
 have Bd : B d = dec (zy d) := by unfold dec txt; rw [← qj hd'.1]
 have hau := zi u
 have had := zi d
 unfold numB
 rw [Bu] at h1 hau
 rw [Bd] at h2 had
 rw [Bu, Bd]
 have HT := hide hT
 have H1 := hide h1
 have H2 := hide h2
 generalize zy u = a at *
 generalize zy d = q at *
 have hsa : (dec a).size ≤ 60 := by omega
 have hsq : (dec q).size ≤ 60 := by omega
 have hga := jS hsa
 have hgq := jS hsq
 have ha0 := vX a
 have hq0 := vX q
 clear h1 h2 Bu Bd hu hd hu' hd' hau had hT
 by_cases hq : q = 0
 ·rw [decide_eq_true hq] at hq0
  have Hok : Hid (okM neg u d = false) := by show _ = _; rw [za Hok]; simp [hq]
  clear hq
  go_enter Tryz.func159, Tryz.ntmps159
  go_wp2_with fail
  refine (za H1 _).mono ?_
  rintro e w1 ⟨rfl, hb1⟩
  have hb0 := zn hb1
  have hz0 : w.heap.size + 1 ≤ w1.heap.size := by have := hb1.size; simpa using this
  clear hb1
  have c0 := zb hb0 0
  have c1 := zb hb0 1
  have c2 := zb hb0 2
  simp at c0 c1 c2
  go_wp2_with fail
  refine (za H2 _).mono ?_
  rintro e w2 ⟨rfl, hb2⟩
  have hn2 := zk hb0 hz0 hb2
  clear c0 c1 c2 hb2 hb0 hz0
  have c0 := zb hn2.1 0
  have c1 := zb hn2.1 1
  have c2 := zb hn2.1 2
  simp at c0 c1 c2
  go_wp2
  go_ret
  exact ⟨zD (za Hok).symm, zm hn2.1⟩
 ·rw [decide_eq_false hq] at hq0
  have hgg : (gr (Nat.gcd a q)).length ≤ 60 := vs (Nat.gcd_le_right a (by omega)) hgq
  cases neg with
  | false =>
   have Hok : Hid (okM false u d = decide (Nat.gcd a q = 1)) := by show _ = _; rw [za Hok]; simp [hq]
   clear hq
   go_enter Tryz.func159, Tryz.ntmps159
   go_wp2_with fail
   refine (za H1 _).mono ?_
   rintro e w1 ⟨rfl, hb1⟩
   have hb0 := zn hb1
   have hz0 : w.heap.size + 1 ≤ w1.heap.size := by have := hb1.size; simpa using this
   clear hb1
   have c0 := zb hb0 0
   have c1 := zb hb0 1
   have c2 := zb hb0 2
   simp at c0 c1 c2
   go_wp2_with fail
   refine (za H2 _).mono ?_
   rintro e w2 ⟨rfl, hb2⟩
   have hn2 := zk hb0 hz0 hb2
   clear c0 c1 c2 hb2 hb0 hz0
   have c0 := zb hn2.1 0
   have c1 := zb hn2.1 1
   have c2 := zb hn2.1 2
   simp at c0 c1 c2
   have HT2 := hide ((za HT).below (zm hn2.1))
   have HW : Hid (Below (w.heap.size + 1) (w.alloc (.cells #[.bool false, .string (dec a), .string (dec q)] 79)) w2.drew ∧ w.heap.size + 1 ≤ w2.drew.heap.size) := hide ⟨hn2.1.drew, hn2.2⟩
   have HC : Hid (∀ wx : World, Below w2.drew.heap.size w2.drew wx → wx.cell? ⟨w.heap.size, 1, none⟩ = some (.string (dec a)) ∧ wx.cell? ⟨w.heap.size, 2, none⟩ = some (.string (dec q))) := by
    intro wx hx
    have hlt : w.heap.size < w2.drew.heap.size := hn2.2
    exact ⟨by rw [hx.cell (p := ⟨w.heap.size, 1, none⟩) hlt]; exact c1, by rw [hx.cell (p := ⟨w.heap.size, 2, none⟩) hlt]; exact c2⟩
   go_wp2
   go_region_with (first | (go_at_call_of 186 (dec a); refine (jC a _ (by omega) (by first | exact (za HT2) | exact Tens.below (w := w2.drew) (za HT2) (by assumption))).mono ?_; rintro e wa ⟨⟨va, rfl, hva⟩, hba⟩; have Hva := hide hva; have Hba := hide hba; clear hva; have ca1 : wa.cell? ⟨w.heap.size, 1, none⟩ = some (.string (dec a)) := (by first | exact (za HC _ hba).1 | exact (za HC _ ((za Hbq).trans (hba.mono (za Hbq).size))).1); have ca2 : wa.cell? ⟨w.heap.size, 2, none⟩ = some (.string (dec q)) := (by first | exact (za HC _ hba).2 | exact (za HC _ ((za Hbq).trans (hba.mono (za Hbq).size))).2)) | (go_at_call_of 186 (dec q); refine (jC q _ (by omega) (by first | exact (za HT2) | exact Tens.below (w := w2.drew) (za HT2) (by assumption))).mono ?_; rintro e wq ⟨⟨vq, rfl, hvq⟩, hbq⟩; have Hvq := hide hvq; have Hbq := hide hbq; clear hvq; have cq1 : wq.cell? ⟨w.heap.size, 1, none⟩ = some (.string (dec a)) := (by first | exact (za HC _ hbq).1 | exact (za HC _ ((za Hba).trans (hbq.mono (za Hba).size))).1); have cq2 : wq.cell? ⟨w.heap.size, 2, none⟩ = some (.string (dec q)) := (by first | exact (za HC _ hbq).2 | exact (za HC _ ((za Hba).trans (hbq.mono (za Hba).size))).2)) | (go_at_call 182; refine (gcd_c a q va vq _ (by first | exact za Hva | exact zo (za Hva) (za Hbq)) (by first | exact za Hvq | exact zo (za Hvq) (za Hba)) (by omega) (by omega)).mono ?_; rintro e wg ⟨⟨vg, rfl, hvg⟩, hbg⟩; have Hvg := hide hvg; have Hbg := hide hbg; clear hvg) | (go_at_call 187; refine (YE (Nat.gcd a q) vg _ (za Hvg) (by omega)).mono ?_; rintro e wi ⟨rfl, rfl⟩))
   all_goals
    go_wp2
    go_ret
    refine ⟨zD (za Hok).symm, zm (o := .cells #[.bool false, .string (dec a), .string (dec q)] 79) ?_⟩
    first
     | exact (zk (zk (zk (za HW).1 (za HW).2 (za Hba)).1 (zk (za HW).1 (za HW).2 (za Hba)).2 (za Hbq)).1 (zk (zk (za HW).1 (za HW).2 (za Hba)).1 (zk (za HW).1 (za HW).2 (za Hba)).2 (za Hbq)).2 (za Hbg)).1
     | exact (zk (zk (zk (za HW).1 (za HW).2 (za Hbq)).1 (zk (za HW).1 (za HW).2 (za Hbq)).2 (za Hba)).1 (zk (zk (za HW).1 (za HW).2 (za Hbq)).1 (zk (za HW).1 (za HW).2 (za Hbq)).2 (za Hba)).2 (za Hbg)).1
  | true =>
   by_cases ha : a = 0
   ·rw [decide_eq_true ha] at ha0
    have Hok : Hid (okM true u d = false) := by show _ = _; rw [za Hok]; simp [ha]
    clear hq ha
    go_enter Tryz.func159, Tryz.ntmps159
    go_wp2_with fail
    refine (za H1 _).mono ?_
    rintro e w1 ⟨rfl, hb1⟩
    have hb0 := zn hb1
    have hz0 : w.heap.size + 1 ≤ w1.heap.size := by have := hb1.size; simpa using this
    clear hb1
    have c0 := zb hb0 0
    have c1 := zb hb0 1
    have c2 := zb hb0 2
    simp at c0 c1 c2
    go_wp2_with fail
    refine (za H2 _).mono ?_
    rintro e w2 ⟨rfl, hb2⟩
    have hn2 := zk hb0 hz0 hb2
    clear c0 c1 c2 hb2 hb0 hz0
    have c0 := zb hn2.1 0
    have c1 := zb hn2.1 1
    have c2 := zb hn2.1 2
    simp at c0 c1 c2
    go_wp2
    go_ret
    exact ⟨zD (za Hok).symm, zm hn2.1⟩
   ·rw [decide_eq_false ha] at ha0
    have Hok : Hid (okM true u d = decide (Nat.gcd a q = 1)) := by show _ = _; rw [za Hok]; simp [hq, ha]
    clear hq ha
    go_enter Tryz.func159, Tryz.ntmps159
    go_wp2_with fail
    refine (za H1 _).mono ?_
    rintro e w1 ⟨rfl, hb1⟩
    have hb0 := zn hb1
    have hz0 : w.heap.size + 1 ≤ w1.heap.size := by have := hb1.size; simpa using this
    clear hb1
    have c0 := zb hb0 0
    have c1 := zb hb0 1
    have c2 := zb hb0 2
    simp at c0 c1 c2
    go_wp2_with fail
    refine (za H2 _).mono ?_
    rintro e w2 ⟨rfl, hb2⟩
    have hn2 := zk hb0 hz0 hb2
    clear c0 c1 c2 hb2 hb0 hz0
    have c0 := zb hn2.1 0
    have c1 := zb hn2.1 1
    have c2 := zb hn2.1 2
    simp at c0 c1 c2
    have HT2 := hide ((za HT).below (zm hn2.1))
    have HW : Hid (Below (w.heap.size + 1) (w.alloc (.cells #[.bool true, .string (dec a), .string (dec q)] 79)) w2.drew ∧ w.heap.size + 1 ≤ w2.drew.heap.size) := hide ⟨hn2.1.drew, hn2.2⟩
    have HC : Hid (∀ wx : World, Below w2.drew.heap.size w2.drew wx → wx.cell? ⟨w.heap.size, 1, none⟩ = some (.string (dec a)) ∧ wx.cell? ⟨w.heap.size, 2, none⟩ = some (.string (dec q))) := by
     intro wx hx
     have hlt : w.heap.size < w2.drew.heap.size := hn2.2
     exact ⟨by rw [hx.cell (p := ⟨w.heap.size, 1, none⟩) hlt]; exact c1, by rw [hx.cell (p := ⟨w.heap.size, 2, none⟩) hlt]; exact c2⟩
    go_wp2
    go_region_with (first | (go_at_call_of 186 (dec a); refine (jC a _ (by omega) (by first | exact (za HT2) | exact Tens.below (w := w2.drew) (za HT2) (by assumption))).mono ?_; rintro e wa ⟨⟨va, rfl, hva⟩, hba⟩; have Hva := hide hva; have Hba := hide hba; clear hva; have ca1 : wa.cell? ⟨w.heap.size, 1, none⟩ = some (.string (dec a)) := (by first | exact (za HC _ hba).1 | exact (za HC _ ((za Hbq).trans (hba.mono (za Hbq).size))).1); have ca2 : wa.cell? ⟨w.heap.size, 2, none⟩ = some (.string (dec q)) := (by first | exact (za HC _ hba).2 | exact (za HC _ ((za Hbq).trans (hba.mono (za Hbq).size))).2)) | (go_at_call_of 186 (dec q); refine (jC q _ (by omega) (by first | exact (za HT2) | exact Tens.below (w := w2.drew) (za HT2) (by assumption))).mono ?_; rintro e wq ⟨⟨vq, rfl, hvq⟩, hbq⟩; have Hvq := hide hvq; have Hbq := hide hbq; clear hvq; have cq1 : wq.cell? ⟨w.heap.size, 1, none⟩ = some (.string (dec a)) := (by first | exact (za HC _ hbq).1 | exact (za HC _ ((za Hba).trans (hbq.mono (za Hba).size))).1); have cq2 : wq.cell? ⟨w.heap.size, 2, none⟩ = some (.string (dec q)) := (by first | exact (za HC _ hbq).2 | exact (za HC _ ((za Hba).trans (hbq.mono (za Hba).size))).2)) | (go_at_call 182; refine (gcd_c a q va vq _ (by first | exact za Hva | exact zo (za Hva) (za Hbq)) (by first | exact za Hvq | exact zo (za Hvq) (za Hba)) (by omega) (by omega)).mono ?_; rintro e wg ⟨⟨vg, rfl, hvg⟩, hbg⟩; have Hvg := hide hvg; have Hbg := hide hbg; clear hvg) | (go_at_call 187; refine (YE (Nat.gcd a q) vg _ (za Hvg) (by omega)).mono ?_; rintro e wi ⟨rfl, rfl⟩))
    all_goals
     go_wp2
     go_ret
     refine ⟨zD (za Hok).symm, zm (o := .cells #[.bool true, .string (dec a), .string (dec q)] 79) ?_⟩
     first
      | exact (zk (zk (zk (za HW).1 (za HW).2 (za Hba)).1 (zk (za HW).1 (za HW).2 (za Hba)).2 (za Hbq)).1 (zk (zk (za HW).1 (za HW).2 (za Hba)).1 (zk (za HW).1 (za HW).2 (za Hba)).2 (za Hbq)).2 (za Hbg)).1
      | exact (zk (zk (zk (za HW).1 (za HW).2 (za Hbq)).1 (zk (za HW).1 (za HW).2 (za Hbq)).2 (za Hba)).1 (zk (zk (za HW).1 (za HW).2 (za Hbq)).1 (zk (za HW).1 (za HW).2 (za Hbq)).2 (za Hba)).2 (za Hbg)).1
theorem jm (neg : Bool) (u d : List UInt8) (w : World) (hsu : u.length ≤ 1000000000) (hsd : d.length ≤ 1000000000) (hT : Tens w) :
  Calls Tryz.prog 159 #[numB neg u d] w fun e w' => e = .returned (.bool (okM neg u d)) ∧ Below w.heap.size w w' := by
 cases h : plain u && plain d with
 | false => exact Jy neg u d w hsu hsd h
 | true =>
  simp only [Bool.and_eq_true] at h
  exact ZU neg u d w h.1 h.2 hT
theorem xB {w : World} {base b : Nat} {v u0 u1 u2 u3 : Value} {x : Nat} (h : isNatB w base v x) (hb : b < base) : isNatB ((((w.setCell ⟨b, 0, none⟩ u0).setCell ⟨b, 1, none⟩ u1).setCell ⟨b, 2, none⟩ u2).setCell ⟨b, 3, none⟩ u3) base v x :=
 qg (qg (qg (qg h hb) hb) hb) hb
theorem far4 {w : World} {b : Nat} {u0 u1 u2 u3 : Value} {a : Addr} (h : b ≠ a.block) : ((((w.setCell ⟨b, 0, none⟩ u0).setCell ⟨b, 1, none⟩ u1).setCell ⟨b, 2, none⟩ u2).setCell ⟨b, 3, none⟩ u3).cell? a = w.cell? a := by
 rw [World.cell?_setCell_far _ _ _ _ h, World.cell?_setCell_far _ _ _ _ h, World.cell?_setCell_far _ _ _ _ h, World.cell?_setCell_far _ _ _ _ h]
theorem QV (neg : Bool) (a q : Nat) (w : World) (ha : (dec a).size ≤ 60) (hq : (dec q).size ≤ 60) (hT : Tens w) :
  Calls Tryz.prog 160 #[.agg #[.bool neg, .string (dec a), .string (dec q)]] w fun e w' => (∃ v u, e = .returned (fracV neg false v u) ∧ isNatB w' w.heap.size v a ∧ isNatB w' w.heap.size u q) ∧ Below w.heap.size w w' := by
 have HW := hide (((Below.refl w.heap.size w).alloc (Nat.le_refl _) (.cells #[.bool neg, .string (dec a), .string (dec q)] 79)).alloc (by simp) (.cells #[.bool false, .slice none 0 0, .bool false, .slice none 0 0] 185))
 have HA := hide ((AtC.new w #[.bool neg, .string (dec a), .string (dec q)] 79).alloc (.cells #[.bool false, .slice none 0 0, .bool false, .slice none 0 0] 185))
 have HC := hide (AtC.new (w.alloc (.cells #[.bool neg, .string (dec a), .string (dec q)] 79)) #[.bool false, .slice none 0 0, .bool false, .slice none 0 0] 185)
 rw [World.size_alloc] at HC
 have HT := hide hT
 clear hT
 go_enter Tryz.func160, Tryz.ntmps160
 go_wp2
 go_region_held3 (fun w' => w'.cell? ⟨w.heap.size, 0, none⟩ = some (.bool neg) ∧ w'.cell? ⟨w.heap.size, 1, none⟩ = some (.string (dec a)) ∧ w'.cell? ⟨w.heap.size, 2, none⟩ = some (.string (dec q))) (((try dsimp only); (repeat' apply And.intro) <;> (first | with_reducible assumption | (rw [far4 (by first | (simp; done) | (simp; omega))]; with_reducible assumption) | exact (za HA).drew.c _))) (first | (go_at_call_of 186 (dec a); refine (y3 a _ (by omega) (by exact (za HT).below (za HW).drew)).mono ?_; rintro e w1 ⟨⟨v, rfl, hv⟩, hb1⟩; obtain ⟨vp, vc, rfl⟩ := zt hv; have hA := (za HA).drew.below hb1; have hC := (za HC).drew.below hb1; have a10 : w1.cell? ⟨w.heap.size, 0, none⟩ = some (.bool neg) := hA.c 0; have a11 : w1.cell? ⟨w.heap.size, 1, none⟩ = some (.string (dec a)) := hA.c 1; have a12 : w1.cell? ⟨w.heap.size, 2, none⟩ = some (.string (dec q)) := hA.c 2; have HA1 := hide hA; have HC1 := hide hC; have Hv := hide hv; have HW1 := hide ((za HW).drew.trans (hb1.mono (za HW).drew.size)); clear hA hC hv hb1) | (go_at_call_of 186 (dec q); refine (y3 q _ (by omega) (by exact (za HT).below (za HW1))).mono ?_; rintro e w2 ⟨⟨u, rfl, hu⟩, hb2⟩; obtain ⟨up, uc, rfl⟩ := zt hu; have hA := (za HA1).below hb2; have hC := (za HC1).below hb2; have a20 : w2.cell? ⟨w.heap.size, 0, none⟩ = some (.bool neg) := hA.c 0; have a21 : w2.cell? ⟨w.heap.size, 1, none⟩ = some (.string (dec a)) := hA.c 1; have a22 : w2.cell? ⟨w.heap.size, 2, none⟩ = some (.string (dec q)) := hA.c 2; have c20 : w2.cell? ⟨w.heap.size + 1, 0, none⟩ = some (.bool false) := hC.c 0; have c21 : w2.cell? ⟨w.heap.size + 1, 1, none⟩ = some (.slice none 0 0) := hC.c 1; have c22 : w2.cell? ⟨w.heap.size + 1, 2, none⟩ = some (.bool false) := hC.c 2; have c23 : w2.cell? ⟨w.heap.size + 1, 3, none⟩ = some (.slice none 0 0) := hC.c 3; have cf := hC.f; have hs := hC.lt; have Hu := hide hu; have Hv2 := hide (zr (za Hv) hb2); have hs1 := (za HC1).lt; have HW2 := hide ((za HW1).trans (hb2.mono (za HW1).size)); clear hA hC hu hb2))
 go_wp2
 have hcc := And.intro c20 (And.intro c21 (And.intro c22 c23))
 refine bodyPost_ret (v := .agg #[.bool neg, .slice vp (gr a).length vc, .bool false, .slice up (gr q).length uc]) (by simp [results, Tryz.results160, go_sem, hcc]) rfl ⟨⟨_, _, rfl, ?_, ?_⟩, ?_⟩
 ·have h0 := xB (b := w.heap.size + 1) (u0 := .bool neg) (u1 := .slice vp (gr a).length vc) (u2 := .bool false) (u3 := .slice up (gr q).length uc) (za Hv2) (by simp)
  exact zK h0 (by simp; omega)
 ·have h0 := xB (b := w.heap.size + 1) (u0 := .bool neg) (u1 := .slice vp (gr a).length vc) (u2 := .bool false) (u3 := .slice up (gr q).length uc) (za Hu) (by omega)
  exact zK h0 (by have := (za HW1).size; omega)
 ·exact ((((za HW2).setCell (by show w.heap.size ≤ w.heap.size + 1; omega) _).setCell (by show w.heap.size ≤ w.heap.size + 1; omega) _).setCell (by show w.heap.size ≤ w.heap.size + 1; omega) _).setCell (by show w.heap.size ≤ w.heap.size + 1; omega) _
theorem zaF {x y : Nat} (hx : (dec x).size ≤ 60) (hy : (dec y).size ≤ 60) : x * y < 10 ^ 120 := by
 have h1 := qH x
 have h2 := qH y
 have h3 : 10 ^ (dec x).size ≤ 10 ^ 60 := Nat.pow_le_pow_right (by omega) hx
 have h4 : 10 ^ (dec y).size ≤ 10 ^ 60 := Nat.pow_le_pow_right (by omega) hy
 calc x * y < 10 ^ 60 * 10 ^ 60 := Nat.mul_lt_mul'' (by omega) (by omega)
  _ = 10 ^ 120 := by rw [← Nat.pow_add]
theorem far3 {w : World} {b : Nat} {u0 u1 u2 : Value} {a : Addr} (h : b ≠ a.block) : (((w.setCell ⟨b, 0, none⟩ u0).setCell ⟨b, 1, none⟩ u1).setCell ⟨b, 2, none⟩ u2).cell? a = w.cell? a := by
 rw [World.cell?_setCell_far _ _ _ _ h, World.cell?_setCell_far _ _ _ _ h, World.cell?_setCell_far _ _ _ _ h]
theorem kt {x y : Nat} (hx : (dec x).size ≤ 60) (hy : (dec y).size ≤ 60) : (dec (x * y)).size ≤ 120 := by
 rw [zH]; exact qk (by omega) (by omega) (zaF hx hy)
def sgn (p : Bool × Nat) : Int := if p.1 then -(p.2 : Int) else (p.2 : Int)
theorem KK (p q : Bool × Nat) : sgn (plusW p q) = sgn p + sgn q := by
 obtain ⟨n, x⟩ := p
 obtain ⟨m, y⟩ := q
 unfold plusW sgn
 cases n <;> cases m <;> simp
 ·by_cases h : x < y
  ·simp [h]; omega
  ·simp [h]; omega
 ·by_cases h : x < y
  ·simp [h]; omega
  ·simp [h]; omega
 ·omega
abbrev Rt := Bool × Nat × Nat
def okP (p : Rt) : Bool := okM p.1 (txl 10 p.2.1) (txl 10 p.2.2)
def zP (p : Rt) : Int := sgn (p.1, p.2.1)
theorem Y1 (n : Bool) (x y : Nat) : sgn (n, x * y) = sgn (n, x) * (y : Int) := by
 unfold sgn; cases n <;> simp [Int.neg_mul]
theorem zbs (n : Bool) (x : Nat) : sgn (!n, x) = - sgn (n, x) := by
 unfold sgn; cases n <;> simp
theorem zaC {p : Rt} (h : okP p = true) : 0 < p.2.2 := by
 have := (qK h).2.2.2.2.1
 rw [qs] at this
 omega
abbrev T3 := Bool × List UInt8 × List UInt8
def numT (t : T3) : Value := .agg #[.bool t.1, .string (B t.2.1), .string (B t.2.2)]
def okT (t : T3) : Bool := okM t.1 t.2.1 t.2.2
def valT (t : T3) : Rt := (t.1, zy t.2.1, zy t.2.2)
def putT (p : Rt) : T3 := (p.1, txl 10 p.2.1, txl 10 p.2.2)
def nilT : T3 := (false, [], [])
theorem J5 {t : T3} (h : okT t = true) : putT (valT t) = t := by
 obtain ⟨h1, h2, _⟩ := qK h
 unfold putT valT
 simp only
 rw [← qj h1, ← qj h2]
theorem zbg {t : T3} (h : okT t = true) : okP (valT t) = true := by
 have := J5 h
 unfold okP
 rw [show okM (valT t).1 (txl 10 (valT t).2.1) (txl 10 (valT t).2.2) = okT (putT (valT t)) from rfl, this]
 exact h
theorem zaG {p : Rt} (h : okP p = true) : okT (putT p) = true := h
end Go.Proofs.YtpbnmhnbkfnaeaaGreatDoor
namespace Go.Proofs.YtpbnmhnbkfnaeaaGreatDoor
open Nt
theorem YM (s : ByteArray) (k : Nat) (h : k < s.size) : s.get! k = s[k]'h := by
 cases s with
 | mk d => exact getElem!_pos d k h
abbrev badC (s : ByteArray) : Prop := s.size < 3 ∨ s.extract 0 3 ≠ ⟨#[239, 191, 189]⟩
def sizeM (s : ByteArray) : Nat :=
 if s.size = 0 ∨ (Utf8.decode s 0).1 = 65533 ∧ badC s then 0 else (Utf8.encode ((Utf8.decode s 0).1 : Nat)).size
theorem yz (c : Nat) : (Utf8.encode (c : Int)).size = if c < 128 then 1 else if c < 2048 then 2 else if 65536 ≤ c ∧ c ≤ 1114111 then 4 else 3 := by
 unfold Utf8.encode Utf8.valid Utf8.runeError
 simp only [Bool.or_eq_true, Bool.and_eq_true, decide_eq_true_eq, Int.toNat_natCast]
 repeat' split
 all_goals first | rfl | (exfalso; omega)
theorem Xz (s : ByteArray) (h : 3 ≤ s.size) : s.extract 0 3 = ⟨#[s.get! 0, s.get! 1, s.get! 2]⟩ := by
 apply ByteArray.ext_getElem
 ·rw [ByteArray.size_extract]; show _ = 3; omega
 ·intro i h1 h2
  have hi : i < 3 := h2
  rw [ByteArray.getElem_extract, ← YM]
  match i, hi with
  | 0, _ => rfl
  | 1, _ => rfl
  | 2, _ => rfl
theorem Vp (s : ByteArray) (h : 0 < s.size) : (if sizeM s = 0 then 1 else sizeM s) = (Utf8.decode s 0).2 := by
 have he : ∀ a b c : UInt8, ((⟨#[a, b, c]⟩ : ByteArray) = ⟨#[239, 191, 189]⟩) ↔ a.toNat = 239 ∧ b.toNat = 191 ∧ c.toNat = 189 := by
  intro a b c
  simp only [ByteArray.mk.injEq, Array.mk.injEq, List.cons.injEq, and_true, ← UInt8.toNat_inj]
  rfl
 have hx : badC s ↔ ¬ (3 ≤ s.size ∧ (s.get! 0).toNat = 239 ∧ (s.get! 1).toNat = 191 ∧ (s.get! 2).toNat = 189) := by
  unfold badC
  by_cases h3 : 3 ≤ s.size
  ·rw [Xz s h3, Ne, he]
   constructor
   ·rintro (h | h)
    ·omega
    ·exact fun k => h k.2
   ·exact fun k => .inr fun m => k ⟨h3, m⟩
  ·constructor
   ·exact fun _ k => h3 k.1
   ·exact fun _ => .inl (by omega)
 unfold sizeM
 simp only [hx, yz]
 have l0 := (s.get! 0).toNat_lt
 have l1 := (s.get! 1).toNat_lt
 have l2 := (s.get! 2).toNat_lt
 have l3 := (s.get! 3).toNat_lt
 have key : ∀ (n b0 b1 b2 b3 : Nat), 0 < n → b0 < 256 → b1 < 256 → b2 < 256 → b3 < 256 → ∀ d, d = Lib.decodeN n b0 b1 b2 b3 →
   (if (if n = 0 ∨ d.1 = 65533 ∧ ¬ (3 ≤ n ∧ b0 = 239 ∧ b1 = 191 ∧ b2 = 189) then 0 else (if d.1 < 128 then 1 else if d.1 < 2048 then 2 else if 65536 ≤ d.1 ∧ d.1 ≤ 1114111 then 4 else 3)) = 0 then 1
    else (if n = 0 ∨ d.1 = 65533 ∧ ¬ (3 ≤ n ∧ b0 = 239 ∧ b1 = 191 ∧ b2 = 189) then 0 else (if d.1 < 128 then 1 else if d.1 < 2048 then 2 else if 65536 ≤ d.1 ∧ d.1 ≤ 1114111 then 4 else 3))) = d.2 := by
  intro n b0 b1 b2 b3 hn h0 h1 h2 h3 d hd
  have hd' : d = (d.1, d.2) := rfl
  generalize hu : d.1 = u at hd' ⊢
  generalize hv : d.2 = v at hd' ⊢
  rw [hd'] at hd
  clear hu hv hd'
  unfold Lib.decodeN at hd
  repeat' split at hd
  all_goals (simp only [Prod.mk.injEq] at hd; obtain ⟨e1, e2⟩ := hd; repeat' split)
  all_goals omega
 exact key _ _ _ _ _ h l0 l1 l2 l3 _ (by rw [Lib.decode_at]; simp only [Nat.sub_zero, Nat.zero_add])
end Go.Proofs.YtpbnmhnbkfnaeaaGreatDoor
namespace Go.Proofs.YtpbnmhnbkfnaeaaGreatDoor
open Nt
theorem Q2 (s : ByteArray) (k : Nat) (h : k < s.size) : 1 ≤ (Utf8.decode s k).2 ∧ k + (Utf8.decode s k).2 ≤ s.size ∧
  ((Utf8.decode s k).1 < 128 → (Utf8.decode s k).2 = 1 ∧ (s.get! k).toNat = (Utf8.decode s k).1) ∧ (128 ≤ (Utf8.decode s k).1 → ∀ i, k ≤ i → i < k + (Utf8.decode s k).2 → 128 ≤ (s.get! i).toNat) := by
 rw [Lib.decode_at]
 have l0 := (s.get! k).toNat_lt
 have l1 := (s.get! (k + 1)).toNat_lt
 have l2 := (s.get! (k + 2)).toNat_lt
 have l3 := (s.get! (k + 3)).toNat_lt
 have key : ∀ (n b0 b1 b2 b3 : Nat), 0 < n → b0 < 256 → b1 < 256 → b2 < 256 → b3 < 256 → ∀ d, d = Lib.decodeN n b0 b1 b2 b3 → 1 ≤ d.2 ∧ d.2 ≤ n ∧ d.2 ≤ 4 ∧ (d.1 < 128 → d.2 = 1 ∧ b0 = d.1) ∧ (128 ≤ d.1 → 128 ≤ b0 ∧ (1 < d.2 → 128 ≤ b1) ∧ (2 < d.2 → 128 ≤ b2) ∧ (3 < d.2 → 128 ≤ b3)) := by
  intro n b0 b1 b2 b3 hn h0 h1 h2 h3 d hd
  subst hd
  unfold Lib.decodeN
  repeat' split
  all_goals (refine ⟨?_, ?_, ?_, fun h => ?_, fun h => ⟨?_, fun _ => ?_, fun _ => ?_, fun _ => ?_⟩⟩ <;> dsimp only at * <;> omega)
 obtain ⟨a1, a2, a3, a4, a5⟩ := key _ _ _ _ _ (by omega : 0 < s.size - k) l0 l1 l2 l3 _ rfl
 refine ⟨a1, by omega, a4, fun hge i h1 h2 => ?_⟩
 obtain ⟨c0, c1, c2, c3⟩ := a5 hge
 obtain rfl | rfl | rfl | rfl : i = k ∨ i = k + 1 ∨ i = k + 2 ∨ i = k + 3 := by omega
 ·exact c0
 ·exact c1 (by omega)
 ·exact c2 (by omega)
 ·exact c3 (by omega)
theorem VI (c : Nat) (h : c = 65533) : (Utf8.encode ((c : Nat) : Int)).size = 3 := by subst h; rfl
theorem ZQ (s : ByteArray) (h : 0 < s.size) : sizeM s = 0 ↔ ((Utf8.decode s 0).1 = 65533 ∧ (Utf8.decode s 0).2 = 1) := by
 have e := Vp s h
 constructor
 ·intro h0
  rw [if_pos h0] at e
  refine ⟨?_, e.symm⟩
  unfold sizeM at h0
  split at h0
  ·rename_i hh
   rcases hh with hh | hh
   ·omega
   ·exact hh.1
  ·rw [yz] at h0
   repeat' split at h0
   all_goals omega
 ·rintro ⟨e1, e2⟩
  refine Decidable.byContradiction fun h0 => ?_
  rw [if_neg h0] at e
  unfold sizeM at e h0
  split at e
  ·rename_i hh
   rw [if_pos hh] at h0
   exact h0 rfl
  ·rw [VI _ e1] at e
   omega
theorem y8 (s : ByteArray) (h : 0 < s.size) (h0 : sizeM s ≠ 0) : sizeM s = (Utf8.decode s 0).2 := by
 have e := Vp s h
 rwa [if_neg h0] at e
theorem QA : sizeM ⟨#[]⟩ = 0 := by
 unfold sizeM
 rw [if_pos (.inl rfl)]
theorem Zf (l : List UInt8) (hne : l ≠ []) : Lib.validD l = if sizeM (B l) = 0 then false else Lib.validD (l.drop (sizeM (B l))) := by
 have hs : 0 < (B l).size := by rw [zi]; exact List.length_pos_iff.2 hne
 rw [Lib.validD_step l hne]
 have e : Lib.decodeL l = Utf8.decode (B l) 0 := rfl
 rw [e]
 by_cases h0 : sizeM (B l) = 0
 ·rw [if_pos h0, if_pos ((ZQ _ hs).1 h0)]
 ·rw [if_neg h0, if_neg (fun h => h0 ((ZQ _ hs).2 h)), y8 _ hs h0]
def oneM (t : List UInt8) : Bool := decide (0 < sizeM (B t)) && decide (sizeM (B t) = t.length)
theorem Z5 (s : ByteArray) (fuel pos : Nat) (h : Lib.runeCountFrom s (fuel + 1) pos = 0) : ¬ pos < s.size := fun hp => by
 unfold Lib.runeCountFrom at h
 rw [if_pos hp] at h
 omega
theorem zbq (t : List UInt8) : oneM t = (Lib.validD t && decide (Lib.runeCount (B t) = 1)) := by
 by_cases hne : t = []
 ·subst hne
  have : sizeM (B []) = 0 := QA
  unfold oneM
  rw [this]
  rfl
 ·have hl : 0 < t.length := List.length_pos_iff.2 hne
  have hs : 0 < (B t).size := by rw [zi]; exact hl
  rw [Zf t hne]
  unfold oneM
  by_cases h0 : sizeM (B t) = 0
  ·rw [if_pos h0, h0]; rfl
  ·rw [if_neg h0]
   have e := y8 _ hs h0
   have a := Q2 (B t) 0 hs
   rw [Nat.zero_add, ← e, zi] at a
   have hp : decide (0 < sizeM (B t)) = true := by simp; omega
   rw [hp, Bool.true_and]
   obtain ⟨n, hn⟩ : ∃ n, (B t).size = n + 1 := ⟨(B t).size - 1, by omega⟩
   have hc : Lib.runeCount (B t) = 1 + Lib.runeCountFrom (B t) n (sizeM (B t)) := by
    unfold Lib.runeCount
    rw [hn]
    show (if 0 < (B t).size then _ else _) = _
    rw [if_pos hs, Nat.zero_add, ← e]
   by_cases hz : sizeM (B t) = t.length
   ·have hd : t.drop (sizeM (B t)) = [] := by rw [hz]; simp
    have h1 : Lib.runeCountFrom (B t) n (sizeM (B t)) = 0 := Lib.runeCountFrom_end _ _ _ (by rw [zi]; omega)
    rw [hd, hc, h1]
    simp [hz, Lib.validD_nil]
   ·have h1 : Lib.runeCountFrom (B t) n (sizeM (B t)) ≠ 0 := by
     intro h
     obtain ⟨m, rfl⟩ : ∃ m, n = m + 1 := ⟨n - 1, by rw [zi] at hn; omega⟩
     have := Z5 _ _ _ h
     rw [zi] at this
     omega
    have h2 : decide (Lib.runeCount (B t) = 1) = false := by simp; omega
    rw [h2, Bool.and_false]
    simp [hz]
theorem qw : ∀ (a b : List UInt8), (Op.bytesLess a b = decide (Lib.compareBytes a b = -1)) ∧ (Op.bytesLess b a = decide (Lib.compareBytes a b = 1)) ∧ (Lib.compareBytes a b = 0 ↔ a = b) ∧ (Lib.compareBytes a b = -1 ∨ Lib.compareBytes a b = 0 ∨ Lib.compareBytes a b = 1)
 | [], [] => by simp [Op.bytesLess, Lib.compareBytes]
 | [], _ :: _ => by simp [Op.bytesLess, Lib.compareBytes]
 | _ :: _, [] => by simp [Op.bytesLess, Lib.compareBytes]
 | a :: x, b :: y => by
  obtain ⟨h1, h2, h3, h4⟩ := qw x y
  unfold Op.bytesLess Lib.compareBytes
  rw [h1, h2]
  by_cases e1 : a < b
  ·have e2 : ¬ b < a := by rw [UInt8.lt_iff_toNat_lt] at *; omega
   have e3 : ¬ a = b := fun e => by subst e; exact e2 e1
   have e4 : (b == a) = false := beq_eq_false_iff_ne.2 (fun e => e3 e.symm)
   simp [e1, e2, e3, e4]
  ·by_cases e2 : b < a
   ·have e3 : ¬ a = b := fun e => by subst e; exact e1 e2
    have e4 : (a == b) = false := beq_eq_false_iff_ne.2 e3
    simp [e1, e2, e3, e4]
   ·have e3 : a = b := by rw [UInt8.lt_iff_toNat_lt] at *; exact UInt8.toNat_inj.1 (by omega)
    subst e3
    simp [e1, h3]
    rw [← h3]
    exact h4
def endN (c : Nat) : Bool := c == 32 || c == 9 || c == 10 || c == 13 || c == 40 || c == 41 || c == 34 || c == 59 || c == 39
def badN (c : Nat) : Bool := endN c || decide (c < 33) || c == 127 || c == 92 || c == 124
def headN (c : Nat) : Bool := c == 35 || c == 44 || c == 96 || (decide (48 ≤ c) && decide (c ≤ 57))
def wordM (t : List UInt8) : Bool := match t with
 | [] => false
 | c :: _ => !headN c.toNat && decide (t.length ≤ 200) && Lib.validD t && t.all fun c => !badN c.toNat
def symM (t : List UInt8) : Bool := (zu t 10).isNone && decide (t ≠ [46]) && wordM t
def jA (p : Bool × Nat × Nat) : List UInt8 := zU p.1 (txl 10 p.2.1) (txl 10 p.2.2) 10
def jO (t : List UInt8) : Bool := match zu t 10 with
 | some p => decide (jA p = t)
 | none => false
def jR (p : Nat → Bool) (l : List UInt8) : Nat := (l.takeWhile fun c => !p c.toNat).length
def headW (t : List UInt8) : List UInt8 := t.takeWhile fun c => !endN c.toNat
def ju (s : Int) (t : List UInt8) : Bool :=
 if headW t = [46] then false else match zu (headW t) 10 with
  | some p => decide (s = 1) && decide (jA p = t)
  | none => decide (s = 2) && decide (headW t = t) && wordM (headW t)
theorem zat (t : List UInt8) : headW t = t.take (jR endN t) := by
 unfold headW jR
 exact List.prefix_iff_eq_take.1 (List.takeWhile_prefix _)
theorem Zc {p : Nat → Bool} : ∀ {l : List UInt8} {k : Nat}, (∀ i (h : i < l.length), i < k → p (l[i]'h).toNat = false) → (∀ h : k < l.length, p (l[k]'h).toNat = true) → k ≤ l.length → jR p l = k
 | [], k, _, _, hk => by
  have : k = 0 := by simpa using hk
  subst this
  rfl
 | c :: t, 0, _, h1, _ => by
  have := h1 (by simp)
  simp only [List.getElem_cons_zero] at this
  unfold jR
  rw [List.takeWhile_cons_of_neg (by simp [this])]
  rfl
 | c :: t, k + 1, h0, h1, hk => by
  have h2 := h0 0 (by simp) (by omega)
  simp only [List.getElem_cons_zero] at h2
  have ih := Zc (p := p) (l := t) (k := k) (fun i h hik => h0 (i + 1) (by simp; omega) (by omega)) (fun h => h1 (by simp; omega)) (by simpa using hk)
  unfold jR at ih ⊢
  rw [List.takeWhile_cons_of_pos (by simp [h2]), List.length_cons, ih]
theorem kV : ∀ {t : List UInt8}, (∀ c ∈ t, endN c.toNat = false) → headW t = t
 | [], _ => rfl
 | c :: t, h => by
  have ih := kV (t := t) (fun d hd => h d (List.mem_cons_of_mem _ hd))
  unfold headW at ih ⊢
  rw [List.takeWhile_cons_of_pos (by simp [h c List.mem_cons_self]), ih]
theorem QD {n : Nat} {c : UInt8} (h : c ∈ txl 10 n) : 48 ≤ c.toNat ∧ c.toNat ≤ 57 := by
 have h0 := yL n
 unfold isDec at h0
 simp only [Bool.and_eq_true, List.all_eq_true, decide_eq_true_eq, UInt8.le_iff_toNat_le] at h0
 exact h0.1.2 c h
theorem xC {p : Bool × Nat × Nat} {c : UInt8} (h : c ∈ jA p) : c.toNat = 45 ∨ c.toNat = 47 ∨ (48 ≤ c.toNat ∧ c.toNat ≤ 57) := by
 unfold jA zU at h
 split at h
 ·unfold prM at h
  simp only [List.mem_append] at h
  rcases h with (h | h) | h
  ·split at h
   ·have : c = 45 := by simpa using h
    subst this
    exact .inl rfl
   ·simp at h
  ·exact .inr (.inr (QD h))
  ·split at h
   ·simp at h
   ·rcases List.mem_cons.1 h with h | h
    ·subst h
     exact .inr (.inl rfl)
    ·exact .inr (.inr (QD h))
 ·simp at h
theorem VD {p : Bool × Nat × Nat} {c : UInt8} (h : c ∈ jA p) : endN c.toNat = false := by
 rcases xC h with h | h | h
 ·rw [h]; rfl
 ·rw [h]; rfl
 ·unfold endN
  simp only [Bool.or_eq_false_iff, beq_eq_false_iff_ne]
  omega
theorem VY (t : List UInt8) : ju 1 t = jO t := by
 unfold ju jO
 have key : ∀ q, jA q = t → headW t = t ∧ headW t ≠ [46] := fun q h => by
  have h1 : headW t = t := kV (fun c hc => VD (p := q) (by rw [h]; exact hc))
  refine ⟨h1, fun e => ?_⟩
  rw [h1] at e
  have := xC (p := q) (c := 46) (by rw [h, e]; simp)
  simp at this
 cases e : zu t 10 with
 | some p =>
  by_cases hp : jA p = t
  ·obtain ⟨h1, h2⟩ := key p hp
   rw [if_neg h2, h1, e]
   simp
  ·simp only [hp, decide_false]
   split
   ·rfl
   ·cases e2 : zu (headW t) 10 with
    | none => rfl
    | some q =>
     by_cases hq : jA q = t
     ·have := (key q hq).1
      rw [this, e] at e2
      have := Option.some.inj e2
      subst this
      exact absurd hq hp
     ·simp [hq]
 | none =>
  split
  ·rfl
  ·cases e2 : zu (headW t) 10 with
   | none => rfl
   | some q =>
    by_cases hq : jA q = t
    ·have := (key q hq).1
     rw [this, e] at e2
     cases e2
    ·simp [hq]
theorem zbr {c : Nat} (h : endN c = true) : badN c = true := by unfold badN; rw [h]; rfl
theorem VC (t : List UInt8) : ju 2 t = symM t := by
 unfold ju symM
 by_cases h : headW t = t
 ·rw [h]
  by_cases h46 : t = [46]
  ·rw [if_pos h46]; simp [h46]
  ·rw [if_neg h46]
   cases zu t 10 with
   | none => simp [h46]
   | some p => simp
 ·have hb : wordM t = false := by
   have : ∃ c ∈ t, endN c.toNat = true := by
    refine Decidable.byContradiction fun hn => h (kV (fun c hc => ?_))
    cases e : endN c.toNat with
    | false => rfl
    | true => exact absurd ⟨c, hc, e⟩ hn
   obtain ⟨c, hc, e⟩ := this
   unfold wordM
   cases t with
   | nil => rfl
   | cons a r =>
    have : ((a :: r).all fun c => !badN c.toNat) = false := by
     rw [List.all_eq_false]
     exact ⟨c, hc, by simp [zbr e]⟩
    simp only [this, Bool.and_false]
  rw [hb, Bool.and_false]
  split
  ·rfl
  ·cases zu (headW t) 10 with
   | none => simp [h]
   | some p => rfl
def textM (s : Int) (t : List UInt8) : Bool :=
 if s = 1 then jO t else if s = 2 then symM t else if s = 3 then decide (t.length ≤ 200) && Lib.validD t else if s = 4 then oneM t
 else if s = 5 then decide (t = [116]) || decide (t = [102]) else if s = 9 then decide (t.length ≤ 200) else decide (t = [])
end Go.Proofs.YtpbnmhnbkfnaeaaGreatDoor
namespace Go.Proofs.YtpbnmhnbkfnaeaaGreatDoor
open Go.RowKit Nt
def cntOk (s : Int) (m : Nat) : Bool := if s = 7 then m == 2 else if s = 8 then decide (m ≤ 40) else m == 0
def inR (k : Int) (n : Nat) : Bool := decide (0 ≤ k) && decide (k < n)
def qT (nd : Nd) (n : Nat) : Bool := cntOk nd.1 nd.2.2.length && nd.2.2.all (inR · n)
theorem Ym (k : Int) (n : Nat) (w : World) :
  Calls Tryz.prog 34 #[.int .i64 k, .int .i64 0, .int .i64 ((n : Int) - 1)] w fun e w' => e = .returned (.bool (inR k n)) ∧ w' = w := by
 by_cases h0 : 0 ≤ k
 ·have d0 : decide (0 ≤ k) = true := decide_eq_true h0
  have hr : Hid (inR k n = decide (k ≤ (n : Int) - 1)) := by
   show _ = _; unfold inR; rw [d0, Bool.true_and]; congr 1; rw [eq_iff_iff]; omega
  go_enter Tryz.func34, Tryz.ntmps34
  go_wp2
  go_ret
  exact ⟨by rw [za hr]; rfl, rfl⟩
 ·have d0 : decide (0 ≤ k) = false := decide_eq_false h0
  have hr : Hid (inR k n = false) := by show _ = _; unfold inR; rw [d0, Bool.false_and]
  go_enter Tryz.func34, Tryz.ntmps34
  go_wp2
  go_ret
  exact ⟨by rw [za hr]; rfl, rfl⟩
theorem jE {xs : List Int} {p : Int → Bool} {j : Nat} {x : Int} (h : xs[j]? = some x) : (xs.take (j + 1)).all p = ((xs.take j).all p && p x) := by
 rw [List.take_add_one, h]; simp
theorem kU {xs : List Int} {p : Int → Bool} {j : Nat} {x : Int} (h : xs[j]? = some x) (hp : p x = false) : xs.all p = false := by
 rw [List.all_eq_false]; exact ⟨x, List.mem_of_getElem? h, by simp [hp]⟩
theorem JT (v : Value) (nd : Nd) (n : Nat) (w : World) (h : NdAt w v nd) (hn : n ≤ 1048576) :
  Calls Tryz.prog 36 #[v, .int .i64 n] w fun e w' => e = .returned (.bool (qT nd n)) ∧ Below w.heap.size w w' := by
 obtain ⟨s, text, kids⟩ := nd
 obtain ⟨kv, rfl, _, hk⟩ := h
 obtain ⟨a, cap, rfl, h1, h2⟩ := hk.form
 unfold maxLen at h2
 have hbb := (Below.refl w.heap.size w).alloc (Nat.le_refl _) (.cells #[.int .i64 s, .string (B text), .slice a kids.length cap] 56)
 have HK := hide (hk.below hbb)
 have HBB := hide hbb
 clear hk hbb
 simp only at *
 by_cases h7 : s = 7
 ·subst h7
  by_cases hm : kids.length = 2
  ·have HC : Hid (cntOk 7 kids.length = true) := by show _ = _; unfold cntOk; rw [if_pos rfl, hm]; rfl
   have HLEN := hide hm
   rw [hm] at h1 HK HBB
   rw [show (Value.slice a kids.length cap) = Value.slice a 2 cap from by rw [hm]]
   clear hm
   go_enter Tryz.func36, Tryz.ntmps36
   go_wp2
   go_loopw [5] (fun i wr => ∃ j : Nat, j ≤ 2 ∧ i = .int .i64 j ∧ Hid ((kids.take j).all (inR · n) = true) ∧ wr = w.alloc (.cells #[.int .i64 7, .string (B text), .slice a 2 cap] 56))
    (fun i _ => 2 - (intOf i).toNat)
   case atStart => exact ⟨0, by omega, rfl, hide (by simp), rfl⟩
   case round =>
    obtain ⟨j, hj, rfl, hall, rfl⟩ := hrel
    by_cases hlt : j < 2
    ·obtain ⟨x, hx⟩ : ∃ x, kids[j]? = some x := ⟨_, List.getElem?_eq_getElem (by have := za HLEN; omega)⟩
     obtain ⟨b, off, rfl, hb, hc⟩ := (za HK).cell hx
     have hst := jE (p := (inR · n)) hx
     rw [za hall, Bool.true_and] at hst
     have hfa := fun h => kU (p := (inR · n)) hx h
     have HST := hide (And.intro hst hfa)
     clear hst hfa hx
     go_wp2_with fail
     refine (Ym x n _).mono ?_
     rintro e w1 ⟨rfl, rfl⟩
     cases hxr : inR x n with
     | false =>
      have HXR := hide hxr
      clear hxr
      go_wp2
      go_ret
      exact ⟨by unfold qT; rw [(za HST).2 (za HXR), Bool.and_false]; rfl, za HBB⟩
     | true =>
      have HXR := hide hxr
      clear hxr
      go_wp2
      go_roundw
      case rel => exact ⟨j + 1, by omega, by go_num, hide (by rw [(za HST).1]; exact za HXR), by first | rfl | trivial⟩
      case measure => simp [intOf]; omega
    ·go_wp2
     go_ret
     have := za hall
     rw [List.take_of_length_le (by have := za HLEN; omega)] at this
     exact ⟨by unfold qT; rw [this]; simp only at *; rw [za HC]; rfl, za HBB⟩
  ·have HC : Hid (cntOk 7 kids.length = false) := by show _ = _; unfold cntOk; rw [if_pos rfl]; simpa using hm
   have hmI : ¬ (kids.length : Int) = 2 := by omega
   go_enter Tryz.func36, Tryz.ntmps36
   go_wp2
   go_ret
   exact ⟨by unfold qT; rw [za HC]; rfl, za HBB⟩
 ·by_cases h8 : s = 8
  ·subst h8
   by_cases hm : kids.length ≤ 40
   ·have HC : Hid (cntOk 8 kids.length = true) := by show _ = _; unfold cntOk; rw [if_neg (by decide), if_pos rfl]; simpa using hm
    have hmI : ¬ (40 < (kids.length : Int)) := by omega
    go_enter Tryz.func36, Tryz.ntmps36
    go_wp2
    have HLEN : Hid (kids.length = kids.length) := rfl
    go_loopw [5] (fun i wr => ∃ j : Nat, j ≤ kids.length ∧ i = .int .i64 j ∧ Hid ((kids.take j).all (inR · n) = true) ∧ wr = w.alloc (.cells #[.int .i64 8, .string (B text), .slice a kids.length cap] 56))
     (fun i _ => kids.length - (intOf i).toNat)
    case atStart => exact ⟨0, by omega, rfl, hide (by simp), rfl⟩
    case round =>
     obtain ⟨j, hj, rfl, hall, rfl⟩ := hrel
     by_cases hlt : j < kids.length
     ·obtain ⟨x, hx⟩ : ∃ x, kids[j]? = some x := ⟨_, List.getElem?_eq_getElem (by have := za HLEN; omega)⟩
      obtain ⟨b, off, rfl, hb, hc⟩ := (za HK).cell hx
      have hst := jE (p := (inR · n)) hx
      rw [za hall, Bool.true_and] at hst
      have hfa := fun h => kU (p := (inR · n)) hx h
      have HST := hide (And.intro hst hfa)
      clear hst hfa hx
      go_wp2_with fail
      refine (Ym x n _).mono ?_
      rintro e w1 ⟨rfl, rfl⟩
      cases hxr : inR x n with
      | false =>
       have HXR := hide hxr
       clear hxr
       go_wp2
       go_ret
       exact ⟨by unfold qT; rw [(za HST).2 (za HXR), Bool.and_false]; rfl, za HBB⟩
      | true =>
       have HXR := hide hxr
       clear hxr
       go_wp2
       go_roundw
       case rel => exact ⟨j + 1, by omega, by go_num, hide (by rw [(za HST).1]; exact za HXR), by first | rfl | trivial⟩
       case measure => simp [intOf]; omega
     ·go_wp2
      go_ret
      have := za hall
      rw [List.take_of_length_le (by have := za HLEN; omega)] at this
      exact ⟨by unfold qT; rw [this]; simp only at *; rw [za HC]; rfl, za HBB⟩
   ·have HC : Hid (cntOk 8 kids.length = false) := by show _ = _; unfold cntOk; rw [if_neg (by decide), if_pos rfl]; simpa using hm
    have hmI : 40 < (kids.length : Int) := by omega
    go_enter Tryz.func36, Tryz.ntmps36
    go_wp2
    go_ret
    exact ⟨by unfold qT; rw [za HC]; rfl, za HBB⟩
  ·by_cases hm : kids.length = 0
   ·have hk0 : kids = [] := List.length_eq_zero_iff.1 hm
    subst hk0
    have HC : Hid (qT (s, text, []) n = true) := by show _ = _; unfold qT cntOk; simp [h7, h8]
    go_enter Tryz.func36, Tryz.ntmps36
    go_wp2
    go_loopw [5] (fun i wr => i = .int .i64 0 ∧ wr = w.alloc (.cells #[.int .i64 s, .string (B text), .slice a 0 cap] 56)) (fun _ _ => 0)
    case atStart => exact ⟨rfl, rfl⟩
    case round =>
     obtain ⟨rfl, rfl⟩ := hrel
     go_wp2
     go_ret
     exact ⟨by rw [za HC]; rfl, za HBB⟩
   ·have HC : Hid (cntOk s kids.length = false) := by show _ = _; unfold cntOk; rw [if_neg h7, if_neg h8]; simpa using hm
    have hmI : 0 < (kids.length : Int) := by omega
    go_enter Tryz.func36, Tryz.ntmps36
    go_wp2
    go_ret
    exact ⟨by unfold qT; rw [za HC]; rfl, za HBB⟩
end Go.Proofs.YtpbnmhnbkfnaeaaGreatDoor
namespace Go.Proofs.YtpbnmhnbkfnaeaaGreatDoor
theorem Qe {α : Type} [BEq α] [LawfulBEq α] : ∀ {l m : List α}, l.Nodup → (∀ x ∈ l, x ∈ m) → l.length ≤ m.length
 | [], _, _, _ => Nat.zero_le _
 | x :: l, m, h, hs => by
  have hx := hs x (by simp)
  rw [List.nodup_cons] at h
  have := Qe (l := l) (m := m.erase x) h.2 (fun y hy => by
   have := hs y (by simp [hy])
   rw [List.mem_erase_of_ne]
   ·exact this
   ·intro e; subst e; exact h.1 hy)
  rw [List.length_erase_of_mem hx] at this
  have : 0 < m.length := List.length_pos_of_mem hx
  simp; omega
def nxtP (l : List (Int × Int)) : List (Int × Int) → List (Int × Int)
 | [] => l
 | x :: ks => nxtP (if x ∈ l then l else l ++ [x]) ks
def walkP (c : Int → Int → Int) (kids : Int → Int → List (Int × Int)) : Nat → Nat → List (Int × Int) → Int
 | 0, _, _ => 0
 | f + 1, i, l => match l[i]? with
  | none => 0
  | some (a, b) => if c a b = 0 then walkP c kids f (i + 1) (nxtP l (kids a b)) else c a b
def InP (n m : Nat) (x : Int × Int) : Prop := (0 ≤ x.1 ∧ x.1 < n) ∧ 0 ≤ x.2 ∧ x.2 < m
theorem jU {n m : Nat} : ∀ {ks l : List (Int × Int)}, l.Nodup → (∀ x ∈ l, InP n m x) → (∀ x ∈ ks, InP n m x) → (nxtP l ks).Nodup ∧ (∀ x ∈ nxtP l ks, InP n m x) ∧ ∃ r, nxtP l ks = l ++ r
 | [], l, hn, hl, _ => ⟨hn, hl, [], by simp [nxtP]⟩
 | x :: ks, l, hn, hl, hk => by
  unfold nxtP
  have hk' : ∀ y ∈ ks, InP n m y := fun y hy => hk y (List.mem_cons_of_mem _ hy)
  by_cases e : x ∈ l
  ·rw [if_pos e]
   exact jU hn hl hk'
  ·rw [if_neg e]
   have h1 : (l ++ [x]).Nodup := by
    rw [List.nodup_append]
    refine ⟨hn, by simp, fun a ha b hb => ?_⟩
    have : b = x := by simpa using hb
    subst this
    exact fun e' => e (e' ▸ ha)
   have h2 : ∀ y ∈ l ++ [x], InP n m y := fun y hy => by
    rcases List.mem_append.1 hy with hy | hy
    ·exact hl y hy
    ·have : y = x := by simpa using hy
     subst this
     exact hk _ List.mem_cons_self
   obtain ⟨a, b, r, hr⟩ := jU h1 h2 hk'
   exact ⟨a, b, [x] ++ r, by rw [hr, List.append_assoc]⟩
def allP (n m : Nat) : List (Int × Int) := (List.range n).flatMap fun (a : Nat) => (List.range m).map fun (b : Nat) => ((a : Int), (b : Int))
theorem XJ (n m : Nat) : (allP n m).length = n * m := by
 unfold allP
 induction n with
 | zero => simp
 | succ n ih => rw [List.range_succ, List.flatMap_append, List.length_append, ih]; simp [Nat.succ_mul]
theorem zaj {n m : Nat} {x : Int × Int} (h : InP n m x) : x ∈ allP n m := by
 obtain ⟨a, b⟩ := x
 obtain ⟨⟨a0, a1⟩, b0, b1⟩ := h
 simp only at a0 a1 b0 b1
 unfold allP
 rw [List.mem_flatMap]
 refine ⟨a.toNat, List.mem_range.2 (by omega), ?_⟩
 rw [List.mem_map]
 refine ⟨b.toNat, List.mem_range.2 (by omega), ?_⟩
 rw [Prod.mk.injEq]
 omega
theorem jb {n m : Nat} {l : List (Int × Int)} (hn : l.Nodup) (hl : ∀ x ∈ l, InP n m x) : l.length ≤ n * m := by
 rw [← XJ]
 exact Qe hn (fun x hx => zaj (hl x hx))
theorem Zy {c : Int → Int → Int} {kids : Int → Int → List (Int × Int)} {n m : Nat} (hk : ∀ a b, InP n m (a, b) → ∀ x ∈ kids a b, InP n m x) :
  ∀ {f g i : Nat} {l : List (Int × Int)}, l.Nodup → (∀ x ∈ l, InP n m x) → n * m < f + i → n * m < g + i → walkP c kids f i l = walkP c kids g i l := by
 intro f
 induction f with
 | zero =>
  intro g i l hn hl hf hg
  have := jb hn hl
  cases g with
  | zero => rfl
  | succ g =>
   unfold walkP
   rw [List.getElem?_eq_none (by omega)]
 | succ f ih =>
  intro g i l hn hl hf hg
  cases g with
  | zero =>
   have := jb hn hl
   unfold walkP
   rw [List.getElem?_eq_none (by omega)]
  | succ g =>
   unfold walkP
   cases e : l[i]? with
   | none => rfl
   | some x =>
    obtain ⟨a, b⟩ := x
    simp only
    by_cases e0 : c a b = 0
    ·rw [if_pos e0, if_pos e0]
     obtain ⟨h1, h2, _⟩ := jU hn hl (hk a b (hl _ (List.mem_of_getElem? e)))
     exact ih h1 h2 (by omega) (by omega)
    ·rw [if_neg e0, if_neg e0]
def walkQ (c : Int → Int → Int) (kids : Int → Int → List (Int × Int)) : Nat → Nat → List (Int × Int) → Int
 | 0, _, _ => 0
 | f + 1, j, q => match q[j]? with
  | none => 0
  | some (a, b) => if c a b = 0 then walkQ c kids f (j + 1) (q ++ kids a b) else c a b
theorem qU : ∀ {q ks l : List (Int × Int)}, nxtP l (q ++ ks) = nxtP (nxtP l q) ks
 | [], _, _ => rfl
 | x :: q, ks, l => by
  show nxtP _ (q ++ ks) = _
  rw [qU]
  rfl
theorem yA : ∀ {ks l : List (Int × Int)} {x : Int × Int}, x ∈ nxtP l ks ↔ x ∈ l ∨ x ∈ ks
 | [], l, x => by simp [nxtP]
 | y :: ks, l, x => by
  unfold nxtP
  rw [yA, List.mem_cons]
  by_cases e : y ∈ l
  ·rw [if_pos e]
   constructor
   ·rintro (h | h)
    ·exact .inl h
    ·exact .inr (.inr h)
   ·rintro (h | rfl | h)
    ·exact .inl h
    ·exact .inl e
    ·exact .inr h
  ·rw [if_neg e, List.mem_append, List.mem_singleton]
   constructor
   ·rintro ((h | h) | h)
    ·exact .inl h
    ·exact .inr (.inl h)
    ·exact .inr (.inr h)
   ·rintro (h | h | h)
    ·exact .inl (.inl h)
    ·exact .inl (.inr h)
    ·exact .inr h
theorem kY : ∀ {ks l : List (Int × Int)}, (∀ x ∈ ks, x ∈ l) → nxtP l ks = l
 | [], _, _ => rfl
 | x :: ks, l, h => by
  unfold nxtP
  rw [if_pos (h x List.mem_cons_self)]
  exact kY (fun y hy => h y (List.mem_cons_of_mem _ hy))
theorem QO : ∀ {ks l : List (Int × Int)}, l.Nodup → (nxtP l ks).Nodup
 | [], _, h => h
 | x :: ks, l, h => by
  unfold nxtP
  by_cases e : x ∈ l
  ·rw [if_pos e]; exact QO h
  ·rw [if_neg e]
   refine QO ?_
   rw [List.nodup_append]
   refine ⟨h, by simp, fun a ha b hb => ?_⟩
   have : b = x := by simpa using hb
   subst this
   exact fun e' => e (e' ▸ ha)
theorem j6 : ∀ {ks l : List (Int × Int)}, ∃ r, nxtP l ks = l ++ r
 | [], l => ⟨[], by simp [nxtP]⟩
 | x :: ks, l => by
  unfold nxtP
  by_cases e : x ∈ l
  ·rw [if_pos e]; exact j6
  ·rw [if_neg e]
   obtain ⟨r, hr⟩ := j6 (ks := ks) (l := l ++ [x])
   exact ⟨[x] ++ r, by rw [hr, List.append_assoc]⟩
structure WInv (c : Int → Int → Int) (kids : Int → Int → List (Int × Int)) (i : Nat) (l : List (Int × Int)) (j : Nat) (q : List (Int × Int)) : Prop where
 all : nxtP [] q = l
 fst : nxtP [] (q.take j) = l.take i
 il : i ≤ l.length
 jl : j ≤ q.length
 done : ∀ p ∈ l.take i, c p.1 p.2 = 0 ∧ ∀ k ∈ kids p.1 p.2, k ∈ l
theorem WInv.start (c : Int → Int → Int) (kids : Int → Int → List (Int × Int)) (x : Int × Int) : WInv c kids 0 [x] 0 [x] :=
 ⟨rfl, rfl, by simp, by simp, fun p hp => by simp at hp⟩
theorem WInv.skip {c : Int → Int → Int} {kids : Int → Int → List (Int × Int)} {i j : Nat} {l q : List (Int × Int)} (h : WInv c kids i l j q) {a b : Int} (hq : q[j]? = some (a, b)) (hm : (a, b) ∈ l.take i) :
  c a b = 0 ∧ WInv c kids i l (j + 1) (q ++ kids a b) := by
 obtain ⟨h0, hk⟩ := h.done _ hm
 have hjl := (List.getElem?_eq_some_iff.1 hq).1
 refine ⟨h0, ?_, ?_, h.il, by simp; omega, h.done⟩
 ·rw [qU, h.all]; exact kY hk
 ·rw [List.take_append_of_le_length (by omega), List.take_add_one, hq, qU, h.fst]
  exact kY (fun y hy => by
   have : y = (a, b) := by simpa using hy
   rw [this]; exact hm)
theorem WInv.new {c : Int → Int → Int} {kids : Int → Int → List (Int × Int)} {i j : Nat} {l q : List (Int × Int)} (h : WInv c kids i l j q) {a b : Int} (hq : q[j]? = some (a, b)) (hm : (a, b) ∉ l.take i) :
  l[i]? = some (a, b) ∧ (c a b = 0 → WInv c kids (i + 1) (nxtP l (kids a b)) (j + 1) (q ++ kids a b)) := by
 have hjl := (List.getElem?_eq_some_iff.1 hq).1
 have e1 : nxtP [] (q.take (j + 1)) = l.take i ++ [(a, b)] := by
  rw [List.take_add_one, hq, qU, h.fst]
  show nxtP _ [(a, b)] = _
  unfold nxtP
  rw [if_neg hm]
  rfl
 obtain ⟨r, hr⟩ := j6 (ks := q.drop (j + 1)) (l := l.take i ++ [(a, b)])
 have e2 : l = l.take i ++ [(a, b)] ++ r := by
  rw [← hr, ← e1, ← qU, List.take_append_drop]
  exact h.all.symm
 have hil := h.il
 have hlen : (l.take i).length = i := by rw [List.length_take]; omega
 have e3 : l[i]? = some (a, b) := by
  rw [e2, List.append_assoc, List.getElem?_append_right (by omega), hlen]
  simp
 have hlt := (List.getElem?_eq_some_iff.1 e3).1
 refine ⟨e3, fun h0 => ?_⟩
 obtain ⟨s, hs⟩ := j6 (ks := kids a b) (l := l)
 have e4 : (nxtP l (kids a b)).take (i + 1) = l.take i ++ [(a, b)] := by
  rw [hs, List.take_append_of_le_length (by omega), List.take_add_one, e3]; rfl
 refine ⟨by rw [qU, h.all], ?_, by rw [hs]; simp; omega, by simp; omega, fun p hp => ?_⟩
 ·rw [List.take_append_of_le_length (by omega), e1, e4]
 ·rw [e4] at hp
  rcases List.mem_append.1 hp with hp | hp
  ·obtain ⟨d0, d1⟩ := h.done p hp
   exact ⟨d0, fun k hk => yA.2 (.inl (d1 k hk))⟩
  ·have : p = (a, b) := by simpa using hp
   subst this
   exact ⟨h0, fun k hk => yA.2 (.inr hk)⟩
theorem JF {c : Int → Int → Int} {kids : Int → Int → List (Int × Int)} : ∀ {f i j : Nat} {l q : List (Int × Int)}, WInv c kids i l j q → walkQ c kids f j q ≠ 0 → ∃ g, walkP c kids g i l = walkQ c kids f j q := by
 intro f
 induction f with
 | zero => intro i j l q _ h; exact absurd rfl h
 | succ f ih =>
  intro i j l q h hne
  unfold walkQ at hne ⊢
  cases e : q[j]? with
  | none => rw [e] at hne; exact absurd rfl hne
  | some x =>
   obtain ⟨a, b⟩ := x
   rw [e] at hne
   simp only at hne ⊢
   by_cases hm : (a, b) ∈ l.take i
   ·obtain ⟨h0, h1⟩ := h.skip e hm
    rw [if_pos h0] at hne ⊢
    exact ih h1 hne
   ·obtain ⟨e3, h1⟩ := h.new e hm
    by_cases h0 : c a b = 0
    ·rw [if_pos h0] at hne ⊢
     obtain ⟨g, hg⟩ := ih (h1 h0) hne
     refine ⟨g + 1, ?_⟩
     unfold walkP
     rw [e3]
     simp only
     rw [if_pos h0]
     exact hg
    ·rw [if_neg h0]
     refine ⟨1, ?_⟩
     unfold walkP
     rw [e3]
     simp only
     rw [if_neg h0]
theorem Y9 {c : Int → Int → Int} {kids : Int → Int → List (Int × Int)} : ∀ (n : Nat) {i j : Nat} {l q : List (Int × Int)}, WInv c kids i l j q → ∀ x, q[j + n]? = some x → x ∉ l.take i →
  ∃ k j' q' y, WInv c kids i l j' q' ∧ q'[j']? = some y ∧ y ∉ l.take i ∧ ∀ F, walkQ c kids (F + k) j q = walkQ c kids F j' q'
 | 0, i, j, l, q, h, x, hx, hm => ⟨0, j, q, x, h, hx, hm, fun F => rfl⟩
 | n + 1, i, j, l, q, h, x, hx, hm => by
  have hlt := (List.getElem?_eq_some_iff.1 hx).1
  obtain ⟨z, hz⟩ : ∃ z, q[j]? = some z := ⟨_, List.getElem?_eq_getElem (by omega)⟩
  by_cases hzm : z ∈ l.take i
  ·obtain ⟨a, b⟩ := z
   obtain ⟨h0, h1⟩ := h.skip hz hzm
   obtain ⟨k, j', q', y, g1, g2, g3, g4⟩ := Y9 n h1 x (by rw [List.getElem?_append_left (by omega), show j + 1 + n = j + (n + 1) by omega]; exact hx) hm
   refine ⟨k + 1, j', q', y, g1, g2, g3, fun F => ?_⟩
   rw [← g4 F, ← Nat.add_assoc]
   conv => lhs; unfold walkQ
   rw [hz]
   simp only
   rw [if_pos h0]
  ·exact ⟨0, j, q, z, h, hz, hzm, fun F => rfl⟩
theorem JP {c : Int → Int → Int} {kids : Int → Int → List (Int × Int)} : ∀ {g i j : Nat} {l q : List (Int × Int)}, l.Nodup → WInv c kids i l j q → walkP c kids g i l ≠ 0 → ∃ f, walkQ c kids f j q = walkP c kids g i l := by
 intro g
 induction g with
 | zero => intro i j l q _ _ h; exact absurd rfl h
 | succ g ih =>
  intro i j l q hn h hne
  unfold walkP at hne ⊢
  cases e : l[i]? with
  | none => rw [e] at hne; exact absurd rfl hne
  | some x =>
   rw [e] at hne
   have hxq : x ∈ q := by
    have h1 : x ∈ nxtP [] q := by rw [h.all]; exact List.mem_of_getElem? e
    rcases yA.1 h1 with h1 | h1
    ·simp at h1
    ·exact h1
   have hxm : x ∉ l.take i := fun hm => by
    obtain ⟨t, ht⟩ := List.getElem?_of_mem hm
    have htl := (List.getElem?_eq_some_iff.1 ht).1
    rw [List.length_take] at htl
    rw [List.getElem?_take, if_pos (by omega)] at ht
    obtain ⟨g1, g2⟩ := List.getElem?_eq_some_iff.1 ht
    obtain ⟨g3, g4⟩ := List.getElem?_eq_some_iff.1 e
    have := (List.getElem_inj hn (h₀ := g1) (h₁ := g3)).1 (g2.trans g4.symm)
    omega
   obtain ⟨n, hnq⟩ : ∃ n, q[j + n]? = some x := by
    obtain ⟨t, ht⟩ := List.getElem?_of_mem hxq
    by_cases htj : t < j
    ·exfalso
     apply hxm
     rw [← h.fst, yA]
     exact .inr (List.mem_of_getElem? (i := t) (by rw [List.getElem?_take, if_pos htj]; exact ht))
    ·exact ⟨t - j, by rw [show j + (t - j) = t by omega]; exact ht⟩
   obtain ⟨k, j', q', y, g1, g2, g3, g4⟩ := Y9 n h x hnq hxm
   obtain ⟨a, b⟩ := y
   obtain ⟨e3, h1⟩ := g1.new g2 g3
   obtain rfl := Option.some.inj (e.symm.trans e3)
   simp only at hne ⊢
   have hstep : ∀ F, walkQ c kids (F + 1) j' q' = if c a b = 0 then walkQ c kids F (j' + 1) (q' ++ kids a b) else c a b := fun F => by
    conv => lhs; unfold walkQ
    rw [g2]
   by_cases h0 : c a b = 0
   ·rw [if_pos h0] at hne ⊢
    have hn2 : (nxtP l (kids a b)).Nodup := QO hn
    obtain ⟨f, hf⟩ := ih hn2 (h1 h0) hne
    exact ⟨f + 1 + k, by rw [g4, hstep, if_pos h0]; exact hf⟩
   ·rw [if_neg h0]
    exact ⟨0 + 1 + k, by rw [g4, hstep, if_neg h0]⟩
end Go.Proofs.YtpbnmhnbkfnaeaaGreatDoor
namespace Go.Proofs.YtpbnmhnbkfnaeaaGreatDoor
structure Dat (L : Type) where
 kids : Int → List Int
 lab : Int → L
def Dat.que {L : Type} (D : Dat L) (a : Int) : Nat → List Int
 | 0 => [a]
 | t + 1 => match (D.que a t)[t]? with
  | none => D.que a t
  | some x => D.que a t ++ D.kids x
def Dat.lb {L : Type} (D : Dat L) (a : Int) (t : Nat) : Option L := ((D.que a t)[t]?).map D.lab
def cO {L : Type} (cmp : L → L → Int) : Option L → Option L → Int
 | some x, some y => cmp x y
 | _, _ => 0
section
variable {L : Type} {cmp : L → L → Int} {ar : L → Nat} {D E : Dat L} {a b : Int}
theorem xP (hD : ∀ x, (D.kids x).length = ar (D.lab x)) (hE : ∀ x, (E.kids x).length = ar (E.lab x)) (hc : ∀ x y, cmp x y = 0 → ar x = ar y) :
  ∀ t, (∀ s, s < t → cO cmp (D.lb a s) (E.lb b s) = 0) → (D.que a t).length = (E.que b t).length
 | 0, _ => rfl
 | t + 1, h => by
  have h1 := xP hD hE hc t (fun s hs => h s (by omega))
  have h2 := h t (by omega)
  unfold Dat.lb at h2
  unfold Dat.que
  cases e : (D.que a t)[t]? with
  | none =>
   have : (E.que b t)[t]? = none := by rw [List.getElem?_eq_none_iff] at e ⊢; omega
   rw [this]
   exact h1
  | some x =>
   have hl := (List.getElem?_eq_some_iff.1 e).1
   obtain ⟨y, hy⟩ : ∃ y, (E.que b t)[t]? = some y := ⟨_, List.getElem?_eq_getElem (by omega)⟩
   rw [e, hy] at h2
   rw [hy]
   simp only [List.length_append, h1, hD, hE]
   rw [hc _ _ h2]
def vj (c : Nat → Int) : Nat → Nat → Int
 | 0, _ => 0
 | f + 1, j => if c j = 0 then vj c f (j + 1) else c j
theorem zbf : ∀ {t : Nat}, (D.que a t)[t]? = none → D.que a (t + 1) = D.que a t ∧ (D.que a (t + 1))[t + 1]? = none := fun {t} h => by
 have e : D.que a (t + 1) = D.que a t := by
  conv => lhs; unfold Dat.que
  rw [h]
 refine ⟨e, ?_⟩
 rw [e, List.getElem?_eq_none_iff]
 rw [List.getElem?_eq_none_iff] at h
 omega
theorem ZD : ∀ {f t : Nat}, (D.que a t)[t]? = none → vj (fun s => cO cmp (D.lb a s) (E.lb b s)) f t = 0
 | 0, _, _ => rfl
 | f + 1, t, h => by
  unfold vj
  have h0 : cO cmp (D.lb a t) (E.lb b t) = 0 := by
   unfold Dat.lb
   rw [h]
   rfl
  rw [if_pos h0]
  exact ZD (zbf h).2
theorem xG (hD : ∀ x, (D.kids x).length = ar (D.lab x)) (hE : ∀ x, (E.kids x).length = ar (E.lab x)) (hc : ∀ x y, cmp x y = 0 → ar x = ar y) :
  ∀ {f j : Nat}, (∀ s, s < j → cO cmp (D.lb a s) (E.lb b s) = 0) →
   walkQ (fun x y => cmp (D.lab x) (E.lab y)) (fun x y => (D.kids x).zip (E.kids y)) f j ((D.que a j).zip (E.que b j)) = vj (fun s => cO cmp (D.lb a s) (E.lb b s)) f j
 | 0, _, _ => rfl
 | f + 1, j, h => by
  have hl := xP hD hE hc j h
  cases e : (D.que a j)[j]? with
  | none =>
   rw [ZD e]
   unfold walkQ
   rw [List.getElem?_eq_none (by rw [List.getElem?_eq_none_iff] at e; rw [List.length_zip]; omega)]
  | some x =>
   have hlt := (List.getElem?_eq_some_iff.1 e).1
   obtain ⟨y, hy⟩ : ∃ y, (E.que b j)[j]? = some y := ⟨_, List.getElem?_eq_getElem (by omega)⟩
   have hz : ((D.que a j).zip (E.que b j))[j]? = some (x, y) := by rw [List.getElem?_zip_eq_some]; exact ⟨e, hy⟩
   have hcO : cO cmp (D.lb a j) (E.lb b j) = cmp (D.lab x) (E.lab y) := by
    unfold Dat.lb
    rw [e, hy]
    rfl
   unfold walkQ vj
   rw [hz]
   simp only [hcO]
   by_cases h0 : cmp (D.lab x) (E.lab y) = 0
   ·rw [if_pos h0, if_pos h0]
    rw [← xG hD hE hc (f := f) (j := j + 1) (fun s hs => by
     by_cases e' : s = j
     ·subst e'; rw [hcO]; exact h0
     ·exact h s (by omega))]
    have e1 : D.que a (j + 1) = D.que a j ++ D.kids x := by
     conv => lhs; unfold Dat.que
     rw [e]
    have e2 : E.que b (j + 1) = E.que b j ++ E.kids y := by
     conv => lhs; unfold Dat.que
     rw [hy]
    rw [e1, e2, List.zip_append hl]
   ·rw [if_neg h0, if_neg h0]
end
end Go.Proofs.YtpbnmhnbkfnaeaaGreatDoor
namespace Go.Proofs.YtpbnmhnbkfnaeaaGreatDoor
def IsFirst (c : Nat → Int) (r : Int) : Prop := (r = 0 ∧ ∀ s, c s = 0) ∨ ∃ t, (∀ s, s < t → c s = 0) ∧ c t ≠ 0 ∧ r = c t
theorem IsFirst.at {c : Nat → Int} {r : Int} (h : IsFirst c r) {t : Nat} (ht : ∀ s, s < t → c s = 0) (hn : c t ≠ 0) : r = c t := by
 rcases h with ⟨_, h⟩ | ⟨u, h1, h2, h3⟩
 ·exact absurd (h t) hn
 ·rcases Nat.lt_trichotomy u t with e | e | e
  ·exact absurd (ht u e) h2
  ·rw [h3, e]
  ·exact absurd (h1 t e) hn
theorem IsFirst.zero {c : Nat → Int} {r : Int} (h : IsFirst c r) (hz : ∀ s, c s = 0) : r = 0 := by
 rcases h with ⟨e, _⟩ | ⟨u, _, h2, _⟩
 ·exact e
 ·exact absurd (hz u) h2
theorem Qk {c : Nat → Int} : ∀ {f j : Nat}, vj c f j ≠ 0 → ∃ t, j ≤ t ∧ (∀ s, j ≤ s → s < t → c s = 0) ∧ c t ≠ 0 ∧ vj c f j = c t
 | 0, _, h => absurd rfl h
 | f + 1, j, h => by
  unfold vj at h ⊢
  by_cases e : c j = 0
  ·rw [if_pos e] at h ⊢
   obtain ⟨t, h1, h2, h3, h4⟩ := Qk h
   exact ⟨t, by omega, fun s hs hst => by
    by_cases e' : s = j
    ·rw [e']; exact e
    ·exact h2 s (by omega) hst, h3, h4⟩
  ·rw [if_neg e]
   exact ⟨j, Nat.le_refl _, fun s hs hst => absurd hst (by omega), e, rfl⟩
theorem Qv {c : Nat → Int} {t : Nat} (hn : c t ≠ 0) : ∀ {f j : Nat}, j ≤ t → t < j + f → (∀ s, j ≤ s → s < t → c s = 0) → vj c f j = c t
 | 0, _, _, h2, _ => absurd h2 (by omega)
 | f + 1, j, h1, h2, h3 => by
  unfold vj
  by_cases e : j = t
  ·subst e; rw [if_neg hn]
  ·rw [if_pos (h3 j (Nat.le_refl _) (by omega))]
   exact Qv hn (by omega) (by omega) (fun s hs hst => h3 s (by omega) hst)
theorem Zh {c : Int → Int → Int} {kids : Int → Int → List (Int × Int)} : ∀ {g k i : Nat} {l : List (Int × Int)}, walkP c kids g i l ≠ 0 → walkP c kids (g + k) i l = walkP c kids g i l
 | 0, _, _, _, h => absurd rfl h
 | g + 1, k, i, l, h => by
  rw [show g + 1 + k = (g + k) + 1 by omega]
  unfold walkP at h ⊢
  cases e : l[i]? with
  | none => rfl
  | some x =>
   obtain ⟨a, b⟩ := x
   rw [e] at h
   simp only at h ⊢
   by_cases h0 : c a b = 0
   ·rw [if_pos h0] at h ⊢
    rw [if_pos h0]
    exact Zh h
   ·rw [if_neg h0, if_neg h0]
section
variable {L : Type} {cmp : L → L → Int} {ar : L → Nat} {D E F : Dat L} {a b d : Int}
theorem JB (hD : ∀ x, (D.kids x).length = ar (D.lab x)) (hE : ∀ x, (E.kids x).length = ar (E.lab x)) (hc : ∀ x y, cmp x y = 0 → ar x = ar y) {n m g : Nat}
  (hk : ∀ x y, InP n m (x, y) → ∀ z ∈ (D.kids x).zip (E.kids y), InP n m z) (hab : InP n m (a, b)) (hg : n * m < g) :
  IsFirst (fun s => cO cmp (D.lb a s) (E.lb b s)) (walkP (fun x y => cmp (D.lab x) (E.lab y)) (fun x y => (D.kids x).zip (E.kids y)) g 0 [(a, b)]) := by
 have hq : ∀ f, walkQ (fun x y => cmp (D.lab x) (E.lab y)) (fun x y => (D.kids x).zip (E.kids y)) f 0 [(a, b)] = vj (fun s => cO cmp (D.lb a s) (E.lb b s)) f 0 := fun f =>
  xG (a := a) (b := b) hD hE hc (f := f) (j := 0) (fun s hs => absurd hs (by omega))
 by_cases h0 : walkP (fun x y => cmp (D.lab x) (E.lab y)) (fun x y => (D.kids x).zip (E.kids y)) g 0 [(a, b)] = 0
 ·refine .inl ⟨h0, ?_⟩
  apply Classical.byContradiction
  intro hne
  have hne' : ∃ s, cO cmp (D.lb a s) (E.lb b s) ≠ 0 := by
   apply Classical.byContradiction
   intro h
   exact hne (fun s => Classical.byContradiction fun h' => h ⟨s, h'⟩)
  have hmin : ∀ s, cO cmp (D.lb a s) (E.lb b s) ≠ 0 → ∃ t, (∀ s, s < t → cO cmp (D.lb a s) (E.lb b s) = 0) ∧ cO cmp (D.lb a t) (E.lb b t) ≠ 0 := by
   intro s
   induction s using Nat.strongRecOn with
   | _ s ih =>
    intro hs
    by_cases h : ∃ u, u < s ∧ cO cmp (D.lb a u) (E.lb b u) ≠ 0
    ·obtain ⟨u, hu, hu2⟩ := h
     exact ih u hu hu2
    ·exact ⟨s, fun u hu => Classical.byContradiction fun h' => h ⟨u, hu, h'⟩, hs⟩
  obtain ⟨s, hs⟩ := hne'
  obtain ⟨t, ht, htn⟩ := hmin s hs
  have h1 := hq (t + 1)
  rw [Qv (c := fun s => cO cmp (D.lb a s) (E.lb b s)) (t := t) htn (Nat.zero_le _) (by omega) (fun s _ hst => ht s hst)] at h1
  obtain ⟨g', hg'⟩ := JF (WInv.start _ _ (a, b)) (by rw [h1]; exact htn)
  rw [h1] at hg'
  have h2 := Zh (k := n * m + 1) (by rw [hg']; exact htn)
  rw [Zy hk (f := g' + (n * m + 1)) (g := g) (by simp) (fun x hx => by
   have : x = (a, b) := by simpa using hx
   rw [this]; exact hab) (by omega) (by omega), h0] at h2
  rw [hg'] at h2
  exact htn h2.symm
 ·obtain ⟨f, hf⟩ := JP (by simp) (WInv.start _ _ (a, b)) h0
  rw [hq] at hf
  obtain ⟨t, _, h2, h3, h4⟩ := Qk (by rw [hf]; exact h0)
  exact .inr ⟨t, fun s hs => h2 s (Nat.zero_le _) hs, h3, by rw [← hf, h4]⟩
end
end Go.Proofs.YtpbnmhnbkfnaeaaGreatDoor
namespace Go.Proofs.YtpbnmhnbkfnaeaaGreatDoor
open Go.RowKit Nt
def sgI (z : Int) : Int := if z < 0 then -1 else if 0 < z then 1 else 0
def cmpI (a b : Int) : Int := if a < b then -1 else if b < a then 1 else 0
def cmpRt (p q : Rt) : Int := sgI (zP p * (q.2.2 : Int) - zP q * (p.2.2 : Int))
def cmpT (a b : T3) : Int := if okT a && okT b then cmpRt (valT a) (valT b) else 0
def numTx (t : List UInt8) : T3 := match zu t 10 with
 | some p => putT p
 | none => nilT
def zR (a b : Nd) : Int :=
 if a.1 ≠ b.1 then cmpI a.1 b.1 else if a.1 = 1 then cmpT (numTx a.2.1) (numTx b.2.1) else if a.2.1 ≠ b.2.1 then Lib.compareBytes a.2.1 b.2.1 else cmpI a.2.2.length b.2.2.length
theorem zbE (o : Option Rt) : numO o = numT (match o with | some p => putT p | none => nilT) := by
 cases o with
 | none => rfl
 | some p => obtain ⟨n, u, d⟩ := p; rfl
theorem Q0 (t : List UInt8) : numO (zu t 10) = numT (numTx t) := zbE _
theorem yN {a b : Int} : cmpI a b = 0 ↔ a = b := by unfold cmpI; split <;> (try split) <;> omega
theorem Y3 (z : Int) : sgI (-z) = - sgI z := by unfold sgI; split <;> split <;> (try split) <;> omega
theorem KQ (a : T3) : cmpT a a = 0 := by unfold cmpT cmpRt; split <;> simp [sgI]
def ndOk (n : Nat) (nd : Nd) : Bool := (decide (1 ≤ nd.1) && decide (nd.1 ≤ 9)) && textM nd.1 nd.2.1 && qT nd n
def qG (d : Dt) : Bool := decide (d.1.length ≤ 80) && decide (d.2.length ≤ 12)
def okD (d : Dt) : Bool := qG d && d.1.all (ndOk d.1.length) && d.2.all (inR · d.1.length)
theorem kz {n : Nat} {nd : Nd} (h : ndOk n nd = true) : ∀ x ∈ nd.2.2, 0 ≤ x ∧ x < n := by
 unfold ndOk qT at h
 simp only [Bool.and_eq_true, List.all_eq_true] at h
 intro x hx
 have := h.2.2 x hx
 unfold inR at this
 simpa using this
theorem Jj {n : Nat} {nd : Nd} (h : ndOk n nd = true) : cntOk nd.1 nd.2.2.length = true := by
 unfold ndOk qT at h
 simp only [Bool.and_eq_true] at h
 exact h.2.1
theorem kM {m : Nat} (h : cntOk 1 m = true) : m = 0 := by
 unfold cntOk at h
 simpa using h
theorem Yt {n m : Nat} {a b : Nd} (ha : ndOk n a = true) (hb : ndOk m b = true) (h : zR a b = 0) : a.2.2.length = b.2.2.length := by
 unfold zR at h
 by_cases h1 : a.1 ≠ b.1
 ·rw [if_pos h1] at h
  exact absurd (yN.1 h) h1
 ·rw [if_neg h1] at h
  have h1 : a.1 = b.1 := Decidable.not_not.1 h1
  by_cases h2 : a.1 = 1
  ·have c1 := Jj ha
   have c2 := Jj hb
   rw [h2] at c1
   rw [← h1, h2] at c2
   rw [kM c1, kM c2]
  ·rw [if_neg h2] at h
   by_cases h3 : a.2.1 ≠ b.2.1
   ·rw [if_pos h3] at h
    exact absurd ((qw _ _).2.2.1.1 h) h3
   ·rw [if_neg h3] at h
    have := yN.1 h
    omega
def ndI (ns : List Nd) (x : Int) : Nd := ns.getD x.toNat (0, [], [])
theorem jj {ns : List Nd} {x : Int} {nd : Nd} (h : ns[x.toNat]? = some nd) : ndI ns x = nd := by
 unfold ndI; rw [List.getD_eq_getElem?_getD, h]; rfl
def kidsP (ns ms : List Nd) (x y : Int) : List (Int × Int) := (ndI ns x).2.2.zip (ndI ms y).2.2
def labP (ns ms : List Nd) (x y : Int) : Int := zR (ndI ns x) (ndI ms y)
def cmpAt (ns ms : List Nd) (a b : Int) : Int := walkP (labP ns ms) (kidsP ns ms) (ns.length * ms.length + 1) 0 [(a, b)]
def tabM (d e : Dt) : Int :=
 if okD d && okD e then match d.2, e.2 with
  | a :: _, b :: _ => cmpAt d.1 e.1 a b
  | _, _ => 0
 else 0
theorem yT {ns : List Nd} {x : Int} (h : 0 ≤ x ∧ x < ns.length) : ndI ns x ∈ ns := by
 have : ns[x.toNat]? = some (ns[x.toNat]'(by omega)) := List.getElem?_eq_getElem _
 rw [jj this]
 exact List.getElem_mem _
theorem js {ns ms : List Nd} (hn : ns.all (ndOk ns.length) = true) (hm : ms.all (ndOk ms.length) = true) : ∀ a b, InP ns.length ms.length (a, b) → ∀ x ∈ kidsP ns ms a b, InP ns.length ms.length x := by
 intro a b hab x hx
 obtain ⟨x1, x2⟩ := x
 have h := List.of_mem_zip hx
 exact ⟨kz (List.all_eq_true.1 hn _ (yT hab.1)) x1 h.1, kz (List.all_eq_true.1 hm _ (yT hab.2)) x2 h.2⟩
def hB (h : Nat) (b : UInt8) : Nat := (31 * h + b.toNat) % 65521
def hK (h k : Nat) : Nat := (257 * h + k) % 65521
def hText (h : Nat) (t : List UInt8) : Nat := t.foldl hB h
def bareH (nd : Nd) : Nat := hText (7 * nd.1.toNat + nd.2.2.length) nd.2.1
def hashD (ns : List Nd) : Nat → Int → Nat
 | 0, x => bareH (ndI ns x)
 | d + 1, x => (ndI ns x).2.2.foldl (fun h k => hK h (hashD ns d k)) (bareH (ndI ns x))
theorem hB_lt (h : Nat) (b : UInt8) : hB h b < 65521 := Nat.mod_lt _ (by decide)
theorem hK_lt (h k : Nat) : hK h k < 65521 := Nat.mod_lt _ (by decide)
theorem kw {h M : Nat} (t : List UInt8) (hh : h ≤ M) (hM : 65521 ≤ M) : hText h t ≤ M := by
 unfold hText
 induction t generalizing h with
 | nil => exact hh
 | cons b r ih => exact ih (by have := hB_lt h b; omega)
theorem Yj {h : Nat} {t : List UInt8} {j : Nat} {b : UInt8} (hb : t[j]? = some b) : hText h (t.take (j + 1)) = hB (hText h (t.take j)) b := by
 unfold hText; rw [List.take_add_one, hb, List.foldl_append]; rfl
theorem ZO {f : Int → Nat} {h M : Nat} (ks : List Int) (hh : h ≤ M) (hM : 65521 ≤ M) : ks.foldl (fun h k => hK h (f k)) h ≤ M := by
 induction ks generalizing h with
 | nil => exact hh
 | cons b r ih => exact ih (by have := hK_lt h (f b); show hK h (f b) ≤ M; omega)
theorem Yg {f : Int → Nat} {h : Nat} {ks : List Int} {j : Nat} {k : Int} (hk : ks[j]? = some k) : (ks.take (j + 1)).foldl (fun h k => hK h (f k)) h = hK ((ks.take j).foldl (fun h k => hK h (f k)) h) (f k) := by
 rw [List.take_add_one, hk, List.foldl_append]; rfl
theorem kN {n : Nat} {nd : Nd} (h : ndOk n nd = true) (hk : nd.2.2.length ≤ 1048576) : 0 ≤ nd.1 ∧ nd.1 ≤ 9 ∧ 7 * nd.1.toNat + nd.2.2.length ≤ 1048639 := by
 unfold ndOk at h
 simp only [Bool.and_eq_true, decide_eq_true_eq] at h
 omega
theorem XO {n : Nat} {nd : Nd} (h : ndOk n nd = true) (hk : nd.2.2.length ≤ 1048576) : bareH nd ≤ 1048639 := kw _ (kN h hk).2.2 (by decide)
theorem kh {ns : List Nd} (hn : ns.all (ndOk ns.length) = true) (hs : ∀ nd ∈ ns, nd.2.2.length ≤ 1048576) (d : Nat) {x : Int} (hx : 0 ≤ x ∧ x < ns.length) : hashD ns d x ≤ 1048639 := by
 have hm := yT hx
 have hb := XO (List.all_eq_true.1 hn _ hm) (hs _ hm)
 cases d with
 | zero => exact hb
 | succ d => exact ZO _ hb (by decide)
theorem Qx {ns : List Nd} {x : Int} {nd : Nd} (h : ns[x.toNat]? = some nd) (d : Nat) : hashD ns (d + 1) x = nd.2.2.foldl (fun h k => hK h (hashD ns d k)) (bareH nd) := by
 show (ndI ns x).2.2.foldl _ _ = _; rw [jj h]
theorem kW {ns : List Nd} {x : Int} {nd : Nd} (h : ns[x.toNat]? = some nd) : hashD ns 0 x = bareH nd := by
 show bareH (ndI ns x) = _; rw [jj h]
def hashM (d : Dt) (most : Int) : Int :=
 if okD d = true ∧ 1 ≤ most then match d.2 with
  | r :: _ => ((hashD d.1 3 r : Nat) : Int).tmod most
  | [] => 0
 else 0
theorem Qr {d : Dt} {most : Int} (h : okD d = false) : hashM d most = 0 := by unfold hashM; rw [h]; rfl
theorem Qh {d : Dt} {most : Int} (h : d.2 = []) : hashM d most = 0 := by unfold hashM; rw [h]; split <;> rfl
theorem Ql {d : Dt} {most : Int} (h : most < 1) : hashM d most = 0 := by unfold hashM; rw [if_neg (by omega)]
theorem Qc {ns : List Nd} {r : Int} {rs : List Int} {most : Int} (h : okD (ns, r :: rs) = true) (hm : 1 ≤ most) : hashM (ns, r :: rs) most = ((hashD ns 3 r : Nat) : Int).tmod most := by
 unfold hashM; rw [if_pos ⟨h, hm⟩]
theorem XN (d : Dt) {most : Int} (h : 0 < most) : hashM d most < most := by
 unfold hashM
 split
 ·split
  ·exact Int.tmod_lt_of_pos _ h
  ·exact h
 ·exact h
theorem Zq (s : ByteArray) : ∀ (n i : Nat) (acc : Array Value) (j : Nat), j < acc.size → (Conv.runesFrom s n i acc)[j]? = acc[j]?
 | 0, _, acc, j, _ => rfl
 | n + 1, i, acc, j, h => by
  unfold Conv.runesFrom
  split
  ·rw [Zq s n _ _ j (by simp; omega), Array.getElem?_push_lt h, Array.getElem?_eq_getElem h]
  ·rfl
theorem Yz (s : ByteArray) (h : 0 < s.size) : (Conv.runesFrom s s.size 0 #[])[0]? = some (.int .i32 ((Utf8.decode s 0).1 : Nat)) := by
 obtain ⟨n, hn⟩ : ∃ n, s.size = n + 1 := ⟨s.size - 1, by omega⟩
 rw [hn]
 unfold Conv.runesFrom
 rw [if_pos (by omega), Zq s n _ _ 0 (by simp)]
 rfl
theorem Kn (s : ByteArray) (w : World) (hs : s.size ≤ 1048576) (h0 : 0 < s.size) :
  Calls Tryz.prog 67 #[.string s] w fun e w' => e = .returned (.int .i64 (sizeM s)) ∧ Below w.heap.size w w' := by
 have hz := size_runesFrom s s.size 0 #[]
 simp only [List.size_toArray, List.length_nil, Nat.zero_add] at hz
 have hcv := run_runes_of_string (P := Tryz.prog) w 9 139 21 s Tryz.underlying9 Tryz.underlying139 Tryz.underlying21 (by omega)
 have hh := Yz s h0
 obtain ⟨R, hR⟩ : ∃ R, Conv.runesFrom s s.size 0 #[] = R := ⟨_, rfl⟩
 rw [hR] at hcv hz hh
 have hR0 : 0 < R.size := by
  rcases Nat.eq_zero_or_pos R.size with h | h
  ·rw [Array.getElem?_eq_none (by omega)] at hh; cases hh
  ·exact h
 obtain ⟨C, hC⟩ : ∃ C, R ++ Array.replicate (grownCap w R.size 0 21 - R.size) (Value.int .i32 0) = C := ⟨_, rfl⟩
 have hc0 : C[0]? = some (.int .i32 ((Utf8.decode s 0).1 : Nat)) := by rw [← hC, Array.getElem?_append_left hR0]; exact hh
 rw [hC] at hcv
 obtain ⟨rn, hrn⟩ : ∃ rn, (Utf8.decode s 0).1 = rn := ⟨_, rfl⟩
 rw [hrn] at hc0
 obtain ⟨cp, hcp⟩ : ∃ cp, grownCap w R.size 0 21 = cp := ⟨_, rfl⟩
 rw [hcp] at hcv
 have HB := hide (((Below.refl w.heap.size w).alloc (Nat.le_refl _) (.cells C 21)).drew)
 have hcell : (w.alloc (.cells C 21)).cell? ⟨w.heap.size, 0, none⟩ = some (.int .i32 rn) := by rw [World.cell?_alloc_mark]; exact hc0
 have h0' : ((s.size : Int) == 0) = false := by rw [beq_eq_false_iff_ne]; omega
 have h0'' : (0 : Int) < R.size := by omega
 clear hC hcp hR hz hh hc0
 by_cases hb : rn = 65533
 ·subst hb
  by_cases h3 : s.size < 3
  ·have h3' : (s.size : Int) < 3 := by omega
   have HE : Hid (sizeM s = 0) := hide (by unfold sizeM badC; rw [hrn, if_pos (.inr ⟨rfl, .inl h3⟩)])
   clear hrn h3
   go_enter Tryz.func67, Tryz.ntmps67
   go_wp2_with (simp only [hcv])
   go_ret
   exact ⟨zF (by rw [za HE]; rfl), za HB⟩
  ·have h3' : ¬ (s.size : Int) < 3 := by omega
   by_cases he : s.extract 0 3 = ⟨#[239, 191, 189]⟩
   ·have HE : Hid (sizeM s = (Utf8.encode (65533 : Int)).size) := hide (by
     unfold sizeM badC; rw [hrn, if_neg]; · rfl
     ·rintro (h | ⟨_, h | h⟩)
      ·omega
      ·exact h3 h
      ·exact h he)
    clear hrn h3
    go_enter Tryz.func67, Tryz.ntmps67
    go_wp2_with (simp only [hcv])
    go_ret
    exact ⟨zF (by rw [za HE]), za HB⟩
   ·have HE : Hid (sizeM s = 0) := hide (by unfold sizeM badC; rw [hrn, if_pos (.inr ⟨rfl, .inr he⟩)])
    have hne : ((s.extract 0 3).toList == [239, 191, 189]) = false := by
     rw [beq_eq_false_iff_ne]
     intro e
     apply he
     rw [Lib.toList_data] at e
     exact ByteArray.ext (by apply Array.ext'; exact e)
    clear hrn h3 he
    go_enter Tryz.func67, Tryz.ntmps67
    go_wp2_with (simp only [hcv])
    go_ret
    exact ⟨zF (by rw [za HE]; rfl), za HB⟩
 ·have hb' : ((rn : Int) == 65533) = false := by rw [beq_eq_false_iff_ne]; omega
  have HE : Hid (sizeM s = (Utf8.encode (rn : Int)).size) := hide (by unfold sizeM; rw [hrn, if_neg (by omega)])
  clear hb hrn
  go_enter Tryz.func67, Tryz.ntmps67
  go_wp2_with (simp only [hcv])
  go_ret
  exact ⟨zF (by rw [za HE]), za HB⟩
theorem Zp (k a b : Int) (w : World) :
  Calls Tryz.prog 34 #[.int .i64 k, .int .i64 a, .int .i64 b] w fun e w' => e = .returned (.bool (decide (a ≤ k) && decide (k ≤ b))) ∧ w' = w := by
 by_cases h0 : a ≤ k
 ·have d0 : decide (a ≤ k) = true := decide_eq_true h0
  have HR : Hid ((decide (a ≤ k) && decide (k ≤ b)) = decide (k ≤ b)) := hide (by rw [d0, Bool.true_and])
  clear d0
  go_enter Tryz.func34, Tryz.ntmps34
  go_wp2
  go_ret
  exact ⟨by rw [za HR]; rfl, rfl⟩
 ·have HR : Hid ((decide (a ≤ k) && decide (k ≤ b)) = false) := hide (by rw [decide_eq_false h0, Bool.false_and])
  go_enter Tryz.func34, Tryz.ntmps34
  go_wp2
  go_ret
  exact ⟨by rw [za HR]; rfl, rfl⟩
def kf (c : Nat) : Bool := c == 32 || c == 9 || c == 10 || c == 13
theorem Ye (c : Nat) (w : World) :
  Calls Tryz.prog 134 #[.int .u8 c] w fun e w' => e = .returned (.bool (kf c)) ∧ w' = w := by
 by_cases h : c = 32 ∨ c = 9 ∨ c = 10 ∨ c = 13
 ·rcases h with rfl | rfl | rfl | rfl
  all_goals
   go_enter Tryz.func134, Tryz.ntmps134
   go_wp2
   go_ret
   exact ⟨rfl, rfl⟩
 ·have HR : Hid (kf c = false) := hide (by unfold kf; simp only [Bool.or_eq_false_iff, beq_eq_false_iff_ne]; omega)
  have h1 : ((c : Int) == 32) = false := by rw [beq_eq_false_iff_ne]; omega
  have h2 : ((c : Int) == 9) = false := by rw [beq_eq_false_iff_ne]; omega
  have h3 : ((c : Int) == 10) = false := by rw [beq_eq_false_iff_ne]; omega
  have h4 : ((c : Int) == 13) = false := by rw [beq_eq_false_iff_ne]; omega
  clear h
  go_enter Tryz.func134, Tryz.ntmps134
  go_wp2
  go_ret
  exact ⟨by rw [za HR]; rfl, rfl⟩
theorem KY (c : Nat) (w : World) :
  Calls Tryz.prog 108 #[.int .u8 c] w fun e w' => e = .returned (.bool (endN c)) ∧ w' = w := by
 have HB := hide (Ye c w)
 by_cases h : kf c = true
 ·have HR : Hid (endN c = true) := hide (by unfold endN kf at *; simp only [Bool.or_eq_true, beq_iff_eq] at *; omega)
  rw [h] at HB
  clear h
  go_enter Tryz.func108, Tryz.ntmps108
  go_wp2_with fail
  refine (za HB).mono ?_
  rintro e w1 ⟨rfl, rfl⟩
  go_wp2
  go_ret
  exact ⟨by rw [za HR]; rfl, rfl⟩
 ·have h : kf c = false := by simpa using h
  have hE : endN c = (c == 40 || c == 41 || c == 34 || c == 59 || c == 39) := by
   have : endN c = (kf c || c == 40 || c == 41 || c == 34 || c == 59 || c == 39) := rfl
   rw [this, h]; rfl
  by_cases h' : c = 40 ∨ c = 41 ∨ c = 34 ∨ c = 59 ∨ c = 39
  ·rcases h' with rfl | rfl | rfl | rfl | rfl
   all_goals
    rw [h] at HB
    go_enter Tryz.func108, Tryz.ntmps108
    go_wp2_with fail
    refine (za HB).mono ?_
    rintro e w1 ⟨rfl, rfl⟩
    go_wp2
    go_ret
    exact ⟨rfl, rfl⟩
  ·have HR : Hid (endN c = false) := hide (by rw [hE]; simp only [Bool.or_eq_false_iff, beq_eq_false_iff_ne]; omega)
   rw [h] at HB
   have h1 : ((c : Int) == 40) = false := by rw [beq_eq_false_iff_ne]; omega
   have h2 : ((c : Int) == 41) = false := by rw [beq_eq_false_iff_ne]; omega
   have h3 : ((c : Int) == 34) = false := by rw [beq_eq_false_iff_ne]; omega
   have h4 : ((c : Int) == 59) = false := by rw [beq_eq_false_iff_ne]; omega
   have h5 : ((c : Int) == 39) = false := by rw [beq_eq_false_iff_ne]; omega
   clear h h' hE
   go_enter Tryz.func108, Tryz.ntmps108
   go_wp2_with fail
   refine (za HB).mono ?_
   rintro e w1 ⟨rfl, rfl⟩
   go_wp2
   go_ret
   exact ⟨by rw [za HR]; rfl, rfl⟩
theorem JU (w : World) :
  Calls Tryz.prog 67 #[.string ⟨#[]⟩] w fun e w' => e = .returned (.int .i64 0) ∧ Below w.heap.size w w' := by
 have hcv := run_runes_of_string (P := Tryz.prog) w 9 139 21 ⟨#[]⟩ Tryz.underlying9 Tryz.underlying139 Tryz.underlying21 (by first | decide | exact Nat.zero_le _)
 obtain ⟨X, hX⟩ : ∃ X, Conv.runesFrom ⟨#[]⟩ (⟨#[]⟩ : ByteArray).size 0 #[] = X := ⟨_, rfl⟩
 rw [hX] at hcv
 obtain ⟨C, hC⟩ : ∃ C, X ++ Array.replicate (grownCap w X.size 0 21 - X.size) (Value.int .i32 0) = C := ⟨_, rfl⟩
 rw [hC] at hcv
 have HB := hide (((Below.refl w.heap.size w).alloc (Nat.le_refl _) (.cells C 21)).drew)
 clear hX hC
 go_enter Tryz.func67, Tryz.ntmps67
 go_wp2_with (simp only [hcv])
 go_ret
 exact ⟨rfl, za HB⟩
theorem ZP (l : List UInt8) (w : World) (hs : l.length ≤ 1048576) :
  Calls Tryz.prog 67 #[.string (B l)] w fun e w' => e = .returned (.int .i64 (sizeM (B l))) ∧ Below w.heap.size w w' := by
 by_cases h : l = []
 ·subst h
  have : sizeM (B []) = 0 := QA
  rw [this]
  exact JU w
 ·exact Kn (B l) w (by rw [zi]; exact hs) (by rw [zi]; exact List.length_pos_iff.2 h)
theorem XC (l : List UInt8) (hne : l ≠ []) : sizeM (B l) ≤ l.length := by
 have hs : 0 < (B l).size := by rw [zi]; exact List.length_pos_iff.2 hne
 by_cases h0 : sizeM (B l) = 0
 ·omega
 ·have := Q2 (B l) 0 hs
  rw [← y8 _ hs h0, zi] at this
  omega
def lenS : Value → Nat
 | .string s => s.size
 | _ => 0
theorem ZM (l : List UInt8) (w : World) (hs : l.length ≤ 1048576) :
  Calls Tryz.prog 66 #[.string (B l)] w fun e w' => e = .returned (.bool (Lib.validD l)) ∧ Below w.heap.size w w' := by
 obtain ⟨V, hV⟩ : ∃ V, Lib.validD l = V := ⟨_, rfl⟩
 rw [hV]
 have HC := hide (fun (m : List UInt8) W h => ZP m W h)
 go_enter Tryz.func66, Tryz.ntmps66
 go_wp2_with fail
 go_loopw [0] (fun s wr => ∃ m : List UInt8, s = .string (B m) ∧ m.length ≤ l.length ∧ Hid (Lib.validD m = V) ∧ Below w.heap.size w wr) (fun s _ => lenS s)
 case atStart => exact ⟨l, rfl, Nat.le_refl _, hide hV, Below.refl _ _⟩
 case round =>
  obtain ⟨m, rfl, hm, HV, hb⟩ := hrel
  have HB := hide hb
  have HL := hide (zi m)
  clear hb hV
  by_cases hne : m = []
  ·subst hne
   have HR : Hid (V = true) := hide (by rw [← za HV]; rfl)
   have hz : ¬ (0 : Int) < ((B []).size : Int) := by simp [zi]
   go_wp2_with fail
   go_ret
   exact ⟨by rw [za HR]; rfl, za HB⟩
  ·have hz : (0 : Int) < ((B m).size : Int) := by rw [zi]; have := List.length_pos_iff.2 hne; omega
   have HST := hide (Zf m hne)
   have hle := XC m hne
   obtain ⟨k, hk⟩ : ∃ k, sizeM (B m) = k := ⟨_, rfl⟩
   have HM : Hid ((B m).extract k (B m).size = B (m.drop k)) := hide (by rw [zi, zW, List.take_length])
   have hpos := List.length_pos_iff.2 hne
   have HS : Hid (∀ W, Calls Tryz.prog 67 #[.string (B m)] W fun e w' => e = .returned (.int .i64 k) ∧ Below W.heap.size W w') := hide (fun W => by rw [← hk]; exact za HC m W (by omega))
   rw [hk] at HST hle
   clear hk
   go_wp2_with fail
   refine (za HS _).mono ?_
   rintro e w1 ⟨rfl, hb1⟩
   have HB1 := hide (zj (za HB) hb1)
   clear hb1
   by_cases h0 : k = 0
   ·subst h0
    have HR : Hid (V = false) := hide (by rw [← za HV, za HST, if_pos rfl])
    go_wp2_with fail
    go_ret
    exact ⟨by rw [za HR]; rfl, za HB1⟩
   ·have h0' : ((k : Int) == 0) = false := by rw [beq_eq_false_iff_ne]; omega
    have hk2 : ¬ ((B m).size : Int) < (k : Int) := by rw [zi]; omega
    have HV2 : Hid (Lib.validD (m.drop k) = V) := hide (by rw [← za HV, za HST, if_neg h0])
    go_wp2_with fail
    go_roundw
    case rel => exact ⟨m.drop k, by rw [za HM], by simp; omega, HV2, za HB1⟩
    case measure => rw [za HM]; simp [lenS, zi]; omega
theorem K6 (o : Option (Bool × Nat × Nat)) : ∃ b u d, numO o = .agg #[.bool b, .string u, .string d] := by
 cases o with
 | none => exact ⟨_, _, _, rfl⟩
 | some p => obtain ⟨a, b, c⟩ := p; exact ⟨_, _, _, rfl⟩
theorem B_ne (l m : List UInt8) (h : l ≠ m) : ((B l).toList == m) = false := by
 rw [B_tl, beq_eq_false_iff_ne]; exact h
theorem B_eqq (l : List UInt8) : ((B l).toList == l) = true := by
 rw [B_tl]; simp
theorem zbz (c : UInt8) (r : List UInt8) (h : 0 < (B (c :: r)).size) : (B (c :: r))[0]'h = c := by rw [B_get]; rfl
theorem zbk {l : List UInt8} {k : Nat} (h : k < l.length) (hb : badN (l[k]'h).toNat = true) : (l.all fun c => !badN c.toNat) = false := by
 rw [List.all_eq_false]; exact ⟨l[k]'h, List.getElem_mem h, by simp [hb]⟩
theorem zag {l : List UInt8} (h : ∀ i (hi : i < l.length), badN (l[i]'hi).toNat = false) : (l.all fun c => !badN c.toNat) = true := by
 rw [List.all_eq_true]
 intro c hc
 obtain ⟨i, hi, rfl⟩ := List.mem_iff_getElem.1 hc
 simp [h i hi]
theorem neI {a : Nat} {b : Nat} (h : a ≠ b) : ((a : Int) == (b : Int)) = false := by rw [beq_eq_false_iff_ne]; omega
theorem KZ {n : Nat} (h : badN n = true) : endN n = true ∨ (endN n = false ∧ n < 33) ∨ (endN n = false ∧ ¬ n < 33 ∧ (n = 127 ∨ n = 92 ∨ n = 124)) := by
 unfold badN at h
 cases he : endN n with
 | true => exact .inl rfl
 | false =>
  rw [he] at h
  simp only [Bool.false_or, Bool.or_eq_true, decide_eq_true_eq, beq_iff_eq] at h
  by_cases h3 : n < 33
  ·exact .inr (.inl ⟨rfl, h3⟩)
  ·exact .inr (.inr ⟨rfl, h3, by omega⟩)
theorem Yx {n : Nat} (h : badN n = false) : endN n = false ∧ ¬ n < 33 ∧ n ≠ 127 ∧ n ≠ 92 ∧ n ≠ 124 := by
 unfold badN at h
 simp only [Bool.or_eq_false_iff, decide_eq_false_iff_not, beq_eq_false_iff_ne] at h
 obtain ⟨⟨⟨⟨a, b⟩, c⟩, d⟩, e⟩ := h
 exact ⟨a, b, c, d, e⟩
theorem Z8 (t : List UInt8) (w : World) (hs : t.length ≤ 1048576) :
  Calls Tryz.prog 65 #[.string (B t)] w fun e w' => e = .returned (.bool (symM t)) ∧ Below w.heap.size w w' := by
 obtain ⟨nb, nu, nd, hN⟩ := K6 (zu t 10)
 have h1 := qP t 10 w (by omega)
 unfold zg at h1
 rw [hN] at h1
 obtain ⟨K, hK⟩ : ∃ K, (zu t 10).isSome = K := ⟨_, rfl⟩
 rw [hK] at h1
 have H1 := hide h1
 have hnone : (zu t 10).isNone = !K := by rw [← hK]; cases zu t 10 <;> rfl
 have HNO := hide hnone
 have HA := hide (fun (W : World) => zf (Below.refl W.heap.size W) (.cells #[.bool nb, .string nu, .string nd] 79))
 clear h1 hN hK hnone
 by_cases hne : t = []
 ·subst hne
  have HR : Hid (symM [] = false) := hide (by unfold symM wordM; simp)
  have e0 : ((B []).toList == []) = true := B_eqq []
  go_enter Tryz.func65, Tryz.ntmps65
  go_wp2_with fail
  refine (za H1).mono ?_
  rintro e w1 ⟨rfl, hb1⟩
  have HB := hide (hb1.trans ((za HA w1).mono hb1.size))
  clear hb1
  go_wp2_with fail
  go_ret
  exact ⟨by rw [za HR]; rfl, za HB⟩
 ·obtain ⟨c, r, hcr⟩ : ∃ c r, t = c :: r := by cases t with | nil => exact absurd rfl hne | cons c r => exact ⟨c, r, rfl⟩
  have HW : Hid (wordM t = (!headN c.toNat && decide (t.length ≤ 200) && Lib.validD t && t.all fun c => !badN c.toNat)) := hide (by rw [hcr]; rfl)
  have hz : 0 < (B t).size := by rw [zi, hcr]; simp
  have hc : (B t)[0]'hz = c := by subst hcr; exact zbz c r hz
  clear hcr
  have e0 : ((B t).toList == []) = false := B_ne _ _ hne
  clear hne
  by_cases h46 : t = [46]
  ·have HR : Hid (symM t = false) := hide (by unfold symM; simp [h46])
   have e1 : ((B t).toList == [46]) = true := by rw [h46]; exact B_eqq _
   clear h46
   go_enter Tryz.func65, Tryz.ntmps65
   go_wp2_with fail
   refine (za H1).mono ?_
   rintro e w1 ⟨rfl, hb1⟩
   have HB := hide (hb1.trans ((za HA w1).mono hb1.size))
   clear hb1
   go_wp2_with fail
   go_ret
   exact ⟨by rw [za HR]; rfl, za HB⟩
  ·have e1 : ((B t).toList == [46]) = false := B_ne _ _ h46
   cases K with
   | true =>
    have HR : Hid (symM t = false) := hide (by unfold symM; rw [za HNO]; rfl)
    clear h46
    go_enter Tryz.func65, Tryz.ntmps65
    go_wp2_with fail
    refine (za H1).mono ?_
    rintro e w1 ⟨rfl, hb1⟩
    have HB := hide (hb1.trans ((za HA w1).mono hb1.size))
    clear hb1
    go_wp2_with fail
    go_ret
    exact ⟨by rw [za HR]; rfl, za HB⟩
   | false =>
    have HS : Hid (symM t = wordM t) := hide (by unfold symM; rw [za HNO]; simp [h46])
    obtain ⟨n, hn⟩ : ∃ n, c.toNat = n := ⟨_, rfl⟩
    have hn256 : n < 256 := by rw [← hn]; exact c.toNat_lt
    have hw : wrap64 (n : Int) = n := by unfold wrap64; omega
    clear hn256
    have HHEAD : Hid (headN n = true → symM t = false) := hide (fun h => by rw [za HS, za HW, hn, h]; rfl)
    clear h46
    by_cases h3 : n = 35 ∨ n = 44 ∨ n = 96
    ·have HR : Hid (symM t = false) := hide (za HHEAD (by rcases h3 with rfl | rfl | rfl <;> rfl))
     rcases h3 with rfl | rfl | rfl
     all_goals
      go_enter Tryz.func65, Tryz.ntmps65
      go_wp2_with fail
      refine (za H1).mono ?_
      rintro e w1 ⟨rfl, hb1⟩
      have HB := hide (hb1.trans ((za HA w1).mono hb1.size))
      clear hb1
      go_wp2_with fail
      go_ret
      exact ⟨by rw [za HR]; rfl, za HB⟩
    ·have n1 : ((n : Int) == 35) = false := neI (b := 35) (by omega)
     have n2 : ((n : Int) == 44) = false := neI (b := 44) (by omega)
     have n3 : ((n : Int) == 96) = false := neI (b := 96) (by omega)
     by_cases hd : (decide ((48 : Int) ≤ n) && decide ((n : Int) ≤ 57)) = true
     ·have HR : Hid (symM t = false) := hide (za HHEAD (by
       unfold headN
       simp only [Bool.and_eq_true, decide_eq_true_eq] at hd
       have : (decide (48 ≤ n) && decide (n ≤ 57)) = true := by simp only [Bool.and_eq_true, decide_eq_true_eq]; omega
       rw [this, Bool.or_true]))
      have HD := hide hd
      clear h3 hd
      go_enter Tryz.func65, Tryz.ntmps65
      go_wp2_with fail
      refine (za H1).mono ?_
      rintro e w1 ⟨rfl, hb1⟩
      have HB := hide (hb1.trans ((za HA w1).mono hb1.size))
      clear hb1
      go_wp2_with fail
      refine (Zp n 48 57 _).mono ?_
      rintro e w2 ⟨rfl, rfl⟩
      rw [za HD]
      go_wp2_with fail
      go_ret
      exact ⟨by rw [za HR]; rfl, za HB⟩
     ·have hd : (decide ((48 : Int) ≤ n) && decide ((n : Int) ≤ 57)) = false := by simpa using hd
      have HH : Hid (headN n = false) := hide (by
       have : (decide (48 ≤ n) && decide (n ≤ 57)) = false := by
        simp only [Bool.and_eq_false_iff, decide_eq_false_iff_not] at hd ⊢; omega
       unfold headN
       rw [this, Bool.or_false]
       simp only [Bool.or_eq_false_iff, beq_eq_false_iff_ne]
       omega)
      have HD := hide hd
      clear h3 hd
      by_cases hl : t.length ≤ 200
      ·have hl' : ¬ (200 : Int) < ((B t).size : Int) := by rw [zi]; omega
       have HV := hide (ZM t)
       cases hv : Lib.validD t with
       | false =>
        have HR : Hid (symM t = false) := hide (by rw [za HS, za HW, hv, Bool.and_false]; rfl)
        rw [hv] at HV
        clear hl hv
        go_enter Tryz.func65, Tryz.ntmps65
        go_wp2_with fail
        refine (za H1).mono ?_
        rintro e w1 ⟨rfl, hb1⟩
        have HB := hide (hb1.trans ((za HA w1).mono hb1.size))
        clear hb1
        go_wp2_with fail
        refine (Zp n 48 57 _).mono ?_
        rintro e w2 ⟨rfl, rfl⟩
        rw [za HD]
        go_wp2_with fail
        refine (za HV _ hs).mono ?_
        rintro e w2 ⟨rfl, hb2⟩
        have HB2 := hide (zj (za HB) hb2)
        clear hb2
        go_wp2_with fail
        go_ret
        exact ⟨by rw [za HR]; rfl, za HB2⟩
       | true =>
        have HALL : Hid (symM t = (t.all fun c => !badN c.toNat)) := hide (by rw [za HS, za HW, hv, hn, za HH, decide_eq_true hl]; rfl)
        rw [hv] at HV
        clear hl hv
        go_enter Tryz.func65, Tryz.ntmps65
        go_wp2_with fail
        refine (za H1).mono ?_
        rintro e w1 ⟨rfl, hb1⟩
        have HB := hide (hb1.trans ((za HA w1).mono hb1.size))
        clear hb1
        go_wp2_with fail
        refine (Zp n 48 57 _).mono ?_
        rintro e w2 ⟨rfl, rfl⟩
        rw [za HD]
        go_wp2_with fail
        refine (za HV _ hs).mono ?_
        rintro e w2 ⟨rfl, hb2⟩
        have HB2 := hide (zj (za HB) hb2)
        clear hb2
        go_wp2_with fail
        clear e0 e1 hc hn hw n1 n2 n3 hl' HD HH HHEAD HB
        have HSZ := hide (zi t)
        go_loopw [5] (fun i wr => ∃ k : Nat, k ≤ t.length ∧ i = .int .i64 k ∧ Hid (∀ j (hj : j < t.length), j < k → badN (t[j]'hj).toNat = false) ∧ Hid (Below w.heap.size w wr)) (fun i _ => t.length - (intOf i).toNat)
        case atStart => exact ⟨0, Nat.zero_le _, rfl, hide (fun j _ h => by omega), HB2⟩
        case round =>
         clear HB2
         obtain ⟨k, hk, rfl, HG, HB2⟩ := hrel
         by_cases hlt : k < t.length
         ·have hlt' : k < (B t).size := by rw [za HSZ]; exact hlt
          obtain ⟨d, hd⟩ : ∃ d, t[k]'hlt = d := ⟨_, rfl⟩
          have hg : (B t)[k]'hlt' = d := (B_get t k hlt').trans hd
          have HD := hide hd
          clear hd
          obtain ⟨n, hn⟩ : ∃ n, d.toNat = n := ⟨_, rfl⟩
          have HE := hide (KY n wr)
          rcases Bool.eq_false_or_eq_true (badN n) with hb | hb
          ·
           have hbk : badN (t[k]'hlt).toNat = true := by rw [za HD, hn]; exact hb
           have HR : Hid (symM t = false) := hide ((za HALL).trans (zbk hlt hbk))
           clear hbk
           rcases KZ hb with he | ⟨he, h3⟩ | ⟨he, h3, h4⟩
           ·rw [he] at HE
            clear hb he
            go_wp2_with fail
            refine (za HE).mono ?_
            rintro e w3 ⟨rfl, rfl⟩
            go_wp2_with fail
            go_ret
            exact ⟨by rw [za HR]; rfl, za HB2⟩
           ·rw [he] at HE
            have h3' : (n : Int) < 33 := by omega
            clear hb he h3
            go_wp2_with fail
            refine (za HE).mono ?_
            rintro e w3 ⟨rfl, rfl⟩
            go_wp2_with fail
            go_ret
            exact ⟨by rw [za HR]; rfl, za HB2⟩
           ·rw [he] at HE
            clear hb he
            rcases h4 with h4 | h4 | h4
            all_goals
             rw [h4] at HE hn
             clear h4 h3
             go_wp2_with fail
             refine (za HE).mono ?_
             rintro e w3 ⟨rfl, rfl⟩
             go_wp2_with fail
             go_ret
             exact ⟨by rw [za HR]; rfl, za HB2⟩
          ·
           obtain ⟨he, h3, h127, h92, h124⟩ := Yx hb
           have HG2 : Hid (∀ j (hj : j < t.length), j < k + 1 → badN (t[j]'hj).toNat = false) := hide (fun j hj h => by
            by_cases hjk : j = k
            ·subst hjk; rw [za HD, hn]; exact hb
            ·exact za HG j hj (by omega))
           rw [he] at HE
           have h3' : ¬ (n : Int) < 33 := by omega
           have n1 : ((n : Int) == 127) = false := neI (b := 127) h127
           have n2 : ((n : Int) == 92) = false := neI (b := 92) h92
           have n3 : ((n : Int) == 124) = false := neI (b := 124) h124
           clear hb he h3 h127 h92 h124
           go_wp2_with fail
           refine (za HE).mono ?_
           rintro e w3 ⟨rfl, rfl⟩
           go_wp2_with fail
           go_roundw
           case rel => exact ⟨k + 1, by omega, by go_num, HG2, HB2⟩
           case measure => simp [intOf]; omega
         ·have hnl : ¬ (k : Int) < ((B t).size : Int) := by rw [za HSZ]; omega
          obtain rfl : k = t.length := by omega
          have HR : Hid (symM t = true) := hide (by rw [za HALL]; exact zag (fun i hi => za HG i hi hi))
          go_wp2_with fail
          go_ret
          exact ⟨by rw [za HR]; rfl, za HB2⟩
      ·have hl' : (200 : Int) < ((B t).size : Int) := by rw [zi]; omega
       have HR : Hid (symM t = false) := hide (by rw [za HS, za HW, decide_eq_false hl, Bool.and_false]; rfl)
       clear hl
       go_enter Tryz.func65, Tryz.ntmps65
       go_wp2_with fail
       refine (za H1).mono ?_
       rintro e w1 ⟨rfl, hb1⟩
       have HB := hide (hb1.trans ((za HA w1).mono hb1.size))
       clear hb1
       go_wp2_with fail
       refine (Zp n 48 57 _).mono ?_
       rintro e w2 ⟨rfl, rfl⟩
       rw [za HD]
       go_wp2_with fail
       go_ret
       exact ⟨by rw [za HR]; rfl, za HB⟩
theorem JG (s : Int) (t : List UInt8) (kv : Value) (w : World) (hs : t.length ≤ 1048576) :
  Calls Tryz.prog 35 #[.agg #[.int .i64 s, .string (B t), kv]] w fun e w' => e = .returned (.bool (textM s t)) ∧ Below w.heap.size w w' := by
 have HB := hide (zf (Below.refl w.heap.size w) (.cells #[.int .i64 s, .string (B t), kv] 56))
 have HC := hide (AtC3.new w (.int .i64 s) (.string (B t)) kv 56)
 obtain ⟨R, hR⟩ : ∃ R, textM s t = R := ⟨_, rfl⟩
 rw [hR]
 have HR := hide hR
 clear hR
 by_cases h1 : s = 1
 ·subst h1
  have HQ : Hid (jO t = R) := hide (by rw [← za HR]; rfl)
  cases hp : zu t 10 with
  | none =>
   have HQ2 : Hid (R = false) := hide (by rw [← za HQ]; unfold jO; rw [hp])
   go_enter Tryz.func35, Tryz.ntmps35
   go_wp2_with fail
   have h := qP t 10 (w.alloc (.cells #[.int .i64 1, .string (B t), kv] 56)) (by omega)
   rw [hp, show zg none = .tuple #[.agg #[.bool false, .string ⟨#[]⟩, .string ⟨#[]⟩], .bool false] from rfl] at h
   refine h.mono ?_
   clear h hp
   rintro e w1 ⟨rfl, hb1⟩
   have HB1 := hide (zf (zj (za HB) hb1) (.cells #[.bool false, .string ⟨#[]⟩, .string ⟨#[]⟩] 79))
   have HD := hide (jM (w1.alloc (.cells #[.bool false, .string ⟨#[]⟩, .string ⟨#[]⟩] 79)))
   clear hb1
   go_wp2_with fail
   go_region
   all_goals
    go_wp2_with fail
    go_ret
    exact ⟨by rw [za HQ2]; rfl, by first | exact zj (za HB1) (za HD _) | exact zj (za HB1) (za HD 1) | exact za HB1⟩
  | some p =>
   obtain ⟨n, u, d⟩ := p
   have hok := kP hp
   obtain ⟨_, _, hl1, hl2, _⟩ := qK hok
   have HQ2 : Hid (((B (zU n (txl 10 u) (txl 10 d) 10)).toList == (B t).toList) = R) := hide (by
    rw [← za HQ]; unfold jO; rw [hp, B_tl, B_tl]
    show _ = decide (jA (n, u, d) = t)
    show (jA (n, u, d) == t) = _
    by_cases e : jA (n, u, d) = t
    ·rw [e]; simp
    ·rw [decide_eq_false e, beq_eq_false_iff_ne.2 e])
   go_enter Tryz.func35, Tryz.ntmps35
   go_wp2_with fail
   have h := qP t 10 (w.alloc (.cells #[.int .i64 1, .string (B t), kv] 56)) (by omega)
   rw [hp, show zg (some (n, u, d)) = .tuple #[.agg #[.bool n, .string (B (txl 10 u)), .string (B (txl 10 d))], .bool true] from rfl] at h
   refine h.mono ?_
   clear h hp hok
   rintro e w1 ⟨rfl, hb1⟩
   have HC1 := hide ((za HC).below hb1)
   have HB1 := hide (zj (za HB) hb1)
   clear hb1 HB HC
   go_wp2_with fail
   obtain ⟨W, hW⟩ : ∃ W, w1.alloc (.cells #[.bool n, .string (B (txl 10 u)), .string (B (txl 10 d))] 79) = W := ⟨_, rfl⟩
   have HN := hide (AtC3.new w1 (.bool n) (.string (B (txl 10 u))) (.string (B (txl 10 d))) 79)
   have HC2 := hide ((za HC1).below (zf (Below.refl w1.heap.size w1) (.cells #[.bool n, .string (B (txl 10 u)), .string (B (txl 10 d))] 79)))
   have HB2 := hide (zf (za HB1) (.cells #[.bool n, .string (B (txl 10 u)), .string (B (txl 10 d))] 79))
   rw [hW] at HN HC2 HB2 ⊢
   clear hW
   have a0 := (za HN).n0
   have a1 := (za HN).n1
   have a2 := (za HN).n2
   have c1 := (za HC2).n1
   go_region_with ((go_at_call 57; refine (vf n (txl 10 u) (txl 10 d) 10 _ (by omega) (by omega)).mono ?_; rintro e w2 ⟨rfl, hb2⟩; have HB3 : Hid (Below W.heap.size W w2) := (Below.refl _ _).drew.trans hb2; have d1 := ((za HC2).below (za HB3)).n1; clear hb2))
   all_goals
    go_wp2_with fail
    go_ret
    exact ⟨by rw [← za HQ2]; rfl, zj (za HB2) (za HB3)⟩
 ·have e1 : (s == 1) = false := beq_eq_false_iff_ne.2 h1
  by_cases h2 : s = 2
  ·subst h2
   have HQ : Hid (symM t = R) := hide (by rw [← za HR]; rfl)
   go_enter Tryz.func35, Tryz.ntmps35
   go_wp2_with fail
   have h := Z8 t (w.alloc (.cells #[.int .i64 2, .string (B t), kv] 56)) hs
   refine h.mono ?_
   clear h
   rintro e w1 ⟨rfl, hb1⟩
   have HB1 := hide (zj (za HB) hb1)
   rw [za HQ]
   clear hb1
   go_wp2_with fail
   go_ret
   exact ⟨rfl, za HB1⟩
  ·have e2 : (s == 2) = false := beq_eq_false_iff_ne.2 h2
   by_cases h3 : s = 3
   ·subst h3
    have HQ : Hid ((decide (t.length ≤ 200) && Lib.validD t) = R) := hide (by rw [← za HR]; rfl)
    by_cases hl : t.length ≤ 200
    ·have hl' : ((B t).size : Int) ≤ 200 := by rw [zi]; omega
     go_enter Tryz.func35, Tryz.ntmps35
     go_wp2_with fail
     have h := ZM t (w.alloc (.cells #[.int .i64 3, .string (B t), kv] 56)) hs
     refine h.mono ?_
     clear h
     rintro e w1 ⟨rfl, hb1⟩
     have HB1 := hide (zj (za HB) hb1)
     have HQ2 : Hid (Lib.validD t = R) := hide (by rw [← za HQ, decide_eq_true hl, Bool.true_and])
     rw [za HQ2]
     clear hb1
     go_wp2_with fail
     go_ret
     exact ⟨rfl, za HB1⟩
    ·have hl' : ¬ ((B t).size : Int) ≤ 200 := by rw [zi]; omega
     have HQ2 : Hid (R = false) := hide (by rw [← za HQ, decide_eq_false hl, Bool.false_and])
     go_enter Tryz.func35, Tryz.ntmps35
     go_wp2_with fail
     go_ret
     exact ⟨by rw [za HQ2]; rfl, za HB⟩
   ·have e3 : (s == 3) = false := beq_eq_false_iff_ne.2 h3
    by_cases h4 : s = 4
    ·subst h4
     have HQ : Hid (oneM t = R) := hide (by rw [← za HR]; rfl)
     go_enter Tryz.func35, Tryz.ntmps35
     go_wp2_with fail
     have HS := hide (fun W => ZP t W hs)
     obtain ⟨m, hm⟩ : ∃ m, sizeM (B t) = m := ⟨_, rfl⟩
     rw [hm] at HS
     have hQ := za HQ
     unfold oneM at hQ
     rw [hm] at hQ
     have HQ := hide hQ
     clear hQ hm
     obtain ⟨W, hW⟩ : ∃ W, w.alloc (.cells #[.int .i64 4, .string (B t), kv] 56) = W := ⟨_, rfl⟩
     rw [hW] at HB HC ⊢
     clear hW
     have c1 := (za HC).n1
     by_cases h0 : 0 < m
     ·have h0' : decide (0 < m) = true := decide_eq_true h0
      have HQ2 : Hid (((m : Int) == ((B t).size : Int)) = R) := hide (by
       rw [← za HQ, decide_eq_true h0, Bool.true_and, zi, Bool.eq_iff_iff]; simp; omega)
      go_wp2_with fail
      go_region_with (first | (go_at_call 67; refine (za HS W.drew).mono ?_; rintro e w2 ⟨rfl, hb2⟩; have HB3 : Hid (Below W.heap.size W w2) := (Below.refl _ _).drew.trans hb2; have d1 := ((za HC).below (za HB3)).n1; clear hb2) | (go_at_call 67; refine (za HS w2).mono ?_; rintro e w3 ⟨rfl, hb3⟩; have HB4 := hide (zj (za HB3) hb3); have e1 := ((za HC).below (za HB4)).n1; clear hb3))
      all_goals
       go_wp2_with fail
       go_ret
       exact ⟨by rw [← za HQ2]; rfl, zj (za HB) (za HB4)⟩
     ·have h0' : decide (0 < m) = false := decide_eq_false h0
      have HQ2 : Hid (R = false) := hide (by rw [← za HQ, decide_eq_false h0, Bool.false_and])
      go_wp2_with fail
      first | (go_region_with ((go_at_call 67; refine (za HS W.drew).mono ?_; rintro e w2 ⟨rfl, hb2⟩; have HB3 : Hid (Below W.heap.size W w2) := (Below.refl _ _).drew.trans hb2; have d1 := ((za HC).below (za HB3)).n1; clear hb2))) | fail
      all_goals
       go_wp2_with fail
       go_ret
       exact ⟨by rw [za HQ2]; rfl, zj (za HB) (za HB3)⟩
    ·have e4 : (s == 4) = false := beq_eq_false_iff_ne.2 h4
     by_cases h5 : s = 5
     ·subst h5
      have HQ : Hid ((decide (t = [116]) || decide (t = [102])) = R) := hide (by rw [← za HR]; rfl)
      by_cases ht : t = [116]
      ·have f0 : ((B t).toList == [116]) = true := by rw [ht]; exact B_eqq _
       have HQ2 : Hid (R = true) := hide (by rw [← za HQ, decide_eq_true ht, Bool.true_or])
       clear ht
       go_enter Tryz.func35, Tryz.ntmps35
       go_wp2_with fail
       go_ret
       exact ⟨by rw [za HQ2]; rfl, za HB⟩
      ·have f0 : ((B t).toList == [116]) = false := B_ne _ _ ht
       have HQ2 : Hid (((B t).toList == [102]) = R) := hide (by
        rw [← za HQ, decide_eq_false ht, Bool.false_or, B_tl]
        by_cases h : t = [102]
        ·subst h; rfl
        ·rw [decide_eq_false h, beq_eq_false_iff_ne.2 h])
       clear ht
       go_enter Tryz.func35, Tryz.ntmps35
       go_wp2_with fail
       go_ret
       exact ⟨by rw [← za HQ2]; rfl, za HB⟩
     ·have e5 : (s == 5) = false := beq_eq_false_iff_ne.2 h5
      by_cases h9 : s = 9
      ·subst h9
       have HQ : Hid (decide (((B t).size : Int) ≤ 200) = R) := hide (by
        rw [← za HR, zi]
        show _ = decide (t.length ≤ 200)
        congr 1; rw [eq_iff_iff]; omega)
       go_enter Tryz.func35, Tryz.ntmps35
       go_wp2_with fail
       go_ret
       exact ⟨by rw [← za HQ]; rfl, za HB⟩
      ·have e9 : (s == 9) = false := beq_eq_false_iff_ne.2 h9
       have HQ : Hid ((B t).toList.isEmpty = R) := hide (by
        rw [← za HR, B_tl]
        unfold textM
        rw [if_neg h1, if_neg h2, if_neg h3, if_neg h4, if_neg h5, if_neg h9]
        cases t <;> rfl)
       go_enter Tryz.func35, Tryz.ntmps35
       go_wp2_with fail
       go_ret
       exact ⟨by rw [← za HQ]; rfl, za HB⟩
theorem JI {ns : List Nd} {p : Nd → Bool} {j : Nat} {x : Nd} (h : ns[j]? = some x) : (ns.take (j + 1)).all p = ((ns.take j).all p && p x) := by
 rw [List.take_add_one, h]; simp
theorem Y0 {d : Dt} (h : qG d = false) : okD d = false := by unfold okD; rw [h]; rfl
theorem zba {d : Dt} {nd : Nd} (hm : nd ∈ d.1) (h : ndOk d.1.length nd = false) : okD d = false := by
 unfold okD
 have : d.1.all (ndOk d.1.length) = false := by rw [List.all_eq_false]; exact ⟨nd, hm, by simp [h]⟩
 rw [this, Bool.and_false, Bool.false_and]
theorem zaH {d : Dt} {r : Int} (hm : r ∈ d.2) (h : inR r d.1.length = false) : okD d = false := by
 unfold okD
 have : d.2.all (inR · d.1.length) = false := by rw [List.all_eq_false]; exact ⟨r, hm, by simp [h]⟩
 rw [this, Bool.and_false]
theorem Jr {d : Dt} (h1 : qG d = true) (h2 : d.1.all (ndOk d.1.length) = true) (h3 : d.2.all (inR · d.1.length) = true) : okD d = true := by
 unfold okD; rw [h1, h2, h3]; rfl
theorem vQ (d : Dt) (u : Value) (w : World) (h : DataAt w u d) (hsm : d.1.length ≤ 1048576 ∧ d.2.length ≤ 1048576 ∧ zM d.1) :
  Calls Tryz.prog 10 #[u] w fun e W' => e = .returned (.bool (okD d)) ∧ Below w.heap.size w W' := by
 obtain ⟨ns, rs⟩ := d
 obtain ⟨nv, rv, rfl, hn, hr⟩ := h
 simp only at hn hr hsm
 obtain ⟨an, cn, rfl, hn1, hn2⟩ := hn.form0
 obtain ⟨ar, cr, rfl, hr1, hr2⟩ := hr.form
 unfold maxLen at hn2 hr2
 obtain ⟨hs1, hs2, hs3⟩ := hsm
 have HN := hide hn
 have HR := hide hr
 have HB := hide (zf (Below.refl w.heap.size w) (.cells #[.slice an ns.length cn, .slice ar rs.length cr] 26))
 have HP := hide (AtC2.new w (.slice an ns.length cn) (.slice ar rs.length cr) 26)
 have HS3 := hide hs3
 clear hn hr hs3
 by_cases h80 : ns.length ≤ 80
 ·have h80' : ¬ (80 < (ns.length : Int)) := by omega
  by_cases h12 : rs.length ≤ 12
  ·have h12' : ¬ (12 < (rs.length : Int)) := by omega
   have HSM : Hid (qG (ns, rs) = true) := hide (by unfold qG; simp [h80, h12])
   go_enter Tryz.func10, Tryz.ntmps10
   go_wp2_with fail
   go_loopw [3] (fun iv' wr => ∃ i : Nat, i ≤ ns.length ∧ iv' = .int .i64 i ∧ Hid ((ns.take i).all (ndOk ns.length) = true) ∧ Hid (Below w.heap.size w wr) ∧ Hid (AtC2 wr w.heap.size (.slice an ns.length cn) (.slice ar rs.length cr) 26))
    (fun iv' _ => ns.length - (intOf iv').toNat)
   case atStart => exact ⟨0, by omega, rfl, hide (by simp), HB, HP⟩
   case round =>
    clear HB HP
    obtain ⟨i, hile, rfl, hall, HB, HP⟩ := hrel
    have p0 := (za HP).n0
    have p1 := (za HP).n1
    by_cases hil : i < ns.length
    ·obtain ⟨nd, hnd⟩ : ∃ nd, ns[i]? = some nd := ⟨_, List.getElem?_eq_getElem hil⟩
     obtain ⟨b, off, rfl, hba⟩ := (za HN).addr (by omega)
     obtain ⟨kv, c0, c1, c2, htl, hk⟩ := ((za HN).below (za HB)).node hnd
     have hNd := (za HS3) nd (List.mem_of_getElem? hnd)
     have HST := hide (JI (p := ndOk ns.length) hnd)
     have HNO := hide (fun h => zba (d := (ns, rs)) (List.mem_of_getElem? hnd) h)
     have HNB : Hid (ndOk ns.length nd = ((decide (1 ≤ nd.1) && decide (nd.1 ≤ 9)) && textM nd.1 nd.2.1 && qT nd ns.length)) := hide rfl
     obtain ⟨s, t, ks⟩ := nd
     simp only at htl hk hNd c0 c1 c2
     have HK := hide hk
     obtain ⟨ka, kc, rfl, _, _⟩ := hk.form
     clear hk hnd
     have hbs := zf (Below.refl wr.heap.size wr) (.cells #[.int .i64 s, .string (B t), .slice ka ks.length kc] 56)
     have HB1 := hide (zj (za HB) hbs)
     have HP1 := hide ((za HP).below hbs)
     have HQ1 := hide (AtC3.new wr (.int .i64 s) (.string (B t)) (.slice ka ks.length kc) 56)
     have HK1 := hide ((za HK).below hbs)
     have HTL := hide htl
     clear hbs HP HK htl
     go_wp2_with fail
     obtain ⟨W, hW⟩ : ∃ W, wr.alloc (.cells #[.int .i64 s, .string (B t), .slice ka ks.length kc] 56) = W := ⟨_, rfl⟩
     rw [hW] at HB1 HP1 HQ1 HK1 ⊢
     clear hW c0 c1 c2 p0 p1
     have q0 := (za HQ1).n0
     have q1 := (za HQ1).n1
     have q2 := (za HQ1).n2
     refine (Zp s 1 9 W).mono ?_
     rintro e w2 ⟨rfl, rfl⟩
     rcases Bool.eq_false_or_eq_true (decide (1 ≤ s) && decide (s ≤ 9)) with hz | hz
     ·rw [hz]
      have HZ := hide hz
      clear hz
      go_wp2_with fail
      refine (JG s t _ w2 hNd.1).mono ?_
      rintro e w3 ⟨rfl, hb3⟩
      have HB3 := hide (zj (za HB1) hb3)
      have HP3 := hide ((za HP1).below hb3)
      have HQ3 := hide ((za HQ1).below hb3)
      have HK3 := hide ((za HK1).below hb3)
      clear hb3 HB1 HP1 HQ1 HK1 q0 q1 q2
      rcases Bool.eq_false_or_eq_true (textM s t) with hy | hy
      ·rw [hy]
       have HY := hide hy
       have q0 := (za HQ3).n0
       have q1 := (za HQ3).n1
       have q2 := (za HQ3).n2
       have p0 := (za HP3).n0
       have p1 := (za HP3).n1
       clear hy
       go_wp2_with fail
       refine (JT _ (s, t, ks) ns.length w3 ⟨_, rfl, za HTL, za HK3⟩ hs1).mono ?_
       rintro e w4 ⟨rfl, hb4⟩
       have HB4 := hide (zj (za HB3) hb4)
       have HP4 := hide ((za HP3).below hb4)
       clear hb4 HB3 HP3 HQ3 HK3 q0 q1 q2 p0 p1
       have HV : Hid (ndOk ns.length (s, t, ks) = qT (s, t, ks) ns.length) := hide (by rw [za HNB]; simp only [za HZ, za HY, Bool.true_and])
       rcases Bool.eq_false_or_eq_true (qT (s, t, ks) ns.length) with hx | hx
       ·rw [hx]
        have HX : Hid ((ns.take (i + 1)).all (ndOk ns.length) = true) := hide (by rw [za HST, za hall, za HV, hx]; rfl)
        clear hx
        go_wp2_with fail
        go_roundw
        case rel => exact ⟨i + 1, by omega, by go_num, HX, HB4, HP4⟩
        case measure => simp [intOf]; omega
       ·rw [hx]
        have HX := hide (za HNO (by rw [← hx]; exact za HV))
        clear hx
        go_wp2_with fail
        go_ret
        exact ⟨by rw [za HX]; rfl, za HB4⟩
      ·rw [hy]
       have HX := hide (za HNO (by show ndOk ns.length (s, t, ks) = false; rw [za HNB]; simp only [hy, Bool.and_false, Bool.false_and]))
       clear hy
       go_wp2_with fail
       go_ret
       exact ⟨by rw [za HX]; rfl, za HB3⟩
     ·rw [hz]
      have HX := hide (za HNO (by show ndOk ns.length (s, t, ks) = false; rw [za HNB]; simp only [hz, Bool.false_and]))
      clear hz
      go_wp2_with fail
      go_ret
      exact ⟨by rw [za HX]; rfl, za HB1⟩
    ·have hie : i = ns.length := by omega
     subst hie
     have hall' := za hall
     rw [List.take_of_length_le (Nat.le_refl _)] at hall'
     have HALL := hide hall'
     clear hall hall'
     go_wp2_with fail
     go_loopw [5] (fun jv wr => ∃ j : Nat, j ≤ rs.length ∧ jv = .int .i64 j ∧ Hid ((rs.take j).all (inR · ns.length) = true) ∧ Hid (Below w.heap.size w wr) ∧ Hid (AtC2 wr w.heap.size (.slice an ns.length cn) (.slice ar rs.length cr) 26))
      (fun jv _ => rs.length - (intOf jv).toNat)
     case atStart => exact ⟨0, by omega, rfl, hide (by simp), HB, HP⟩
     case round =>
      clear HB HP p0 p1
      obtain ⟨j, hjle, rfl, hrall, HB, HP⟩ := hrel
      have p0 := (za HP).n0
      have p1 := (za HP).n1
      by_cases hjl : j < rs.length
      ·obtain ⟨x, hx⟩ : ∃ x, rs[j]? = some x := ⟨_, List.getElem?_eq_getElem hjl⟩
       obtain ⟨b, off, rfl, hb, hc⟩ := ((za HR).below (za HB)).cell hx
       have HST := hide (jE (p := (inR · ns.length)) hx)
       have HNO := hide (fun h => zaH (d := (ns, rs)) (List.mem_of_getElem? hx) h)
       have q0 : (0 : Int) ≤ (j : Int) := by omega
       have q1 : (j : Int) < (rs.length : Int) := by omega
       have q2 : ((j : Int)).toNat = j := by omega
       have q5 : IntKind.i64.wrap ((ns.length : Int) - 1) = (ns.length : Int) - 1 := by rw [wi64] <;> omega
       clear hx
       go_wp2_with fail
       go_quiet ((go_at_call 34; exact Calls.quiet_of_same (Ym x ns.length _)))
       have HB1 := hide (zj (za HB) (jM wr nq))
       have HP1 := hide ((za HP).below (jM wr nq))
       clear HB HP p0 p1
       rcases Bool.eq_false_or_eq_true (inR x ns.length) with hz | hz
       ·rw [hz]
        have HX : Hid ((rs.take (j + 1)).all (inR · ns.length) = true) := hide (by rw [za HST, za hrall, hz]; rfl)
        clear hz
        go_wp2_with fail
        go_roundw
        case rel => exact ⟨j + 1, by omega, by go_num, HX, HB1, HP1⟩
        case measure => simp [intOf]; omega
       ·rw [hz]
        have HX := hide (za HNO hz)
        clear hz
        go_wp2_with fail
        go_ret
        exact ⟨by rw [za HX]; rfl, za HB1⟩
      ·have hje : j = rs.length := by omega
       subst hje
       have hrall' := za hrall
       rw [List.take_of_length_le (Nat.le_refl _)] at hrall'
       have HX := hide (Jr (d := (ns, rs)) (za HSM) (za HALL) hrall')
       clear hrall hrall'
       go_wp2_with fail
       go_ret
       exact ⟨by rw [za HX]; rfl, za HB⟩
  ·have h12' : (12 < (rs.length : Int)) := by omega
   have HR : Hid (okD (ns, rs) = false) := hide (Y0 (by unfold qG; simp [h12]))
   go_enter Tryz.func10, Tryz.ntmps10
   go_wp2_with fail
   go_ret
   exact ⟨by rw [za HR]; rfl, za HB⟩
 ·have h80' : (80 < (ns.length : Int)) := by omega
  have HR : Hid (okD (ns, rs) = false) := hide (Y0 (by unfold qG; simp [h80]))
  go_enter Tryz.func10, Tryz.ntmps10
  go_wp2_with fail
  go_ret
  exact ⟨by rw [za HR]; rfl, za HB⟩
end Go.Proofs.YtpbnmhnbkfnaeaaGreatDoor
