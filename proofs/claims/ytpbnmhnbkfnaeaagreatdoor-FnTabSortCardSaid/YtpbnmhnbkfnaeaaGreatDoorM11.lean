/- A part of the proof, put together out of smaller texts. -/
import Derived.Test.YtpbnmhnbkfnaeaaGreatDoorM10
import Derived.RegionIn
import Derived.Stop.RegionWithIn
set_option linter.all false
set_option maxRecDepth 100000
set_option maxHeartbeats 32000000
namespace Go.Proofs.YtpbnmhnbkfnaeaaGreatDoor
open Go.RowKit Nt
theorem QQ (a b : T3) (w : World) (ha : xg a) (hb : xg b) (hT : Tens w) (h3 : 3 < w.heap.size) :
  Calls Tryz.prog 129 #[numT a, numT b] w fun e w' => e = .returned (.int .i64 (cmpT a b)) ∧ Below w.heap.size w w' := by
 obtain ⟨n1, u1, d1⟩ := a
 obtain ⟨n2, u2, d2⟩ := b
 obtain ⟨ha1, ha2⟩ := ha
 obtain ⟨hb1, hb2⟩ := hb
 simp only at ha1 ha2 hb1 hb2
 by_cases hoo : okM n1 u1 d1 = true ∧ okM n2 u2 d2 = true
 ·obtain ⟨ho1, ho2⟩ := hoo
  obtain ⟨m1, x1, y1, e1, v1, s1, s2, s3, s4⟩ := ok_T (t := (n1, u1, d1)) ho1
  obtain ⟨m2, x2, y2, e2, v2, s5, s6, s7, s8⟩ := ok_T (t := (n2, u2, d2)) ho2
  rw [JW (a := (n1, u1, d1)) (b := (n2, u2, d2)) ho1 ho2, v1, v2]
  unfold putT at e1 e2
  simp only [Prod.mk.injEq] at e1 e2
  obtain ⟨rfl, rfl, rfl⟩ := e1
  obtain ⟨rfl, rfl, rfl⟩ := e2
  exact VU n1 n2 x1 y1 x2 y2 w s1 s2 s5 s6 hT h3 ho1 ho2
 have HQ := hide (YA (a := (n1, u1, d1)) (b := (n2, u2, d2)) (by
  show (okM n1 u1 d1 && okM n2 u2 d2) = false
  cases h1 : okM n1 u1 d1
  ·rfl
  ·cases h2 : okM n2 u2 d2
   ·rfl
   ·exact absurd ⟨h1, h2⟩ hoo))
 have HN := hide (fun (h : okM n1 u1 d1 = true) => Bool.eq_false_iff.2 (fun h' => hoo ⟨h, h'⟩))
 have HB := hide (qF w (.bool n1) (.string (B u1)) (.string (B d1)) (.bool n2) (.string (B u2)) (.string (B d2)) 79)
 have HA1 := hide ((AtC3.new w (.bool n1) (.string (B u1)) (.string (B d1)) 79).below (zf (Below.refl _ _) (.cells #[.bool n2, .string (B u2), .string (B d2)] 79)))
 have HA2 := hide (AtC3.new (w.alloc (.cells #[.bool n1, .string (B u1), .string (B d1)] 79)) (.bool n2) (.string (B u2)) (.string (B d2)) 79)
 rw [World.size_alloc] at HA2
 have HT := hide (fun W h => hT.belowB (w' := W) h h3)
 have H1 := hide (fun W h => jm n1 u1 d1 W (by omega) (by omega) h)
 have H2 := hide (fun W h => jm n2 u2 d2 W (by omega) (by omega) h)
 unfold numB at H1 H2
 show Calls Tryz.prog 129 #[.agg #[.bool n1, .string (B u1), .string (B d1)], .agg #[.bool n2, .string (B u2), .string (B d2)]] w _
 clear ha1 ha2 hb1 hb2 hoo hT h3
 go_enter Tryz.func129, Tryz.ntmps129
 go_wp2_with fail
 obtain ⟨W, hW⟩ : ∃ W, (w.alloc (.cells #[.bool n1, .string (B u1), .string (B d1)] 79)).alloc (.cells #[.bool n2, .string (B u2), .string (B d2)] 79) = W := ⟨_, rfl⟩
 rw [hW] at HB HA1 HA2 ⊢
 clear hW
 refine (za H1 W (za HT W (za HB))).mono ?_
 rintro e w1 ⟨rfl, hb1⟩
 have HB1 := hide (zj (za HB) hb1)
 have HC2 := hide ((za HA2).below hb1)
 clear hb1 HB HA1 HA2
 cases ho1 : okM n1 u1 d1 with
 | false =>
  clear ho1
  go_wp2_with fail
  go_ret
  exact ⟨zF (za HQ).symm, za HB1⟩
 | true =>
  have HNO := hide (za HN ho1)
  have q0 := (za HC2).n0
  have q1 := (za HC2).n1
  have q2 := (za HC2).n2
  clear ho1
  go_wp2_with fail
  refine (za H2 w1 (za HT w1 (za HB1))).mono ?_
  rintro e w2 ⟨rfl, hb2⟩
  have HB2 := hide (zj (za HB1) hb2)
  rw [za HNO]
  clear hb2 HB1 HC2 q0 q1 q2
  go_wp2_with fail
  go_ret
  exact ⟨zF (za HQ).symm, za HB2⟩
theorem YJ (a : Int) (w : World) : Calls Tryz.prog 126 #[.int .i64 a] w fun e w' => e = .returned (.bool false) ∧ w' = w := by
 go_enter Tryz.func126, Tryz.ntmps126
 go_wp2_with fail
 go_ret
 exact ⟨rfl, rfl⟩
theorem J6 (a b : Int) (w : World) : Calls Tryz.prog 99 #[.int .i64 a, .int .i64 b] w fun e w' => e = .returned (.int .i64 (cmpI a b)) ∧ w' = w := by
 obtain ⟨c, hc⟩ : ∃ c, cmpI a b = c := ⟨_, rfl⟩
 rw [hc]
 unfold cmpI at hc
 have HC := hide hc
 clear hc
 go_enter Tryz.func99, Tryz.ntmps99
 go_wp2_with fail
 refine (YJ a w).mono ?_
 rintro e w' ⟨rfl, rfl⟩
 go_wp2_with fail
 refine (YJ b _).mono ?_
 rintro e w' ⟨rfl, rfl⟩
 by_cases h1 : a < b
 ·have k1 : decide (a < b) = true := decide_eq_true h1
  obtain rfl : c = -1 := by have := za HC; rw [if_pos h1] at this; exact this.symm
  clear HC
  go_wp2_with fail
  go_ret
  exact ⟨rfl, rfl⟩
 ·have k1 : decide (a < b) = false := decide_eq_false h1
  by_cases h2 : b < a
  ·have k2 : decide (b < a) = true := decide_eq_true h2
   obtain rfl : c = 1 := by have := za HC; rw [if_neg h1, if_pos h2] at this; exact this.symm
   clear HC
   go_wp2_with fail
   go_ret
   exact ⟨rfl, rfl⟩
  ·have k2 : decide (b < a) = false := decide_eq_false h2
   obtain rfl : c = 0 := by have := za HC; rw [if_neg h1, if_neg h2] at this; exact this.symm
   clear HC
   go_wp2_with fail
   go_ret
   exact ⟨rfl, rfl⟩
def texC (k : Int) (t s : List UInt8) : Int := if k ≠ 1 ∨ t = s then Lib.compareBytes t s else cmpT (numTx t) (numTx s)
theorem Xg (k m : Int) (t s : List UInt8) (p q : Option Addr) (l r c d : Nat) (w : World) (hsT : t.length ≤ 1000) (hsS : s.length ≤ 1000) (hT : Tens w) (h3 : 3 < w.heap.size) :
  Calls Tryz.prog 100 #[.agg #[.int .i64 k, .string (B t), .slice p l c], .agg #[.int .i64 m, .string (B s), .slice q r d]] w fun e w' => e = .returned (.int .i64 (texC k t s)) ∧ Below w.heap.size w w' := by
 have HB := hide (qF w (.int .i64 k) (.string (B t)) (.slice p l c) (.int .i64 m) (.string (B s)) (.slice q r d) 56)
 have HA1 := hide ((AtC3.new w (.int .i64 k) (.string (B t)) (.slice p l c) 56).below (zf (Below.refl _ _) (.cells #[.int .i64 m, .string (B s), .slice q r d] 56)))
 have HA2 := hide (AtC3.new (w.alloc (.cells #[.int .i64 k, .string (B t), .slice p l c] 56)) (.int .i64 m) (.string (B s)) (.slice q r d) 56)
 rw [World.size_alloc] at HA2
 have HT := hide (fun W h => hT.belowB (w' := W) h h3)
 have HP1 := hide (fun W h => vh t 10 W (by omega) h)
 have HP2 := hide (fun W h => vh s 10 W (by omega) h)
 by_cases hk : k = 1
 ·subst hk
  by_cases hts : t = s
  ·obtain rfl := hts
   have HR := hide (show texC 1 t t = _ from if_pos (Or.inr rfl))
   obtain ⟨R, hR⟩ : ∃ R, texC 1 t t = R := ⟨_, rfl⟩
   rw [hR] at HR ⊢
   clear hR hsT hsS hT h3
   go_enter Tryz.func100, Tryz.ntmps100
   go_wp2_with fail
   obtain ⟨W, hW⟩ : ∃ W, (w.alloc (.cells #[.int .i64 1, .string (B t), .slice p l c] 56)).alloc (.cells #[.int .i64 m, .string (B t), .slice q r d] 56) = W := ⟨_, rfl⟩
   rw [hW] at HB HA1 HA2 ⊢
   clear hW
   have a0 := (za HA1).n0
   have a1 := (za HA1).n1
   have a2 := (za HA1).n2
   have b0 := (za HA2).n0
   have b1 := (za HA2).n1
   have b2 := (za HA2).n2
   refine (Tryz.strings_Compare (B t) (B t) W).mono ?_
   rintro e w' ⟨rfl, rfl⟩
   obtain rfl := za HR
   go_wp2_with fail
   go_ret
   exact ⟨by simp [B], za HB⟩
  ·have HR := hide (show texC 1 t s = _ from if_neg (by rintro (h | h); exact h rfl; exact hts h))
   obtain ⟨R, hR⟩ : ∃ R, texC 1 t s = R := ⟨_, rfl⟩
   rw [hR] at HR ⊢
   obtain ⟨n1, u1, d1, z1⟩ : ∃ n u d, numTx t = (n, u, d) := ⟨_, _, _, rfl⟩
   obtain ⟨n2, u2, d2, z2⟩ : ∃ n u d, numTx s = (n, u, d) := ⟨_, _, _, rfl⟩
   obtain ⟨v1, hv1⟩ : ∃ v, (zu t 10).isSome = v := ⟨_, rfl⟩
   obtain ⟨v2, hv2⟩ : ∃ v, (zu s 10).isSome = v := ⟨_, rfl⟩
   have HQ1 : Hid (∀ W, Tens W → Calls Tryz.prog 128 #[.string (B t), .int .i64 10] W fun e w' => e = .returned (.tuple #[.agg #[.bool n1, .string (B u1), .string (B d1)], .bool v1]) ∧ Below W.heap.size W w') := hide (fun W h => by
    have := za HP1 W h
    unfold zg at this
    rw [Q0, z1, hv1] at this
    exact this)
   have HQ2 : Hid (∀ W, Tens W → Calls Tryz.prog 128 #[.string (B s), .int .i64 10] W fun e w' => e = .returned (.tuple #[.agg #[.bool n2, .string (B u2), .string (B d2)], .bool v2]) ∧ Below W.heap.size W w') := hide (fun W h => by
    have := za HP2 W h
    unfold zg at this
    rw [Q0, z2, hv2] at this
    exact this)
   have HC : Hid (∀ W, Below w.heap.size w W → Calls Tryz.prog 129 #[.agg #[.bool n1, .string (B u1), .string (B d1)], .agg #[.bool n2, .string (B u2), .string (B d2)]] W fun e w' => e = .returned (.int .i64 R) ∧ Below W.heap.size W w') := hide (fun W h => by
    have := QQ (numTx t) (numTx s) W (vA t) (vA s) (za HT W h) (Nat.lt_of_lt_of_le h3 h.size)
    rw [← za HR, z1, z2] at this
    exact this)
   have e1 : ((B t).toList == (B s).toList) = false := by rw [B_tl s]; exact B_ne _ _ hts
   clear hsT hsS hT h3 hts z1 z2 hv1 hv2 HP1 HP2 HR
   go_enter Tryz.func100, Tryz.ntmps100
   go_wp2_with fail
   obtain ⟨W, hW⟩ : ∃ W, (w.alloc (.cells #[.int .i64 1, .string (B t), .slice p l c] 56)).alloc (.cells #[.int .i64 m, .string (B s), .slice q r d] 56) = W := ⟨_, rfl⟩
   rw [hW] at HB HA1 HA2 ⊢
   clear hW
   have a0 := (za HA1).n0
   have a1 := (za HA1).n1
   have a2 := (za HA1).n2
   have b0 := (za HA2).n0
   have b1 := (za HA2).n1
   have b2 := (za HA2).n2
   refine (za HQ1 W (za HT W (za HB))).mono ?_
   rintro e w1 ⟨rfl, hb1⟩
   have HB1 := hide (zj (za HB) hb1)
   have HD2 := hide ((za HA2).below hb1)
   have q1 := fun o => ((za HD2).below (zf (Below.refl _ _) o)).n1
   have HN1 := hide (AtC3.new w1 (.bool n1) (.string (B u1)) (.string (B d1)) 79)
   have HB1' := hide (zf (za HB1) (.cells #[.bool n1, .string (B u1), .string (B d1)] 79))
   clear hb1
   go_wp2_with fail
   refine (za HQ2 _ (za HT _ (za HB1'))).mono ?_
   rintro e w2 ⟨rfl, hb2⟩
   have HB2 := hide (zj (za HB1') hb2)
   have HN2 := hide ((za HN1).below hb2)
   have HB3 := hide (zf (za HB2) (.cells #[.bool n2, .string (B u2), .string (B d2)] 79))
   have HN3 := hide ((za HN2).below (zf (Below.refl _ _) (.cells #[.bool n2, .string (B u2), .string (B d2)] 79)))
   have x0 := (za HN3).n0
   have x1 := (za HN3).n1
   have x2 := (za HN3).n2
   clear hb2 q1
   go_wp2_with fail
   refine (za HC _ (za HB3)).mono ?_
   rintro e w3 ⟨rfl, hb3⟩
   have HB4 := hide (zj (za HB3) hb3)
   clear hb3
   go_wp2_with fail
   go_ret
   exact ⟨rfl, za HB4⟩
 ·have HR := hide (show texC k t s = _ from if_pos (Or.inl hk))
  obtain ⟨R, hR⟩ : ∃ R, texC k t s = R := ⟨_, rfl⟩
  rw [hR] at HR ⊢
  have hk1 : (k == 1) = false := by simp [hk]
  have hk2 : (k != 1) = true := by simp [hk]
  clear hR hsT hsS hT h3
  go_enter Tryz.func100, Tryz.ntmps100
  go_wp2_with fail
  obtain ⟨W, hW⟩ : ∃ W, (w.alloc (.cells #[.int .i64 k, .string (B t), .slice p l c] 56)).alloc (.cells #[.int .i64 m, .string (B s), .slice q r d] 56) = W := ⟨_, rfl⟩
  rw [hW] at HB HA1 HA2 ⊢
  clear hW
  have a0 := (za HA1).n0
  have a1 := (za HA1).n1
  have a2 := (za HA1).n2
  have b0 := (za HA2).n0
  have b1 := (za HA2).n1
  have b2 := (za HA2).n2
  refine (Tryz.strings_Compare (B t) (B s) W).mono ?_
  rintro e w' ⟨rfl, rfl⟩
  obtain rfl := za HR
  go_wp2_with fail
  go_ret
  exact ⟨by simp [B], za HB⟩
def KidOk (a : Nd) : Prop := a.1 = 1 → a.2.2 = []
theorem J1 {n : Nat} {a : Nd} (h : ndOk n a = true) : KidOk a := by
 intro h1
 have c := Jj h
 rw [h1] at c
 exact List.length_eq_zero_iff.1 (kM c)
theorem zbw {a b : Nd} (ha : KidOk a) (hb : KidOk b) : zR a b = if cmpI a.1 b.1 ≠ 0 then cmpI a.1 b.1 else if texC a.1 a.2.1 b.2.1 ≠ 0 then texC a.1 a.2.1 b.2.1 else cmpI a.2.2.length b.2.2.length := by
 by_cases hs : a.1 = b.1
 ·rw [if_neg (by simpa using yN.2 hs)]
  by_cases h1 : a.1 = 1
  ·have e : cmpI a.2.2.length b.2.2.length = 0 := by rw [ha h1, hb (hs ▸ h1)]; rfl
   rw [xU hs h1, e]
   by_cases ht : a.2.1 = b.2.1
   ·rw [ht, KQ]
    have : texC a.1 b.2.1 b.2.1 = 0 := by unfold texC; rw [if_pos (.inr rfl)]; exact (qw _ _).2.2.1.2 rfl
    rw [this]; rfl
   ·have : texC a.1 a.2.1 b.2.1 = cmpT (numTx a.2.1) (numTx b.2.1) := by unfold texC; rw [if_neg (by rintro (h | h); exact h h1; exact ht h)]
    rw [this]
    split
    ·rfl
    ·omega
  ·have ht' : texC a.1 a.2.1 b.2.1 = Lib.compareBytes a.2.1 b.2.1 := by unfold texC; rw [if_pos (.inl h1)]
   rw [ht']
   by_cases ht : a.2.1 = b.2.1
   ·rw [xW hs h1 ht, if_neg (by simpa using (qw _ _).2.2.1.2 ht)]
   ·rw [ku hs h1 ht, if_pos (fun e => ht ((qw _ _).2.2.1.1 e))]
 ·rw [kJ hs, if_pos (fun e => hs (yN.1 e))]
theorem KT (a b : Nd) (a1 a2 : Option Addr) (c1 c2 : Nat) (w : World) (ha : KidOk a) (hb : KidOk b) (ht1 : a.2.1.length ≤ 1000) (ht2 : b.2.1.length ≤ 1000) (hT : Tens w) (h3 : 3 < w.heap.size) :
  Calls Tryz.prog 62 #[.agg #[.int .i64 a.1, .string (B a.2.1), .slice a1 a.2.2.length c1], .agg #[.int .i64 b.1, .string (B b.2.1), .slice a2 b.2.2.length c2]] w fun e w' => e = .returned (.int .i64 (zR a b)) ∧ Below w.heap.size w w' := by
 have HQ := hide (zbw ha hb)
 obtain ⟨R, hR⟩ : ∃ R, zR a b = R := ⟨_, rfl⟩
 rw [hR] at HQ ⊢
 clear hR ha hb
 obtain ⟨s1, t1, k1⟩ := a
 obtain ⟨s2, t2, k2⟩ := b
 simp only at *
 have HB := hide (qF w (.int .i64 s1) (.string (B t1)) (.slice a1 k1.length c1) (.int .i64 s2) (.string (B t2)) (.slice a2 k2.length c2) 56)
 have HA1 := hide ((AtC3.new w (.int .i64 s1) (.string (B t1)) (.slice a1 k1.length c1) 56).below (zf (Below.refl _ _) (.cells #[.int .i64 s2, .string (B t2), .slice a2 k2.length c2] 56)))
 have HA2 := hide (AtC3.new (w.alloc (.cells #[.int .i64 s1, .string (B t1), .slice a1 k1.length c1] 56)) (.int .i64 s2) (.string (B t2)) (.slice a2 k2.length c2) 56)
 rw [World.size_alloc] at HA2
 have HT := hide (fun W h => (⟨hT.belowB (w' := W) h h3, Nat.lt_of_lt_of_le h3 h.size⟩ : Tens W ∧ 3 < W.heap.size))
 have HX := hide (fun W h => Xg s1 s2 t1 t2 a1 a2 k1.length k2.length c1 c2 W ht1 ht2 (za HT W h).1 (za HT W h).2)
 have HI := hide (fun W => J6 s1 s2 W)
 have HL := hide (fun W => J6 k1.length k2.length W)
 obtain ⟨x, hx⟩ : ∃ x, cmpI s1 s2 = x := ⟨_, rfl⟩
 obtain ⟨y, hy⟩ : ∃ y, texC s1 t1 t2 = y := ⟨_, rfl⟩
 obtain ⟨z, hz⟩ : ∃ z, cmpI k1.length k2.length = z := ⟨_, rfl⟩
 rw [hx] at HI
 rw [hy] at HX
 rw [hz] at HL
 rw [hx, hy, hz] at HQ
 obtain ⟨m1, hm1⟩ : ∃ m, k1.length = m := ⟨_, rfl⟩
 obtain ⟨m2, hm2⟩ : ∃ m, k2.length = m := ⟨_, rfl⟩
 rw [hm1] at HB HA1 HA2 HX HL ⊢
 rw [hm2] at HB HA1 HA2 HX HL ⊢
 clear hx hy hz hm1 hm2 hT h3 ht1 ht2 HT
 go_enter Tryz.func62, Tryz.ntmps62
 go_wp2_with fail
 obtain ⟨W, hW⟩ : ∃ W, (w.alloc (.cells #[.int .i64 s1, .string (B t1), .slice a1 m1 c1] 56)).alloc (.cells #[.int .i64 s2, .string (B t2), .slice a2 m2 c2] 56) = W := ⟨_, rfl⟩
 rw [hW] at HB HA1 HA2 ⊢
 clear hW
 refine (za HI W).mono ?_
 rintro e w' ⟨rfl, rfl⟩
 by_cases hx0 : x = 0
 ·subst hx0
  have p0 := (za HA1).n0
  have p1 := (za HA1).n1
  have p2 := (za HA1).n2
  have q0 := (za HA2).n0
  have q1 := (za HA2).n1
  have q2 := (za HA2).n2
  go_wp2_with fail
  refine (za HX w' (za HB)).mono ?_
  rintro e w2 ⟨rfl, hb2⟩
  have HB2 := hide (zj (za HB) hb2)
  have r2 := ((za HA1).below hb2).n2
  have u2 := ((za HA2).below hb2).n2
  clear p0 p1 p2 q0 q1 q2 hb2
  by_cases hy0 : y = 0
  ·subst hy0
   obtain rfl : R = z := by simpa using za HQ
   clear HQ
   go_wp2_with fail
   refine (za HL w2).mono ?_
   rintro e w3 ⟨rfl, rfl⟩
   go_wp2_with fail
   go_ret
   exact ⟨rfl, za HB2⟩
  ·have k : (y != 0) = true := by simp [hy0]
   obtain rfl : R = y := by simpa [hy0] using za HQ
   clear HQ
   go_wp2_with fail
   go_ret
   exact ⟨rfl, za HB2⟩
 ·have k : (x != 0) = true := by simp [hx0]
  obtain rfl : R = x := by simpa [hx0] using za HQ
  clear HQ
  go_wp2_with fail
  go_ret
  exact ⟨rfl, za HB⟩
end Go.Proofs.YtpbnmhnbkfnaeaaGreatDoor
namespace Go.Proofs.YtpbnmhnbkfnaeaaGreatDoor
open Go.RowKit Nt
structure KC (W W' : World) : Prop where
 size : W.heap.size ≤ W'.heap.size
 cells : ∀ (b : Nat) (o : Obj), W.heap[b]? = some o → o.isCells = true → W'.heap[b]? = some o
theorem KC.refl (W : World) : KC W W := ⟨Nat.le_refl _, fun _ _ h _ => h⟩
theorem KC.trans {A B C : World} (h : KC A B) (k : KC B C) : KC A C := ⟨Nat.le_trans h.size k.size, fun b o e ho => k.cells b o (h.cells b o e ho) ho⟩
theorem KC.of_below {W W' : World} (h : Below W.heap.size W W') : KC W W' := ⟨h.size, fun b _ e _ => (h.block b (Array.getElem?_eq_some_iff.1 e).1).trans e⟩
theorem KC.put {W : World} {l : Nat} {o o' : Obj} (h : W.heap[l]? = some o) (ho : o.isCells = false) : KC W (W.putObj l o') :=
 ⟨by simp, fun b p e hp => by
  refine (World.putObj_heap_other (fun q => ?_)).trans e
  rw [q, h] at e
  cases e
  rw [ho] at hp
  cases hp⟩
def Turns {β : Type} (B : Nat) (J : β → World → Prop) : Prop := ∀ s W W' row, J s W → W.grownBy W' row → (∀ r, row = some r → B ≤ r) → J s W'
def Je {β : Type} (B : Nat) (J : β → World → Prop) : Prop := ∀ s W W' row, J s W → W.grownBy W' row → (∀ r, row = some r → B ≤ r ∧ ∃ o, W.heap[r]? = some o ∧ o.isCells = true) → J s W'
theorem Turns.and {β : Type} {B : Nat} {I J : β → World → Prop} (h : Turns B I) (k : Turns B J) : Turns B (fun s W => I s W ∧ J s W) := fun s W W' row hs hg hr => ⟨h s W W' row hs.1 hg hr, k s W W' row hs.2 hg hr⟩
theorem Turns.pure {β : Type} (B : Nat) (p : β → Prop) : Turns B (fun s (_ : World) => p s) := fun _ _ _ _ hs _ _ => hs
theorem Turns.below {β : Type} {n₀ B : Nat} {w₀ : World} (hn : n₀ ≤ w₀.heap.size) (hB : n₀ ≤ B) : Turns B (fun (_ : β) W => Below n₀ w₀ W) :=
 fun _ _ _ _ hs hg hr => hs.grown hg (Nat.le_trans hn hs.size) (fun k e => Nat.le_trans hB (hr k e))
variable {F : Fence} {n : Nat} {P : Program}
def SeqC {α : Type} (F : Fence) (n : Nat) (P : Program) (g : Nat) (lb : Array Value) (encs : α → Array Value) (L : List α) (w : World) : Prop :=
 ∀ (l : Nat) (J Jx : List α → World → Prop) (W : World), Below w.heap.size w W → Je W.heap.size J → Je W.heap.size Jx →
  (∀ pre x W1, J pre W1 → (pre ++ [x]) <+: L → YieldAt F (n - 1) P l (encs x) W1 fun e W' =>
   (e = .returned (.bool true) ∧ J (pre ++ [x]) W' ∧ KC W1 W') ∨ (e = .returned (.bool false) ∧ Jx (pre ++ [x]) W')) →
  J [] W →
  CallsIn F n P g (#[.func (.yield l) #[] #[]] ++ lb) W fun e W' => (∃ v, e = .returned v) ∧ (J L W' ∨ (∃ pre, pre <+: L ∧ Jx pre W'))
def LeftC {α : Type} (B : Nat) (I Ix : List α → World → Prop) (xs : List α) (W : World) : Exit → Act → World → Prop
 | .normal, _, W' => KeepsFrom B W W' ∧ KC W W' ∧ I xs W'
 | .ret, _, W' => KeepsFrom B W W' ∧ Ix xs W'
 | .exit _, _, _ => False
 | .goto _, _, _ => False
 | .panic _, _, _ => False
 | .outgrown, _, _ => False
def Recs (W : World) (D l : Nat) (r : Loop) : Prop := W.heap[l]? = some (.loop r) ∧ W.heap[D]? = some (.deferred (some []))
theorem Recs.put {W : World} {D l : Nat} {r : Loop} (h : Recs W D l r) (hne : D ≠ l) (r' : Loop) : Recs (W.putObj l (.loop r')) D l r' :=
 ⟨World.putObj_heap_same (Array.getElem?_eq_some_iff.1 h.1).1, (World.putObj_heap_other hne).trans h.2⟩
theorem Recs.from {W W' : World} {B D l : Nat} {r : Loop} (h : Recs W D l r) (k : KeepsFrom B W W') (hD : B ≤ D) (hl : B ≤ l) : Recs W' D l r :=
 ⟨k.same _ _ hl h.1 rfl, k.same _ _ hD h.2 rfl⟩
theorem Recs.turn {W W' : World} {D l : Nat} {r : Loop} {row : Option Nat} (h : Recs W D l r) (hg : W.grownBy W' row) (hr : ∀ k, row = some k → ∃ o, W.heap[k]? = some o ∧ o.isCells = true) : Recs W' D l r := by
 have hk : ∀ {b : Nat} {o : Obj}, W.heap[b]? = some o → o.isCells = false → W'.heap[b]? = some o := fun {b o} e ho => by
  refine (hg.block b (Array.getElem?_eq_some_iff.1 e).1 (fun q => ?_)).trans e
  obtain ⟨p, hp, hc⟩ := hr b q.symm
  rw [e] at hp
  cases hp
  rw [ho] at hc
  cases hc
 exact ⟨hk h.1 rfl, hk h.2 rfl⟩
theorem Turns.put {β : Type} {B : Nat} {I : β → World → Prop} (h : Turns B I) {s : β} {W : World} {l : Nat} (hl : B ≤ l) (hs : I s W) (o : Obj) : I s (W.putObj l o) :=
 h s W _ (some l) hs (grownBy_putObj' W l o) (fun r e => by cases e; exact hl)
theorem Turns.new {β : Type} {B : Nat} {I : β → World → Prop} (h : Turns B I) {s : β} {W : World} (hs : I s W) (o : Obj) : I s (W.alloc o) :=
 h s W _ none hs (World.grownBy_alloc W o none) (fun r e => by cases e)
end Go.Proofs.YtpbnmhnbkfnaeaaGreatDoor
namespace Go.Proofs.YtpbnmhnbkfnaeaaGreatDoor
def lstP (kids : Int → Int → List (Int × Int)) : Nat → Nat → List (Int × Int) → List (Int × Int)
 | 0, _, l => l
 | f + 1, i, l => match l[i]? with
  | none => l
  | some (a, b) => lstP kids f (i + 1) (nxtP l (kids a b))
def fstN (c : Int → Int → Int) : List (Int × Int) → Int
 | [] => 0
 | x :: r => if c x.1 x.2 = 0 then fstN c r else c x.1 x.2
theorem YO (l ks : List (Int × Int)) : l <+: nxtP l ks := by
 obtain ⟨r, hr⟩ := j6 (ks := ks) (l := l)
 exact ⟨r, hr.symm⟩
theorem Ja (kids : Int → Int → List (Int × Int)) : ∀ (f i : Nat) (l : List (Int × Int)), l <+: lstP kids f i l
 | 0, _, l => ⟨[], by simp [lstP]⟩
 | f + 1, i, l => by
  unfold lstP
  cases h : l[i]? with
  | none => exact ⟨[], by simp⟩
  | some x => exact (YO l (kids x.1 x.2)).trans (Ja kids f (i + 1) _)
theorem Y7 {α : Type} {l L : List α} (h : l <+: L) {i : Nat} {x : α} (hx : l[i]? = some x) : L[i]? = some x := by
 obtain ⟨r, rfl⟩ := h
 rw [List.getElem?_append_left (List.getElem?_eq_some_iff.1 hx).1, hx]
theorem Xj {c : Int → Int → Int} {kids : Int → Int → List (Int × Int)} {n m : Nat} (hk : ∀ a b, InP n m (a, b) → ∀ x ∈ kids a b, InP n m x) :
  ∀ {f i : Nat} {l : List (Int × Int)}, l.Nodup → (∀ x ∈ l, InP n m x) → i ≤ l.length → n * m < f + i → walkP c kids f i l = fstN c ((lstP kids f i l).drop i) ∧ (lstP kids f i l).Nodup ∧ (∀ x ∈ lstP kids f i l, InP n m x) := by
 intro f
 induction f with
 | zero =>
  intro i l hn hl hi hf
  have := jb hn hl
  omega
 | succ f ih =>
  intro i l hn hl hi hf
  unfold walkP lstP
  cases h : l[i]? with
  | none =>
   have := List.getElem?_eq_none_iff.1 h
   simp only
   rw [List.drop_of_length_le this]
   exact ⟨rfl, hn, hl⟩
  | some x =>
   obtain ⟨a, b⟩ := x
   simp only
   have hab := hl _ (List.mem_of_getElem? h)
   obtain ⟨h1, h2, r, hr⟩ := jU hn hl (hk a b hab)
   have hlen : i + 1 ≤ (nxtP l (kids a b)).length := by
    have := (List.getElem?_eq_some_iff.1 h).1
    rw [hr, List.length_append]; omega
   obtain ⟨w1, w2, w3⟩ := ih h1 h2 hlen (by omega)
   have hg : (lstP kids f (i + 1) (nxtP l (kids a b)))[i]? = some (a, b) := Y7 ((YO l _).trans (Ja kids f (i + 1) _)) h
   have hd : (lstP kids f (i + 1) (nxtP l (kids a b))).drop i = (a, b) :: (lstP kids f (i + 1) (nxtP l (kids a b))).drop (i + 1) := by
    obtain ⟨hlt, e⟩ := List.getElem?_eq_some_iff.1 hg
    rw [List.drop_eq_getElem_cons hlt, e]
   refine ⟨?_, w2, w3⟩
   have e : ∀ r, fstN c ((a, b) :: r) = if c a b = 0 then fstN c r else c a b := fun _ => rfl
   rw [hd, w1, e]
theorem Vj {c : Int → Int → Int} : ∀ {l : List (Int × Int)}, (∀ x ∈ l, c x.1 x.2 = 0) → fstN c l = 0
 | [], _ => rfl
 | x :: r, h => by
  unfold fstN
  rw [if_pos (h x List.mem_cons_self)]
  exact Vj (fun y hy => h y (List.mem_cons_of_mem _ hy))
theorem XZ {c : Int → Int → Int} {x : Int × Int} (hx : c x.1 x.2 ≠ 0) : ∀ {pre L : List (Int × Int)}, (pre ++ [x]) <+: L → (∀ y ∈ pre, c y.1 y.2 = 0) → fstN c L = c x.1 x.2
 | [], L, ⟨r, hr⟩, _ => by
  subst hr
  show fstN c (x :: r) = _
  unfold fstN
  rw [if_neg hx]
 | y :: pre, L, ⟨r, hr⟩, h => by
  subst hr
  show fstN c (y :: (pre ++ [x] ++ r)) = _
  unfold fstN
  rw [if_pos (h y List.mem_cons_self)]
  exact XZ hx ⟨r, rfl⟩ (fun z hz => h z (List.mem_cons_of_mem _ hz))
def allL (ns ms : List Nd) (a b : Int) : List (Int × Int) := lstP (kidsP ns ms) (ns.length * ms.length + 1) 0 [(a, b)]
theorem KL {ns ms : List Nd} (hn : ns.all (ndOk ns.length) = true) (hm : ms.all (ndOk ms.length) = true) {a b : Int} (hab : InP ns.length ms.length (a, b)) :
  cmpAt ns ms a b = fstN (labP ns ms) (allL ns ms a b) ∧ ∀ x ∈ allL ns ms a b, InP ns.length ms.length x := by
 have h := Xj (c := labP ns ms) (js hn hm) (f := ns.length * ms.length + 1) (i := 0) (l := [(a, b)]) (by simp) (fun x hx => by
  have : x = (a, b) := by simpa using hx
  rw [this]; exact hab) (by simp) (by omega)
 exact ⟨h.1, h.2.2⟩
def Lst (ns ms : List Nd) (L : List (Int × Int)) (i : Nat) (l : List (Int × Int)) : Prop := ∀ f, ns.length * ms.length < f + i → lstP (kidsP ns ms) f i l = L
theorem zan {kids : Int → Int → List (Int × Int)} {n m : Nat} (hk : ∀ a b, InP n m (a, b) → ∀ x ∈ kids a b, InP n m x) :
  ∀ {f g i : Nat} {l : List (Int × Int)}, l.Nodup → (∀ x ∈ l, InP n m x) → n * m < f + i → n * m < g + i → lstP kids f i l = lstP kids g i l := by
 intro f
 induction f with
 | zero =>
  intro g i l hn hl hf hg
  have := jb hn hl
  cases g with
  | zero => rfl
  | succ g =>
   unfold lstP
   rw [List.getElem?_eq_none (by omega)]
 | succ f ih =>
  intro g i l hn hl hf hg
  cases g with
  | zero =>
   have := jb hn hl
   unfold lstP
   rw [List.getElem?_eq_none (by omega)]
  | succ g =>
   unfold lstP
   cases h : l[i]? with
   | none => rfl
   | some x =>
    obtain ⟨a, b⟩ := x
    simp only
    obtain ⟨h1, h2, _⟩ := jU hn hl (hk a b (hl _ (List.mem_of_getElem? h)))
    exact ih h1 h2 (by omega) (by omega)
theorem Lst.start {ns ms : List Nd} (hn : ns.all (ndOk ns.length) = true) (hm : ms.all (ndOk ms.length) = true) {a b : Int} (hab : InP ns.length ms.length (a, b)) : Lst ns ms (allL ns ms a b) 0 [(a, b)] := fun f hf =>
 zan (js hn hm) (by simp) (fun x hx => by
  have : x = (a, b) := by simpa using hx
  rw [this]; exact hab) (by omega) (by omega)
theorem Lst.done {ns ms : List Nd} {L : List (Int × Int)} {l : List (Int × Int)} (h : Lst ns ms L l.length l) : L = l := by
 rw [← h (ns.length * ms.length + 1) (by omega)]
 unfold lstP
 rw [List.getElem?_eq_none (Nat.le_refl _)]
theorem Lst.pre {ns ms : List Nd} {L : List (Int × Int)} {i : Nat} {l : List (Int × Int)} (h : Lst ns ms L i l) : l <+: L := by
 rw [← h (ns.length * ms.length + 1) (by omega)]
 exact Ja _ _ _ _
theorem Lst.next {ns ms : List Nd} {L : List (Int × Int)} {i : Nat} {l : List (Int × Int)} (h : Lst ns ms L i l) {a b : Int} (hx : l[i]? = some (a, b)) : Lst ns ms L (i + 1) (nxtP l (kidsP ns ms a b)) := fun f hf => by
 rw [← h (f + 1) (by omega)]
 conv => rhs; unfold lstP
 rw [hx]
end Go.Proofs.YtpbnmhnbkfnaeaaGreatDoor
namespace Go.Proofs.YtpbnmhnbkfnaeaaGreatDoor
open Go.RowKit Nt
structure Steps (B : Nat) (W W' : World) : Prop where
 bl : Below B W W'
 tr : ∀ {β : Type} (J : β → World → Prop) (s : β), Je B J → J s W → J s W'
theorem Steps.refl (B : Nat) (W : World) : Steps B W W := ⟨Below.refl _ _, fun _ _ _ h => h⟩
theorem Steps.trans {B : Nat} {A C D : World} (h : Steps B A C) (k : Steps B C D) : Steps B A D := ⟨h.bl.trans k.bl, fun J s hJ hs => k.tr J s hJ (h.tr J s hJ hs)⟩
theorem Steps.below {B : Nat} {W W' : World} (hB : B ≤ W.heap.size) (h : Below W.heap.size W W') : Steps B W W' :=
 ⟨h.mono hB, fun J s hJ hs => hJ s W W' none hs ⟨h.os, h.tape, h.output, h.size, fun k hk _ => h.block k hk⟩ (fun r e => by cases e)⟩
theorem Steps.set {B : Nat} {W : World} {b i : Nat} {cs : Array Value} {T : TypeId} (h : AtC W b cs T) (hB : B ≤ b) (u : Value) : Steps B W (W.setCell ⟨b, i, none⟩ u) :=
 ⟨(Below.refl B W).setCell (p := ⟨b, i, none⟩) hB u, fun J s hJ hs => hJ s W _ (some b) hs ⟨rfl, rfl, rfl, by simp, fun k _ hk => Below.heap_setCell _ _ _ k (fun e => hk (by rw [e]))⟩ (fun r e => by cases e; exact ⟨hB, _, h, rfl⟩)⟩
theorem Steps.grown {B base size k : Nat} {W W' : World} {e : TypeId} {v : Value} {xs : List Value} (h : W.ownsRow base e size v k xs) (hg : W.grownBy W' v.ownBlock) (hB : B ≤ base) (hW : B ≤ W.heap.size) : Steps B W W' := by
 have hr : ∀ r, v.ownBlock = some r → B ≤ r ∧ ∃ o, W.heap[r]? = some o ∧ o.isCells = true := fun r e => by
  rcases h.2 with ⟨rfl, _⟩ | ⟨g, c, cur, rfl, hb, hg, _⟩
  ·cases e
  ·simp [Value.ownBlock] at e
   subst e
   exact ⟨by omega, _, hg, rfl⟩
 exact ⟨(Below.refl B W).grown hg hW (fun r e => (hr r e).1), fun J s hJ hs => hJ s W W' _ hs hg hr⟩
theorem AtC.put1 {w : World} {b i : Nat} {cs : Array Value} {T : TypeId} (h : AtC w b cs T) (u : Value) : AtC (w.setCell ⟨b, i, none⟩ u) b (cs.setIfInBounds i u) T := by
 show (w.heap.modify b _)[b]? = _
 rw [Array.getElem?_modify, if_pos rfl, show w.heap[b]? = _ from h]; rfl
def metB (m : Nat) (l : List (Int × Int)) (k : Nat) : Bool := decide ((((k / m : Nat) : Int), ((k % m : Nat) : Int)) ∈ l)
def metA (m nm : Nat) (l : List (Int × Int)) : Array Value := ((List.range nm).map fun k => Value.bool (metB m l k)).toArray
theorem Zt {m nm k : Nat} {l : List (Int × Int)} (h : k < nm) : (metA m nm l)[k]? = some (.bool (metB m l k)) := by
 unfold metA
 simp [h]
theorem K0 (m : Nat) (l : List (Int × Int)) (k j : Nat) : metB m (l ++ [(((k / m : Nat) : Int), ((k % m : Nat) : Int))]) j = (metB m l j || decide (j = k)) := by
 have hq : (((j / m : Nat) : Int), ((j % m : Nat) : Int)) = (((k / m : Nat) : Int), ((k % m : Nat) : Int)) ↔ j = k := by
  constructor
  ·intro q
   rw [Prod.mk.injEq] at q
   have h1 : j / m = k / m := by omega
   have h2 : j % m = k % m := by omega
   have h3 := Nat.div_add_mod j m
   have h4 := Nat.div_add_mod k m
   rw [h1, h2] at h3
   omega
  ·rintro rfl; rfl
 unfold metB
 rw [Bool.eq_iff_iff, decide_eq_true_eq, Bool.or_eq_true, decide_eq_true_eq, decide_eq_true_eq, List.mem_append, List.mem_singleton, hq]
theorem Xr {m nm k : Nat} {l : List (Int × Int)} (h : k < nm) : (metA m nm l).setIfInBounds k (.bool true) = metA m nm (l ++ [(((k / m : Nat) : Int), ((k % m : Nat) : Int))]) := by
 apply Array.ext_getElem?
 intro j
 rw [Array.getElem?_setIfInBounds]
 by_cases hj : j < nm
 ·rw [Zt hj, Zt hj, K0]
  by_cases e : k = j
  ·subst e
   rw [if_pos rfl, if_pos (by simpa [metA] using h), decide_eq_true rfl, Bool.or_true]
  ·rw [if_neg e, decide_eq_false (fun q => e q.symm), Bool.or_false]
 ·have e : ∀ l, (metA m nm l)[j]? = none := fun l => by simp [metA, Nat.le_of_not_lt hj]
  rw [e, e, if_neg (by omega)]
theorem zbQ {m n : Nat} {x y : Int} (h : InP n m (x, y)) : ∃ k : Nat, k < n * m ∧ (k : Int) = x * m + y ∧ ((k / m : Nat) : Int) = x ∧ ((k % m : Nat) : Int) = y := by
 obtain ⟨⟨x0, x1⟩, y0, y1⟩ := h
 simp only at x0 x1 y0 y1
 obtain ⟨a, rfl⟩ := Int.eq_ofNat_of_zero_le x0
 obtain ⟨b, rfl⟩ := Int.eq_ofNat_of_zero_le y0
 have ha : a < n := by omega
 have hb : b < m := by omega
 refine ⟨a * m + b, ?_, by push_cast; rfl, ?_, ?_⟩
 ·calc a * m + b < a * m + m := by omega
   _ = (a + 1) * m := by rw [Nat.succ_mul]
   _ ≤ n * m := Nat.mul_le_mul_right _ ha
 ·rw [Nat.mul_comm, Nat.mul_add_div (by omega), Nat.div_eq_of_lt hb]; rfl
 ·rw [Nat.mul_comm, Nat.mul_add_mod, Nat.mod_eq_of_lt hb]
structure MeetS (W : World) (B g mB pB m nm : Nat) (l : List (Int × Int)) : Prop where
 gm : AtC W g (metA m nm l) 4
 mb : AtC W mB #[.slice (some ⟨g, 0, none⟩) nm nm] 126
 pb : ∃ v, AtC W pB #[v] 127 ∧ RowP W B 129 v l
 lg : B ≤ g
 lm : B ≤ mB
 lp : B ≤ pB
theorem MeetS.below {W W' : World} {B g mB pB m nm : Nat} {l : List (Int × Int)} (h : MeetS W B g mB pB m nm l) (k : Below W.heap.size W W') : MeetS W' B g mB pB m nm l := by
 obtain ⟨a, b, ⟨v, c, d⟩, e1, e2, e3⟩ := h
 exact ⟨a.below k, b.below k, ⟨v, c.below k, zr d k⟩, e1, e2, e3⟩
theorem AtC.kc {w w' : World} {b : Nat} {cs : Array Value} {T : TypeId} (h : AtC w b cs T) (k : KC w w') : AtC w' b cs T := k.cells b _ h rfl
theorem zbI {w w' : World} {base size n : Nat} {e : TypeId} {v : Value} {xs : List Value} (h : w.ownsRow base e size v n xs) (k : KC w w') : w'.ownsRow base e size v n xs := by
 refine ⟨h.1, ?_⟩
 rcases h.2 with ⟨rfl, h1⟩ | ⟨g, cap, cur, rfl, hb, hg, r⟩
 ·exact .inl ⟨rfl, h1⟩
 ·exact .inr ⟨g, cap, cur, rfl, hb, k.cells g _ hg rfl, r⟩
theorem MeetS.kc {W W' : World} {B g mB pB m nm : Nat} {l : List (Int × Int)} (h : MeetS W B g mB pB m nm l) (k : KC W W') : MeetS W' B g mB pB m nm l := by
 obtain ⟨a, b, ⟨v, c, d⟩, e1, e2, e3⟩ := h
 exact ⟨a.kc k, b.kc k, ⟨v, c.kc k, zbI d k⟩, e1, e2, e3⟩
theorem Tryz.infoTabPair : (Tryz.prog.info? 129).map (fun i => (i.zero, i.size, i.bytes)) = some (some (.agg #[.int .i64 0, .int .i64 0]), 2, 16) := by kernel_rfl
theorem kX {w : World} {a b : Nat} {cs cs' : Array Value} {T T' : TypeId} (h : AtC w a cs T) (k : AtC w b cs' T') (hne : T ≠ T') : a ≠ b := by
 rintro rfl
 have e := (show w.heap[a]? = _ from h).symm.trans k
 simp at e
 exact hne e.2
theorem yO {w : World} {b base n size : Nat} {kv : Value} {T e : TypeId} {xs : List Value} {cs : Array Value} (h : AtC w b cs T) (ho : w.ownsRow base e size kv n xs) (hne : e ≠ T) : kv.ownBlock ≠ some b := by
 rcases ho.2 with ⟨rfl, _⟩ | ⟨g1, c1, k1, rfl, _, hg1, _⟩
 ·intro e; simp [Value.ownBlock] at e
 ·intro q
  simp [Value.ownBlock] at q
  subst q
  have q := (show w.heap[g1]? = _ from h).symm.trans hg1
  simp at q
  exact hne q.2.symm
theorem Vz {w : World} {b base n size i : Nat} {kv u : Value} {e : TypeId} {xs : List Value} (h : w.ownsRow base e size kv n xs) (hg : kv.ownBlock ≠ some b) : (w.setCell ⟨b, i, none⟩ u).ownsRow base e size kv n xs := by
 refine ⟨h.1, ?_⟩
 rcases h.2 with ⟨rfl, h1⟩ | ⟨g1, cap, cur, rfl, hb, hg1, r⟩
 ·exact .inl ⟨rfl, h1⟩
 ·refine .inr ⟨g1, cap, cur, rfl, hb, ?_, r⟩
  have : g1 ≠ b := fun e => hg (by rw [e]; rfl)
  rw [Below.heap_setCell _ _ _ _ this]
  exact hg1
theorem AtC.grown {w w' : World} {b : Nat} {cs : Array Value} {T : TypeId} {row : Option Nat} (h : AtC w b cs T) (hg : w.grownBy w' row) (hne : row ≠ some b) : AtC w' b cs T :=
 (hg.block b h.lt (Ne.symm hne)).trans h
theorem X6 (x y : Int) (n m B bB g mB pB nc : Nat) (na : Option Addr) (l : List (Int × Int)) (W : World) (hin : InP n m (x, y)) (hn : n ≤ 80) (hm : m ≤ 80) (hl : l.length ≤ 6400) (hb : W.cell? ⟨bB, 0, none⟩ = some (.slice na m nc)) (hM : MeetS W B g mB pB m (n * m) l) (hBW : B ≤ W.heap.size) :
  Calls Tryz.prog 98 #[.int .i64 x, .int .i64 y, .pointer (some ⟨bB, 0, none⟩), .pointer (some ⟨mB, 0, none⟩), .pointer (some ⟨pB, 0, none⟩)] W fun e W' => (∃ v, e = .returned v) ∧ Steps B W W' ∧ MeetS W' B g mB pB m (n * m) (if (x, y) ∈ l then l else l ++ [(x, y)]) ∧ ∀ b cs, AtC W b cs 56 → AtC W' b cs 56 := by
 obtain ⟨i0, hi, hz0, hz1, hz2⟩ := info_parts Tryz.infoTabPair
 obtain ⟨k, hk, hk1, hk2, hk3⟩ := zbQ hin
 have hmem : metB m l k = decide ((x, y) ∈ l) := by unfold metB; rw [hk2, hk3]
 have hnm : n * m ≤ 6400 := Nat.mul_le_mul hn hm
 have HSET := hide (Xr (m := m) (l := l) hk)
 rw [hk2, hk3] at HSET
 have hx0 := hin.1.1
 have hx1 := hin.1.2
 have hy0 := hin.2.1
 have hy1 := hin.2.2
 simp only at hx0 hx1 hy0 hy1
 obtain ⟨p, hp⟩ : ∃ p : Int, x * m = p := ⟨_, rfl⟩
 rw [hp] at hk1
 have HP := hide hp
 have hp0 : 0 ≤ p := by rw [← hp]; exact Int.mul_nonneg hx0 (by omega)
 have hg0 := hM.gm.c k
 rw [Zt hk, hmem] at hg0
 have hgf := hM.gm.f k
 have hmb := hM.mb.c 0
 obtain ⟨v, hpv, hrow⟩ := hM.pb
 have HPV := hide hpv
 have HRW := hide hrow
 have hpb := hpv.c 0
 have hpf := hpv.f 0
 obtain ⟨rp, rc, rfl⟩ := z7 hrow
 have HM := hide hM
 obtain ⟨nm, hnm'⟩ : ∃ q, n * m = q := ⟨_, rfl⟩
 rw [hnm'] at hk hnm HM HSET hmb ⊢
 simp only [List.getElem?_toArray, List.getElem?_cons_zero] at hmb hpb
 obtain rfl : k = (p + y).toNat := by omega
 have hpy : p + y < (nm : Int) := by omega
 have hnm2 : p + y ≤ 6400 := by omega
 clear hin hM hpv hrow hnm' hmem hp hn hk2 hk3 hk hk1
 go_enter Tryz.func98, Tryz.ntmps98
 have e1 : wrap64 (x * (m : Int)) = p := by rw [za HP]; unfold wrap64; omega
 by_cases hin : (x, y) ∈ l
 ·rw [decide_eq_true hin] at hg0
  rw [if_pos hin]
  clear HSET
  go_wp2_with fail
  go_end0
  exact ⟨⟨_, rfl⟩, Steps.refl _ _, za HM, fun _ _ h => h⟩
 ·rw [decide_eq_false hin] at hg0
  rw [if_neg hin]
  have hgm := (za HM).gm
  have hmm := (za HM).mb
  have n1 : pB ≠ g := kX (za HPV) hgm (by decide)
  have n2 : mB ≠ g := kX hmm hgm (by decide)
  have ho := yO hgm (za HRW) (by decide)
  have G5 := hgm.put1 (i := (p + y).toNat) (.bool true)
  rw [za HSET] at G5
  have M5 := hmm.far1 (i := (p + y).toNat) n2 (.bool true)
  have P5 := (za HPV).far1 (i := (p + y).toNat) n1 (.bool true)
  have R5 := Vz (i := (p + y).toNat) (u := .bool true) (za HRW) ho
  have S5 := Steps.set (i := (p + y).toNat) hgm (za HM).lg (.bool true)
  have z5 : (W.setCell ⟨g, (p + y).toNat, none⟩ (.bool true)).heap.size = W.heap.size := by simp
  have p5 := P5.c 0
  simp only [List.getElem?_toArray, List.getElem?_cons_zero] at p5
  obtain ⟨W5, hW5⟩ : ∃ W5, W.setCell ⟨g, (p + y).toNat, none⟩ (.bool true) = W5 := ⟨_, rfl⟩
  have HW5 := hide hW5
  have p5' : (W.setCell ⟨g, (p + y).toNat, none⟩ (.bool true)).cell? ⟨pB, 0, none⟩ = some (.slice rp l.length rc) := by rw [hW5]; rw [hW5] at p5; exact p5
  rw [hW5] at G5 M5 P5 R5 S5 z5
  have hal := zf (Below.refl W5.heap.size W5) (.cells #[.int .i64 x, .int .i64 y] 129)
  have G6 := hide (G5.below hal)
  have M6 := hide (M5.below hal)
  have P6 := hide (P5.below hal)
  have R6 := hide (zr R5 hal)
  have S6 := hide (S5.trans (Steps.below (by omega) hal))
  have HFAR : Hid (∀ b cs, AtC W b cs 56 → AtC (W5.alloc (.cells #[.int .i64 x, .int .i64 y] 129)) b cs 56) := hide (fun b cs h => by
   have h5 := h.far1 (i := (p + y).toNat) (kX h hgm (by decide)) (.bool true)
   rw [hW5] at h5
   exact h5.below hal)
  have HLG := hide (And.intro (za HM).lg (And.intro (za HM).lm (za HM).lp))
  have hb5 : B ≤ W5.heap.size := by omega
  have HZ5 := hide z5
  have HNEW : Hid ((W5.alloc (.cells #[.int .i64 x, .int .i64 y] 129)).heap[W.heap.size]? = some (.cells #[.int .i64 x, .int .i64 y] 129 (0, 0))) := hide (by rw [← z5]; exact heap_alloc_new W5 _)
  clear hgm hmm n1 n2 ho G5 M5 P5 R5 S5 hal p5 z5 hW5 HM HPV HRW HSET
  go_wp2_with (at_builtin; rw [za HW5]; refine wpList_append_own _ rfl (.tmp 23) (.tmp 27) 127 rfl B 129 i0 (.agg #[.int .i64 0, .int .i64 0]) 2 16 Tryz.underlying127 hi hz0 hz1 hz2 rfl (by decide) _ l.length (pv l) rfl (za R6) ⟨W.heap.size, 0, none⟩ 1 1 [.int .i64 x, .int .i64 y] rfl rfl (World.news_of_block (cs := #[.int .i64 x, .int .i64 y]) (t := 129) (fr := (0, 0)) (za HNEW)) (by intro u hu; simp at hu; rcases hu with rfl | rfl <;> rfl) (by unfold maxLen; omega) (by omega) (by have := za HZ5; simp; omega) ?_; intro v' w7 hown7 hg7 hnil7; clear hnil7; have HP7 := hide ((za P6).grown hg7 (yO (za P6) (za R6) (by decide))); have p7c := (za HP7).c 0; have p7f := (za HP7).f 0; simp only [List.getElem?_toArray, List.getElem?_cons_zero] at p7c; have HOWN := hide hown7; have HGR := hide hg7; obtain ⟨p7, c7, rfl⟩ := z7 hown7; clear hown7 hg7 p5')
  go_end0
  have hg7 := za HGR
  have G7 := (za G6).grown hg7 (yO (za G6) (za R6) (by decide))
  have M7 := (za M6).grown hg7 (yO (za M6) (za R6) (by decide))
  have S7 := (za S6).trans (Steps.grown (za R6) hg7 (Nat.le_refl _) (Nat.le_trans hBW (za S6).bl.size))
  have n3 : g ≠ pB := kX G7 (za HP7) (by decide)
  have n4 : mB ≠ pB := kX M7 (za HP7) (by decide)
  have hR7 : RowP w7 B 129 (.slice p7 (l.length + 1) c7) (l ++ [(x, y)]) := by unfold RowP; rw [YV, List.length_append]; exact za HOWN
  obtain ⟨l1, l2, l3⟩ := za HLG
  exact ⟨⟨_, rfl⟩, S7.trans (Steps.set (i := 0) (za HP7) l3 _), ⟨G7.far1 n3 _, M7.far1 n4 _, ⟨_, (za HP7).put1 _, Vz hR7 (yO (za HP7) hR7 (by decide))⟩, l1, l2, l3⟩, fun b cs h => by
   have h6 := za HFAR b cs h
   have h7 := h6.grown hg7 (yO h6 (za R6) (by decide))
   exact h7.far1 (kX h7 (za HP7) (by decide)) _⟩
end Go.Proofs.YtpbnmhnbkfnaeaaGreatDoor
namespace Go.Proofs.YtpbnmhnbkfnaeaaGreatDoor
open Go.RowKit Nt
abbrev st3 (w : World) (b : Nat) (u0 u1 u2 : Value) : World := ((w.setCell ⟨b, 0, none⟩ u0).setCell ⟨b, 1, none⟩ u1).setCell ⟨b, 2, none⟩ u2
theorem AtC.put3 {w : World} {b : Nat} {x y z : Value} {T : TypeId} (h : AtC w b #[x, y, z] T) (u v t : Value) : AtC (st3 w b u v t) b #[u, v, t] T :=
 ((h.put1 (i := 0) u).put1 (i := 1) v).put1 (i := 2) t
theorem AtC.far3 {w : World} {b g : Nat} {cs : Array Value} {T : TypeId} (h : AtC w g cs T) (hne : g ≠ b) (u v t : Value) : AtC (st3 w b u v t) g cs T := ((h.far1 hne u).far1 hne v).far1 hne t
theorem Qp {B : Nat} {a w : World} (h : Below B a w) {b : Nat} (hb : B ≤ b) (u v t : Value) : Below B a (st3 w b u v t) :=
 ((h.setCell (p := ⟨b, 0, none⟩) hb u).setCell (p := ⟨b, 1, none⟩) hb v).setCell (p := ⟨b, 2, none⟩) hb t
def Bx (l : Array Bool) (k : Nat) (w : World) (g : Nat) (z c : Array Value) (T : TypeId) : Prop := (¬ LL l k ∧ AtC w g z T) ∨ (LL l k ∧ AtC w g c T)
theorem Bx.lt {l : Array Bool} {k g : Nat} {w : World} {z c : Array Value} {T : TypeId} (h : Bx l k w g z c T) : g < w.heap.size := by
 rcases h with ⟨_, h⟩ | ⟨_, h⟩ <;> exact h.lt
theorem Bx.below {l : Array Bool} {k g : Nat} {w w' : World} {z c : Array Value} {T : TypeId} (h : Bx l k w g z c T) (hb : Below w.heap.size w w') : Bx l k w' g z c T := by
 rcases h with ⟨e, h⟩ | ⟨e, h⟩
 ·exact .inl ⟨e, h.below hb⟩
 ·exact .inr ⟨e, h.below hb⟩
theorem Bx.far {l : Array Bool} {k g b : Nat} {w : World} {z c : Array Value} {T : TypeId} (h : Bx l k w g z c T) (hne : g ≠ b) (u0 u1 u2 : Value) : Bx l k (st3 w b u0 u1 u2) g z c T := by
 rcases h with ⟨e, h⟩ | ⟨e, h⟩
 ·exact .inl ⟨e, h.far3 hne _ _ _⟩
 ·exact .inr ⟨e, h.far3 hne _ _ _⟩
theorem Bx.step {l l' : Array Bool} {k g : Nat} {w : World} {z c : Array Value} {T : TypeId} (h : Bx l k w g z c T) (hk : LL l' k ↔ LL l k) : Bx l' k w g z c T := by
 unfold Bx at h ⊢
 rw [hk]; exact h
structure TwoB (N : Nat) (W : World) (v : Nat → Value) (z c d : Array Value) (T : TypeId) (l : Array Bool) (x : Nat → Value) (w : World) : Prop where
 sz : l.size = N + 4
 bl : Below W.heap.size W w
 val : ∀ i, i < N → LL l i → x i = v i
 f1 : LL l (N + 2) → LL l N
 f2 : LL l (N + 3) → LL l (N + 1)
 b1 : LL l N → ∃ g, x N = .pointer (some ⟨g, 0, none⟩) ∧ W.heap.size ≤ g ∧ Bx l (N + 2) w g z c T
 b2 : LL l (N + 1) → ∃ g, x (N + 1) = .pointer (some ⟨g, 0, none⟩) ∧ W.heap.size ≤ g ∧ Bx l (N + 3) w g z d T
 ne : LL l N → LL l (N + 1) → x N ≠ x (N + 1)
section
variable {N : Nat} {W w w' : World} {v x : Nat → Value} {z c d : Array Value} {T : TypeId} {l : Array Bool}
theorem TwoB.start (n : l = Array.replicate (N + 4) false) (h : Below W.heap.size W w) : TwoB N W v z c d T l x w := by
 subst n
 have hn : ∀ j, ¬ LL (Array.replicate (N + 4) false) j := fun j h => by
  unfold LL at h
  rw [Array.getElem?_replicate] at h
  split at h <;> simp at h
 exact ⟨by simp, h, fun i _ h => absurd h (hn _), fun h => absurd h (hn _), fun h => absurd h (hn _), fun h => absurd h (hn _), fun h => absurd h (hn _), fun h => absurd h (hn _)⟩
theorem TwoB.next (h : TwoB N W v z c d T l x w) (i : Nat) (hi : i < N + 2) (hl : ¬ LL l i) (u : Value) (hb : Below w.heap.size w w') (hv : i < N → u = v i)
  (hn : N ≤ i → u = .pointer (some ⟨w.heap.size, 0, none⟩) ∧ AtC w' w.heap.size z T) : TwoB N W v z c d T (l.setIfInBounds i true) (fun j => if j = i then u else x j) w' := by
 have hs := fun j => vG (l := l) (i := i) (by rw [h.sz]; omega) j
 have hk : ∀ {j}, j ≠ i → (LL (l.setIfInBounds i true) j ↔ LL l j) := fun {j} e => by rw [hs]; simp [e]
 have hx : ∀ {j}, j ≠ i → (if j = i then u else x j) = x j := fun {j} e => if_neg e
 have hB : Below W.heap.size W w' := zj h.bl hb
 refine ⟨by simp [h.sz], hB, fun j hj e => ?_, fun e => ?_, fun e => ?_, fun e => ?_, fun e => ?_, fun e e' => ?_⟩
 ·by_cases q : j = i
  ·subst q
   show (if j = j then u else x j) = v j
   rw [if_pos rfl]; exact hv hj
  ·show (if j = i then u else x j) = v j
   rw [hx q]; exact h.val j hj ((hk q).1 e)
 ·exact (hs N).2 (.inr (h.f1 ((hk (by omega)).1 e)))
 ·exact (hs (N + 1)).2 (.inr (h.f2 ((hk (by omega)).1 e)))
 ·by_cases q : N = i
  ·subst q
   obtain ⟨e1, e2⟩ := hn (Nat.le_refl _)
   refine ⟨w.heap.size, ?_, h.bl.size, .inl ⟨fun q => hl (h.f1 ((hk (by omega)).1 q)), e2⟩⟩
   show (if N = N then u else x N) = _
   rw [if_pos rfl]; exact e1
  ·obtain ⟨g, e1, e2, e3⟩ := h.b1 ((hk q).1 e)
   refine ⟨g, ?_, e2, (e3.below hb).step (hk (by omega))⟩
   show (if N = i then u else x N) = _
   rw [hx q]; exact e1
 ·by_cases q : N + 1 = i
  ·subst q
   obtain ⟨e1, e2⟩ := hn (by omega)
   refine ⟨w.heap.size, ?_, h.bl.size, .inl ⟨fun q => hl (h.f2 ((hk (by omega)).1 q)), e2⟩⟩
   show (if N + 1 = N + 1 then u else x (N + 1)) = _
   rw [if_pos rfl]; exact e1
  ·obtain ⟨g, e1, e2, e3⟩ := h.b2 ((hk q).1 e)
   refine ⟨g, ?_, e2, (e3.below hb).step (hk (by omega))⟩
   show (if N + 1 = i then u else x (N + 1)) = _
   rw [hx q]; exact e1
 ·show (if N = i then u else x N) ≠ (if N + 1 = i then u else x (N + 1))
  by_cases q : N = i
  ·subst q
   obtain ⟨e1, _⟩ := hn (Nat.le_refl _)
   obtain ⟨g, q1, _, q3⟩ := h.b2 ((hk (by omega)).1 e')
   rw [if_pos rfl, if_neg (by omega), e1, q1]
   intro q; simp at q; have := q3.lt; omega
  ·by_cases q' : N + 1 = i
   ·subst q'
    obtain ⟨e1, _⟩ := hn (by omega)
    obtain ⟨g, q1, _, q3⟩ := h.b1 ((hk q).1 e)
    rw [if_neg q, if_pos rfl, e1, q1]
    intro q; simp at q; have := q3.lt; omega
   ·rw [hx q, hx q']
    exact h.ne ((hk q).1 e) ((hk q').1 e')
theorem TwoB.put1 {y0 y1 y2 u0 u1 u2 : Value} (h : TwoB N W v #[y0, y1, y2] #[u0, u1, u2] d T l x w) (hl : ¬ LL l (N + 2)) (h1 : LL l N) : ∃ g, x N = .pointer (some ⟨g, 0, none⟩) ∧ AtC w g #[y0, y1, y2] T ∧ TwoB N W v #[y0, y1, y2] #[u0, u1, u2] d T (l.setIfInBounds (N + 2) true) x (st3 w g u0 u1 u2) := by
 obtain ⟨g, e1, e2, e3⟩ := h.b1 h1
 rcases e3 with ⟨_, e3⟩ | ⟨e, _⟩
 ·have hs := fun j => vG (l := l) (i := N + 2) (by rw [h.sz]; omega) j
  have hk : ∀ {j}, j ≠ N + 2 → (LL (l.setIfInBounds (N + 2) true) j ↔ LL l j) := fun {j} e => by rw [hs]; simp [e]
  refine ⟨g, e1, e3, by simp [h.sz], Qp h.bl e2 _ _ _, fun j hj e => h.val j hj ((hk (by omega)).1 e), fun _ => (hk (by omega)).2 h1, fun e => (hk (by omega)).2 (h.f2 ((hk (by omega)).1 e)), fun _ => ⟨g, e1, e2, .inr ⟨(hs _).2 (.inl rfl), e3.put3 _ _ _⟩⟩, fun e => ?_, fun e e' => h.ne ((hk (by omega)).1 e) ((hk (by omega)).1 e')⟩
  obtain ⟨g', r1, r2, r3⟩ := h.b2 ((hk (by omega)).1 e)
  exact ⟨g', r1, r2, (r3.far (fun q => h.ne h1 ((hk (by omega)).1 e) (by rw [e1, r1, q])) _ _ _).step (hk (by omega))⟩
 ·exact absurd e hl
theorem TwoB.put2 {y0 y1 y2 u0 u1 u2 : Value} (h : TwoB N W v #[y0, y1, y2] c #[u0, u1, u2] T l x w) (hl : ¬ LL l (N + 3)) (h1 : LL l (N + 1)) : ∃ g, x (N + 1) = .pointer (some ⟨g, 0, none⟩) ∧ AtC w g #[y0, y1, y2] T ∧ TwoB N W v #[y0, y1, y2] c #[u0, u1, u2] T (l.setIfInBounds (N + 3) true) x (st3 w g u0 u1 u2) := by
 obtain ⟨g, e1, e2, e3⟩ := h.b2 h1
 rcases e3 with ⟨_, e3⟩ | ⟨e, _⟩
 ·have hs := fun j => vG (l := l) (i := N + 3) (by rw [h.sz]; omega) j
  have hk : ∀ {j}, j ≠ N + 3 → (LL (l.setIfInBounds (N + 3) true) j ↔ LL l j) := fun {j} e => by rw [hs]; simp [e]
  refine ⟨g, e1, e3, by simp [h.sz], Qp h.bl e2 _ _ _, fun j hj e => h.val j hj ((hk (by omega)).1 e), fun e => (hk (by omega)).2 (h.f1 ((hk (by omega)).1 e)), fun _ => (hk (by omega)).2 h1, fun e => ?_, fun _ => ⟨g, e1, e2, .inr ⟨(hs _).2 (.inl rfl), e3.put3 _ _ _⟩⟩, fun e e' => h.ne ((hk (by omega)).1 e) ((hk (by omega)).1 e')⟩
  obtain ⟨g', r1, r2, r3⟩ := h.b1 ((hk (by omega)).1 e)
  exact ⟨g', r1, r2, (r3.far (fun q => h.ne ((hk (by omega)).1 e) h1 (by rw [e1, r1, q])) _ _ _).step (hk (by omega))⟩
 ·exact absurd e hl
theorem TwoB.done (h : TwoB N W v z c d T l x w) (h1 : LL l (N + 2)) (h2 : LL l (N + 3)) : ∃ g g', x N = .pointer (some ⟨g, 0, none⟩) ∧ x (N + 1) = .pointer (some ⟨g', 0, none⟩) ∧ W.heap.size ≤ g ∧ W.heap.size ≤ g' ∧ AtC w g c T ∧ AtC w g' d T ∧ Below W.heap.size W w := by
 obtain ⟨g, e1, e2, e3⟩ := h.b1 (h.f1 h1)
 obtain ⟨g', r1, r2, r3⟩ := h.b2 (h.f2 h2)
 rcases e3 with ⟨e, _⟩ | ⟨_, e3⟩
 ·exact absurd h1 e
 rcases r3 with ⟨e, _⟩ | ⟨_, r3⟩
 ·exact absurd h2 e
 exact ⟨g, g', e1, r1, e2, r2, e3, r3, h.bl⟩
end
end Go.Proofs.YtpbnmhnbkfnaeaaGreatDoor
namespace Go.Proofs.YtpbnmhnbkfnaeaaGreatDoor
open Go.RowKit Go.Shelf Nt
attribute [local go_sem] Oper.semAt_some
theorem vU {w w' : World} (k : KC w w') {a : Addr} {v : Value} (h : w.cell? a = some v) : w'.cell? a = some v := by
 unfold World.cell? at h ⊢
 cases e : w.heap[a.block]? with
 | none => rw [e] at h; simp at h
 | some o =>
  cases o with
  | cells cs T fr => rw [k.cells _ _ e rfl]; rw [e] at h; exact h
  | _ => rw [e] at h; simp at h
theorem IntsAt.kc {w w' : World} {v : Value} {xs : List Int} (h : IntsAt w v xs) (k : KC w w') : IntsAt w' v xs := by
 obtain ⟨a, cap, rfl, h1, h2, h3⟩ := h
 refine ⟨a, cap, rfl, h1, h2, fun h0 => ?_⟩
 obtain ⟨b, off, rfl, hb, hc⟩ := h3 h0
 exact ⟨b, off, rfl, Nat.lt_of_lt_of_le hb k.size, fun j x hx => vU k (hc j x hx)⟩
theorem KC.steps {w wr wr' : World} (h : KC w wr) (k : Steps w.heap.size wr wr') : KC w wr' :=
 ⟨Nat.le_trans h.size k.bl.size, fun b o e ho => (k.bl.block b (Array.getElem?_eq_some_iff.1 e).1).trans (h.cells b o e ho)⟩
theorem zbD {P : Program} {t e : TypeId} {i : TypeInfo} {z : Value} {bytes : Nat} (ht : P.underlying t = some (.slice e)) (hi : P.info? e = some i) (hz : i.zero = some z) (hs : i.size = 1) (hb : i.bytes = bytes) (hc : z.cells = #[z]) (n : Nat) (hn : bytes * n ≤ 281474976710656) (hn2 : n ≤ 281474976710656) (W : World) :
  (Instr.makeSlice t (.int .i64 (n : Int)) (.int .i64 (n : Int))).run P W = .ok (.slice (some ⟨W.heap.size, 0, none⟩) n n) (W.alloc (.cells (madeCells #[z] n) e)) := by
 have h := run_make (P := P) W t e i z ht hi hz .i64 .i64 (n : Int) (n : Int) (by omega) (by omega) (by rw [hb, ← Int.natCast_mul]; omega) (by omega)
 rw [hc, hs] at h
 simpa using h
theorem Tryz.infoBoolC : (Tryz.prog.info? 4).map (fun i => (i.zero, i.size, i.bytes)) = some (some (.bool false), 1, 1) := by kernel_rfl
theorem zaa (m nm : Nat) : madeCells #[.bool false] nm = metA m nm [] := by
 apply Array.ext'
 rw [toList_madeCells_one]
 unfold metA metB
 simp [List.map_const']
def nvA (ns : List Nd) (w : World) (b off : Nat) (x : Int) : Value := .agg #[.int .i64 (ndI ns x).1, .string (B (ndI ns x).2.1), (w.cell? ⟨b, off + x.toNat * 3 + 2, none⟩).getD undef]
theorem Ji (ns ms : List Nd) (a b : Int) (xb xo xc yb yo yc aB bB : Nat) (w0 : World) (hx : NodesAt w0 (.slice (some ⟨xb, xo, none⟩) ns.length xc) ns) (hy : NodesAt w0 (.slice (some ⟨yb, yo, none⟩) ms.length yc) ms)
  (okn : ns.all (ndOk ns.length) = true) (okm : ms.all (ndOk ms.length) = true) (hab : InP ns.length ms.length (a, b)) (hl1 : ns.length ≤ 80) (hl2 : ms.length ≤ 80)
  (ha : AtC w0 aB #[.slice (some ⟨xb, xo, none⟩) ns.length xc, .int .i64 a] 52) (hb : AtC w0 bB #[.slice (some ⟨yb, yo, none⟩) ms.length yc, .int .i64 b] 52) :
  SeqC Fence.wide 2 Tryz.prog 97 #[.pointer (some ⟨aB, 0, none⟩), .pointer (some ⟨bB, 0, none⟩)] (fun x : Int × Int => #[nvA ns w0 xb xo x.1, nvA ms w0 yb yo x.2]) (allL ns ms a b) w0 := by
 intro l J Jx w hW hJ hJx hY h0
 have HX := hide (hx.below hW)
 have HY := hide (hy.below hW)
 have HXV : Hid (∀ (x : Int) nd, ns[x.toNat]? = some nd → ∀ kv, w.cell? ⟨xb, xo + x.toNat * 3 + 2, none⟩ = some kv → nvA ns w0 xb xo x = .agg #[.int .i64 nd.1, .string (B nd.2.1), kv]) := hide (fun x nd h kv hkv => by
  obtain ⟨kv', _, _, c2, _, _⟩ := hx.node h
  have e := (zd hW c2).symm.trans hkv
  injection e with e
  unfold nvA
  rw [jj h, c2, e]
  rfl)
 have HYV : Hid (∀ (x : Int) nd, ms[x.toNat]? = some nd → ∀ kv, w.cell? ⟨yb, yo + x.toNat * 3 + 2, none⟩ = some kv → nvA ms w0 yb yo x = .agg #[.int .i64 nd.1, .string (B nd.2.1), kv]) := hide (fun x nd h kv hkv => by
  obtain ⟨kv', _, _, c2, _, _⟩ := hy.node h
  have e := (zd hW c2).symm.trans hkv
  injection e with e
  unfold nvA
  rw [jj h, c2, e]
  rfl)
 have HA := hide (ha.below hW)
 have HB := hide (hb.below hW)
 have hLs := Lst.start okn okm hab
 have HY0 := hide hY
 have HJ := hide hJ
 obtain ⟨L, hL⟩ : ∃ L, allL ns ms a b = L := ⟨_, rfl⟩
 rw [hL] at HY0 hLs ⊢
 have HLS := hide hLs
 have hnm : ns.length * ms.length ≤ 6400 := Nat.mul_le_mul hl1 hl2
 have HOK := hide (And.intro okn okm)
 have HAB := hide hab
 have HJ0 := hide h0
 clear hx hy hW ha hb hLs hY hJ hJx hL okn okm h0
 refine callsIn_of_wp Tryz.func97 rfl trivial ?_ rfl
 simp only [Tryz.ntmps97, List.size_toArray, List.length_cons, List.length_nil, Nat.reduceAdd, Nat.reduceSub, Array.replicate_succ, Array.replicate_zero, List.push_toArray, List.append_toArray, List.nil_append, List.cons_append]
 obtain ⟨nm, hnm'⟩ : ∃ q, ns.length * ms.length = q := ⟨_, rfl⟩
 rw [hnm'] at hnm
 have e1 : wrap64 ((ns.length : Int) * (ms.length : Int)) = (nm : Int) := by
  rw [← Int.natCast_mul, hnm']
  unfold wrap64
  omega
 have HNM := hide hnm'
 clear hnm'
 obtain ⟨ib, hib, hb0, hb1, hb2⟩ := info_parts Tryz.infoBoolC
 have hmk := fun W => zbD Tryz.underlying126 hib hb0 hb1 hb2 rfl nm (by omega) (by omega) W
 rw [zaa ms.length nm] at hmk
 have a0 := (za HA).c 0
 have a1 := (za HA).c 1
 have b0 := (za HB).c 0
 have b1 := (za HB).c 1
 simp only [List.getElem?_toArray, List.getElem?_cons_zero, List.getElem?_cons_succ] at a0 a1 b0 b1
 have hbel := zf (zf (zf (zf (Below.refl w.heap.size w) (.cells (metA ms.length nm []) 4)) (.cells #[.slice (some ⟨w.heap.size, 0, none⟩) nm nm] 126)) (.cells #[] 129)) (.cells #[.slice (some ⟨w.heap.size + 1 + 1, 0, none⟩) 0 0] 127)
 have a1' := zd hbel a1
 have b1' := zd hbel b1
 have b0' := zd hbel b0
 have HM0 : Hid (MeetS ((((w.alloc (.cells (metA ms.length nm []) 4)).alloc (.cells #[.slice (some ⟨w.heap.size, 0, none⟩) nm nm] 126)).alloc (.cells #[] 129)).alloc (.cells #[.slice (some ⟨w.heap.size + 1 + 1, 0, none⟩) 0 0] 127)) w.heap.size w.heap.size (w.heap.size + 1) (w.heap.size + 1 + 1 + 1) ms.length nm []) := hide (by
  have h1 := ((AtC.new w (metA ms.length nm []) 4).alloc (.cells #[.slice (some ⟨w.heap.size, 0, none⟩) nm nm] 126)).alloc (.cells #[] 129)
  have h2 := (AtC.new (w.alloc (.cells (metA ms.length nm []) 4)) #[.slice (some ⟨w.heap.size, 0, none⟩) nm nm] 126).alloc (.cells #[] 129)
  rw [World.size_alloc] at h2
  have h3 := AtC.new (((w.alloc (.cells (metA ms.length nm []) 4)).alloc (.cells #[.slice (some ⟨w.heap.size, 0, none⟩) nm nm] 126)).alloc (.cells #[] 129)) #[.slice (some ⟨w.heap.size + 1 + 1, 0, none⟩) 0 0] 127
  rw [World.size_alloc, World.size_alloc, World.size_alloc] at h3
  have h4 : RowP (((w.alloc (.cells (metA ms.length nm []) 4)).alloc (.cells #[.slice (some ⟨w.heap.size, 0, none⟩) nm nm] 126)).alloc (.cells #[] 129)) w.heap.size 129 (.slice (some ⟨w.heap.size + 1 + 1, 0, none⟩) 0 0) [] := by
   have h := heap_alloc_new ((w.alloc (.cells (metA ms.length nm []) 4)).alloc (.cells #[.slice (some ⟨w.heap.size, 0, none⟩) nm nm] 126)) (.cells #[] 129)
   rw [World.size_alloc, World.size_alloc] at h
   exact ⟨rfl, .inr ⟨w.heap.size + 1 + 1, 0, _, rfl, by omega, h, Nat.le_refl _, by unfold maxLen; omega, rfl, rfl⟩⟩
  exact ⟨h1.alloc _, h2.alloc _, ⟨_, h3, zr h4 (zf (Below.refl _ _) _)⟩, Nat.le_refl _, by omega, by omega⟩)
 have HBE := hide hbel
 gi_wp2_with fail
 obtain ⟨W4, hW4⟩ : ∃ W4, (((w.alloc (.cells (metA ms.length nm []) 4)).alloc (.cells #[.slice (some ⟨w.heap.size, 0, none⟩) nm nm] 126)).alloc (.cells #[] 129)).alloc (.cells #[.slice (some ⟨w.heap.size + 1 + 1, 0, none⟩) 0 0] 127) = W4 := ⟨_, rfl⟩
 rw [hW4] at HM0 HBE b0' ⊢
 clear a0 a1 b0 b1 a1' b1' hbel hW4 hmk e1
 have hs4 := (za HBE).size
 have hmt := za HM0
 rw [← za HNM] at hmt
 refine ⟨trivial, (callsIn_wide.2 (X6 a b ns.length ms.length w.heap.size bB w.heap.size (w.heap.size + 1) (w.heap.size + 1 + 1 + 1) yc (some ⟨yb, yo, none⟩) [] W4 (za HAB) hl1 hl2 (by simp) b0' hmt hs4)).mono ?_⟩
 clear hmt b0'
 rintro e W5 ⟨⟨vm, rfl⟩, hst5, hm5, _⟩
 rw [za HNM] at hm5
 have HM5 : Hid (MeetS W5 w.heap.size w.heap.size (w.heap.size + 1) (w.heap.size + 1 + 1 + 1) ms.length nm [(a, b)]) := hide (by simpa using hm5)
 have hst := (Steps.below (Nat.le_refl _) (za HBE)).trans hst5
 have HJ5 : Hid (J [] W5) := hide (hst.tr J [] (za HJ) (za HJ0))
 have HK5 : Hid (KC w W5) := hide ((KC.refl w).steps hst)
 have HL5 : Hid ([(a, b)].Nodup ∧ ∀ x ∈ [(a, b)], InP ns.length ms.length x) := hide ⟨by simp, fun x hx => by
  have : x = (a, b) := by simpa using hx
  rw [this]; exact za HAB⟩
 clear hst hst5 hm5 hs4 HM0 HBE HJ0
 gi_wp2_with fail
 gi_loopw [7] (fun iv wr => ∃ (lp : List (Int × Int)) (i : Nat), i ≤ lp.length ∧ iv = .int .i64 i ∧ Hid (MeetS wr w.heap.size w.heap.size (w.heap.size + 1) (w.heap.size + 1 + 1 + 1) ms.length nm lp) ∧ Hid (J (L.take i) wr) ∧ Hid (KC w wr) ∧ Hid (lp.Nodup ∧ ∀ x ∈ lp, InP ns.length ms.length x) ∧ Hid (Lst ns ms L i lp))
  (fun iv _ => 6400 - (intOf iv).toNat)
 case atStart => exact ⟨[(a, b)], 0, by simp, rfl, HM5, hide (by simpa using za HJ5), HK5, HL5, HLS⟩
 case round =>
  clear HM5 HJ5 HK5 HL5 HLS
  obtain ⟨lp, i, hil, rfl, HM, HJi, HK, HL, HLS⟩ := hrel
  obtain ⟨v, hpv, hrow⟩ := (za HM).pb
  have hll : lp.length ≤ 6400 := by have := jb (za HL).1 (za HL).2; rw [za HNM] at this; omega
  obtain ⟨rp, rc, rfl⟩ := z7 hrow
  have pc := hpv.c 0
  simp only [List.getElem?_toArray, List.getElem?_cons_zero] at pc
  by_cases hlt : i < lp.length
  ·obtain ⟨g, cap, ev, hc1, hc2, hgb, hcell⟩ := RowP.form hrow (by omega)
   injection ev with ev1 ev2 ev3
   subst ev1
   subst ev3
   obtain ⟨⟨pa, pb⟩, hp⟩ : ∃ p, lp[i]? = some p := ⟨_, List.getElem?_eq_getElem hlt⟩
   obtain ⟨g0, g1⟩ := hcell i _ hp
   simp only at g0 g1
   obtain ⟨⟨pa0, pa1⟩, pb0, pb1⟩ := YX.1 ((za HL).2 _ (List.mem_of_getElem? hp))
   obtain ⟨na, hna⟩ : ∃ nd, ns[pa.toNat]? = some nd := ⟨_, List.getElem?_eq_getElem (by omega)⟩
   obtain ⟨nb, hnb⟩ : ∃ nd, ms[pb.toNat]? = some nd := ⟨_, List.getElem?_eq_getElem (by omega)⟩
   obtain ⟨kva, x0, x1, x2, _, hka⟩ := (za HX).node hna
   obtain ⟨kvb, y0, y1, y2, _, hkb⟩ := (za HY).node hnb
   have HVA : Hid (nvA ns w0 xb xo pa = .agg #[.int .i64 na.1, .string (B na.2.1), kva]) := hide ((za HXV) pa na hna kva x2)
   have HVB : Hid (nvA ms w0 yb yo pb = .agg #[.int .i64 nb.1, .string (B nb.2.1), kvb]) := hide ((za HYV) pb nb hnb kvb y2)
   have x0 := vU (za HK) x0
   have x1 := vU (za HK) x1
   have x2 := vU (za HK) x2
   have y0 := vU (za HK) y0
   have y1 := vU (za HK) y1
   have y2 := vU (za HK) y2
   have HKA := hide hka
   have HKB := hide hkb
   obtain ⟨aka, akc, rfl, ak1, ak2⟩ := hka.form
   obtain ⟨bka, bkc, rfl, bk1, bk2⟩ := hkb.form
   have HPI := hide hp
   have HNA := hide hna
   have HNB := hide hnb
   obtain ⟨sa, ta, ka⟩ := na
   obtain ⟨sb, tb, kb⟩ := nb
   simp only at x0 x1 x2 y0 y1 y2 HKA HKB HVA HVB ak1 bk1
   have qa := ((za HA).kc (za HK)).c 0
   have qb := ((za HB).kc (za HK)).c 0
   simp only [List.getElem?_toArray, List.getElem?_cons_zero] at qa qb
   have pan : pa.toNat * 3 + 0 = pa.toNat * 3 := rfl
   have HALL := hide (And.intro g0 (And.intro g1 (And.intro x0 (And.intro x1 (And.intro x2 (And.intro y0 (And.intro y1 (And.intro y2 (And.intro qa (And.intro qb pc))))))))))
   clear hp hna hnb hka hkb hcell hpv hrow pan
   gi_wp2_with fail
   obtain ⟨v, hv⟩ : ∃ v : Nat → Value, v = fun j => match j with
    | 0 => .pointer (some ⟨aB, 0, none⟩)
    | 1 => .slice (some ⟨xb, xo, none⟩) ns.length xc
    | 2 => .slice (some ⟨g, 0, none⟩) lp.length rc
    | 3 => .int .i64 (i : Int)
    | 4 => .pointer (some ⟨g, i * 2, none⟩)
    | 5 => .pointer (some ⟨g, i * 2, none⟩)
    | 6 => .int .i64 pa
    | 7 => .pointer (some ⟨xb, xo + pa.toNat * 3, none⟩)
    | 8 => .agg #[.int .i64 sa, .string (B ta), .slice aka ka.length akc]
    | 9 => .pointer (some ⟨bB, 0, none⟩)
    | 10 => .slice (some ⟨yb, yo, none⟩) ms.length yc
    | 11 => .slice (some ⟨g, 0, none⟩) lp.length rc
    | 12 => .int .i64 (i : Int)
    | 13 => .pointer (some ⟨g, i * 2, none⟩)
    | 14 => .pointer (some ⟨g, i * 2 + 1, none⟩)
    | 15 => .int .i64 pb
    | 16 => .pointer (some ⟨yb, yo + pb.toNat * 3, none⟩)
    | 17 => .agg #[.int .i64 sb, .string (B tb), .slice bka kb.length bkc]
    | _ => undef := ⟨_, rfl⟩
   have v0 : v 0 = .pointer (some ⟨aB, 0, none⟩) := by subst hv; rfl
   have v1 : v 1 = .slice (some ⟨xb, xo, none⟩) ns.length xc := by subst hv; rfl
   have v2 : v 2 = .slice (some ⟨g, 0, none⟩) lp.length rc := by subst hv; rfl
   have v3 : v 3 = .int .i64 (i : Int) := by subst hv; rfl
   have v4 : v 4 = .pointer (some ⟨g, i * 2, none⟩) := by subst hv; rfl
   have v5 : v 5 = .pointer (some ⟨g, i * 2, none⟩) := by subst hv; rfl
   have v6 : v 6 = .int .i64 pa := by subst hv; rfl
   have v7 : v 7 = .pointer (some ⟨xb, xo + pa.toNat * 3, none⟩) := by subst hv; rfl
   have v8 : v 8 = .agg #[.int .i64 sa, .string (B ta), .slice aka ka.length akc] := by subst hv; rfl
   have v9 : v 9 = .pointer (some ⟨bB, 0, none⟩) := by subst hv; rfl
   have v10 : v 10 = .slice (some ⟨yb, yo, none⟩) ms.length yc := by subst hv; rfl
   have v11 : v 11 = .slice (some ⟨g, 0, none⟩) lp.length rc := by subst hv; rfl
   have v12 : v 12 = .int .i64 (i : Int) := by subst hv; rfl
   have v13 : v 13 = .pointer (some ⟨g, i * 2, none⟩) := by subst hv; rfl
   have v14 : v 14 = .pointer (some ⟨g, i * 2 + 1, none⟩) := by subst hv; rfl
   have v15 : v 15 = .int .i64 pb := by subst hv; rfl
   have v16 : v 16 = .pointer (some ⟨yb, yo + pb.toNat * 3, none⟩) := by subst hv; rfl
   have v17 : v 17 = .agg #[.int .i64 sb, .string (B tb), .slice bka kb.length bkc] := by subst hv; rfl
   clear hv
   refine wpIn_region_any (by kernel_rfl) ?_
   change wpAnyIn _ _ _ _ _ _ _ _ _ (World.drew _)
   refine yD (fun l' a' w' => ∃ x : Nat → Value, a' = ⟨#[.func (Fn.yield l) #[] #[], .pointer (some ⟨aB, 0, none⟩), .pointer (some ⟨bB, 0, none⟩), undef, .pointer (some ⟨w.heap.size + 1, 0, none⟩), .pointer (some ⟨w.heap.size + 1 + 1 + 1, 0, none⟩), .func (Fn.func (98 : Nat)) #[] #[.pointer (some ⟨bB, 0, none⟩), .pointer (some ⟨w.heap.size + 1, 0, none⟩), .pointer (some ⟨w.heap.size + 1 + 1 + 1, 0, none⟩)], .int .i64 ↑i, x 18, x 19, u10, .pointer (some ⟨aB, 0, none⟩), .slice (some ⟨xb, xo, none⟩) ns.length xc, .int .i64 ↑ns.length, .pointer (some ⟨bB, 0, none⟩), .slice (some ⟨yb, yo, none⟩) ms.length yc, .int .i64 ↑ms.length, .int .i64 ↑nm, .slice (some ⟨w.heap.size, 0, none⟩) nm nm, .slice (some ⟨w.heap.size + 1 + 1, 0, none⟩) 0 0, .func (Fn.func (98 : Nat)) #[] #[.pointer (some ⟨bB, 0, none⟩), .pointer (some ⟨w.heap.size + 1, 0, none⟩), .pointer (some ⟨w.heap.size + 1 + 1 + 1, 0, none⟩)], .func (Fn.func (98 : Nat)) #[] #[.pointer (some ⟨bB, 0, none⟩), .pointer (some ⟨w.heap.size + 1, 0, none⟩), .pointer (some ⟨w.heap.size + 1 + 1 + 1, 0, none⟩)], .pointer (some ⟨aB, 1, none⟩), .int .i64 a, .pointer (some ⟨bB, 1, none⟩), .int .i64 b, vm, .int .i64 ↑i, .slice (some ⟨g, 0, none⟩) lp.length rc, .int .i64 ↑lp.length, .bool true, u31, u32, x 0, x 1, x 2, x 3, x 4, x 5, x 6, x 7, x 8, x 9, x 10, x 11, x 12, x 13, x 14, x 15, x 16, x 17, u51, u52, u53, u54, u55, u56, u57, u58, u59, u60, u61, u62, u63, u64, u65, u66, u67, u68, u69, u70, u71, u72, u73, u74, u75, u76, u77, u78], []⟩ ∧ TwoB 18 wr v #[.int .i64 0, .string ⟨#[]⟩, .slice none 0 0] #[.int .i64 sa, .string (B ta), .slice aka ka.length akc] #[.int .i64 sb, .string (B tb), .slice bka kb.length bkc] 56 l' x w') ?hsz ?hend ?hstep ?hgo _ _ _ _ ?h0 ?hc
   case hsz =>
    rintro l' a' w' ⟨x, _, h⟩
    exact h.sz
   case h0 => exact ⟨fun j => [u33, u34, u35, u36, u37, u38, u39, u40, u41, u42, u43, u44, u45, u46, u47, u48, u49, u50, u8, u9].getD j undef, rfl, TwoB.start rfl (Below.refl _ _).drew⟩
   case hc => exact Nat.le_of_eq rfl
   case hgo =>
    rintro l' a' w' ⟨x, rfl, h⟩ hr j hj
    have k0 : l'[0]? = some true := ze hr 0 (by simp) (by rw [h.sz]; rfl) (by simp [Region.binds, Array.getD_eq_getD_getElem?])
    have k1 : l'[1]? = some true := ze hr 1 (by simp) (by rw [h.sz]; rfl) (by simp [Region.binds, Array.getD_eq_getD_getElem?, k0])
    have k2 : l'[2]? = some true := ze hr 2 (by simp) (by rw [h.sz]; rfl) (by simp [Region.binds, Array.getD_eq_getD_getElem?])
    have k3 : l'[3]? = some true := ze hr 3 (by simp) (by rw [h.sz]; rfl) (by simp [Region.binds, Array.getD_eq_getD_getElem?])
    have k4 : l'[4]? = some true := ze hr 4 (by simp) (by rw [h.sz]; rfl) (by simp [Region.binds, Array.getD_eq_getD_getElem?, k2, k3])
    have k5 : l'[5]? = some true := ze hr 5 (by simp) (by rw [h.sz]; rfl) (by simp [Region.binds, Array.getD_eq_getD_getElem?, k4])
    have k6 : l'[6]? = some true := ze hr 6 (by simp) (by rw [h.sz]; rfl) (by simp [Region.binds, Array.getD_eq_getD_getElem?, k5])
    have k7 : l'[7]? = some true := ze hr 7 (by simp) (by rw [h.sz]; rfl) (by simp [Region.binds, Array.getD_eq_getD_getElem?, k1, k6])
    have k8 : l'[8]? = some true := ze hr 8 (by simp) (by rw [h.sz]; rfl) (by simp [Region.binds, Array.getD_eq_getD_getElem?, k7])
    have k9 : l'[9]? = some true := ze hr 9 (by simp) (by rw [h.sz]; rfl) (by simp [Region.binds, Array.getD_eq_getD_getElem?])
    have k10 : l'[10]? = some true := ze hr 10 (by simp) (by rw [h.sz]; rfl) (by simp [Region.binds, Array.getD_eq_getD_getElem?, k9])
    have k11 : l'[11]? = some true := ze hr 11 (by simp) (by rw [h.sz]; rfl) (by simp [Region.binds, Array.getD_eq_getD_getElem?])
    have k12 : l'[12]? = some true := ze hr 12 (by simp) (by rw [h.sz]; rfl) (by simp [Region.binds, Array.getD_eq_getD_getElem?])
    have k13 : l'[13]? = some true := ze hr 13 (by simp) (by rw [h.sz]; rfl) (by simp [Region.binds, Array.getD_eq_getD_getElem?, k11, k12])
    have k14 : l'[14]? = some true := ze hr 14 (by simp) (by rw [h.sz]; rfl) (by simp [Region.binds, Array.getD_eq_getD_getElem?, k13])
    have k15 : l'[15]? = some true := ze hr 15 (by simp) (by rw [h.sz]; rfl) (by simp [Region.binds, Array.getD_eq_getD_getElem?, k14])
    have k16 : l'[16]? = some true := ze hr 16 (by simp) (by rw [h.sz]; rfl) (by simp [Region.binds, Array.getD_eq_getD_getElem?, k10, k15])
    have k17 : l'[17]? = some true := ze hr 17 (by simp) (by rw [h.sz]; rfl) (by simp [Region.binds, Array.getD_eq_getD_getElem?, k16])
    have k18 : l'[18]? = some true := ze hr 18 (by simp) (by rw [h.sz]; rfl) (by simp [Region.binds, Array.getD_eq_getD_getElem?])
    have k19 : l'[19]? = some true := ze hr 19 (by simp) (by rw [h.sz]; rfl) (by simp [Region.binds, Array.getD_eq_getD_getElem?])
    have k20 : l'[20]? = some true := ze hr 20 (by simp) (by rw [h.sz]; rfl) (by simp [Region.binds, Array.getD_eq_getD_getElem?, k0, k1, k2, k3, k4, k5, k6, k7, k8, k9, k10, k11, k12, k13, k14, k15, k16, k17, k18, k19])
    have k21 : l'[21]? = some true := ze hr 21 (by simp) (by rw [h.sz]; rfl) (by simp [Region.binds, Array.getD_eq_getD_getElem?, k0, k1, k2, k3, k4, k5, k6, k7, k8, k9, k10, k11, k12, k13, k14, k15, k16, k17, k18, k19, k20])
    have hj : j < 22 := by simpa using hj
    rcases (by omega : j = 0 ∨ j = 1 ∨ j = 2 ∨ j = 3 ∨ j = 4 ∨ j = 5 ∨ j = 6 ∨ j = 7 ∨ j = 8 ∨ j = 9 ∨ j = 10 ∨ j = 11 ∨ j = 12 ∨ j = 13 ∨ j = 14 ∨ j = 15 ∨ j = 16 ∨ j = 17 ∨ j = 18 ∨ j = 19 ∨ j = 20 ∨ j = 21) with rfl | rfl | rfl | rfl | rfl | rfl | rfl | rfl | rfl | rfl | rfl | rfl | rfl | rfl | rfl | rfl | rfl | rfl | rfl | rfl | rfl | rfl
    all_goals assumption
   case hstep =>
    rintro l' a' w' j ⟨x, rfl, h⟩ hi
    have hi2 := hi
    unfold Region.ready at hi2
    rw [List.mem_filter] at hi2
    obtain ⟨hjj, hi3⟩ := hi2
    have hjj : j < 22 := by simpa using hjj
    have hjl : ¬ LL l' j := fun e => by
     unfold LL at e
     simp [Array.getD_eq_getD_getElem?, e] at hi3
    clear hi
    obtain ⟨g0, g1, x0, x1, x2, y0, y1, y2, qa, qb, pc⟩ := za HALL
    have g0 := zd h.bl g0
    have g1 := zd h.bl g1
    have x0 := zd h.bl x0
    have x1 := zd h.bl x1
    have x2 := zd h.bl x2
    have y0 := zd h.bl y0
    have y1 := zd h.bl y1
    have y2 := zd h.bl y2
    have qa := zd h.bl qa
    have qb := zd h.bl qb
    have pc := zd h.bl pc
    rcases (by omega : j = 0 ∨ j = 1 ∨ j = 2 ∨ j = 3 ∨ j = 4 ∨ j = 5 ∨ j = 6 ∨ j = 7 ∨ j = 8 ∨ j = 9 ∨ j = 10 ∨ j = 11 ∨ j = 12 ∨ j = 13 ∨ j = 14 ∨ j = 15 ∨ j = 16 ∨ j = 17 ∨ j = 18 ∨ j = 19 ∨ j = 20 ∨ j = 21) with rfl | rfl | rfl | rfl | rfl | rfl | rfl | rfl | rfl | rfl | rfl | rfl | rfl | rfl | rfl | rfl | rfl | rfl | rfl | rfl | rfl | rfl
    ·clear hi3
     refine wpOpIn_step rfl (fun K hK => ?_)
     go_simp
     exact hK _ _ ⟨_, by simp [v0], h.next 0 (by omega) hjl (v 0) (Below.refl _ _) (fun _ => rfl) (fun e => by omega)⟩
    ·have l0 : LL l' 0 := LL_of (by simp [Region.binds, Array.getD_eq_getD_getElem?] at hi3; simp [hi3])
     clear hi3
     have w0 := (h.val 0 (by omega) l0).trans v0
     refine wpOpIn_step rfl (fun K hK => ?_)
     go_simp
     exact hK _ _ ⟨_, by simp [w0, v1], h.next 1 (by omega) hjl (v 1) (Below.refl _ _) (fun _ => rfl) (fun e => by omega)⟩
    ·clear hi3
     refine wpOpIn_step rfl (fun K hK => ?_)
     go_simp
     exact hK _ _ ⟨_, by simp [v2], h.next 2 (by omega) hjl (v 2) (Below.refl _ _) (fun _ => rfl) (fun e => by omega)⟩
    ·clear hi3
     refine wpOpIn_step rfl (fun K hK => ?_)
     go_simp
     exact hK _ _ ⟨_, by simp [v3], h.next 3 (by omega) hjl (v 3) (Below.refl _ _) (fun _ => rfl) (fun e => by omega)⟩
    ·have l2 : LL l' 2 := LL_of (by simp [Region.binds, Array.getD_eq_getD_getElem?] at hi3; simp [hi3])
     have l3 : LL l' 3 := LL_of (by simp [Region.binds, Array.getD_eq_getD_getElem?] at hi3; simp [hi3])
     clear hi3
     have w2 := (h.val 2 (by omega) l2).trans v2
     have w3 := (h.val 3 (by omega) l3).trans v3
     refine wpOpIn_step rfl (fun K hK => ?_)
     go_simp
     exact hK _ _ ⟨_, by simp [w2, w3, v4], h.next 4 (by omega) hjl (v 4) (Below.refl _ _) (fun _ => rfl) (fun e => by omega)⟩
    ·have l4 : LL l' 4 := LL_of (by simp [Region.binds, Array.getD_eq_getD_getElem?] at hi3; simp [hi3])
     clear hi3
     have w4 := (h.val 4 (by omega) l4).trans v4
     refine wpOpIn_step rfl (fun K hK => ?_)
     go_simp
     exact hK _ _ ⟨_, by simp [w4, v5], h.next 5 (by omega) hjl (v 5) (Below.refl _ _) (fun _ => rfl) (fun e => by omega)⟩
    ·have l5 : LL l' 5 := LL_of (by simp [Region.binds, Array.getD_eq_getD_getElem?] at hi3; simp [hi3])
     clear hi3
     have w5 := (h.val 5 (by omega) l5).trans v5
     refine wpOpIn_step rfl (fun K hK => ?_)
     go_simp
     exact hK _ _ ⟨_, by simp [w5, v6], h.next 6 (by omega) hjl (v 6) (Below.refl _ _) (fun _ => rfl) (fun e => by omega)⟩
    ·have l1 : LL l' 1 := LL_of (by simp [Region.binds, Array.getD_eq_getD_getElem?] at hi3; simp [hi3])
     have l6 : LL l' 6 := LL_of (by simp [Region.binds, Array.getD_eq_getD_getElem?] at hi3; simp [hi3])
     clear hi3
     have w1 := (h.val 1 (by omega) l1).trans v1
     have w6 := (h.val 6 (by omega) l6).trans v6
     refine wpOpIn_step rfl (fun K hK => ?_)
     go_simp
     exact hK _ _ ⟨_, by simp [w1, w6, v7], h.next 7 (by omega) hjl (v 7) (Below.refl _ _) (fun _ => rfl) (fun e => by omega)⟩
    ·have l7 : LL l' 7 := LL_of (by simp [Region.binds, Array.getD_eq_getD_getElem?] at hi3; simp [hi3])
     clear hi3
     have w7 := (h.val 7 (by omega) l7).trans v7
     refine wpOpIn_step rfl (fun K hK => ?_)
     go_simp
     exact hK _ _ ⟨_, by simp [w7, v8], h.next 8 (by omega) hjl (v 8) (Below.refl _ _) (fun _ => rfl) (fun e => by omega)⟩
    ·clear hi3
     refine wpOpIn_step rfl (fun K hK => ?_)
     go_simp
     exact hK _ _ ⟨_, by simp [v9], h.next 9 (by omega) hjl (v 9) (Below.refl _ _) (fun _ => rfl) (fun e => by omega)⟩
    ·have l9 : LL l' 9 := LL_of (by simp [Region.binds, Array.getD_eq_getD_getElem?] at hi3; simp [hi3])
     clear hi3
     have w9 := (h.val 9 (by omega) l9).trans v9
     refine wpOpIn_step rfl (fun K hK => ?_)
     go_simp
     exact hK _ _ ⟨_, by simp [w9, v10], h.next 10 (by omega) hjl (v 10) (Below.refl _ _) (fun _ => rfl) (fun e => by omega)⟩
    ·clear hi3
     refine wpOpIn_step rfl (fun K hK => ?_)
     go_simp
     exact hK _ _ ⟨_, by simp [v11], h.next 11 (by omega) hjl (v 11) (Below.refl _ _) (fun _ => rfl) (fun e => by omega)⟩
    ·clear hi3
     refine wpOpIn_step rfl (fun K hK => ?_)
     go_simp
     exact hK _ _ ⟨_, by simp [v12], h.next 12 (by omega) hjl (v 12) (Below.refl _ _) (fun _ => rfl) (fun e => by omega)⟩
    ·have l11 : LL l' 11 := LL_of (by simp [Region.binds, Array.getD_eq_getD_getElem?] at hi3; simp [hi3])
     have l12 : LL l' 12 := LL_of (by simp [Region.binds, Array.getD_eq_getD_getElem?] at hi3; simp [hi3])
     clear hi3
     have w11 := (h.val 11 (by omega) l11).trans v11
     have w12 := (h.val 12 (by omega) l12).trans v12
     refine wpOpIn_step rfl (fun K hK => ?_)
     go_simp
     exact hK _ _ ⟨_, by simp [w11, w12, v13], h.next 13 (by omega) hjl (v 13) (Below.refl _ _) (fun _ => rfl) (fun e => by omega)⟩
    ·have l13 : LL l' 13 := LL_of (by simp [Region.binds, Array.getD_eq_getD_getElem?] at hi3; simp [hi3])
     clear hi3
     have w13 := (h.val 13 (by omega) l13).trans v13
     refine wpOpIn_step rfl (fun K hK => ?_)
     go_simp
     exact hK _ _ ⟨_, by simp [w13, v14], h.next 14 (by omega) hjl (v 14) (Below.refl _ _) (fun _ => rfl) (fun e => by omega)⟩
    ·have l14 : LL l' 14 := LL_of (by simp [Region.binds, Array.getD_eq_getD_getElem?] at hi3; simp [hi3])
     clear hi3
     have w14 := (h.val 14 (by omega) l14).trans v14
     refine wpOpIn_step rfl (fun K hK => ?_)
     go_simp
     exact hK _ _ ⟨_, by simp [w14, v15], h.next 15 (by omega) hjl (v 15) (Below.refl _ _) (fun _ => rfl) (fun e => by omega)⟩
    ·have l10 : LL l' 10 := LL_of (by simp [Region.binds, Array.getD_eq_getD_getElem?] at hi3; simp [hi3])
     have l15 : LL l' 15 := LL_of (by simp [Region.binds, Array.getD_eq_getD_getElem?] at hi3; simp [hi3])
     clear hi3
     have w10 := (h.val 10 (by omega) l10).trans v10
     have w15 := (h.val 15 (by omega) l15).trans v15
     refine wpOpIn_step rfl (fun K hK => ?_)
     go_simp
     exact hK _ _ ⟨_, by simp [w10, w15, v16], h.next 16 (by omega) hjl (v 16) (Below.refl _ _) (fun _ => rfl) (fun e => by omega)⟩
    ·have l16 : LL l' 16 := LL_of (by simp [Region.binds, Array.getD_eq_getD_getElem?] at hi3; simp [hi3])
     clear hi3
     have w16 := (h.val 16 (by omega) l16).trans v16
     refine wpOpIn_step rfl (fun K hK => ?_)
     go_simp
     exact hK _ _ ⟨_, by simp [w16, v17], h.next 17 (by omega) hjl (v 17) (Below.refl _ _) (fun _ => rfl) (fun e => by omega)⟩
    ·clear hi3
     refine wpOpIn_step rfl (fun K hK => ?_)
     go_simp
     exact hK _ _ ⟨_, by simp, h.next 18 (by omega) hjl (.pointer (some ⟨w'.heap.size, 0, none⟩)) (zf (Below.refl _ _) (.cells #[.int .i64 0, .string ⟨#[]⟩, .slice none 0 0] 56)) (fun e => by omega) (fun _ => ⟨rfl, AtC.new _ _ _⟩)⟩
    ·clear hi3
     refine wpOpIn_step rfl (fun K hK => ?_)
     go_simp
     exact hK _ _ ⟨_, by simp, h.next 19 (by omega) hjl (.pointer (some ⟨w'.heap.size, 0, none⟩)) (zf (Below.refl _ _) (.cells #[.int .i64 0, .string ⟨#[]⟩, .slice none 0 0] 56)) (fun e => by omega) (fun _ => ⟨rfl, AtC.new _ _ _⟩)⟩
    ·have l8 : LL l' 8 := LL_of (by simp [Region.binds, Array.getD_eq_getD_getElem?] at hi3; simp [hi3])
     have l18 : LL l' 18 := LL_of (by simp [Region.binds, Array.getD_eq_getD_getElem?] at hi3; simp [hi3])
     clear hi3
     have w8 := (h.val 8 (by omega) l8).trans v8
     obtain ⟨gg, e5, hM, hn⟩ := h.put1 hjl l18
     have m0 := hM.c 0
     have m1 := hM.c 1
     have m2 := hM.c 2
     have mf := hM.f
     simp only [List.getElem?_toArray, List.getElem?_cons_zero, List.getElem?_cons_succ] at m0 m1 m2
     have HN := hide hn
     clear hM hn
     refine wpOpIn_step rfl (fun K hK => ?_)
     go_simp
     exact hK _ _ ⟨_, by simp [w8, e5], za HN⟩
    ·have l17 : LL l' 17 := LL_of (by simp [Region.binds, Array.getD_eq_getD_getElem?] at hi3; simp [hi3])
     have l19 : LL l' 19 := LL_of (by simp [Region.binds, Array.getD_eq_getD_getElem?] at hi3; simp [hi3])
     clear hi3
     have w17 := (h.val 17 (by omega) l17).trans v17
     obtain ⟨gg, e5, hM, hn⟩ := h.put2 hjl l19
     have m0 := hM.c 0
     have m1 := hM.c 1
     have m2 := hM.c 2
     have mf := hM.f
     simp only [List.getElem?_toArray, List.getElem?_cons_zero, List.getElem?_cons_succ] at m0 m1 m2
     have HN := hide hn
     clear hM hn
     refine wpOpIn_step rfl (fun K hK => ?_)
     go_simp
     exact hK _ _ ⟨_, by simp [w17, e5], za HN⟩
   case hend =>
    rintro l' a' w' ⟨x, rfl, h⟩ hall
    obtain ⟨b8, b9, e1, e2, hg8, hg9, A8, A9, hbl⟩ := h.done (hall 20 (by simp)) (hall 21 (by simp))
    rw [e1, e2]
    have hst := Steps.below (B := w.heap.size) (za HK).size hbl
    have HK1 := hide ((za HK).steps hst)
    have HM1 := hide ((za HM).below hbl)
    have hJ1 := hst.tr J (L.take i) (za HJ) (za HJi)
    have hLi := Y7 (za HLS).pre (za HPI)
    have htk : L.take i ++ [(pa, pb)] = L.take (i + 1) := by rw [List.take_add_one, hLi]; rfl
    have hyy := (za HY0) (L.take i) (pa, pb) w' hJ1 (by rw [htk]; exact List.take_prefix _ _)
    simp only at hyy
    rw [za HVA, za HVB, htk] at hyy
    obtain ⟨fn, tmps, assign, body, hyr, hR⟩ := hyy
    have m0 := A8.c 0
    have m1 := A8.c 1
    have m2 := A8.c 2
    have n0 := A9.c 0
    have n1 := A9.c 1
    have n2 := A9.c 2
    simp only [List.getElem?_toArray, List.getElem?_cons_zero, List.getElem?_cons_succ] at m0 m1 m2 n0 n1 n2
    have HA8 := hide A8
    have HA9 := hide A9
    clear h hall hst hJ1 hLi htk A8 A9 hbl HALL HK HM HJi v0 v1 v2 v3 v4 v5 v6 v7 v8 v9 v10 v11 v12 v13 v14 v15 v16 v17 g0 g1 x0 x1 x2 y0 y1 y2 qa qb pc
    gi_wp2_with fail
    refine hR.mono ?_
    rintro e W8 (⟨rfl, hJ8, hk8⟩ | ⟨rfl, hJx8⟩)
    ·have HK8 := hide ((za HK1).trans hk8)
     have HM8 := hide ((za HM1).kc hk8)
     have HB8 := hide ((za HA8).kc hk8)
     have HB9 := hide ((za HA9).kc hk8)
     have HJ8 := hide hJ8
     have p2 := (za HB8).c 2
     have q2 := (za HB9).c 2
     simp only [List.getElem?_toArray, List.getElem?_cons_zero, List.getElem?_cons_succ] at p2 q2
     clear hk8 hJ8 m0 m1 m2 n0 n1 n2 HA8 HA9 HM1 HK1 hyr hR
     obtain ⟨zl, hzl⟩ : ∃ z, (ka.zip kb).length = z := ⟨_, rfl⟩
     have hz : min (ka.length : Int) (kb.length : Int) = (zl : Int) := by rw [← hzl, List.length_zip]; omega
     have HZL := hide hzl
     clear hzl
     gi_wp2_with fail
     gi_loopw [63] (fun kv wr2 => ∃ (k : Nat) (lq : List (Int × Int)), k ≤ zl ∧ kv = .int .i64 k ∧ Hid (lq = nxtP lp ((ka.zip kb).take k)) ∧ Hid (MeetS wr2 w.heap.size w.heap.size (w.heap.size + 1) (w.heap.size + 1 + 1 + 1) ms.length nm lq) ∧ Hid (J (L.take (i + 1)) wr2) ∧ Hid (KC w wr2) ∧ Hid (AtC wr2 b8 #[.int .i64 sa, .string (B ta), .slice aka ka.length akc] 56) ∧ Hid (AtC wr2 b9 #[.int .i64 sb, .string (B tb), .slice bka kb.length bkc] 56))
      (fun kv _ => zl - (intOf kv).toNat)
     case atStart => exact ⟨0, lp, by omega, rfl, hide rfl, HM8, HJ8, HK8, HB8, HB9⟩
     case round =>
      clear HM8 HJ8 HK8 HB8 HB9 p2 q2
      obtain ⟨k, lq, hkz, rfl, HLQ, HM, HJk, HK, HB8, HB9⟩ := hrel
      by_cases hkl : k < zl
      ·have HKL : Hid (k + 1 ≤ zl ∧ zl - (k + 1) < zl - k) := hide ⟨by omega, by omega⟩
       have hzz := za HZL
       rw [List.length_zip] at hzz
       have hk9 : k < 9223372036854775807 := by
        have h1 := ak2
        unfold maxLen at h1
        omega
       obtain ⟨px, hpx⟩ : ∃ z, ka[k]? = some z := ⟨_, List.getElem?_eq_getElem (by omega)⟩
       obtain ⟨py, hpy⟩ : ∃ z, kb[k]? = some z := ⟨_, List.getElem?_eq_getElem (by omega)⟩
       have hkid : kidsP ns ms pa pb = ka.zip kb := by unfold kidsP; rw [jj (za HNA), jj (za HNB)]
       have hzk : (ka.zip kb)[k]? = some (px, py) := by rw [List.getElem?_zip_eq_some]; exact ⟨hpx, hpy⟩
       have hinn := fun z hz => js (za HOK).1 (za HOK).2 pa pb ((za HL).2 _ (List.mem_of_getElem? (za HPI))) z hz
       rw [hkid] at hinn
       have HIN := hide (hinn _ (List.mem_of_getElem? hzk))
       have hok := jU (za HL).1 (za HL).2 (ks := (ka.zip kb).take k) (fun z hz => hinn z (List.mem_of_mem_take hz))
       rw [← za HLQ] at hok
       have hlq : lq.length ≤ 6400 := by have := jb hok.1 hok.2.1; rw [za HNM] at this; omega
       have HNX : Hid ((if (px, py) ∈ lq then lq else lq ++ [(px, py)]) = nxtP lp ((ka.zip kb).take (k + 1))) := hide (by rw [JY hzk, ← za HLQ])
       obtain ⟨kb1, ko1, rfl, _, c1⟩ := ((za HKA).kc (za HK)).cell hpx
       obtain ⟨kb2, ko2, rfl, _, c2⟩ := ((za HKB).kc (za HK)).cell hpy
       have p2 := (za HB8).c 2
       have q2 := (za HB9).c 2
       have qb := ((za HB).kc (za HK)).c 0
       simp only [List.getElem?_toArray, List.getElem?_cons_zero, List.getElem?_cons_succ] at p2 q2 qb
       have hka : k < ka.length := by omega
       have hkb : k < kb.length := by omega
       have HMC : Hid (∀ W, Below wr.heap.size wr W → Calls Tryz.prog 98 #[.int .i64 px, .int .i64 py, .pointer (some ⟨bB, 0, none⟩), .pointer (some ⟨w.heap.size + 1, 0, none⟩), .pointer (some ⟨w.heap.size + 1 + 1 + 1, 0, none⟩)] W fun e W' => (∃ v, e = .returned v) ∧ Steps w.heap.size W W' ∧ MeetS W' w.heap.size w.heap.size (w.heap.size + 1) (w.heap.size + 1 + 1 + 1) ms.length nm (if (px, py) ∈ lq then lq else lq ++ [(px, py)]) ∧ ∀ b cs, AtC W b cs 56 → AtC W' b cs 56) := hide (fun W hb => by
        have hm := (za HM).below hb
        rw [← za HNM] at hm ⊢
        exact X6 px py ns.length ms.length w.heap.size bB w.heap.size (w.heap.size + 1) (w.heap.size + 1 + 1 + 1) yc (some ⟨yb, yo, none⟩) lq W (za HIN) hl1 hl2 hlq (zd hb qb) hm (Nat.le_trans (za HK).size hb.size))
       clear hzz hpx hpy hkid hzk hinn hok hlq qb HLQ
       gi_wp2_with fail
       gi_region_with ((refine ⟨trivial, (callsIn_wide.2 (za HMC wr.drew (Below.refl _ _).drew)).mono ?_⟩; rintro e w9 ⟨⟨v9, rfl⟩, hs9, hm9, hf9⟩; have HS9 := hide hs9; have HM9 := hide hm9; have HF9 := hide hf9; clear hs9 hm9 hf9))
       all_goals
        have hst := (Steps.below (za HK).size (Below.refl wr.heap.size wr).drew).trans (za HS9)
        have HK9 := hide ((za HK).steps hst)
        have HJ9 := hide (hst.tr J _ (za HJ) (za HJk))
        have HC8 := hide (za HF9 _ _ ((za HB8).below (Below.refl wr.heap.size wr).drew))
        have HC9 := hide (za HF9 _ _ ((za HB9).below (Below.refl wr.heap.size wr).drew))
        have hm9 := za HM9
        rw [za HNX] at hm9
        have HM9' := hide hm9
        clear hst hm9
        gi_wp2_with fail
        exact ⟨⟨_, _, (za HKL).1, by go_num, hide rfl, HM9', HJ9, HK9, HC8, HC9⟩, by have := (za HKL).2; simpa [intOf] using this⟩
      ·obtain rfl : k = zl := by omega
       have hkid : kidsP ns ms pa pb = ka.zip kb := by unfold kidsP; rw [jj (za HNA), jj (za HNB)]
       have hq : lq = nxtP lp (kidsP ns ms pa pb) := by rw [za HLQ, hkid, List.take_of_length_le (by rw [za HZL]; exact Nat.le_refl _)]
       have hok := jU (za HL).1 (za HL).2 (ks := kidsP ns ms pa pb) (fun z hz => js (za HOK).1 (za HOK).2 pa pb ((za HL).2 _ (List.mem_of_getElem? (za HPI))) z hz)
       have hF2 := (za HLS).next (za HPI)
       have hlen : i + 1 ≤ (nxtP lp (kidsP ns ms pa pb)).length := by
        obtain ⟨r, hr⟩ := hok.2.2
        rw [hr, List.length_append]; omega
       rw [← hq] at hok hF2 hlen
       have HL2 := hide (And.intro hok.1 hok.2.1)
       have HF2 := hide hF2
       clear hkid hq hok hF2
       gi_wp2_with fail
       exact ⟨⟨lq, i + 1, hlen, by go_num, HM, HJk, HK, HL2, HF2⟩, by simp [intOf]; omega⟩
    ·have HJX := hide hJx8
     clear hJx8
     gi_wp2_with fail
     refine bodyPost_ret (results_none rfl _ _ _) rfl ?_
     exact ⟨⟨_, rfl⟩, .inr ⟨_, List.take_prefix _ _, za HJX⟩⟩
  ·obtain rfl : i = lp.length := by omega
   have e := (za HLS).done
   subst e
   have hj := za HJi
   rw [List.take_of_length_le (Nat.le_refl _)] at hj
   have HJL := hide hj
   clear hj HJi hpv hrow hil hll
   gi_wp2_with fail
   go_end0
   exact ⟨⟨_, rfl⟩, .inl (za HJL)⟩
end Go.Proofs.YtpbnmhnbkfnaeaaGreatDoor
namespace Go.Proofs.YtpbnmhnbkfnaeaaGreatDoor
open Go.RowKit Nt
theorem ZW (s t : Value) (a b : Int) (p q : Option Addr) (l r c d : Nat) (hs : s = .slice p l c) (ht : t = .slice q r d) (w : World) :
  Calls Tryz.prog 61 #[.agg #[s, .int .i64 a], .agg #[t, .int .i64 b]] w fun e w' => e = .returned (.func (.func 97) #[] #[.pointer (some ⟨w.heap.size, 0, none⟩), .pointer (some ⟨w.heap.size + 1, 0, none⟩)]) ∧ w' = (w.alloc (.cells #[s, .int .i64 a] 52)).alloc (.cells #[t, .int .i64 b] 52) := by
 subst hs
 subst ht
 go_enter Tryz.func61, Tryz.ntmps61
 go_wp2_with fail
 go_ret
 exact ⟨rfl, rfl⟩
end Go.Proofs.YtpbnmhnbkfnaeaaGreatDoor
namespace Go.Proofs.YtpbnmhnbkfnaeaaGreatDoor
open Go.RowKit Nt
variable {F : Fence} {n : Nat} {P : Program}
theorem kZ {α : Type} {g : Operand} {ps : Array Tmp} {assign body : Code} {Q : Exit → Act → World → Prop} {a : Act} {w : World}
  (hro : F.round = none) (h1 : 1 ≤ n) {gf : Nat} {lb : Array Value} (hg : a.eval g = .func (.func gf) #[] lb) (hFg : F.fn gf) (eg : ∀ args w, (callFunc gf args).run P w = .ok (.enter gf args) w)
  {encs : α → Array Value} {L : List α} (hseq : SeqC F (n - 1) P gf lb encs L w) (hps : ∀ x, (encs x).size = ps.size)
  (I Ix : List α → World → Prop) (hI : Turns w.heap.size I) (hIx : Turns w.heap.size Ix) (h0 : I [] w) (Asg : α → World → Act → World → Prop) (hA : ∀ {x W a1 W1}, Asg x W a1 W1 → Below W.heap.size W W1)
  (hassign : ∀ (l : Nat) (x : α), x ∈ L → ∀ (W : World) (K : Act → World → Prop), (∀ a1 W1, Asg x W a1 W1 → K a1 W1) →
   assign.wpIn (F.inRound l) (n - 1 - 1) P (Exit.then K (fun _ _ _ => False)) { tmps := (ps.zip (encs x)).foldl (fun t (p, v) => t.setIfInBounds p v) a.tmps, defers := [] } W)
  (hbody : ∀ (l : Nat) (pre : List α) (x : α) (W W1 W2 : World) (a1 : Act), Asg x W a1 W1 → KC W1 W2 → I pre W2 → (pre ++ [x]) <+: L → body.wpIn (F.inRound l) (n - 1 - 1) P (LeftC w.heap.size I Ix (pre ++ [x]) W2) a1 W2)
  (hdone : ∀ (D : Nat) (W : World), w.heap.size ≤ D → I L W → W.heap[D]? = some (.deferred (some [])) → Q .normal { a with defers := { target := .collected D, args := #[] } :: a.defers } W)
  (hstop : ∀ (D : Nat) (pre : List α) (W : World), w.heap.size ≤ D → pre <+: L → Ix pre W → W.heap[D]? = some (.deferred (some [])) → Code.ret.wpIn F n P Q { a with defers := { target := .collected D, args := #[] } :: a.defers } W) :
  (Code.rangeFunc g ps assign body).wpIn F n P Q a w := by
 refine wpIn_rangeFunc (fun fn hfn => ?_)
 rw [hro]
 obtain ⟨R, hR⟩ : ∃ R : LoopState → Option Code → Loop, ∀ s p, R s p = { state := s, pending := p, fn, tmps := a.tmps, params := ps, assign, body, defers := w.heap.size } := ⟨_, fun _ _ => rfl⟩
 have hne : w.heap.size ≠ w.heap.size + 1 := by omega
 have hrec : Recs ((w.alloc (.deferred (some []))).alloc (.loop (R .ready none))) w.heap.size (w.heap.size + 1) (R .ready none) := by
  refine ⟨?_, (Below.heap_alloc _ _ _ (by simp)).trans (World.alloc_heap_new w _)⟩
  have h := World.alloc_heap_new (w.alloc (.deferred (some []))) (.loop (R .ready none))
  rwa [World.size_alloc] at h
 have hin : I [] ((w.alloc (.deferred (some []))).alloc (.loop (R .ready none))) := hI.new (hI.new h0 _) _
 have hbel := zf (zf (Below.refl w.heap.size w) (.deferred (some []))) (.loop (R .ready none))
 have hent : (Instr.enterLoop fn a.tmps ps assign body none).run P w = .ok (w.heap.size + 1, [{ target := .collected w.heap.size, args := #[] }]) ((w.alloc (.deferred (some []))).alloc (.loop (R .ready none))) := by
  rw [hR]; exact run_enterLoop_outer _ _ _ _ _
 have hsz : w.heap.size + 2 = ((w.alloc (.deferred (some []))).alloc (.loop (R .ready none))).heap.size := by simp
 obtain ⟨W1, hW1⟩ : ∃ W1, (w.alloc (.deferred (some []))).alloc (.loop (R .ready none)) = W1 := ⟨_, rfl⟩
 rw [hW1] at hrec hin hbel hent hsz
 have turn : ∀ {β : Type} {K : β → World → Prop}, Turns w.heap.size K → Je W1.heap.size K := fun hK s A B row hs hg' hr => hK s A B row hs hg' (fun r e => by have := (hr r e).1; omega)
 refine ⟨w.heap.size + 1, _, W1, { target := .fn (.func gf) lb, args := #[.func (.yield (w.heap.size + 1)) #[] #[]] }, W1, gf, #[.func (.yield (w.heap.size + 1)) #[] #[]] ++ lb, W1, hent, ?_, ?_, ?_, fun _ => h1, ?_⟩
 ·simp only [resolve, hg]
  simp [go_sem]
 ·intro f' hf'
  simp [Target.leads] at hf'
  subst hf'
  exact hFg
 ·simp [invoke, go_sem, eg]
 refine (hseq (w.heap.size + 1) (fun pre W => I pre W ∧ Recs W w.heap.size (w.heap.size + 1) (R .ready none)) (fun pre W => Ix pre W ∧ Recs W w.heap.size (w.heap.size + 1) (R .done (some .ret))) W1 hbel
  (fun s A B row hs hg' hr => ⟨turn hI s A B row hs.1 hg' hr, hs.2.turn hg' (fun k e => (hr k e).2)⟩)
  (fun s A B row hs hg' hr => ⟨turn hIx s A B row hs.1 hg' hr, hs.2.turn hg' (fun k e => (hr k e).2)⟩)
  ?_ ⟨hin, hrec⟩).mono ?_
 ·rintro pre x W ⟨hi, hr⟩ hpx
  have hy := run_yield (P := P) (args := encs x) hr.1 (by rw [hR]; exact hps x)
  rw [hR] at hy
  refine ⟨fn, _, assign, body, hy, roundIn_of_wpIn hfn (hassign _ x (List.IsPrefix.mem (by simp) hpx) W _ (fun a1 Wn hasg => ?_))⟩
  have hbn := hA hasg
  have hgn : W.grownBy Wn none := ⟨hbn.os, hbn.tape, hbn.output, hbn.size, fun k hk _ => hbn.block k hk⟩
  have hi := hI pre W Wn none hi hgn (fun r e => by cases e)
  have hr := hr.turn hgn (fun k e => by cases e)
  refine ⟨_, run_beginRound hr.1 (by rw [hR]), ?_⟩
  have hr2 := hr.put hne { R .ready none with state := .busy }
  refine wpIn_mono (hbody _ pre x W Wn _ a1 hasg (KC.put hr.1 rfl) (hI.put (by omega) hi _) hpx) ?_
  have kcn := KC.of_below hbn
  have kc := KC.put (o' := .loop { R .ready none with state := .busy }) hr.1 rfl
  obtain ⟨W2, hW2⟩ : ∃ W2, Wn.putObj (w.heap.size + 1) (.loop { R .ready none with state := .busy }) = W2 := ⟨_, rfl⟩
  rw [hW2] at hr2 kc ⊢
  rintro e a3 W3 hp
  cases e with
  | normal =>
   obtain ⟨k1, k2, k3⟩ := hp
   have hr3 := hr2.from k1 (by omega) (by omega)
   have he := run_endRound (P := P) none hr3.1
   have hr4 := hr3.put hne (R .ready none)
   rw [hR] at he hr4 ⊢
   exact ⟨_, _, he, .inl ⟨rfl, ⟨hI.put (by omega) k3 _, hr4⟩, ((kcn.trans kc).trans k2).trans (KC.put hr3.1 rfl)⟩⟩
  | ret =>
   obtain ⟨k1, k3⟩ := hp
   have hr3 := hr2.from k1 (by omega) (by omega)
   have he := run_endRound (P := P) (some .ret) hr3.1
   have hr4 := hr3.put hne (R .done (some .ret))
   rw [hR] at he
   rw [hR] at hr4
   exact ⟨_, _, he, .inr ⟨rfl, hIx.put (by omega) k3 _, by rw [hR]; exact hr4⟩⟩
  | exit id => exact hp.elim
  | goto t => exact hp.elim
  | panic ch => exact hp.elim
  | outgrown => exact hp.elim
 ·rintro e W2 ⟨⟨v, rfl⟩, (⟨hi, hr⟩ | ⟨pre, hp, hi, hr⟩)⟩
  ·have he := run_endLoop (P := P) hr.1 (by rw [hR]; simp)
   have hr4 := hr.put hne { R .ready none with state := .exhausted }
   rw [hR] at he hr4
   exact ⟨none, _, he, hdone _ _ (Nat.le_refl _) (hI.put (by omega) hi _) hr4.2⟩
  ·have he := run_endLoop (P := P) hr.1 (by rw [hR]; simp)
   have hr4 := hr.put hne { R .done (some .ret) with state := .exhausted }
   rw [hR] at he hr4
   exact ⟨some .ret, _, he, hstop _ pre _ (Nat.le_refl _) hp (hIx.put (by omega) hi _) hr4.2⟩
end Go.Proofs.YtpbnmhnbkfnaeaaGreatDoor
namespace Go.Proofs.YtpbnmhnbkfnaeaaGreatDoor
open Go.RowKit Go.Shelf Nt
attribute [local go_sem] Oper.semAt_some
theorem KM (s : ByteArray) : sizeM s ≤ 4 := by
 unfold sizeM
 split
 ·omega
 ·rw [yz]
  split
  ·omega
  ·split
   ·omega
   ·split <;> omega
theorem Xa {s : Int} {t : List UInt8} (h : textM s t = true) : t.length ≤ 1000 := by
 unfold textM at h
 split at h
 ·unfold jO at h
  cases e : zu t 10 with
  | none => rw [e] at h; exact absurd h (by simp)
  | some p =>
   unfold zu at e
   split at e
   ·rename_i e'
    simp only [Bool.and_eq_true, decide_eq_true_eq] at e'
    omega
   ·cases e
 ·split at h
  ·unfold symM at h
   simp only [Bool.and_eq_true] at h
   have h := h.2
   unfold wordM at h
   cases t with
   | nil => simp
   | cons a r =>
    simp only [Bool.and_eq_true, decide_eq_true_eq] at h
    omega
  ·split at h
   ·simp only [Bool.and_eq_true, decide_eq_true_eq] at h
    omega
   ·split at h
    ·unfold oneM at h
     simp only [Bool.and_eq_true, decide_eq_true_eq] at h
     have := KM (B t)
     omega
    ·split at h
     ·simp only [Bool.or_eq_true, decide_eq_true_eq] at h
      rcases h with rfl | rfl <;> simp
     ·split at h
      ·simp only [decide_eq_true_eq] at h
       omega
      ·simp only [decide_eq_true_eq] at h
       rw [h]; simp
theorem YG {n : Nat} {nd : Nd} (h : ndOk n nd = true) : nd.2.1.length ≤ 1000 := by
 unfold ndOk at h
 simp only [Bool.and_eq_true] at h
 exact Xa h.1.2
theorem JC {ns : List Nd} {w : World} {b off c : Nat} (h : NodesAt w (.slice (some ⟨b, off, none⟩) ns.length c) ns) {x : Int} (hx : 0 ≤ x ∧ x < ns.length) :
  ∃ ka kc, nvA ns w b off x = .agg #[.int .i64 (ndI ns x).1, .string (B (ndI ns x).2.1), .slice ka (ndI ns x).2.2.length kc] := by
 obtain ⟨nd, hnd⟩ : ∃ nd, ns[x.toNat]? = some nd := ⟨_, List.getElem?_eq_getElem (show x.toNat < ns.length by omega)⟩
 obtain ⟨kv, _, _, c2, _, ka, kc, rfl, _⟩ := h.node hnd
 refine ⟨ka, kc, ?_⟩
 unfold nvA
 rw [jj hnd, c2]
 rfl
theorem Turns.kept {β : Type} {B : Nat} {S : Nat → Prop} {w₀ : World} (hB : w₀.heap.size ≤ B) : Turns B (fun (_ : β) W => Kept S w₀ W) :=
 fun _ X Y row hs hg hr => ⟨hg.os.trans hs.os, hg.tape.trans hs.tape, hg.output.trans hs.output, Nat.le_trans hs.size hg.size, fun b hb hn => by
  refine (hg.block b (Nat.lt_of_lt_of_le hb hs.size) (fun e => ?_)).trans (hs.block b hb hn)
  have := hr b e.symm
  omega⟩
theorem QJ (ns ms : List Nd) (a b : Int) (xb xo xc yb yo yc : Nat) (w : World) (hx : NodesAt w (.slice (some ⟨xb, xo, none⟩) ns.length xc) ns) (hy : NodesAt w (.slice (some ⟨yb, yo, none⟩) ms.length yc) ms)
  (okn : ns.all (ndOk ns.length) = true) (okm : ms.all (ndOk ms.length) = true) (hab : InP ns.length ms.length (a, b)) (hl1 : ns.length ≤ 80) (hl2 : ms.length ≤ 80) (hT : Tens w) (h3 : 3 < w.heap.size) :
  Calls Tryz.prog 32 #[.agg #[.slice (some ⟨xb, xo, none⟩) ns.length xc, .int .i64 a], .agg #[.slice (some ⟨yb, yo, none⟩) ms.length yc, .int .i64 b]] w fun e w' => e = .returned (.int .i64 (cmpAt ns ms a b)) ∧ Below w.heap.size w w' := by
 refine (callsIn_wide (n := 3)).1 ?_
 refine callsIn_of_wp_marks Tryz.func32 rfl trivial ?_ rfl
 simp only [Tryz.ntmps32, List.size_toArray, List.length_cons, List.length_nil, Nat.reduceAdd, Nat.reduceSub, Array.replicate_succ, Array.replicate_zero, List.push_toArray, List.append_toArray, List.nil_append, List.cons_append]
 gi_wp2_with fail
 refine ⟨trivial, (callsIn_wide.2 (ZW _ _ a b (some ⟨xb, xo, none⟩) (some ⟨yb, yo, none⟩) ns.length ms.length xc yc rfl rfl _)).mono ?_⟩
 rintro e w1 ⟨rfl, rfl⟩
 have hbel := zf (zf (zf (zf (zf (Below.refl w.heap.size w) (.cells #[.slice (some ⟨xb, xo, none⟩) ns.length xc, .int .i64 a] 52)) (.cells #[.slice (some ⟨yb, yo, none⟩) ms.length yc, .int .i64 b] 52)) (.cells #[.int .i64 0] 3)) (.cells #[.slice (some ⟨xb, xo, none⟩) ns.length xc, .int .i64 a] 52)) (.cells #[.slice (some ⟨yb, yo, none⟩) ms.length yc, .int .i64 b] 52)
 have hbx : Boxed (((((w.alloc (.cells #[.slice (some ⟨xb, xo, none⟩) ns.length xc, .int .i64 a] 52)).alloc (.cells #[.slice (some ⟨yb, yo, none⟩) ms.length yc, .int .i64 b] 52)).alloc (.cells #[.int .i64 0] 3)).alloc (.cells #[.slice (some ⟨xb, xo, none⟩) ns.length xc, .int .i64 a] 52)).alloc (.cells #[.slice (some ⟨yb, yo, none⟩) ms.length yc, .int .i64 b] 52)) (w.heap.size + 1 + 1) 3 (.int .i64 0) := by
  have h := ((Boxed.new ((w.alloc (.cells #[.slice (some ⟨xb, xo, none⟩) ns.length xc, .int .i64 a] 52)).alloc (.cells #[.slice (some ⟨yb, yo, none⟩) ms.length yc, .int .i64 b] 52)) 3 (.int .i64 0)).alloc (.cells #[.slice (some ⟨xb, xo, none⟩) ns.length xc, .int .i64 a] 52)).alloc (.cells #[.slice (some ⟨yb, yo, none⟩) ms.length yc, .int .i64 b] 52)
  rwa [World.size_alloc, World.size_alloc] at h
 have ha : AtC (((((w.alloc (.cells #[.slice (some ⟨xb, xo, none⟩) ns.length xc, .int .i64 a] 52)).alloc (.cells #[.slice (some ⟨yb, yo, none⟩) ms.length yc, .int .i64 b] 52)).alloc (.cells #[.int .i64 0] 3)).alloc (.cells #[.slice (some ⟨xb, xo, none⟩) ns.length xc, .int .i64 a] 52)).alloc (.cells #[.slice (some ⟨yb, yo, none⟩) ms.length yc, .int .i64 b] 52)) (w.heap.size + 1 + 1 + 1) #[.slice (some ⟨xb, xo, none⟩) ns.length xc, .int .i64 a] 52 := by
  have h := (AtC.new (((w.alloc (.cells #[.slice (some ⟨xb, xo, none⟩) ns.length xc, .int .i64 a] 52)).alloc (.cells #[.slice (some ⟨yb, yo, none⟩) ms.length yc, .int .i64 b] 52)).alloc (.cells #[.int .i64 0] 3)) #[.slice (some ⟨xb, xo, none⟩) ns.length xc, .int .i64 a] 52).alloc (.cells #[.slice (some ⟨yb, yo, none⟩) ms.length yc, .int .i64 b] 52)
  rwa [World.size_alloc, World.size_alloc, World.size_alloc] at h
 have hb : AtC (((((w.alloc (.cells #[.slice (some ⟨xb, xo, none⟩) ns.length xc, .int .i64 a] 52)).alloc (.cells #[.slice (some ⟨yb, yo, none⟩) ms.length yc, .int .i64 b] 52)).alloc (.cells #[.int .i64 0] 3)).alloc (.cells #[.slice (some ⟨xb, xo, none⟩) ns.length xc, .int .i64 a] 52)).alloc (.cells #[.slice (some ⟨yb, yo, none⟩) ms.length yc, .int .i64 b] 52)) (w.heap.size + 1 + 1 + 1 + 1) #[.slice (some ⟨yb, yo, none⟩) ms.length yc, .int .i64 b] 52 := by
  have h := AtC.new ((((w.alloc (.cells #[.slice (some ⟨xb, xo, none⟩) ns.length xc, .int .i64 a] 52)).alloc (.cells #[.slice (some ⟨yb, yo, none⟩) ms.length yc, .int .i64 b] 52)).alloc (.cells #[.int .i64 0] 3)).alloc (.cells #[.slice (some ⟨xb, xo, none⟩) ns.length xc, .int .i64 a] 52)) #[.slice (some ⟨yb, yo, none⟩) ms.length yc, .int .i64 b] 52
  rwa [World.size_alloc, World.size_alloc, World.size_alloc, World.size_alloc] at h
 gi_wp2_with fail
 obtain ⟨W0, hW0⟩ : ∃ W0, ((((w.alloc (.cells #[.slice (some ⟨xb, xo, none⟩) ns.length xc, .int .i64 a] 52)).alloc (.cells #[.slice (some ⟨yb, yo, none⟩) ms.length yc, .int .i64 b] 52)).alloc (.cells #[.int .i64 0] 3)).alloc (.cells #[.slice (some ⟨xb, xo, none⟩) ns.length xc, .int .i64 a] 52)).alloc (.cells #[.slice (some ⟨yb, yo, none⟩) ms.length yc, .int .i64 b] 52) = W0 := ⟨_, rfl⟩
 rw [hW0] at hbel hbx ha hb ⊢
 have hseq := Ji ns ms a b xb xo xc yb yo yc (w.heap.size + 1 + 1 + 1) (w.heap.size + 1 + 1 + 1 + 1) W0 (hx.below hbel) (hy.below hbel) okn okm hab hl1 hl2 ha hb
 have HOK := hide (And.intro okn okm)
 have HFST := hide (KL okn okm hab)
 have HNX := hide (hx.below hbel)
 have HNY := hide (hy.below hbel)
 have HT0 := hide (And.intro (hT.belowB hbel h3) (Nat.lt_of_lt_of_le h3 hbel.size))
 have hbl := hbx.lt
 have HBX := hide hbx
 have HBL := hide hbel
 clear hx hy okn okm hab hT h3 hW0 ha hb hbx hbel
 refine kZ rfl (by decide) (gf := 97) (lb := #[.pointer (some ⟨w.heap.size + 1 + 1 + 1, 0, none⟩), .pointer (some ⟨w.heap.size + 1 + 1 + 1 + 1, 0, none⟩)]) rfl trivial (enters_of Tryz.func97 (by kernel_rfl) rfl) hseq (fun _ => rfl)
  (fun pre W => (∀ x ∈ pre, labP ns ms x.1 x.2 = 0) ∧ Below W0.heap.size W0 W)
  (fun pre W => (∃ p y, pre = p ++ [y] ∧ (∀ x ∈ p, labP ns ms x.1 x.2 = 0) ∧ labP ns ms y.1 y.2 ≠ 0 ∧ Boxed W (w.heap.size + 1 + 1) 3 (.int .i64 (labP ns ms y.1 y.2))) ∧ Kept (fun b => b = w.heap.size + 1 + 1) W0 W)
  (Turns.and (Turns.pure _ _) (Turns.below (Nat.le_refl _) (Nat.le_refl _))) ?tix ⟨by simp, Below.refl _ _⟩
  (fun x W a1 W1 => ∃ ka kc la lc, a1 = ⟨#[.agg #[.slice (some ⟨xb, xo, none⟩) ns.length xc, .int .i64 a], .agg #[.slice (some ⟨yb, yo, none⟩) ms.length yc, .int .i64 b], .pointer (some ⟨w.heap.size, 0, none⟩), .pointer (some ⟨w.heap.size + 1, 0, none⟩), .pointer (some ⟨w.heap.size + 1 + 1, 0, none⟩), .pointer (some ⟨W.heap.size, 0, none⟩), .pointer (some ⟨W.heap.size + 1, 0, none⟩), undef, .agg #[.slice (some ⟨xb, xo, none⟩) ns.length xc, .int .i64 a], .agg #[.slice (some ⟨yb, yo, none⟩) ms.length yc, .int .i64 b], .func (.func 97) #[] #[.pointer (some ⟨w.heap.size + 1 + 1 + 1, 0, none⟩), .pointer (some ⟨w.heap.size + 1 + 1 + 1 + 1, 0, none⟩)], .agg #[.int .i64 (ndI ns x.1).1, .string (B (ndI ns x.1).2.1), .slice ka (ndI ns x.1).2.2.length kc], .agg #[.int .i64 (ndI ms x.2).1, .string (B (ndI ms x.2).2.1), .slice la (ndI ms x.2).2.2.length lc], undef, undef, undef, undef, undef, undef], []⟩ ∧
   W1 = (W.alloc (.cells #[.int .i64 (ndI ns x.1).1, .string (B (ndI ns x.1).2.1), .slice ka (ndI ns x.1).2.2.length kc] 56)).alloc (.cells #[.int .i64 (ndI ms x.2).1, .string (B (ndI ms x.2).2.1), .slice la (ndI ms x.2).2.2.length lc] 56))
  (fun ⟨_, _, _, _, _, h⟩ => by rw [h]; exact zf (zf (Below.refl _ _) _) _) ?assign ?body ?done ?stop
 case tix =>
  refine Turns.and ?_ (Turns.kept (Nat.le_refl _))
  rintro s W W' row ⟨p, y, e1, e2, e3, h⟩ hg hr
  exact ⟨p, y, e1, e2, e3, (hg.block _ h.lt (fun e => by have := hr _ e.symm; omega)).trans h⟩
 case assign =>
  intro l x hx W K hK
  have hin := (za HFST).2 x hx
  obtain ⟨ka, kc, e1⟩ := JC (za HNX) hin.1
  obtain ⟨la, lc, e2⟩ := JC (za HNY) hin.2
  have hK' := hK _ _ ⟨ka, kc, la, lc, rfl, rfl⟩
  clear hK
  have HK := hide hK'
  clear hK'
  rw [e1, e2]
  clear e1 e2
  gi_wp2
  exact za HK
 case body =>
  rintro l pre x W W1 W2 _ ⟨ka, kc, la, lc, rfl, rfl⟩ hkc ⟨hpre, hbw⟩ hpx
  have hin := (za HFST).2 x (List.IsPrefix.mem (by simp) hpx)
  have ok1 := List.all_eq_true.1 (za HOK).1 _ (yT hin.1)
  have ok2 := List.all_eq_true.1 (za HOK).2 _ (yT hin.2)
  obtain ⟨n1, hn1⟩ : ∃ n, ndI ns x.1 = n := ⟨_, rfl⟩
  obtain ⟨n2, hn2⟩ : ∃ n, ndI ms x.2 = n := ⟨_, rfl⟩
  have hlab : labP ns ms x.1 x.2 = zR n1 n2 := by unfold labP; rw [hn1, hn2]
  rw [hn1] at ok1 hkc ⊢
  rw [hn2] at ok2 hkc ⊢
  have hA1 : AtC3 W2 W.heap.size (.int .i64 n1.1) (.string (B n1.2.1)) (.slice ka n1.2.2.length kc) 56 := hkc.cells _ _ ((AtC3.new W (.int .i64 n1.1) (.string (B n1.2.1)) (.slice ka n1.2.2.length kc) 56).below (zf (Below.refl _ _) (.cells #[.int .i64 n2.1, .string (B n2.2.1), .slice la n2.2.2.length lc] 56))) rfl
  have hA2 : AtC3 W2 (W.heap.size + 1) (.int .i64 n2.1) (.string (B n2.2.1)) (.slice la n2.2.2.length lc) 56 := by
   have h := AtC3.new (W.alloc (.cells #[.int .i64 n1.1, .string (B n1.2.1), .slice ka n1.2.2.length kc] 56)) (.int .i64 n2.1) (.string (B n2.2.1)) (.slice la n2.2.2.length lc) 56
   rw [World.size_alloc] at h
   exact hkc.cells _ _ h rfl
  have HN := hide (KT n1 n2 ka la kc lc W2 (J1 ok1) (J1 ok2) (YG ok1) (YG ok2) ((za HT0).1.belowB hbw (za HT0).2) (Nat.lt_of_lt_of_le (za HT0).2 hbw.size))
  have p0 := hA1.n0
  have p1 := hA1.n1
  have p2 := hA1.n2
  have q0 := hA2.n0
  have q1 := hA2.n1
  have q2 := hA2.n2
  obtain ⟨R, hR⟩ : ∃ R, zR n1 n2 = R := ⟨_, rfl⟩
  rw [hR] at hlab HN
  have HBW := hide hbw
  have HPRE := hide hpre
  have HLAB := hide hlab
  have HBX2 := hide (zL (za HBX) hbw)
  clear hA1 hA2 hkc hR hlab ok1 ok2 hn1 hn2 hpre hbw hpx
  have h12 : 1 ≤ 3 - 1 - 1 := by decide
  gi_wp2_with fail
  refine ⟨trivial, (CallsIn.inRound l (callsIn_wide.2 (za HN))).mono ?_⟩
  rintro e w3 ⟨rfl, hb3⟩
  have HB3 := hide hb3
  clear hb3 p0 p1 p2 q0 q1 q2 HN
  by_cases h0 : R = 0
  ·subst h0
   gi_wp2_with fail
   exact ⟨(qq (za HB3)).from _, KC.of_below (za HB3), fun y hy => by
    rcases List.mem_append.1 hy with hy | hy
    ·exact za HPRE y hy
    ·have : y = x := by simpa using hy
     rw [this]; exact za HLAB, zj (za HBW) (za HB3)⟩
  ·have k : (R != 0) = true := by simp [h0]
   have hbx3 := zL (za HBX2) (za HB3)
   have HBX3 := hide hbx3
   have f0 := hbx3.cell
   have f1 := hbx3.frozen
   clear hbx3
   gi_wp2_with fail
   exact ⟨((qq (za HB3)).trans (KeepsOthers.setCell _ _ _)).from _, ⟨pre, x, rfl, za HPRE, by rw [za HLAB]; exact h0, by rw [za HLAB]; exact (za HBX3).set _⟩, ((Kept.of_below (za HBW)).trans (Kept.of_below (za HB3))).trans (Kept.set (S := fun b => b = w.heap.size + 1 + 1) (a := ⟨w.heap.size + 1 + 1, 0, none⟩) rfl _)⟩
 case done =>
  rintro D W hD ⟨hpre, hbw⟩ hK
  have HZ : Hid (cmpAt ns ms a b = 0) := hide (by rw [(za HFST).1]; exact Vj hpre)
  have hbx := zL (za HBX) hbw
  have HM := hide (((Marks.nil w.heap.size W).cons (D := D) (by have := (za HBL).size; omega) hK (by simp)).kept (Kept.set (S := fun b => b = w.heap.size + 1 + 1) (a := ⟨w.heap.size + 1 + 1, 0, none⟩) rfl (.int .i64 0)) (fun d hd e => by
   have : d = D := by simpa using hd
   omega))
  have HBX3 := hide (hbx.set (.int .i64 0))
  have HBW := hide ((zj (za HBL) hbw).setCell (p := ⟨w.heap.size + 1 + 1, 0, none⟩) (by show w.heap.size ≤ w.heap.size + 1 + 1; omega) (.int .i64 0))
  have f0 := hbx.cell
  have f1 := hbx.frozen
  clear hbx hpre hbw hK
  gi_wp2_with fail
  refine qV w.heap.size [D] _ (za HM) (fun w' hst => ?_)
  have f2 := (vB hst (za HBX3)).cell
  refine ⟨.int .i64 0, by simp [results, Tryz.f32, go_sem, f2], by rw [za HZ], (za HBW).trans hst.below⟩
 case stop =>
  rintro D pre W hD hpr ⟨⟨p, y, rfl, hp, hy, hbx⟩, hkp⟩ hK
  have HZ : Hid (cmpAt ns ms a b = labP ns ms y.1 y.2) := hide (by rw [(za HFST).1]; exact XZ hy hpr hp)
  have hm := (Marks.nil w.heap.size W).cons (D := D) (by have := (za HBL).size; omega) hK (by simp)
  have HBW := hide ((za HBL).trans (hkp.below (base := w.heap.size) (za HBL).size (fun b e => by omega)))
  have HM := hide hm
  have HB3 := hide hbx
  obtain ⟨R, hR⟩ : ∃ R, labP ns ms y.1 y.2 = R := ⟨_, rfl⟩
  rw [hR] at HZ HB3
  clear hm hbx hkp hK hp hy hpr hR
  gi_wp2_with fail
  refine qV w.heap.size [D] W (za HM) (fun w' hst => ?_)
  have f2 := (vB hst (za HB3)).cell
  refine ⟨.int .i64 R, by simp [results, Tryz.f32, go_sem, f2], by rw [za HZ], (za HBW).trans hst.below⟩
end Go.Proofs.YtpbnmhnbkfnaeaaGreatDoor
namespace Go.Proofs.YtpbnmhnbkfnaeaaGreatDoor
open Go.RowKit Nt
theorem Kc (ns : List Nd) (x y : Int) (nb no nc dB : Nat) (rv : Value) (W : World) (hd : AtC2 W dB (.slice (some ⟨nb, no, none⟩) ns.length nc) rv 26) (hx : NodesAt W (.slice (some ⟨nb, no, none⟩) ns.length nc) ns)
  (okn : ns.all (ndOk ns.length) = true) (hxy : InP ns.length ns.length (x, y)) (hl : ns.length ≤ 80) (hT : Tens W) (h3 : 3 < W.heap.size) :
  Calls Tryz.prog 42 #[.int .i64 x, .int .i64 y, .pointer (some ⟨dB, 0, none⟩)] W fun e w' => e = .returned (.int .i64 (cmpAt ns ns x y)) ∧ Below W.heap.size W w' := by
 have HC := hide (QJ ns ns x y nb no nc nb no nc W hx hx okn okn hxy hl hl hT h3)
 have p0 := hd.n0
 obtain ⟨R, hR⟩ : ∃ R, cmpAt ns ns x y = R := ⟨_, rfl⟩
 rw [hR] at HC ⊢
 clear hd hx okn hxy hl hT h3 hR
 go_enter Tryz.func42, Tryz.ntmps42
 go_wp2_with fail
 refine (za HC).mono ?_
 rintro e w5 ⟨rfl, hb5⟩
 have HB5 := hide hb5
 clear hb5
 go_wp2_with fail
 go_ret
 exact ⟨rfl, za HB5⟩
end Go.Proofs.YtpbnmhnbkfnaeaaGreatDoor
