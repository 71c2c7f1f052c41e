/- A part of the proof, put together out of smaller texts. -/
import Derived.Test.YtcnnicbaeicboaaDoorM4
import Derived.Deep.QuietTactic
import Derived.BigQuiet
import Derived.Deep.RegionWith
set_option linter.all false
set_option maxRecDepth 100000
set_option maxHeartbeats 16000000
namespace Go.Proofs.YtcnnicbaeicboaaDoor
open Go.RowKit Nt
theorem vS (n1 n2 : Bool) (u1 d1 u2 d2 : List UInt8) (w : World) (hl1 : u1.length ≤ 1000) (hl2 : d1.length ≤ 1000) (hl3 : u2.length ≤ 1000) (hl4 : d2.length ≤ 1000) (h : (okM n1 u1 d1 && okM n2 u2 d2) = false) :
  Calls Tryd.prog 19 #[.agg #[.bool n1, .string (B u1), .string (B d1)], .agg #[.bool n2, .string (B u2), .string (B d2)]] w fun e w' => e = .returned (ansC none 1) ∧ Below w.heap.size w w' := by
 have h1 := fun w => qM n1 u1 d1 w (by omega) (by omega)
 have h2 := fun w => qM n2 u2 d2 w (by omega) (by omega)
 unfold numB at h1 h2
 have HW := hide ((((Below.refl w.heap.size w).alloc (Nat.le_refl _) (.cells #[.bool n1, .string (B u1), .string (B d1)] 26)).alloc (by simp) (.cells #[.bool n2, .string (B u2), .string (B d2)] 26)).alloc (by simp; omega) (.cells #[.bool false, .string ⟨#[]⟩, .string ⟨#[]⟩] 26))
 have HA := hide (((AtC.new w #[.bool n1, .string (B u1), .string (B d1)] 26).alloc (.cells #[.bool n2, .string (B u2), .string (B d2)] 26)).alloc (.cells #[.bool false, .string ⟨#[]⟩, .string ⟨#[]⟩] 26))
 have HB := hide ((AtC.new (w.alloc (.cells #[.bool n1, .string (B u1), .string (B d1)] 26)) #[.bool n2, .string (B u2), .string (B d2)] 26).alloc (.cells #[.bool false, .string ⟨#[]⟩, .string ⟨#[]⟩] 26))
 have HC := hide (AtC.new ((w.alloc (.cells #[.bool n1, .string (B u1), .string (B d1)] 26)).alloc (.cells #[.bool n2, .string (B u2), .string (B d2)] 26)) #[.bool false, .string ⟨#[]⟩, .string ⟨#[]⟩] 26)
 rw [World.size_alloc] at HB
 rw [World.size_alloc, World.size_alloc] at HC
 cases hk : okM n1 u1 d1 with
 | false =>
  rw [hk] at h1
  have H1 := hide h1
  clear h h1 h2 hk
  go_enter Tryd.func19, Tryd.ntmps19
  go_wp2_with fail
  have h := za H1 (((w.alloc (.cells #[.bool n1, .string (B u1), .string (B d1)] 26)).alloc (.cells #[.bool n2, .string (B u2), .string (B d2)] 26)).alloc (.cells #[.bool false, .string ⟨#[]⟩, .string ⟨#[]⟩] 26))
  refine h.mono ?_
  clear h
  rintro e w1 ⟨rfl, hb1⟩
  have Hb1 := hide hb1
  have hA := (za HA).below (za Hb1)
  have hB := (za HB).below (za Hb1)
  have hC := (za HC).below (za Hb1)
  have a0 : (w1).cell? ⟨w.heap.size, 0, none⟩ = some (.bool n1) := hA.c 0
  have a1 : (w1).cell? ⟨w.heap.size, 1, none⟩ = some (.string (B u1)) := hA.c 1
  have a2 : (w1).cell? ⟨w.heap.size, 2, none⟩ = some (.string (B d1)) := hA.c 2
  have b0 : (w1).cell? ⟨w.heap.size + 1, 0, none⟩ = some (.bool n2) := hB.c 0
  have b1 : (w1).cell? ⟨w.heap.size + 1, 1, none⟩ = some (.string (B u2)) := hB.c 1
  have b2 : (w1).cell? ⟨w.heap.size + 1, 2, none⟩ = some (.string (B d2)) := hB.c 2
  have c0 : (w1).cell? ⟨w.heap.size + 1 + 1, 0, none⟩ = some (.bool false) := hC.c 0
  have c1 : (w1).cell? ⟨w.heap.size + 1 + 1, 1, none⟩ = some (.string ⟨#[]⟩) := hC.c 1
  have c2 : (w1).cell? ⟨w.heap.size + 1 + 1, 2, none⟩ = some (.string ⟨#[]⟩) := hC.c 2
  have cf := hC.f
  have hs := hC.lt
  clear hA hB hC
  clear hb1
  go_wp2
  have hcc := And.intro c0 (And.intro c1 c2)
  refine bodyPost_ret (v := ansC none 1) (by simp [results, Tryd.results19, go_sem, hcc, ansC, numO, noNum, numV]) rfl ⟨rfl, ?_⟩
  refine ((za HW).trans ((za Hb1).mono (za HW).size)).trans ?_
  repeat (first | exact Below.refl _ _ | refine Below.setCell ?_ (by first | exact Nat.le_refl _ | exact Nat.le_succ _ | (simp; done) | (simp; omega)) _ | refine Below.alloc ?_ (by first | exact Nat.le_refl _ | (simp; done) | (simp; omega)) _)
 | true =>
  rw [hk, Bool.true_and] at h
  rw [hk] at h1
  rw [h] at h2
  have H1 := hide h1
  have H2 := hide h2
  clear h h1 h2 hk
  go_enter Tryd.func19, Tryd.ntmps19
  go_wp2_with fail
  have h := za H1 (((w.alloc (.cells #[.bool n1, .string (B u1), .string (B d1)] 26)).alloc (.cells #[.bool n2, .string (B u2), .string (B d2)] 26)).alloc (.cells #[.bool false, .string ⟨#[]⟩, .string ⟨#[]⟩] 26))
  refine h.mono ?_
  clear h
  rintro e w1 ⟨rfl, hb1⟩
  have Hb1 := hide hb1
  have HW1 := hide ((za HW).trans (hb1.mono (za HW).size))
  have hA := (za HA).below (za Hb1)
  have hB := (za HB).below (za Hb1)
  have hC := (za HC).below (za Hb1)
  have a0 : (w1).cell? ⟨w.heap.size, 0, none⟩ = some (.bool n1) := hA.c 0
  have a1 : (w1).cell? ⟨w.heap.size, 1, none⟩ = some (.string (B u1)) := hA.c 1
  have a2 : (w1).cell? ⟨w.heap.size, 2, none⟩ = some (.string (B d1)) := hA.c 2
  have b0 : (w1).cell? ⟨w.heap.size + 1, 0, none⟩ = some (.bool n2) := hB.c 0
  have b1 : (w1).cell? ⟨w.heap.size + 1, 1, none⟩ = some (.string (B u2)) := hB.c 1
  have b2 : (w1).cell? ⟨w.heap.size + 1, 2, none⟩ = some (.string (B d2)) := hB.c 2
  have c0 : (w1).cell? ⟨w.heap.size + 1 + 1, 0, none⟩ = some (.bool false) := hC.c 0
  have c1 : (w1).cell? ⟨w.heap.size + 1 + 1, 1, none⟩ = some (.string ⟨#[]⟩) := hC.c 1
  have c2 : (w1).cell? ⟨w.heap.size + 1 + 1, 2, none⟩ = some (.string ⟨#[]⟩) := hC.c 2
  have cf := hC.f
  have hs := hC.lt
  clear hA hB hC
  clear hb1
  go_wp2_with fail
  have h := za H2 w1
  refine h.mono ?_
  clear h
  rintro e w2 ⟨rfl, hb2⟩
  clear a0 a1 a2 b0 b1 b2 c0 c1 c2 cf hs
  have Hb2 := hide ((za Hb1).trans (hb2.mono (za Hb1).size))
  have hA := (za HA).below (za Hb2)
  have hB := (za HB).below (za Hb2)
  have hC := (za HC).below (za Hb2)
  have a0 : (w2).cell? ⟨w.heap.size, 0, none⟩ = some (.bool n1) := hA.c 0
  have a1 : (w2).cell? ⟨w.heap.size, 1, none⟩ = some (.string (B u1)) := hA.c 1
  have a2 : (w2).cell? ⟨w.heap.size, 2, none⟩ = some (.string (B d1)) := hA.c 2
  have b0 : (w2).cell? ⟨w.heap.size + 1, 0, none⟩ = some (.bool n2) := hB.c 0
  have b1 : (w2).cell? ⟨w.heap.size + 1, 1, none⟩ = some (.string (B u2)) := hB.c 1
  have b2 : (w2).cell? ⟨w.heap.size + 1, 2, none⟩ = some (.string (B d2)) := hB.c 2
  have c0 : (w2).cell? ⟨w.heap.size + 1 + 1, 0, none⟩ = some (.bool false) := hC.c 0
  have c1 : (w2).cell? ⟨w.heap.size + 1 + 1, 1, none⟩ = some (.string ⟨#[]⟩) := hC.c 1
  have c2 : (w2).cell? ⟨w.heap.size + 1 + 1, 2, none⟩ = some (.string ⟨#[]⟩) := hC.c 2
  have cf := hC.f
  have hs := hC.lt
  clear hA hB hC
  clear hb2
  go_wp2
  have hcc := And.intro c0 (And.intro c1 c2)
  refine bodyPost_ret (v := ansC none 1) (by simp [results, Tryd.results19, go_sem, hcc, ansC, numO, noNum, numV]) rfl ⟨rfl, ?_⟩
  refine ((za HW).trans ((za Hb2).mono (za HW).size)).trans ?_
  repeat (first | exact Below.refl _ _ | refine Below.setCell ?_ (by first | exact Nat.le_refl _ | exact Nat.le_succ _ | (simp; done) | (simp; omega)) _ | refine Below.alloc ?_ (by first | exact Nat.le_refl _ | (simp; done) | (simp; omega)) _)
theorem vI (n1 n2 : Bool) (x1 y1 x2 y2 : Nat) (w : World) (hok1 : okM n1 (txl 10 x1) (txl 10 y1) = true) (hok2 : okM n2 (txl 10 x2) (txl 10 y2) = true) :
  Calls Tryd.prog 19 #[.agg #[.bool n1, .string (dec x1), .string (dec y1)], .agg #[.bool n2, .string (dec x2), .string (dec y2)]] w fun e w' => e = .returned (ansC (zm (plusW (n1, x1 * y2) (n2, x2 * y1)).1 (plusW (n1, x1 * y2) (n2, x2 * y1)).2 (y1 * y2)) (qp (zm (plusW (n1, x1 * y2) (n2, x2 * y1)).1 (plusW (n1, x1 * y2) (n2, x2 * y1)).2 (y1 * y2)))) ∧ Below w.heap.size w w' := by
 have hp1 := zH hok1
 have hp2 := zH hok2
 have sx1 : (dec x1).size ≤ 60 := by rw [zj]; exact hp1.2.2.1
 have sy1 : (dec y1).size ≤ 60 := by rw [zj]; exact hp1.2.2.2.1
 have sx2 : (dec x2).size ≤ 60 := by rw [zj]; exact hp2.2.2.1
 have sy2 : (dec y2).size ≤ 60 := by rw [zj]; exact hp2.2.2.2.1
 have h1 := fun w => qM n1 (txl 10 x1) (txl 10 y1) w (by have := hp1.2.2.1; omega) (by have := hp1.2.2.2.1; omega)
 have h2 := fun w => qM n2 (txl 10 x2) (txl 10 y2) w (by have := hp2.2.2.1; omega) (by have := hp2.2.2.2.1; omega)
 rw [hok1] at h1
 rw [hok2] at h2
 have H1 := hide h1
 have H2 := hide h2
 have hadd := fun w => QA n1 n2 x1 y1 x2 y2 w sx1 sy1 sx2 sy2
 generalize zm (plusW (n1, x1 * y2) (n2, x2 * y1)).1 (plusW (n1, x1 * y2) (n2, x2 * y1)).2 (y1 * y2) = o at *
 have Hadd := hide hadd
 clear h1 h2 hp1 hp2 hok1 hok2 hadd sx1 sy1 sx2 sy2
 unfold numB at H1 H2
 unfold dec txt at *
 generalize txl 10 x1 = u1 at *
 generalize txl 10 y1 = d1 at *
 generalize txl 10 x2 = u2 at *
 generalize txl 10 y2 = d2 at *
 have HW := hide ((((Below.refl w.heap.size w).alloc (Nat.le_refl _) (.cells #[.bool n1, .string (B u1), .string (B d1)] 26)).alloc (by simp) (.cells #[.bool n2, .string (B u2), .string (B d2)] 26)).alloc (by simp; omega) (.cells #[.bool false, .string ⟨#[]⟩, .string ⟨#[]⟩] 26))
 have HA := hide (((AtC.new w #[.bool n1, .string (B u1), .string (B d1)] 26).alloc (.cells #[.bool n2, .string (B u2), .string (B d2)] 26)).alloc (.cells #[.bool false, .string ⟨#[]⟩, .string ⟨#[]⟩] 26))
 have HB := hide ((AtC.new (w.alloc (.cells #[.bool n1, .string (B u1), .string (B d1)] 26)) #[.bool n2, .string (B u2), .string (B d2)] 26).alloc (.cells #[.bool false, .string ⟨#[]⟩, .string ⟨#[]⟩] 26))
 have HC := hide (AtC.new ((w.alloc (.cells #[.bool n1, .string (B u1), .string (B d1)] 26)).alloc (.cells #[.bool n2, .string (B u2), .string (B d2)] 26)) #[.bool false, .string ⟨#[]⟩, .string ⟨#[]⟩] 26)
 rw [World.size_alloc] at HB
 rw [World.size_alloc, World.size_alloc] at HC
 go_enter Tryd.func19, Tryd.ntmps19
 go_wp2_with fail
 have h := za H1 (((w.alloc (.cells #[.bool n1, .string (B u1), .string (B d1)] 26)).alloc (.cells #[.bool n2, .string (B u2), .string (B d2)] 26)).alloc (.cells #[.bool false, .string ⟨#[]⟩, .string ⟨#[]⟩] 26))
 refine h.mono ?_
 clear h
 rintro e w1 ⟨rfl, hb1⟩
 have Hb1 := hide hb1
 have HW1 := hide ((za HW).trans (hb1.mono (za HW).size))
 have hA := (za HA).below (za Hb1)
 have hB := (za HB).below (za Hb1)
 have hC := (za HC).below (za Hb1)
 have a0 : (w1).cell? ⟨w.heap.size, 0, none⟩ = some (.bool n1) := hA.c 0
 have a1 : (w1).cell? ⟨w.heap.size, 1, none⟩ = some (.string (B u1)) := hA.c 1
 have a2 : (w1).cell? ⟨w.heap.size, 2, none⟩ = some (.string (B d1)) := hA.c 2
 have b0 : (w1).cell? ⟨w.heap.size + 1, 0, none⟩ = some (.bool n2) := hB.c 0
 have b1 : (w1).cell? ⟨w.heap.size + 1, 1, none⟩ = some (.string (B u2)) := hB.c 1
 have b2 : (w1).cell? ⟨w.heap.size + 1, 2, none⟩ = some (.string (B d2)) := hB.c 2
 have c0 : (w1).cell? ⟨w.heap.size + 1 + 1, 0, none⟩ = some (.bool false) := hC.c 0
 have c1 : (w1).cell? ⟨w.heap.size + 1 + 1, 1, none⟩ = some (.string ⟨#[]⟩) := hC.c 1
 have c2 : (w1).cell? ⟨w.heap.size + 1 + 1, 2, none⟩ = some (.string ⟨#[]⟩) := hC.c 2
 have cf := hC.f
 have hs := hC.lt
 clear hA hB hC
 clear hb1
 go_wp2_with fail
 have h := za H2 w1
 refine h.mono ?_
 clear h
 rintro e w2 ⟨rfl, hb2⟩
 clear a0 a1 a2 b0 b1 b2 c0 c1 c2 cf hs
 have Hb2 := hide ((za Hb1).trans (hb2.mono (za Hb1).size))
 have hA := (za HA).below (za Hb2)
 have hB := (za HB).below (za Hb2)
 have hC := (za HC).below (za Hb2)
 have a0 : (w2).cell? ⟨w.heap.size, 0, none⟩ = some (.bool n1) := hA.c 0
 have a1 : (w2).cell? ⟨w.heap.size, 1, none⟩ = some (.string (B u1)) := hA.c 1
 have a2 : (w2).cell? ⟨w.heap.size, 2, none⟩ = some (.string (B d1)) := hA.c 2
 have b0 : (w2).cell? ⟨w.heap.size + 1, 0, none⟩ = some (.bool n2) := hB.c 0
 have b1 : (w2).cell? ⟨w.heap.size + 1, 1, none⟩ = some (.string (B u2)) := hB.c 1
 have b2 : (w2).cell? ⟨w.heap.size + 1, 2, none⟩ = some (.string (B d2)) := hB.c 2
 have c0 : (w2).cell? ⟨w.heap.size + 1 + 1, 0, none⟩ = some (.bool false) := hC.c 0
 have c1 : (w2).cell? ⟨w.heap.size + 1 + 1, 1, none⟩ = some (.string ⟨#[]⟩) := hC.c 1
 have c2 : (w2).cell? ⟨w.heap.size + 1 + 1, 2, none⟩ = some (.string ⟨#[]⟩) := hC.c 2
 have cf := hC.f
 have hs := hC.lt
 clear hA hB hC
 clear hb2
 go_wp2_with fail
 have h := za Hadd w2
 refine h.mono ?_
 clear h
 rintro e w3 ⟨rfl, hb3⟩
 clear a0 a1 a2 b0 b1 b2 c0 c1 c2 cf hs
 have Hb3 := hide ((za Hb2).trans (hb3.mono (za Hb2).size))
 have hA := (za HA).below (za Hb3)
 have hB := (za HB).below (za Hb3)
 have hC := (za HC).below (za Hb3)
 have a0 : (w3).cell? ⟨w.heap.size, 0, none⟩ = some (.bool n1) := hA.c 0
 have a1 : (w3).cell? ⟨w.heap.size, 1, none⟩ = some (.string (B u1)) := hA.c 1
 have a2 : (w3).cell? ⟨w.heap.size, 2, none⟩ = some (.string (B d1)) := hA.c 2
 have b0 : (w3).cell? ⟨w.heap.size + 1, 0, none⟩ = some (.bool n2) := hB.c 0
 have b1 : (w3).cell? ⟨w.heap.size + 1, 1, none⟩ = some (.string (B u2)) := hB.c 1
 have b2 : (w3).cell? ⟨w.heap.size + 1, 2, none⟩ = some (.string (B d2)) := hB.c 2
 have c0 : (w3).cell? ⟨w.heap.size + 1 + 1, 0, none⟩ = some (.bool false) := hC.c 0
 have c1 : (w3).cell? ⟨w.heap.size + 1 + 1, 1, none⟩ = some (.string ⟨#[]⟩) := hC.c 1
 have c2 : (w3).cell? ⟨w.heap.size + 1 + 1, 2, none⟩ = some (.string ⟨#[]⟩) := hC.c 2
 have cf := hC.f
 have hs := hC.lt
 clear hA hB hC
 clear hb3
 obtain ⟨rn, ru, rd, hr⟩ := jR o
 have Hr := hide hr
 unfold ansC
 rw [hr]
 clear hr
 go_wp2
 have hcc := And.intro c0 (And.intro c1 (And.intro c2 hs))
 refine bodyPost_ret (v := .tuple #[.agg #[.bool rn, .string ru, .string rd], .int .i64 (qp o)]) (by simp [results, Tryd.results19, go_sem, hcc]) rfl ⟨by unfold ansC; rw [za Hr], ?_⟩
 refine ((za HW).trans ((za Hb3).mono (za HW).size)).trans ?_
 repeat (first | exact Below.refl _ _ | refine Below.setCell ?_ (by first | exact Nat.le_refl _ | exact Nat.le_succ _ | (simp; done) | (simp; omega)) _ | refine Below.alloc ?_ (by first | exact Nat.le_refl _ | (simp; done) | (simp; omega)) _)
def sgn (p : Bool × Nat) : Int := if p.1 then -(p.2 : Int) else (p.2 : Int)
def lowZ (z : Int) (d : Nat) : Option (Bool × Nat × Nat) := zm (decide (z < 0)) z.natAbs d
theorem xa (p : Bool × Nat) : (sgn p).natAbs = p.2 := by unfold sgn; split <;> simp
theorem jh (n : Bool) (u d : Nat) : zm n u d = lowZ (sgn (n, u)) d := by
 unfold lowZ
 rw [xa]
 by_cases hu : u = 0
 ·subst hu
  unfold zm
  cases n <;> simp [sgn]
 ·have : decide (sgn (n, u) < 0) = n := by
   cases n
   ·simp [sgn]
   ·simp [sgn]; omega
  rw [this]
theorem ZG {a b a' b' : Nat} (h : Nat.gcd a b = 1) (h' : Nat.gcd a' b' = 1) (he : a * b' = a' * b) (hb : 0 < b) : a = a' ∧ b = b' := by
 have d1 : b ∣ b' := by
  have : b ∣ a * b' := ⟨a', by rw [he, Nat.mul_comm]⟩
  exact (Nat.Coprime.symm h).dvd_of_dvd_mul_left this
 have d2 : b' ∣ b := by
  have : b' ∣ a' * b := ⟨a, by rw [← he, Nat.mul_comm]⟩
  exact (Nat.Coprime.symm h').dvd_of_dvd_mul_left this
 have hbb : b = b' := Nat.dvd_antisymm d1 d2
 subst hbb
 exact ⟨Nat.eq_of_mul_eq_mul_right hb he, rfl⟩
theorem x0 {u d u' d' : Nat} (hd : 0 < d) (hd' : 0 < d') (h : u * d' = u' * d) : u / Nat.gcd u d = u' / Nat.gcd u' d' ∧ d / Nat.gcd u d = d' / Nat.gcd u' d' := by
 have hg : 0 < Nat.gcd u d := Nat.gcd_pos_of_pos_right _ hd
 have hg' : 0 < Nat.gcd u' d' := Nat.gcd_pos_of_pos_right _ hd'
 have hc : Nat.gcd (u / Nat.gcd u d) (d / Nat.gcd u d) = 1 := Nat.coprime_div_gcd_div_gcd hg
 have hc' : Nat.gcd (u' / Nat.gcd u' d') (d' / Nat.gcd u' d') = 1 := Nat.coprime_div_gcd_div_gcd hg'
 have eu : Nat.gcd u d * (u / Nat.gcd u d) = u := Nat.mul_div_cancel' (Nat.gcd_dvd_left u d)
 have ed : Nat.gcd u d * (d / Nat.gcd u d) = d := Nat.mul_div_cancel' (Nat.gcd_dvd_right u d)
 have eu' : Nat.gcd u' d' * (u' / Nat.gcd u' d') = u' := Nat.mul_div_cancel' (Nat.gcd_dvd_left u' d')
 have ed' : Nat.gcd u' d' * (d' / Nat.gcd u' d') = d' := Nat.mul_div_cancel' (Nat.gcd_dvd_right u' d')
 have hb : 0 < d / Nat.gcd u d := Nat.div_pos (Nat.le_of_dvd hd (Nat.gcd_dvd_right u d)) hg
 generalize Nat.gcd u d = g at *
 generalize Nat.gcd u' d' = g' at *
 generalize u / g = a at *
 generalize d / g = b at *
 generalize u' / g' = a' at *
 generalize d' / g' = b' at *
 subst eu ed eu' ed'
 apply ZG hc hc' _ hb
 have h2 : (g * g') * (a * b') = (g * g') * (a' * b) := by
  have e1 : g * a * (g' * b') = (g * g') * (a * b') := by simp only [Nat.mul_comm, Nat.mul_left_comm]
  have e2 : g' * a' * (g * b) = (g * g') * (a' * b) := by simp only [Nat.mul_comm, Nat.mul_left_comm]
  rw [← e1, ← e2, h]
 exact Nat.eq_of_mul_eq_mul_left (Nat.mul_pos hg hg') h2
theorem vj {z z' : Int} {d d' : Nat} (hd : 0 < d) (hd' : 0 < d') (h : z * (d' : Int) = z' * (d : Int)) : lowZ z d = lowZ z' d' := by
 have hn : z.natAbs * d' = z'.natAbs * d := by
  have := congrArg Int.natAbs h
  rwa [Int.natAbs_mul, Int.natAbs_mul, Int.natAbs_natCast, Int.natAbs_natCast] at this
 have hs : decide (z < 0) = decide (z' < 0) := by
  have key : ∀ {x y : Int} {e f : Nat}, 0 < e → 0 < f → x * (f : Int) = y * (e : Int) → x < 0 → y < 0 := by
   intro x y e f he hf hh hx
   rcases (show y < 0 ∨ 0 ≤ y by omega) with h1 | h1
   ·exact h1
   ·have h2 : x * (f : Int) < 0 := Int.mul_neg_of_neg_of_pos hx (by omega)
    have h3 : 0 ≤ y * (e : Int) := Int.mul_nonneg h1 (by omega)
    omega
  by_cases h1 : z < 0
  ·rw [decide_eq_true h1, decide_eq_true (key hd hd' h h1)]
  ·have : ¬ z' < 0 := fun h2 => h1 (key hd' hd h.symm h2)
   rw [decide_eq_false h1, decide_eq_false this]
 obtain ⟨e1, e2⟩ := x0 hd hd' hn
 unfold lowZ zm
 rw [hs, e1, e2]
 have z1 : ¬ d = 0 := by omega
 have z2 : ¬ d' = 0 := by omega
 simp only [z1, z2, false_or]
theorem QD {n : Bool} {x y : Nat} (h : okM n (txl 10 x) (txl 10 y) = true) : lowZ (sgn (n, x)) y = some (n, x, y) := by
 obtain ⟨_, _, h3, h4, h5, h6, h7⟩ := zH h
 rw [zn] at h5 h6
 rw [zn, zn] at h7
 rw [← jh]
 exact x3 h5 h7 (by rw [zj]; exact h3) (by rw [zj]; exact h4) h6
theorem yg (p q : Bool × Nat) : sgn (plusW p q) = sgn p + sgn q := by
 obtain ⟨n, x⟩ := p
 obtain ⟨m, y⟩ := q
 unfold plusW sgn
 cases n <;> cases m <;> simp
 ·by_cases h : x < y
  ·simp [h]; omega
  ·simp [h]; omega
 ·by_cases h : x < y
  ·simp [h]; omega
  ·simp [h]; omega
 ·omega
theorem Z4 {z : Int} {d : Nat} {n : Bool} {x y : Nat} (h : lowZ z d = some (n, x, y)) : 0 < d ∧ 0 < y ∧ sgn (n, x) * (d : Int) = z * (y : Int) := by
 unfold lowZ zm at h
 split at h
 ·cases h
 ·rename_i hh
  have hd : 0 < d := by omega
  have hg : 0 < Nat.gcd z.natAbs d := Nat.gcd_pos_of_pos_right _ hd
  have ed : Nat.gcd z.natAbs d * (d / Nat.gcd z.natAbs d) = d := Nat.mul_div_cancel' (Nat.gcd_dvd_right _ d)
  have eu : Nat.gcd z.natAbs d * (z.natAbs / Nat.gcd z.natAbs d) = z.natAbs := Nat.mul_div_cancel' (Nat.gcd_dvd_left _ d)
  have hb : 0 < d / Nat.gcd z.natAbs d := Nat.div_pos (Nat.le_of_dvd hd (Nat.gcd_dvd_right _ d)) hg
  simp only [Option.some.injEq, Prod.mk.injEq] at h
  obtain ⟨h1, h2, h3⟩ := h
  rw [h2] at eu h1
  rw [h3] at ed hb
  generalize Nat.gcd z.natAbs d = g at *
  refine ⟨hd, hb, ?_⟩
  have hz : z = sgn (n, g * x) := by
   unfold sgn
   by_cases hx : x = 0
   ·subst hx; simp at eu; simp; omega
   ·by_cases hz0 : z < 0
    ·have hn : n = true := by rw [← h1]; simp [hz0, hx]
     rw [hn]; simp; omega
    ·have hn : n = false := by rw [← h1]; simp [hz0]
     rw [hn]; simp; omega
  rw [hz, ← ed]
  unfold sgn
  cases n
  ·simp [Int.mul_comm, Int.mul_left_comm]
  ·simp only [if_true, Int.natCast_mul, Int.neg_mul]
   congr 1
   simp [Int.mul_comm, Int.mul_left_comm]
abbrev Rt := Bool × Nat × Nat
def okP (p : Rt) : Bool := okM p.1 (txl 10 p.2.1) (txl 10 p.2.2)
def zP (p : Rt) : Int := sgn (p.1, p.2.1)
def addP (p q : Rt) : Option Rt := lowZ (zP p * (q.2.2 : Int) + zP q * (p.2.2 : Int)) (p.2.2 * q.2.2)
def subP (p q : Rt) : Option Rt := lowZ (zP p * (q.2.2 : Int) - zP q * (p.2.2 : Int)) (p.2.2 * q.2.2)
def mulP (p q : Rt) : Option Rt := lowZ (zP p * zP q) (p.2.2 * q.2.2)
theorem vm (n : Bool) (x y : Nat) : sgn (n, x * y) = sgn (n, x) * (y : Int) := by
 unfold sgn; cases n <;> simp [Int.neg_mul]
theorem QL (n : Bool) (x : Nat) : sgn (!n, x) = - sgn (n, x) := by
 unfold sgn; cases n <;> simp
theorem Qi (n m : Bool) (x y : Nat) : sgn (n != m, x * y) = sgn (n, x) * sgn (m, y) := by
 unfold sgn; cases n <;> cases m <;> simp [Int.neg_mul, Int.mul_neg]
theorem xh (n1 n2 : Bool) (x1 y1 x2 y2 : Nat) : zm (plusW (n1, x1 * y2) (n2, x2 * y1)).1 (plusW (n1, x1 * y2) (n2, x2 * y1)).2 (y1 * y2) = addP (n1, x1, y1) (n2, x2, y2) := by
 rw [jh]
 unfold addP zP
 rw [show ((plusW (n1, x1 * y2) (n2, x2 * y1)).1, (plusW (n1, x1 * y2) (n2, x2 * y1)).2) = plusW (n1, x1 * y2) (n2, x2 * y1) from rfl, yg, vm, vm]
theorem QN (n1 n2 : Bool) (x1 y1 x2 y2 : Nat) : zm (plusW (n1, x1 * y2) (!n2, x2 * y1)).1 (plusW (n1, x1 * y2) (!n2, x2 * y1)).2 (y1 * y2) = subP (n1, x1, y1) (n2, x2, y2) := by
 rw [jh]
 unfold subP zP
 rw [show ((plusW (n1, x1 * y2) (!n2, x2 * y1)).1, (plusW (n1, x1 * y2) (!n2, x2 * y1)).2) = plusW (n1, x1 * y2) (!n2, x2 * y1) from rfl, yg, vm, vm, QL, Int.neg_mul]
 rfl
theorem QF (n1 n2 : Bool) (x1 y1 x2 y2 : Nat) : zm (n1 != n2) (x1 * x2) (y1 * y2) = mulP (n1, x1, y1) (n2, x2, y2) := by
 rw [jh, Qi]; rfl
theorem qQ {p : Rt} (h : okP p = true) : 0 < p.2.2 := by
 have := (zH h).2.2.2.2.1
 rw [zn] at this
 omega
theorem vk {p : Rt} (h : okP p = true) : lowZ (zP p) p.2.2 = some p := QD h
theorem vB {z : Int} {d : Nat} {p : Rt} (h : lowZ z d = some p) : okP p = true := j1 (n := p.1) (x := p.2.1) (y := p.2.2) h
theorem qD {z : Int} {d : Nat} {p : Rt} (h : lowZ z d = some p) : 0 < d ∧ 0 < p.2.2 ∧ zP p * (d : Int) = z * (p.2.2 : Int) := Z4 (n := p.1) (x := p.2.1) (y := p.2.2) h
theorem xK (p q : Rt) : addP p q = addP q p := by unfold addP; rw [Int.add_comm, Nat.mul_comm]
theorem x7 (p q : Rt) : mulP p q = mulP q p := by unfold mulP; rw [Int.mul_comm, Nat.mul_comm]
theorem kY (zp zq zr zs zt yp yq yr ys yt : Int) (hq : yq ≠ 0) (h1 : zs * (yp * yq) = (zp * yq + zq * yp) * ys) (h2 : zt * (yq * yr) = (zq * yr + zr * yq) * yt) : (zs * yr + zr * ys) * (yp * yt) = (zp * yt + zt * yp) * (ys * yr) := by
 have h : yq * ((zs * yr + zr * ys) * (yp * yt)) = yq * ((zp * yt + zt * yp) * (ys * yr)) := by grind
 exact Int.eq_of_mul_eq_mul_left hq h
theorem Zg (zp zq zr zt zv zw yp yq yr yt yv yw : Int) (hp : yp ≠ 0) (hq : yq ≠ 0) (hr : yr ≠ 0) (h1 : zt * (yq * yr) = (zq * yr + zr * yq) * yt) (h2 : zv * (yp * yq) = (zp * zq) * yv) (h3 : zw * (yp * yr) = (zp * zr) * yw) : (zp * zt) * (yv * yw) = (zv * yw + zw * yv) * (yp * yt) := by
 have h : (yp * yq * yr) * ((zp * zt) * (yv * yw)) = (yp * yq * yr) * ((zv * yw + zw * yv) * (yp * yt)) := by
  have e1 : (yp * yq * yr) * ((zp * zt) * (yv * yw)) = (zt * (yq * yr)) * (yp * zp * yv * yw) := by grind
  have e2 : (yp * yq * yr) * ((zv * yw + zw * yv) * (yp * yt)) = (zv * (yp * yq)) * yr * yw * yp * yt + (zw * (yp * yr)) * yq * yv * yp * yt := by grind
  rw [e1, e2, h1, h2, h3]; grind
 have h0 : yp * yq * yr ≠ 0 := Int.mul_ne_zero (Int.mul_ne_zero hp hq) hr
 exact Int.eq_of_mul_eq_mul_left h0 h
theorem Zf (zp zq zs yp yq ys : Int) (h1 : zs * (yp * yq) = (zp * yq + zq * yp) * ys) : (zs * yq - zq * ys) * yp = zp * (ys * yq) := by grind
theorem ku {p q r s t : Rt} (hp : okP p = true) (hq : okP q = true) (hr : okP r = true) (h1 : addP p q = some s) (h2 : addP q r = some t) : addP s r = addP p t := by
 have yp := qQ hp
 have yq := qQ hq
 have yr := qQ hr
 obtain ⟨_, ys, e1⟩ := qD h1
 obtain ⟨_, yt, e2⟩ := qD h2
 unfold addP
 apply vj (Nat.mul_pos ys yr) (Nat.mul_pos yp yt)
 rw [Int.natCast_mul] at e1 e2 ⊢
 rw [Int.natCast_mul]
 exact kY _ _ _ _ _ _ _ _ _ _ (by omega) e1 e2
theorem x6 {p q r t v z : Rt} (hp : okP p = true) (hq : okP q = true) (hr : okP r = true) (h1 : addP q r = some t) (h2 : mulP p q = some v) (h3 : mulP p r = some z) : mulP p t = addP v z := by
 have yp := qQ hp
 have yq := qQ hq
 have yr := qQ hr
 obtain ⟨_, yt, e1⟩ := qD h1
 obtain ⟨_, yv, e2⟩ := qD h2
 obtain ⟨_, yz, e3⟩ := qD h3
 unfold addP mulP
 apply vj (Nat.mul_pos yp yt) (Nat.mul_pos yv yz)
 rw [Int.natCast_mul] at e1 e2 e3 ⊢
 rw [Int.natCast_mul]
 exact Zg _ _ _ _ _ _ _ _ _ _ _ _ (by omega) (by omega) (by omega) e1 e2 e3
theorem Zp {p q s : Rt} (hp : okP p = true) (hq : okP q = true) (h : addP p q = some s) : subP s q = some p := by
 have yp := qQ hp
 have yq := qQ hq
 obtain ⟨_, ys, e1⟩ := qD h
 rw [← vk hp]
 unfold subP
 apply vj (Nat.mul_pos ys yq) yp
 rw [Int.natCast_mul] at e1 ⊢
 exact Zf _ _ _ _ _ _ e1
theorem xL {p : Rt} (hp : okP p = true) : addP p (false, 0, 1) = some p := by
 rw [← vk hp]
 unfold addP
 congr 1
 ·simp [zP, sgn]
 ·simp
theorem Z6 {p : Rt} (hp : okP p = true) : mulP p (false, 1, 1) = some p := by
 rw [← vk hp]
 unfold mulP
 congr 1
 ·simp [zP, sgn]
 ·simp
theorem Q0 : okP (false, 1, 1) = true := by decide +kernel
theorem Qb {p : Rt} (hp : okP p = true) (hz : p.2.1 ≠ 0) : okP (p.1, p.2.2, p.2.1) = true := by
 obtain ⟨h1, h2, h3, h4, h5, h6, h7⟩ := zH hp
 rw [zn] at h5 h6
 rw [zn, zn] at h7
 refine Qa h4 h3 h2 h1 ?_ ?_ ?_
 ·rw [zn]; exact hz
 ·intro _; rw [zn]; exact h5
 ·rw [zn, zn, Nat.gcd_comm]; exact h7
theorem x8 {p : Rt} (hp : okP p = true) (hz : p.2.1 ≠ 0) : mulP p (p.1, p.2.2, p.2.1) = some (false, 1, 1) := by
 have yp := qQ hp
 rw [← vk Q0]
 unfold mulP
 apply vj (Nat.mul_pos yp (by show 0 < p.2.1; omega)) (by decide)
 obtain ⟨n, x, y⟩ := p
 unfold zP sgn
 cases n <;> simp [Int.mul_comm, Int.mul_neg]
abbrev T3 := Bool × List UInt8 × List UInt8
def numT (t : T3) : Value := .agg #[.bool t.1, .string (B t.2.1), .string (B t.2.2)]
def okT (t : T3) : Bool := okM t.1 t.2.1 t.2.2
def valT (t : T3) : Rt := (t.1, zz t.2.1, zz t.2.2)
def putT (p : Rt) : T3 := (p.1, txl 10 p.2.1, txl 10 p.2.2)
def nilT : T3 := (false, [], [])
def optT : Option Rt → T3 × Int
 | some s => (putT s, 0)
 | none => (nilT, 3)
def fld (f : Rt → Rt → Option Rt) (a b : T3) : T3 × Int := if okT a && okT b then optT (f (valT a) (valT b)) else (nilT, 1)
def ansT (r : T3 × Int) : Value := .tuple #[numT r.1, .int .i64 r.2]
def divT (a b : T3) : T3 × Int := if b.2.1 = [48] then (nilT, 2) else fld mulP a (b.1, b.2.2, b.2.1)
theorem je (p : Rt) : valT (putT p) = p := by
 unfold valT putT; simp only [zn]
theorem jd {t : T3} (h : okT t = true) : putT (valT t) = t := by
 obtain ⟨h1, h2, _⟩ := zH h
 unfold putT valT
 simp only
 rw [← qf h1, ← qf h2]
theorem zI {t : T3} (h : okT t = true) : okP (valT t) = true := by
 have := jd h
 unfold okP
 rw [show okM (valT t).1 (txl 10 (valT t).2.1) (txl 10 (valT t).2.2) = okT (putT (valT t)) from rfl, this]
 exact h
theorem q3 {p : Rt} (h : okP p = true) : okT (putT p) = true := h
theorem xE : okT nilT = false := by decide +kernel
theorem vl {t : T3} (h : okT t = true) : t.2.1.length ≤ 60 ∧ t.2.2.length ≤ 60 := by
 obtain ⟨_, _, h3, h4, _⟩ := zH h
 exact ⟨h3, h4⟩
def Low (f : Rt → Rt → Option Rt) : Prop := ∀ p q s, f p q = some s → okP s = true
theorem qy : Low addP := fun _ _ _ h => vB h
theorem QE : Low subP := fun _ _ _ h => vB h
theorem jg : Low mulP := fun _ _ _ h => vB h
theorem jq {f : Rt → Rt → Option Rt} {a b : T3} (h : (okT a && okT b) = false) : fld f a b = (nilT, 1) := by
 unfold fld; rw [h]; rfl
theorem qm {f : Rt → Rt → Option Rt} {a b : T3} (ha : okT a = true) (hb : okT b = true) : fld f a b = optT (f (valT a) (valT b)) := by
 unfold fld; rw [ha, hb]; rfl
theorem qT {f : Rt → Rt → Option Rt} {a b : T3} (h : (fld f a b).2 = 0) : okT a = true ∧ okT b = true ∧ ∃ s, f (valT a) (valT b) = some s ∧ (fld f a b).1 = putT s := by
 unfold fld at h ⊢
 split at h
 ·rename_i hh
  rw [Bool.and_eq_true] at hh
  refine ⟨hh.1, hh.2, ?_⟩
  rw [if_pos (by rw [hh.1, hh.2]; rfl)]
  cases hs : f (valT a) (valT b) with
  | none => rw [hs] at h; cases h
  | some s => exact ⟨s, rfl, rfl⟩
 ·cases h
theorem ZR {f : Rt → Rt → Option Rt} (hf : Low f) {a b : T3} : okT (fld f a b).1 = decide ((fld f a b).2 = 0) := by
 by_cases h : (fld f a b).2 = 0
 ·obtain ⟨_, _, s, hs, he⟩ := qT h
  rw [he, decide_eq_true h]
  exact q3 (hf _ _ _ hs)
 ·rw [decide_eq_false h]
  unfold fld at h ⊢
  split
  ·rename_i hh
   rw [if_pos hh] at h
   cases hs : f (valT a) (valT b) with
   | none => exact xE
   | some s => rw [hs] at h; exact absurd rfl h
  ·exact xE
theorem Qw (f : Rt → Rt → Option Rt) (hf : Low f) (a b : T3) : (fld f a b).1.2.1.length ≤ 60 ∧ (fld f a b).1.2.2.length ≤ 60 := by
 have h := ZR hf (a := a) (b := b)
 by_cases h0 : (fld f a b).2 = 0
 ·rw [decide_eq_true h0] at h
  exact vl h
 ·have : (fld f a b).1 = nilT := by
   unfold fld at h0 ⊢
   split
   ·rename_i hh
    rw [if_pos hh] at h0
    cases hs : f (valT a) (valT b) with
    | none => rfl
    | some s => rw [hs] at h0; exact absurd rfl h0
   ·rfl
  rw [this]; exact ⟨Nat.zero_le _, Nat.zero_le _⟩
theorem kv (a b : T3) : fld addP a b = fld addP b a := by
 unfold fld; rw [xK, Bool.and_comm]
theorem kK (a b : T3) : fld mulP a b = fld mulP b a := by
 unfold fld; rw [x7, Bool.and_comm]
def sameT (l r : T3 × Int) : Prop := l.2 = 3 ∨ r.2 = 3 ∨ l = r
theorem Qs {a b c : T3} (hc : okT c = true) (h1 : (fld addP a b).2 = 0) (h2 : (fld addP b c).2 = 0) : fld addP (fld addP a b).1 c = fld addP a (fld addP b c).1 := by
 obtain ⟨ha, hb, s, hs, e1⟩ := qT h1
 obtain ⟨_, _, t, ht, e2⟩ := qT h2
 rw [e1, e2, qm (q3 (qy _ _ _ hs)) hc, qm ha (q3 (qy _ _ _ ht)), je, je, ku (zI ha) (zI hb) (zI hc) hs ht]
theorem QX {a b c : T3} (h1 : (fld addP b c).2 = 0) (h2 : (fld mulP a b).2 = 0) (h3 : (fld mulP a c).2 = 0) : fld mulP a (fld addP b c).1 = fld addP (fld mulP a b).1 (fld mulP a c).1 := by
 obtain ⟨hb, hc, t, ht, e1⟩ := qT h1
 obtain ⟨ha, _, v, hv, e2⟩ := qT h2
 obtain ⟨_, _, z, hz, e3⟩ := qT h3
 rw [e1, e2, e3, qm ha (q3 (qy _ _ _ ht)), qm (q3 (jg _ _ _ hv)) (q3 (jg _ _ _ hz)), je, je, je, x6 (zI ha) (zI hb) (zI hc) ht hv hz]
theorem QV {a b : T3} (h : (fld addP a b).2 = 0) : fld subP (fld addP a b).1 b = (a, 0) := by
 obtain ⟨ha, hb, s, hs, e⟩ := qT h
 rw [e, qm (q3 (qy _ _ _ hs)) hb, je, Zp (zI ha) (zI hb) hs]
 show (putT (valT a), (0 : Int)) = _
 rw [jd ha]
def zeroT : T3 := (false, [48], [49])
def oneT : T3 := (false, [49], [49])
theorem Qc : okT zeroT = true := by decide +kernel
theorem QH : okT oneT = true := by decide +kernel
theorem Qm : valT zeroT = (false, 0, 1) := by decide +kernel
theorem QQ : valT oneT = (false, 1, 1) := by decide +kernel
theorem kw {a : T3} (ha : okT a = true) : fld addP a zeroT = (a, 0) := by
 rw [qm ha Qc, Qm, xL (zI ha)]
 show (putT (valT a), (0 : Int)) = _
 rw [jd ha]
theorem x9 {a : T3} (ha : okT a = true) : fld mulP a oneT = (a, 0) := by
 rw [qm ha QH, QQ, Z6 (zI ha)]
 show (putT (valT a), (0 : Int)) = _
 rw [jd ha]
theorem vy {l : List UInt8} (h : isDec l = true) : l = [48] ↔ zz l = 0 := by
 constructor
 ·rintro rfl; decide +kernel
 ·intro h0
  rw [qf h, h0]; exact zM 10
theorem vN {a : T3} (ha : okT a = true) : a.2.1 = [48] ↔ a = zeroT := by
 obtain ⟨h1, h2, h3, h4, h5, h6, h7⟩ := zH ha
 constructor
 ·intro h
  have h0 := (vy h1).1 h
  rw [h0, Nat.gcd_zero_left] at h7
  obtain ⟨n, u, d⟩ := a
  simp only at *
  have hn : n = false := by
   cases n
   ·rfl
   ·exact absurd h0 (h6 rfl)
  rw [qf h2, h7, h, hn]
  rfl
 ·rintro rfl; rfl
theorem QK : putT (false, 1, 1) = oneT := by decide +kernel
theorem kC {a : T3} (ha : okT a = true) : divT a a = if a = zeroT then (nilT, 2) else (oneT, 0) := by
 unfold divT
 by_cases h : a.2.1 = [48]
 ·rw [if_pos h, if_pos ((vN ha).1 h)]
 ·rw [if_neg h, if_neg (fun h' => h ((vN ha).2 h'))]
  have hz : (valT a).2.1 ≠ 0 := fun h0 => h ((vy (zH ha).1).2 h0)
  have hb : okT (a.1, a.2.2, a.2.1) = true := by
   have := q3 (Qb (zI ha) hz)
   have e := jd ha
   have e1 : txl 10 (valT a).2.1 = a.2.1 := congrArg (fun t : T3 => t.2.1) e
   have e2 : txl 10 (valT a).2.2 = a.2.2 := congrArg (fun t : T3 => t.2.2) e
   unfold putT at this
   simp only [e1, e2] at this
   exact this
  rw [qm ha hb, show valT (a.1, a.2.2, a.2.1) = ((valT a).1, (valT a).2.2, (valT a).2.1) from rfl, x8 (zI ha) hz]
  show (putT (false, 1, 1), (0 : Int)) = (oneT, 0)
  rw [QK]
theorem ZC (o : Option Rt) : ansT (optT o) = ansC o (qp o) := by
 cases o with
 | none => rfl
 | some s => rfl
theorem j9 (o : Option Rt) : Ending.returned (ansC o (qp o)) = .returned (ansT (optT o)) := by rw [ZC]
theorem qK {t : T3} (h : okT t = true) : numT t = .agg #[.bool (valT t).1, .string (dec (valT t).2.1), .string (dec (valT t).2.2)] := by
 have := jd h
 conv => lhs; rw [← this]
 rfl
def small (t : T3) : Prop := t.2.1.length ≤ 1000 ∧ t.2.2.length ≤ 1000
theorem Zx (a b : T3) (w : World) (ha : small a) (hb : small b) (hT : Tens w) :
  Calls Tryd.prog 60 #[numT a, numT b, .func (.func 61) #[] #[]] w fun e w' => e = .returned (ansT (fld addP a b)) ∧ Below w.heap.size w w' := by
 cases h : okT a && okT b with
 | false => rw [jq h]; exact jI a.1 b.1 a.2.1 a.2.2 b.2.1 b.2.2 _ w ha.1 ha.2 hb.1 hb.2 h hT
 | true =>
  rw [Bool.and_eq_true] at h
  rw [qm h.1 h.2, qK h.1, qK h.2, ← j9, show addP (valT a) (valT b) = _ from (xh _ _ _ _ _ _).symm]
  exact ZA _ _ _ _ _ _ w (zI h.1) (zI h.2) hT
theorem Zz (a b : T3) (w : World) (ha : small a) (hb : small b) (hT : Tens w) :
  Calls Tryd.prog 60 #[numT a, numT b, .func (.func 66) #[] #[]] w fun e w' => e = .returned (ansT (fld subP a b)) ∧ Below w.heap.size w w' := by
 cases h : okT a && okT b with
 | false => rw [jq h]; exact jI a.1 b.1 a.2.1 a.2.2 b.2.1 b.2.2 _ w ha.1 ha.2 hb.1 hb.2 h hT
 | true =>
  rw [Bool.and_eq_true] at h
  rw [qm h.1 h.2, qK h.1, qK h.2, ← j9, show subP (valT a) (valT b) = _ from (QN _ _ _ _ _ _).symm]
  exact xg _ _ _ _ _ _ w (zI h.1) (zI h.2) hT
theorem Zy (a b : T3) (w : World) (ha : small a) (hb : small b) (hT : Tens w) :
  Calls Tryd.prog 60 #[numT a, numT b, .func (.func 63) #[] #[]] w fun e w' => e = .returned (ansT (fld mulP a b)) ∧ Below w.heap.size w w' := by
 cases h : okT a && okT b with
 | false => rw [jq h]; exact jI a.1 b.1 a.2.1 a.2.2 b.2.1 b.2.2 _ w ha.1 ha.2 hb.1 hb.2 h hT
 | true =>
  rw [Bool.and_eq_true] at h
  rw [qm h.1 h.2, qK h.1, qK h.2, ← j9, show mulP (valT a) (valT b) = _ from (QF _ _ _ _ _ _).symm]
  exact vV _ _ _ _ _ _ w (zI h.1) (zI h.2) hT
theorem xR (a b : T3) (w : World) (ha : small a) (hb : small b) (hT : Tens w) :
  Calls Tryd.prog 18 #[numT a, numT b] w fun e w' => e = .returned (ansT (fld addP a b)) ∧ Below w.heap.size w w' := by
 have hwork := fun w hT => Zx a b w ha hb hT
 generalize fld addP a b = r at *
 have Hwork := hide hwork
 clear hwork
 obtain ⟨n1, u1, d1⟩ := a
 obtain ⟨n2, u2, d2⟩ := b
 obtain ⟨⟨rn, ru, rd⟩, rc⟩ := r
 unfold numT ansT at *
 have HW := hide ((((Below.refl w.heap.size w).alloc (Nat.le_refl _) (.cells #[.bool n1, .string (B u1), .string (B d1)] 26)).alloc (by simp) (.cells #[.bool n2, .string (B u2), .string (B d2)] 26)).alloc (by simp; omega) (.cells #[.bool false, .string ⟨#[]⟩, .string ⟨#[]⟩] 26))
 have HA := hide (((AtC.new w #[.bool n1, .string (B u1), .string (B d1)] 26).alloc (.cells #[.bool n2, .string (B u2), .string (B d2)] 26)).alloc (.cells #[.bool false, .string ⟨#[]⟩, .string ⟨#[]⟩] 26))
 have HB := hide ((AtC.new (w.alloc (.cells #[.bool n1, .string (B u1), .string (B d1)] 26)) #[.bool n2, .string (B u2), .string (B d2)] 26).alloc (.cells #[.bool false, .string ⟨#[]⟩, .string ⟨#[]⟩] 26))
 have HC := hide (AtC.new ((w.alloc (.cells #[.bool n1, .string (B u1), .string (B d1)] 26)).alloc (.cells #[.bool n2, .string (B u2), .string (B d2)] 26)) #[.bool false, .string ⟨#[]⟩, .string ⟨#[]⟩] 26)
 rw [World.size_alloc] at HB
 rw [World.size_alloc, World.size_alloc] at HC
 have HT := hide hT
 clear hT ha hb
 dsimp only at *
 go_enter Tryd.func18, Tryd.ntmps18
 go_wp2_with fail
 refine (za Hwork _ ((za HT).below (za HW))).mono ?_
 rintro e w1 ⟨rfl, hb1⟩
 have Hb1 := hide hb1
 have hA := (za HA).below (za Hb1)
 have hB := (za HB).below (za Hb1)
 have hC := (za HC).below (za Hb1)
 have a0 : (w1).cell? ⟨w.heap.size, 0, none⟩ = some (.bool n1) := hA.c 0
 have a1 : (w1).cell? ⟨w.heap.size, 1, none⟩ = some (.string (B u1)) := hA.c 1
 have a2 : (w1).cell? ⟨w.heap.size, 2, none⟩ = some (.string (B d1)) := hA.c 2
 have b0 : (w1).cell? ⟨w.heap.size + 1, 0, none⟩ = some (.bool n2) := hB.c 0
 have b1 : (w1).cell? ⟨w.heap.size + 1, 1, none⟩ = some (.string (B u2)) := hB.c 1
 have b2 : (w1).cell? ⟨w.heap.size + 1, 2, none⟩ = some (.string (B d2)) := hB.c 2
 have c0 : (w1).cell? ⟨w.heap.size + 1 + 1, 0, none⟩ = some (.bool false) := hC.c 0
 have c1 : (w1).cell? ⟨w.heap.size + 1 + 1, 1, none⟩ = some (.string ⟨#[]⟩) := hC.c 1
 have c2 : (w1).cell? ⟨w.heap.size + 1 + 1, 2, none⟩ = some (.string ⟨#[]⟩) := hC.c 2
 have cf := hC.f
 have hs := hC.lt
 clear hA hB hC
 clear hb1
 unfold numT
 go_wp2
 have hcc := And.intro c0 (And.intro c1 (And.intro c2 hs))
 refine bodyPost_ret (v := .tuple #[.agg #[.bool rn, .string (B ru), .string (B rd)], .int .i64 rc]) (by simp [results, Tryd.results18, go_sem, hcc]) rfl ⟨rfl, ?_⟩
 refine ((za HW).trans ((za Hb1).mono (za HW).size)).trans ?_
 repeat (first | exact Below.refl _ _ | refine Below.setCell ?_ (by first | exact Nat.le_refl _ | exact Nat.le_succ _ | (simp; done) | (simp; omega)) _ | refine Below.alloc ?_ (by first | exact Nat.le_refl _ | (simp; done) | (simp; omega)) _)
theorem xV (a b : T3) (w : World) (ha : small a) (hb : small b) (hT : Tens w) :
  Calls Tryd.prog 23 #[numT a, numT b] w fun e w' => e = .returned (ansT (fld subP a b)) ∧ Below w.heap.size w w' := by
 have hwork := fun w hT => Zz a b w ha hb hT
 generalize fld subP a b = r at *
 have Hwork := hide hwork
 clear hwork
 obtain ⟨n1, u1, d1⟩ := a
 obtain ⟨n2, u2, d2⟩ := b
 obtain ⟨⟨rn, ru, rd⟩, rc⟩ := r
 unfold numT ansT at *
 have HW := hide ((((Below.refl w.heap.size w).alloc (Nat.le_refl _) (.cells #[.bool n1, .string (B u1), .string (B d1)] 26)).alloc (by simp) (.cells #[.bool n2, .string (B u2), .string (B d2)] 26)).alloc (by simp; omega) (.cells #[.bool false, .string ⟨#[]⟩, .string ⟨#[]⟩] 26))
 have HA := hide (((AtC.new w #[.bool n1, .string (B u1), .string (B d1)] 26).alloc (.cells #[.bool n2, .string (B u2), .string (B d2)] 26)).alloc (.cells #[.bool false, .string ⟨#[]⟩, .string ⟨#[]⟩] 26))
 have HB := hide ((AtC.new (w.alloc (.cells #[.bool n1, .string (B u1), .string (B d1)] 26)) #[.bool n2, .string (B u2), .string (B d2)] 26).alloc (.cells #[.bool false, .string ⟨#[]⟩, .string ⟨#[]⟩] 26))
 have HC := hide (AtC.new ((w.alloc (.cells #[.bool n1, .string (B u1), .string (B d1)] 26)).alloc (.cells #[.bool n2, .string (B u2), .string (B d2)] 26)) #[.bool false, .string ⟨#[]⟩, .string ⟨#[]⟩] 26)
 rw [World.size_alloc] at HB
 rw [World.size_alloc, World.size_alloc] at HC
 have HT := hide hT
 clear hT ha hb
 dsimp only at *
 go_enter Tryd.func23, Tryd.ntmps23
 go_wp2_with fail
 refine (za Hwork _ ((za HT).below (za HW))).mono ?_
 rintro e w1 ⟨rfl, hb1⟩
 have Hb1 := hide hb1
 have hA := (za HA).below (za Hb1)
 have hB := (za HB).below (za Hb1)
 have hC := (za HC).below (za Hb1)
 have a0 : (w1).cell? ⟨w.heap.size, 0, none⟩ = some (.bool n1) := hA.c 0
 have a1 : (w1).cell? ⟨w.heap.size, 1, none⟩ = some (.string (B u1)) := hA.c 1
 have a2 : (w1).cell? ⟨w.heap.size, 2, none⟩ = some (.string (B d1)) := hA.c 2
 have b0 : (w1).cell? ⟨w.heap.size + 1, 0, none⟩ = some (.bool n2) := hB.c 0
 have b1 : (w1).cell? ⟨w.heap.size + 1, 1, none⟩ = some (.string (B u2)) := hB.c 1
 have b2 : (w1).cell? ⟨w.heap.size + 1, 2, none⟩ = some (.string (B d2)) := hB.c 2
 have c0 : (w1).cell? ⟨w.heap.size + 1 + 1, 0, none⟩ = some (.bool false) := hC.c 0
 have c1 : (w1).cell? ⟨w.heap.size + 1 + 1, 1, none⟩ = some (.string ⟨#[]⟩) := hC.c 1
 have c2 : (w1).cell? ⟨w.heap.size + 1 + 1, 2, none⟩ = some (.string ⟨#[]⟩) := hC.c 2
 have cf := hC.f
 have hs := hC.lt
 clear hA hB hC
 clear hb1
 unfold numT
 go_wp2
 have hcc := And.intro c0 (And.intro c1 (And.intro c2 hs))
 refine bodyPost_ret (v := .tuple #[.agg #[.bool rn, .string (B ru), .string (B rd)], .int .i64 rc]) (by simp [results, Tryd.results23, go_sem, hcc]) rfl ⟨rfl, ?_⟩
 refine ((za HW).trans ((za Hb1).mono (za HW).size)).trans ?_
 repeat (first | exact Below.refl _ _ | refine Below.setCell ?_ (by first | exact Nat.le_refl _ | exact Nat.le_succ _ | (simp; done) | (simp; omega)) _ | refine Below.alloc ?_ (by first | exact Nat.le_refl _ | (simp; done) | (simp; omega)) _)
theorem v4 (a b : T3) (w : World) (ha : small a) (hb : small b) (hT : Tens w) :
  Calls Tryd.prog 20 #[numT a, numT b] w fun e w' => e = .returned (ansT (fld mulP a b)) ∧ Below w.heap.size w w' := by
 have hwork := fun w hT => Zy a b w ha hb hT
 generalize fld mulP a b = r at *
 have Hwork := hide hwork
 clear hwork
 obtain ⟨n1, u1, d1⟩ := a
 obtain ⟨n2, u2, d2⟩ := b
 obtain ⟨⟨rn, ru, rd⟩, rc⟩ := r
 unfold numT ansT at *
 have HW := hide ((((Below.refl w.heap.size w).alloc (Nat.le_refl _) (.cells #[.bool n1, .string (B u1), .string (B d1)] 26)).alloc (by simp) (.cells #[.bool n2, .string (B u2), .string (B d2)] 26)).alloc (by simp; omega) (.cells #[.bool false, .string ⟨#[]⟩, .string ⟨#[]⟩] 26))
 have HA := hide (((AtC.new w #[.bool n1, .string (B u1), .string (B d1)] 26).alloc (.cells #[.bool n2, .string (B u2), .string (B d2)] 26)).alloc (.cells #[.bool false, .string ⟨#[]⟩, .string ⟨#[]⟩] 26))
 have HB := hide ((AtC.new (w.alloc (.cells #[.bool n1, .string (B u1), .string (B d1)] 26)) #[.bool n2, .string (B u2), .string (B d2)] 26).alloc (.cells #[.bool false, .string ⟨#[]⟩, .string ⟨#[]⟩] 26))
 have HC := hide (AtC.new ((w.alloc (.cells #[.bool n1, .string (B u1), .string (B d1)] 26)).alloc (.cells #[.bool n2, .string (B u2), .string (B d2)] 26)) #[.bool false, .string ⟨#[]⟩, .string ⟨#[]⟩] 26)
 rw [World.size_alloc] at HB
 rw [World.size_alloc, World.size_alloc] at HC
 have HT := hide hT
 clear hT ha hb
 dsimp only at *
 go_enter Tryd.func20, Tryd.ntmps20
 go_wp2_with fail
 refine (za Hwork _ ((za HT).below (za HW))).mono ?_
 rintro e w1 ⟨rfl, hb1⟩
 have Hb1 := hide hb1
 have hA := (za HA).below (za Hb1)
 have hB := (za HB).below (za Hb1)
 have hC := (za HC).below (za Hb1)
 have a0 : (w1).cell? ⟨w.heap.size, 0, none⟩ = some (.bool n1) := hA.c 0
 have a1 : (w1).cell? ⟨w.heap.size, 1, none⟩ = some (.string (B u1)) := hA.c 1
 have a2 : (w1).cell? ⟨w.heap.size, 2, none⟩ = some (.string (B d1)) := hA.c 2
 have b0 : (w1).cell? ⟨w.heap.size + 1, 0, none⟩ = some (.bool n2) := hB.c 0
 have b1 : (w1).cell? ⟨w.heap.size + 1, 1, none⟩ = some (.string (B u2)) := hB.c 1
 have b2 : (w1).cell? ⟨w.heap.size + 1, 2, none⟩ = some (.string (B d2)) := hB.c 2
 have c0 : (w1).cell? ⟨w.heap.size + 1 + 1, 0, none⟩ = some (.bool false) := hC.c 0
 have c1 : (w1).cell? ⟨w.heap.size + 1 + 1, 1, none⟩ = some (.string ⟨#[]⟩) := hC.c 1
 have c2 : (w1).cell? ⟨w.heap.size + 1 + 1, 2, none⟩ = some (.string ⟨#[]⟩) := hC.c 2
 have cf := hC.f
 have hs := hC.lt
 clear hA hB hC
 clear hb1
 unfold numT
 go_wp2
 have hcc := And.intro c0 (And.intro c1 (And.intro c2 hs))
 refine bodyPost_ret (v := .tuple #[.agg #[.bool rn, .string (B ru), .string (B rd)], .int .i64 rc]) (by simp [results, Tryd.results20, go_sem, hcc]) rfl ⟨rfl, ?_⟩
 refine ((za HW).trans ((za Hb1).mono (za HW).size)).trans ?_
 repeat (first | exact Below.refl _ _ | refine Below.setCell ?_ (by first | exact Nat.le_refl _ | exact Nat.le_succ _ | (simp; done) | (simp; omega)) _ | refine Below.alloc ?_ (by first | exact Nat.le_refl _ | (simp; done) | (simp; omega)) _)
theorem Zm (a b : T3) (w : World) (ha : small a) (hb : small b) :
  Calls Tryd.prog 19 #[numT a, numT b] w fun e w' => e = .returned (ansT (fld addP a b)) ∧ Below w.heap.size w w' := by
 cases h : okT a && okT b with
 | false => rw [jq h]; exact vS a.1 b.1 a.2.1 a.2.2 b.2.1 b.2.2 w ha.1 ha.2 hb.1 hb.2 h
 | true =>
  rw [Bool.and_eq_true] at h
  rw [qm h.1 h.2, qK h.1, qK h.2, ← j9, show addP (valT a) (valT b) = _ from (xh _ _ _ _ _ _).symm]
  exact vI _ _ _ _ _ _ w (zI h.1) (zI h.2)
theorem vw (a : T3) (w : World) (ha : small a) (hT : Tens w) : Calls Tryd.prog 9 #[numT a] w fun e w' => e = .returned (.bool (okT a)) ∧ Below w.heap.size w w' :=
 zN a.1 a.2.1 a.2.2 w (by have := ha.1; omega) (by have := ha.2; omega) hT
theorem Qj (a : T3) (w : World) (ha : small a) : Calls Tryd.prog 21 #[numT a] w fun e w' => e = .returned (.bool (okT a)) ∧ Below w.heap.size w w' :=
 qM a.1 a.2.1 a.2.2 w (by have := ha.1; omega) (by have := ha.2; omega)
theorem xT (a b : T3) (w : World) (ha : okT a = true) (hb : okT b = true) (hT : Tens w) :
  Calls Tryd.prog 24 #[numT a, numT b] w fun e w' => e = .returned (ansT (divT a b)) ∧ Below w.heap.size w w' := by
 have la := vl ha
 have lb := vl hb
 have h1 := fun w hT => vw a w ⟨by omega, by omega⟩ hT
 have h2 := fun w hT => vw b w ⟨by omega, by omega⟩ hT
 have hmul := fun w hT => v4 a (b.1, b.2.2, b.2.1) w ⟨by omega, by omega⟩ ⟨by show b.2.2.length ≤ 1000; omega, by show b.2.1.length ≤ 1000; omega⟩ hT
 rw [ha] at h1
 rw [hb] at h2
 have H1 := hide h1
 have H2 := hide h2
 have Hmul := hide hmul
 clear h1 h2 hmul ha hb la lb
 obtain ⟨n1, u1, d1⟩ := a
 obtain ⟨n2, u2, d2⟩ := b
 unfold numT at *
 dsimp only at *
 have HW := hide ((((Below.refl w.heap.size w).alloc (Nat.le_refl _) (.cells #[.bool n1, .string (B u1), .string (B d1)] 26)).alloc (by simp) (.cells #[.bool n2, .string (B u2), .string (B d2)] 26)).alloc (by simp; omega) (.cells #[.bool false, .string ⟨#[]⟩, .string ⟨#[]⟩] 26))
 have HA := hide (((AtC.new w #[.bool n1, .string (B u1), .string (B d1)] 26).alloc (.cells #[.bool n2, .string (B u2), .string (B d2)] 26)).alloc (.cells #[.bool false, .string ⟨#[]⟩, .string ⟨#[]⟩] 26))
 have HB := hide ((AtC.new (w.alloc (.cells #[.bool n1, .string (B u1), .string (B d1)] 26)) #[.bool n2, .string (B u2), .string (B d2)] 26).alloc (.cells #[.bool false, .string ⟨#[]⟩, .string ⟨#[]⟩] 26))
 have HC := hide (AtC.new ((w.alloc (.cells #[.bool n1, .string (B u1), .string (B d1)] 26)).alloc (.cells #[.bool n2, .string (B u2), .string (B d2)] 26)) #[.bool false, .string ⟨#[]⟩, .string ⟨#[]⟩] 26)
 rw [World.size_alloc] at HB
 rw [World.size_alloc, World.size_alloc] at HC
 have HT := hide hT
 clear hT
 have hsb : ((B u2).toList == [48]) = decide (u2 = [48]) := by rw [B_tl]; by_cases h : u2 = [48] <;> simp [h]
 by_cases hz : u2 = [48]
 all_goals
  have Hz := hide hz
  first | rw [decide_eq_true hz] at hsb | rw [decide_eq_false hz] at hsb
  clear hz
  go_enter Tryd.func24, Tryd.ntmps24
  go_wp2_with fail
  refine (za H1 _ ((za HT).below (za HW))).mono ?_
  rintro e w1 ⟨rfl, hb1⟩
  have Hb1 := hide hb1
  have HW1 := hide ((za HW).trans (hb1.mono (za HW).size))
  have hA := (za HA).below (za Hb1)
  have hB := (za HB).below (za Hb1)
  have hC := (za HC).below (za Hb1)
  have a0 : (w1).cell? ⟨w.heap.size, 0, none⟩ = some (.bool n1) := hA.c 0
  have a1 : (w1).cell? ⟨w.heap.size, 1, none⟩ = some (.string (B u1)) := hA.c 1
  have a2 : (w1).cell? ⟨w.heap.size, 2, none⟩ = some (.string (B d1)) := hA.c 2
  have b0 : (w1).cell? ⟨w.heap.size + 1, 0, none⟩ = some (.bool n2) := hB.c 0
  have b1 : (w1).cell? ⟨w.heap.size + 1, 1, none⟩ = some (.string (B u2)) := hB.c 1
  have b2 : (w1).cell? ⟨w.heap.size + 1, 2, none⟩ = some (.string (B d2)) := hB.c 2
  have c0 : (w1).cell? ⟨w.heap.size + 1 + 1, 0, none⟩ = some (.bool false) := hC.c 0
  have c1 : (w1).cell? ⟨w.heap.size + 1 + 1, 1, none⟩ = some (.string ⟨#[]⟩) := hC.c 1
  have c2 : (w1).cell? ⟨w.heap.size + 1 + 1, 2, none⟩ = some (.string ⟨#[]⟩) := hC.c 2
  have cf := hC.f
  have hs := hC.lt
  clear hA hB hC
  clear hb1
  go_wp2_with fail
  refine (za H2 w1 ((za HT).below (za HW1))).mono ?_
  rintro e w2 ⟨rfl, hb2⟩
  clear a0 a1 a2 b0 b1 b2 c0 c1 c2 cf hs
  have Hb2 := hide ((za Hb1).trans (hb2.mono (za Hb1).size))
  have HW2 := hide ((za HW1).trans (hb2.mono (za HW1).size))
  have hA := (za HA).below (za Hb2)
  have hB := (za HB).below (za Hb2)
  have hC := (za HC).below (za Hb2)
  have a0 : (w2).cell? ⟨w.heap.size, 0, none⟩ = some (.bool n1) := hA.c 0
  have a1 : (w2).cell? ⟨w.heap.size, 1, none⟩ = some (.string (B u1)) := hA.c 1
  have a2 : (w2).cell? ⟨w.heap.size, 2, none⟩ = some (.string (B d1)) := hA.c 2
  have b0 : (w2).cell? ⟨w.heap.size + 1, 0, none⟩ = some (.bool n2) := hB.c 0
  have b1 : (w2).cell? ⟨w.heap.size + 1, 1, none⟩ = some (.string (B u2)) := hB.c 1
  have b2 : (w2).cell? ⟨w.heap.size + 1, 2, none⟩ = some (.string (B d2)) := hB.c 2
  have c0 : (w2).cell? ⟨w.heap.size + 1 + 1, 0, none⟩ = some (.bool false) := hC.c 0
  have c1 : (w2).cell? ⟨w.heap.size + 1 + 1, 1, none⟩ = some (.string ⟨#[]⟩) := hC.c 1
  have c2 : (w2).cell? ⟨w.heap.size + 1 + 1, 2, none⟩ = some (.string ⟨#[]⟩) := hC.c 2
  have cf := hC.f
  have hs := hC.lt
  clear hA hB hC
  clear hb2
  go_wp2_with fail
 ·have hcc := And.intro c0 (And.intro c1 c2)
  refine bodyPost_ret (v := ansT (nilT, 2)) (by simp [results, Tryd.results24, go_sem, hcc, ansT, numT, nilT]; rfl) rfl ⟨by unfold divT; rw [if_pos (za Hz)], ?_⟩
  refine ((za HW).trans ((za Hb2).mono (za HW).size)).trans ?_
  repeat (first | exact Below.refl _ _ | refine Below.setCell ?_ (by first | exact Nat.le_refl _ | exact Nat.le_succ _ | (simp; done) | (simp; omega)) _ | refine Below.alloc ?_ (by first | exact Nat.le_refl _ | (simp; done) | (simp; omega)) _)
 ·refine (za Hmul w2 ((za HT).below (za HW2))).mono ?_
  generalize hr : fld mulP (n1, u1, d1) (n2, d2, u2) = r
  have Hr := hide hr
  clear hr
  obtain ⟨⟨rn, ru, rd⟩, rc⟩ := r
  unfold ansT numT
  dsimp only
  rintro e w3 ⟨rfl, hb3⟩
  clear a0 a1 a2 b0 b1 b2 c0 c1 c2 cf hs
  have Hb3 := hide ((za Hb2).trans (hb3.mono (za Hb2).size))
  have hA := (za HA).below (za Hb3)
  have hB := (za HB).below (za Hb3)
  have hC := (za HC).below (za Hb3)
  have a0 : (w3).cell? ⟨w.heap.size, 0, none⟩ = some (.bool n1) := hA.c 0
  have a1 : (w3).cell? ⟨w.heap.size, 1, none⟩ = some (.string (B u1)) := hA.c 1
  have a2 : (w3).cell? ⟨w.heap.size, 2, none⟩ = some (.string (B d1)) := hA.c 2
  have b0 : (w3).cell? ⟨w.heap.size + 1, 0, none⟩ = some (.bool n2) := hB.c 0
  have b1 : (w3).cell? ⟨w.heap.size + 1, 1, none⟩ = some (.string (B u2)) := hB.c 1
  have b2 : (w3).cell? ⟨w.heap.size + 1, 2, none⟩ = some (.string (B d2)) := hB.c 2
  have c0 : (w3).cell? ⟨w.heap.size + 1 + 1, 0, none⟩ = some (.bool false) := hC.c 0
  have c1 : (w3).cell? ⟨w.heap.size + 1 + 1, 1, none⟩ = some (.string ⟨#[]⟩) := hC.c 1
  have c2 : (w3).cell? ⟨w.heap.size + 1 + 1, 2, none⟩ = some (.string ⟨#[]⟩) := hC.c 2
  have cf := hC.f
  have hs := hC.lt
  clear hA hB hC
  clear hb3
  go_wp2
  have hcc := And.intro c0 (And.intro c1 (And.intro c2 hs))
  refine bodyPost_ret (v := .tuple #[.agg #[.bool rn, .string (B ru), .string (B rd)], .int .i64 rc]) (by simp [results, Tryd.results24, go_sem, hcc]) rfl ⟨by unfold divT; rw [if_neg (za Hz), za Hr]; rfl, ?_⟩
  refine ((za HW).trans ((za Hb3).mono (za HW).size)).trans ?_
  repeat (first | exact Below.refl _ _ | refine Below.setCell ?_ (by first | exact Nat.le_refl _ | exact Nat.le_succ _ | (simp; done) | (simp; omega)) _ | refine Below.alloc ?_ (by first | exact Nat.le_refl _ | (simp; done) | (simp; omega)) _)
theorem Qp (l r : T3 × Int) (w : World) (h : sameT l r) :
  Calls Tryd.prog 22 #[numT l.1, .int .i64 l.2, numT r.1, .int .i64 r.2] w fun e w' => e = .returned (.bool true) ∧ Below w.heap.size w w' := by
 obtain ⟨⟨n1, u1, d1⟩, c⟩ := l
 obtain ⟨⟨n2, u2, d2⟩, d⟩ := r
 unfold numT
 unfold sameT at h
 dsimp only at *
 have HW := hide (((Below.refl w.heap.size w).alloc (Nat.le_refl _) (.cells #[.bool n1, .string (B u1), .string (B d1)] 26)).alloc (by simp) (.cells #[.bool n2, .string (B u2), .string (B d2)] 26))
 by_cases hc : c = 3
 ·subst hc
  clear h
  go_enter Tryd.func22, Tryd.ntmps22
  go_wp2
  go_ret
  exact ⟨rfl, za HW⟩
 ·by_cases hd : d = 3
  ·subst hd
   clear h
   go_enter Tryd.func22, Tryd.ntmps22
   go_wp2
   go_ret
   exact ⟨rfl, za HW⟩
  ·have he : ((n1, u1, d1), c) = ((n2, u2, d2), d) := by
    rcases h with h | h | h
    ·exact absurd h hc
    ·exact absurd h hd
    ·exact h
   clear h
   injection he with h1 h2
   injection h1 with h3 h4
   injection h4 with h5 h6
   subst h2 h3 h5 h6
   go_enter Tryd.func22, Tryd.ntmps22
   go_wp2
   go_ret
   exact ⟨rfl, za HW⟩
structure Keeps (g : Nat) (w w' : World) : Prop where
 os : w'.os = w.os
 tape : w'.tape = w.tape
 output : w'.output = w.output
 size : w.heap.size ≤ w'.heap.size
 block : ∀ k, k < w.heap.size → k ≠ g → w'.heap[k]? = w.heap[k]?
theorem Keeps.refl (g : Nat) (w : World) : Keeps g w w := ⟨rfl, rfl, rfl, Nat.le_refl _, fun _ _ _ => rfl⟩
theorem Keeps.trans {g : Nat} {a b c : World} (h : Keeps g a b) (k : Keeps g b c) : Keeps g a c :=
 ⟨k.os.trans h.os, k.tape.trans h.tape, k.output.trans h.output, Nat.le_trans h.size k.size, fun i hi hg => (k.block i (Nat.lt_of_lt_of_le hi h.size) hg).trans (h.block i hi hg)⟩
theorem Keeps.of_below {g : Nat} {w w' : World} (h : Below w.heap.size w w') : Keeps g w w' := ⟨h.os, h.tape, h.output, h.size, fun k hk _ => h.block k hk⟩
theorem Keeps.below {g B : Nat} {w w' : World} (h : Keeps g w w') (hg : B ≤ g) (hB : B ≤ w.heap.size) : Below B w w' := ⟨h.os, h.tape, h.output, h.size, fun k hk => h.block k (by omega) (by omega)⟩
theorem Keeps.drewN {g : Nat} {a w : World} (h : Keeps g a w) (n : Nat) : Keeps g a (w.drewN n) := ⟨h.os, h.tape, h.output, h.size, h.block⟩
theorem Keeps.alloc {g : Nat} {a w : World} (h : Keeps g a w) (o : Obj) : Keeps g a (w.alloc o) := h.trans (Keeps.of_below ((Below.refl _ _).alloc (Nat.le_refl _) o))
theorem Keeps.setOwn {g : Nat} {a w : World} (h : Keeps g a w) {p : Addr} (hp : p.block = g) (u : Value) : Keeps g a (w.setCell p u) :=
 h.trans ⟨rfl, rfl, rfl, by simp [World.setCell], fun k _ hg => Below.heap_setCell _ _ _ _ (by omega)⟩
theorem Keeps.setNew {g : Nat} {a w : World} (h : Keeps g a w) {p : Addr} (hp : a.heap.size ≤ p.block) (u : Value) : Keeps g a (w.setCell p u) :=
 ⟨h.os, h.tape, h.output, Nat.le_trans h.size (by simp [World.setCell]), fun k hk hg => (Below.heap_setCell _ _ _ _ (by omega)).trans (h.block k hk hg)⟩
theorem Keeps.cell {g : Nat} {w w' : World} (h : Keeps g w w') {p : Addr} (hp : p.block < w.heap.size) (hg : p.block ≠ g) : w'.cell? p = w.cell? p := World.cell?_of_block (w := w) (h.block p.block hp hg)
def Byts (w : World) (g : Nat) (a : Option Addr) (n : Nat) : Prop :=
 0 < n → ∃ q o, a = some ⟨q, o, none⟩ ∧ q < g ∧ q < w.heap.size ∧ ∀ j, j < n → ∃ x : Nat, x ≤ 255 ∧ w.cell? ⟨q, o + j, none⟩ = some (.int .u8 (x : Int))
theorem Byts.keeps {w w' : World} {g : Nat} {a : Option Addr} {n : Nat} (h : Byts w g a n) (k : Keeps g w w') : Byts w' g a n := by
 intro hn
 obtain ⟨q, o, rfl, hqg, hq, hc⟩ := h hn
 refine ⟨q, o, rfl, hqg, Nat.lt_of_lt_of_le hq k.size, fun j hj => ?_⟩
 obtain ⟨x, hx, hcj⟩ := hc j hj
 exact ⟨x, hx, by rw [k.cell hq (Nat.ne_of_lt hqg)]; exact hcj⟩
structure Rd (w : World) (g p : Nat) (a : Option Addr) (n cap : Nat) : Prop where
 heap : w.heap[g]? = some (.cells #[.slice a n cap, .int .i64 (p : Int)] 107 (0, 0))
 byts : Byts w g a n
 len : n ≤ 2000
theorem Rd.keep {w w' : World} {g p : Nat} {a : Option Addr} {n cap : Nat} (h : Rd w g p a n cap) (hb : Below w.heap.size w w') : Rd w' g p a n cap :=
 ⟨by rw [hb.block g (Array.getElem?_eq_some_iff.1 h.heap).1]; exact h.heap, h.byts.keeps (Keeps.of_below hb), h.len⟩
theorem Rd.drewN {w : World} {g p : Nat} {a : Option Addr} {n cap : Nat} (h : Rd w g p a n cap) (k : Nat) : Rd (w.drewN k) g p a n cap := ⟨h.heap, h.byts, h.len⟩
theorem Rd.lt {w : World} {g p : Nat} {a : Option Addr} {n cap : Nat} (h : Rd w g p a n cap) : g < w.heap.size := (Array.getElem?_eq_some_iff.1 h.heap).1
theorem Rd.c0 {w : World} {g p : Nat} {a : Option Addr} {n cap : Nat} (h : Rd w g p a n cap) : w.cell? ⟨g, 0, none⟩ = some (.slice a n cap) := by simp [World.cell?, h.heap]
theorem Rd.c1 {w : World} {g p : Nat} {a : Option Addr} {n cap : Nat} (h : Rd w g p a n cap) : w.cell? ⟨g, 1, none⟩ = some (.int .i64 (p : Int)) := by simp [World.cell?, h.heap]
theorem Rd.f1 {w : World} {g p : Nat} {a : Option Addr} {n cap : Nat} (h : Rd w g p a n cap) : w.frozen? ⟨g, 1, none⟩ = false := by simp [World.frozen?, h.heap]
theorem Rd.next {w : World} {g p : Nat} {a : Option Addr} {n cap : Nat} (h : Rd w g p a n cap) (v : Int) (hv : v = ((p + 1 : Nat) : Int)) : Rd (w.setCell ⟨g, 1, none⟩ (.int .i64 v)) g (p + 1) a n cap := by
 refine ⟨?_, h.byts.keeps ((Keeps.refl g w).setOwn (p := ⟨g, 1, none⟩) rfl _), h.len⟩
 subst hv
 rw [show (w.setCell ⟨g, 1, none⟩ (.int .i64 ((p + 1 : Nat) : Int))).heap[g]? = _ from Array.getElem?_modify, if_pos rfl, h.heap]
 simp
theorem Rd.below {w w' : World} {g p : Nat} {a : Option Addr} {n cap : Nat} (h : Rd w g p a n cap) (hb : Below (g + 1) w w') : Rd w' g p a n cap := by
 refine ⟨by rw [hb.block g (by omega)]; exact h.heap, ?_, h.len⟩
 intro hn
 obtain ⟨q, o, rfl, hqg, hq, hc⟩ := h.byts hn
 refine ⟨q, o, rfl, hqg, Nat.lt_of_lt_of_le hq hb.size, fun j hj => ?_⟩
 obtain ⟨x, hx, hcj⟩ := hc j hj
 exact ⟨x, hx, by rw [hb.cell (p := ⟨q, o + j, none⟩) (by show q < g + 1; omega)]; exact hcj⟩
def Drawn (w : World) (g p n cap : Nat) (a : Option Addr) (k : Nat) (w' : World) : Prop := (∃ p', p' ≤ p + k ∧ Rd w' g p' a n cap) ∧ Keeps g w w'
theorem Drawn.more {w w1 w2 : World} {g p n cap k : Nat} {a : Option Addr} (h : Drawn w g p n cap a k w1) (hg : g < w.heap.size) (hb : Below w.heap.size w1 w2) : Drawn w g p n cap a k w2 := by
 obtain ⟨⟨p', hp, hr⟩, hk⟩ := h
 exact ⟨⟨p', hp, hr.below (hb.mono (by omega))⟩, ⟨hb.os.trans hk.os, hb.tape.trans hk.tape, hb.output.trans hk.output, Nat.le_trans hk.size hb.size, fun i hi hig => (hb.block i hi).trans (hk.block i hi hig)⟩⟩
theorem Rd.alloc {w : World} {g p : Nat} {a : Option Addr} {n cap : Nat} (h : Rd w g p a n cap) (o : Obj) : Rd (w.alloc o) g p a n cap := h.keep ((Below.refl _ _).alloc (Nat.le_refl _) _)
def At3 (w : World) (b : Nat) (x y z : Value) : Prop := w.heap[b]? = some (.cells #[x, y, z] 26 (0, 0))
theorem At3.lt {w : World} {b : Nat} {x y z : Value} (h : At3 w b x y z) : b < w.heap.size := (Array.getElem?_eq_some_iff.1 h).1
theorem At3.new (w : World) (x y z : Value) : At3 (w.alloc (.cells #[x, y, z] 26)) w.heap.size x y z := by
 show (w.heap.push _)[w.heap.size]? = _; rw [Array.getElem?_push, if_pos rfl]
theorem At3.keeps {w w' : World} {b g : Nat} {x y z : Value} (h : At3 w b x y z) (k : Keeps g w w') (hg : b ≠ g) : At3 w' b x y z := (k.block b h.lt hg).trans h
theorem At3.below {w w' : World} {b : Nat} {x y z : Value} (h : At3 w b x y z) (k : Below w.heap.size w w') : At3 w' b x y z := (k.block b h.lt).trans h
theorem At3.alloc {w : World} {b : Nat} {x y z : Value} (h : At3 w b x y z) (o : Obj) : At3 (w.alloc o) b x y z := h.below ((Below.refl _ _).alloc (Nat.le_refl _) _)
theorem At3.set1 {w : World} {b : Nat} {x y z : Value} (h : At3 w b x y z) (u : Value) : At3 (w.setCell ⟨b, 1, none⟩ u) b x u z := by
 show (w.heap.modify b _)[b]? = _
 rw [Array.getElem?_modify, if_pos rfl, show w.heap[b]? = _ from h]
 rfl
theorem At3.set {w : World} {b : Nat} {x y z : Value} (h : At3 w b x y z) {p : Addr} (hp : b ≠ p.block) (u : Value) : At3 (w.setCell p u) b x y z := by
 unfold At3; rw [Below.heap_setCell _ _ _ _ hp]; exact h
theorem At3.c0 {w : World} {b : Nat} {x y z : Value} (h : At3 w b x y z) : w.cell? ⟨b, 0, none⟩ = some x := by unfold At3 at h; simp [World.cell?, h]
theorem At3.c1 {w : World} {b : Nat} {x y z : Value} (h : At3 w b x y z) : w.cell? ⟨b, 1, none⟩ = some y := by unfold At3 at h; simp [World.cell?, h]
theorem At3.c2 {w : World} {b : Nat} {x y z : Value} (h : At3 w b x y z) : w.cell? ⟨b, 2, none⟩ = some z := by unfold At3 at h; simp [World.cell?, h]
theorem At3.f {w : World} {b : Nat} {x y z : Value} (h : At3 w b x y z) (j : Nat) : w.frozen? ⟨b, j, none⟩ = false := by unfold At3 at h; simp [World.frozen?, h]
theorem ZB {x y : Int} (hx0 : 0 ≤ x) (hx : x < 4611686018427387904) (hy0 : 0 ≤ y) (hy : y < 4611686018427387904) : 0 ≤ bits .xor .i64 x y ∧ bits .xor .i64 x y < 4611686018427387904 := by
 obtain ⟨a, rfl⟩ := Int.eq_ofNat_of_zero_le hx0
 obtain ⟨b, rfl⟩ := Int.eq_ofNat_of_zero_le hy0
 have e : (BitVec.ofInt 64 (a : Int) ^^^ BitVec.ofInt 64 (b : Int)).toNat = a ^^^ b := by
  rw [BitVec.toNat_xor, BitVec.ofInt_natCast, BitVec.ofInt_natCast, BitVec.toNat_ofNat, BitVec.toNat_ofNat, Nat.mod_eq_of_lt (by omega), Nat.mod_eq_of_lt (by omega)]
 have hlt : a ^^^ b < 2 ^ 62 := Nat.xor_lt_two_pow (by omega) (by omega)
 have hw : bits .xor .i64 (a : Int) (b : Int) = ((a ^^^ b : Nat) : Int) := by
  show IntKind.i64.wrap ((BitVec.ofInt 64 (a : Int) ^^^ BitVec.ofInt 64 (b : Int)).toNat : Int) = _
  rw [e, wi64 _ (by omega) (by omega)]
 rw [hw]; omega
def ZU (m : Int) (i : Nat) : Prop := (i : Int) < m ∨ i = 0
theorem nameI (z : Int) (M : Int) (h0 : 0 ≤ z) (h1 : z ≤ M) (hM : M ≤ 9223372036854775807) : ∃ u : Nat, Hid (z = (u : Int)) ∧ IntKind.i64.wrap z = (u : Int) ∧ (u : Int) ≤ M :=
 ⟨z.toNat, by show z = _; omega, by rw [wi64 z (by omega) (by omega)]; omega, by omega⟩
theorem jj (g p n cap : Nat) (a : Option Addr) (m : Int) (w : World) (h : Rd w g p a n cap) (hp : p ≤ 1000000000) (hm : m ≤ 4611686018427387904) :
  Calls Tryd.prog 33 #[.pointer (some ⟨g, 0, none⟩), .int .i64 m] w fun e w' => (∃ i : Nat, e = .returned (.int .i64 (i : Int)) ∧ ZU m i) ∧ Rd w' g (p + 1) a n cap ∧ Keeps g w w' := by
 have c0 := h.c0
 have c1 := h.c1
 have f1 := h.f1
 have hlt := h.lt
 have hN := h.next ((p : Int) + 1) (by omega)
 have hK := (Keeps.refl g w).setOwn (p := ⟨g, 1, none⟩) rfl (.int .i64 ((p : Int) + 1))
 have d0 := hN.c0
 have d1 := hN.c1
 have hB := hN.byts
 have hlen := h.len
 have HN := hide hN
 have HK := hide hK
 clear hN hK h
 by_cases hm1 : m < 1
 ·go_enter Tryd.func33, Tryd.ntmps33
  go_wp2
  go_ret
  exact ⟨⟨0, rfl, .inr rfl⟩, za HN, za HK⟩
 ·by_cases hn0 : n = 0
  ·have hz : ((n : Int) == 0) = true := by simp [hn0]
   have hl : decide (m < 1) = false := decide_eq_false hm1
   go_enter Tryd.func33, Tryd.ntmps33
   go_wp2
   go_ret
   subst hn0
   exact ⟨⟨0, rfl, .inr rfl⟩, za HN, za HK⟩
  ·obtain ⟨q, o, rfl, hqg, hq, hcells⟩ := hB (by omega)
   have hz : ((n : Int) == 0) = false := by simp; omega
   have hl : decide (m < 1) = false := decide_eq_false hm1
   have Hc := hide hcells
   clear hcells hB
   by_cases hpn : p < n
   ·obtain ⟨x, hx, hcx⟩ := za Hc p hpn
    go_enter Tryd.func33, Tryd.ntmps33
    go_wp2
    go_ret
    refine ⟨⟨((x : Int) % m).toNat, jT ?_, .inl ?_⟩, za HN, za HK⟩
    ·rw [Int.toNat_of_nonneg (Int.emod_nonneg _ (by omega))]
    ·rw [Int.toNat_of_nonneg (Int.emod_nonneg _ (by omega))]; exact Int.emod_lt_of_pos _ (by omega)
   ·obtain ⟨i1, hi1, e1⟩ : ∃ i : Nat, i < n ∧ (p : Int).tmod n = (i : Int) := ⟨p % n, Nat.mod_lt _ (by omega), by rw [Int.tmod_eq_emod_of_nonneg (by omega)]; rfl⟩
    obtain ⟨k7, _, e3, hk7⟩ := nameI ((p : Int) * 7) 7000000000 (by omega) (by omega) (by omega)
    obtain ⟨k73, _, e4, hk73⟩ := nameI ((k7 : Int) + 3) 7000000003 (by omega) (by omega) (by omega)
    obtain ⟨i2, hi2, e5⟩ : ∃ i : Nat, i < n ∧ (k73 : Int).tmod n = (i : Int) := ⟨k73 % n, Nat.mod_lt _ (by omega), by rw [Int.tmod_eq_emod_of_nonneg (by omega)]; rfl⟩
    obtain ⟨x, hx, hcx⟩ := za Hc i1 hi1
    obtain ⟨y, hy, hcy⟩ := za Hc i2 hi2
    obtain ⟨u1, _, e6, hu1⟩ := nameI ((x : Int) * 131) 100000 (by omega) (by omega) (by omega)
    obtain ⟨u2, _, e7, hu2⟩ := nameI ((y : Int) * 1117) 1000000 (by omega) (by omega) (by omega)
    obtain ⟨u3, _, e8, hu3⟩ := nameI ((u1 : Int) + u2) 1100000 (by omega) (by omega) (by omega)
    obtain ⟨u4, _, e9, hu4⟩ := nameI ((p : Int) * 29) 29000000000 (by omega) (by omega) (by omega)
    obtain ⟨u5, _, e10, hu5⟩ := nameI ((u3 : Int) + u4) 30000000000 (by omega) (by omega) (by omega)
    obtain ⟨u6, hu6, e11⟩ : ∃ u : Nat, (u : Int) ≤ 1000000000 ∧ (p : Int).tdiv n = (u : Int) := ⟨p / n, by have := Nat.div_le_self p n; omega, by rw [Int.tdiv_eq_ediv_of_nonneg (by omega)]; rfl⟩
    have e11' := wi64 (u6 : Int) (by omega) (by omega)
    obtain ⟨u7, _, e12, hu7⟩ := nameI ((u6 : Int) * 53) 53000000000 (by omega) (by omega) (by omega)
    obtain ⟨u8, _, e13, hu8⟩ := nameI ((u5 : Int) + u7) 100000000000 (by omega) (by omega) (by omega)
    have hi1' : (i1 : Int) < n := by omega
    have hi2' : (i2 : Int) < n := by omega
    have hx256 : (x : Int) ≤ 255 := by omega
    have hy256 : (y : Int) ≤ 255 := by omega
    have hX := ZB (x := (u8 : Int)) (y := (u8 : Int) / 64) (by omega) (by omega) (by omega) (by omega)
    obtain ⟨z, hz⟩ : ∃ z : Nat, bits .xor .i64 (u8 : Int) ((u8 : Int) / 64) = (z : Int) := ⟨(bits .xor .i64 (u8 : Int) ((u8 : Int) / 64)).toNat, by omega⟩
    have Hz := hide hz
    clear hz hX
    go_enter Tryd.func33, Tryd.ntmps33
    go_wp2
    go_quiet (fail)
    go_wp2
    go_ret
    rw [za Hz]
    refine ⟨⟨((z : Int) % m).toNat, jT ?_, .inl ?_⟩, (za HN).drewN nq, (za HK).drewN nq⟩
    ·rw [Int.toNat_of_nonneg (Int.emod_nonneg _ (by omega)), Int.tmod_eq_emod_of_nonneg (by omega)]
    ·rw [Int.toNat_of_nonneg (Int.emod_nonneg _ (by omega))]; exact Int.emod_lt_of_pos _ (by omega)
theorem jw (g p n cap : Nat) (a : Option Addr) (m : Int) (w : World) (h : Rd w g p a n cap) (hp : p ≤ 1000000000) (hm : m ≤ 4611686018427387904) :
  Calls Tryd.prog 33 #[.pointer (some ⟨g, 0, none⟩), .int .i64 m] w fun e w' => (∃ i : Nat, e = .returned (.int .i64 (i : Int)) ∧ ZU m i) ∧ Drawn w g p n cap a 1 w' :=
 (jj g p n cap a m w h hp hm).mono fun _ _ h => ⟨h.1, ⟨p + 1, Nat.le_refl _, h.2.1⟩, h.2.2⟩
def Bytes0 (w : World) (a : Option Addr) (n : Nat) : Prop :=
 0 < n → ∃ q o, a = some ⟨q, o, none⟩ ∧ q < w.heap.size ∧ ∀ j, j < n → ∃ x : Nat, x ≤ 255 ∧ w.cell? ⟨q, o + j, none⟩ = some (.int .u8 (x : Int))
theorem Bytes0.below {w w' : World} {a : Option Addr} {n : Nat} (h : Bytes0 w a n) (k : Below w.heap.size w w') : Bytes0 w' a n := by
 intro hn
 obtain ⟨q, o, rfl, hq, hc⟩ := h hn
 refine ⟨q, o, rfl, Nat.lt_of_lt_of_le hq k.size, fun j hj => ?_⟩
 obtain ⟨x, hx, hcj⟩ := hc j hj
 exact ⟨x, hx, by rw [k.cell hq]; exact hcj⟩
theorem Bytes0.byts {w : World} {a : Option Addr} {n m : Nat} (h : Bytes0 w a n) (hm : m ≤ n) (o : Obj) : Byts (w.alloc o) w.heap.size a m := by
 intro hn
 obtain ⟨q, o', rfl, hq, hc⟩ := h (by omega)
 refine ⟨q, o', rfl, hq, by simp; omega, fun j hj => ?_⟩
 obtain ⟨x, hx, hcj⟩ := hc j (by omega)
 exact ⟨x, hx, by rw [Below.cell ((Below.refl w.heap.size w).alloc (Nat.le_refl _) o) hq]; exact hcj⟩
theorem Qg {w : World} {a : Option Addr} {n m cap : Nat} (h : Bytes0 w a n) (hm : m ≤ n) (h2 : m ≤ 2000) (v : Int) (hv : v = ((0 : Nat) : Int)) : Rd (w.alloc (.cells #[.slice a m cap, .int .i64 v] 107)) w.heap.size 0 a m cap := by
 subst hv
 exact ⟨by show (w.heap.push _)[w.heap.size]? = _; rw [Array.getElem?_push, if_pos rfl], h.byts hm _, h2⟩
theorem ZW (a : Option Addr) (n cap : Nat) (w : World) (h : Bytes0 w a n) (hcap : n ≤ cap) (hmax : cap ≤ maxLen) :
  Calls Tryd.prog 32 #[.slice a n cap] w fun e w' => e = .returned (.pointer (some ⟨w.heap.size, 0, none⟩)) ∧ (∃ m, m ≤ n ∧ Rd w' w.heap.size 0 a m cap) ∧ Below w.heap.size w w' := by
 unfold maxLen at hmax
 have H := hide h
 clear h
 by_cases hn : 2000 < n
 ·have hc2 : (2000 : Int) ≤ cap := by omega
  go_enter Tryd.func32, Tryd.ntmps32
  go_wp2
  go_ret
  exact ⟨rfl, ⟨2000, by omega, Qg (za H) (by omega) (by omega) _ rfl⟩, (Below.refl _ _).alloc (Nat.le_refl _) _⟩
 ·go_enter Tryd.func32, Tryd.ntmps32
  go_wp2
  go_ret
  exact ⟨rfl, ⟨n, by omega, Qg (za H) (by omega) (by omega) _ rfl⟩, (Below.refl _ _).alloc (Nat.le_refl _) _⟩
def isS (M : Nat) : Value → Bool | .string s => decide (s.size ≤ M) | _ => false
theorem Qx {M : Nat} {v : Value} (h : isS M v = true) : ∃ s, v = .string s ∧ s.size ≤ M := by
 cases v <;> simp [isS] at h
 exact ⟨_, rfl, h⟩
theorem of_c (g p n cap q : Nat) (a : Option Addr) (cs : Array Value) (L : Nat) (w : World) (h : Rd w g p a n cap) (hp : p ≤ 1000000000) (hL : L = cs.size) (hL0 : 0 < L) (hL9 : L ≤ 1000000)
  (hcs : w.heap[q]? = some (.cells cs 9 (0, 0))) (hqg : q ≠ g) :
  Calls Tryd.prog 35 #[.pointer (some ⟨g, 0, none⟩), .slice (some ⟨q, 0, none⟩) L L] w fun e w' => (∃ v, e = .returned v ∧ v ∈ cs.toList) ∧ Drawn w g p n cap a 1 w' := by
 have hq : q < w.heap.size := (Array.getElem?_eq_some_iff.1 hcs).1
 have H := hide h
 have Hcs := hide hcs
 have HL := hide hL
 clear h hcs hL
 go_enter Tryd.func35, Tryd.ntmps35
 go_wp2_with fail
 refine (jj g p n cap a L w (za H) hp (by omega)).mono ?_
 rintro e w1 ⟨⟨i, rfl, hi⟩, hr, hk⟩
 have hiL : i < L := by rcases hi with hi | hi <;> omega
 have hiL2 : (i : Int) < L := by omega
 have hlt : i < cs.toList.length := by rw [Array.length_toList, ← za HL]; exact hiL
 have hcell : w1.cell? ⟨q, i, none⟩ = some (cs.toList[i]'hlt) := by
  rw [hk.cell (p := ⟨q, i, none⟩) hq hqg]
  simp [World.cell?, za Hcs]
 have hmem : cs.toList[i]'hlt ∈ cs.toList := List.getElem_mem hlt
 generalize cs.toList[i]'hlt = v at *
 have Hm := hide hmem
 have HR := hide hr
 have HK := hide hk
 clear hr hk hmem hi
 go_wp2
 go_ret
 exact ⟨⟨v, rfl, za Hm⟩, ⟨p + 1, Nat.le_refl _, za HR⟩, za HK⟩
theorem Z5 {s n T o : Nat} (h : o + s * n ≤ T) (hn : n % 2 = 1) : o + s + (s + s) * (n / 2) ≤ T := by
 obtain ⟨k, hk⟩ : ∃ k, n / 2 = k := ⟨_, rfl⟩
 have e : n = 2 * k + 1 := by omega
 rw [hk]; subst e
 rw [Nat.mul_add, Nat.mul_one, ← Nat.mul_assoc, Nat.mul_comm s 2, Nat.two_mul] at h
 omega
theorem x4 {s n T o : Nat} (h : o + s * n ≤ T) (hn : n % 2 = 0) : o + (s + s) * (n / 2) ≤ T := by
 obtain ⟨k, hk⟩ : ∃ k, n / 2 = k := ⟨_, rfl⟩
 have e : n = 2 * k := by omega
 rw [hk]; subst e
 rw [← Nat.mul_assoc, Nat.mul_comm s 2, Nat.two_mul] at h
 omega
theorem y4 (s : ByteArray) (n : Int) (T : Nat) (w : World) (hT : s.size * n.toNat ≤ T) (hT9 : T ≤ 1000000000) (hn : n ≤ 1000000000) :
  Calls Tryd.prog 36 #[.string s, .int .i64 n] w fun e w' => (∃ r : ByteArray, e = .returned (.string r) ∧ r.size ≤ T) ∧ w' = w := by
 go_enter Tryd.func36, Tryd.ntmps36
 go_wp2
 go_loop [0, 1, 5] (fun vs vn vo => ∃ (s o : ByteArray) (n : Int), vs = .string s ∧ vn = .int .i64 n ∧ vo = .string o ∧ n ≤ 1000000000 ∧ Hid (o.size + s.size * n.toNat ≤ T)) (fun _ vn _ => (intOf vn).toNat)
 case atStart => exact ⟨s, ⟨#[]⟩, n, rfl, rfl, rfl, hn, by show 0 + _ ≤ T; omega⟩
 case round =>
  obtain ⟨s, o, n, rfl, rfl, rfl, hn, hS⟩ := hrel
  by_cases h0 : 0 < n
  ·obtain ⟨k, rfl⟩ := Int.eq_ofNat_of_zero_le (show 0 ≤ n by omega)
   have hS' := za hS
   rw [Int.toNat_natCast] at hS'
   have hm : s.size * 1 ≤ s.size * k := Nat.mul_le_mul_left _ (by omega)
   have ho : o.size ≤ T := by omega
   have hs1 : s.size ≤ T := by omega
   have hosz : (o ++ s).size = o.size + s.size := ByteArray.size_append
   have hssz : (s ++ s).size = s.size + s.size := ByteArray.size_append
   by_cases hodd : k % 2 = 1
   ·have h1 := Z5 hS' hodd
    have hr : ((k : Int) % 2 == 1) = true := by rw [beq_iff_eq]; omega
    have hfit : o.size + s.size ≤ T := by omega
    have H1 := hide h1
    have Hos := hide hosz
    have Hss := hide hssz
    clear h1 hosz hssz hS' hm hS hodd
    go_wp2
    go_round
    case rel => exact ⟨s ++ s, o ++ s, ((k / 2 : Nat) : Int), rfl, by go_num, rfl, by omega, by show _ ≤ T; rw [za Hos, za Hss, Int.toNat_natCast]; exact za H1⟩
    case measure => simp [intOf]; omega
   ·have h1 := x4 hS' (by omega)
    have hr : ((k : Int) % 2 == 1) = false := by rw [beq_eq_false_iff_ne]; omega
    have H1 := hide h1
    have Hss := hide hssz
    clear h1 hosz hssz hS' hm hS hodd
    go_wp2
    go_round
    case rel => exact ⟨s ++ s, o, ((k / 2 : Nat) : Int), rfl, by go_num, rfl, by omega, by show _ ≤ T; rw [za Hss, Int.toNat_natCast]; exact za H1⟩
    case measure => simp [intOf]; omega
  ·have hT' : o.size ≤ T := by
    have := za hS
    omega
   go_wp2
   go_ret
   exact ⟨⟨o, rfl, hT'⟩, rfl⟩
theorem ZJ : dec 0 = ⟨#[48]⟩ ∧ dec 1 = ⟨#[49]⟩ ∧ dec 2 = ⟨#[50]⟩ ∧ dec 10 = ⟨#[49, 48]⟩ ∧ dec 100 = ⟨#[49, 48, 48]⟩ ∧ dec 999 = ⟨#[57, 57, 57]⟩ ∧ dec 1000 = ⟨#[49, 48, 48, 48]⟩ := by
 refine ⟨rfl, rfl, rfl, rfl, rfl, rfl, rfl⟩
theorem jG (g p n cap : Nat) (a : Option Addr) (w : World) (h : Rd w g p a n cap) (hp : p ≤ 900000000) :
  Calls Tryd.prog 37 #[.pointer (some ⟨g, 0, none⟩)] w fun e w' => (∃ x, e = .returned (.string (dec x)) ∧ (dec x).size ≤ 60) ∧ Drawn w g p n cap a 100 w' := by
 unfold Drawn
 have H := hide h
 clear h
 go_enter Tryd.func37, Tryd.ntmps37
 go_wp2_with fail
 refine (jj g p n cap a 4 _ (za H) (by omega) (by omega)).mono ?_
 rintro e w1 ⟨⟨i1, rfl, hi1⟩, hr1, hk1⟩
 have hi1' : i1 < 4 := by rcases hi1 with h | h <;> omega
 have HR1 := hide hr1
 have HK1 := hide hk1
 clear hr1 hk1 hi1
 go_wp2_with fail
 refine (jj g (p + 1) n cap a 8 _ (za HR1) (by omega) (by omega)).mono ?_
 rintro e w2 ⟨⟨i2, rfl, hi2⟩, hr2, hk2⟩
 have HR2 := hide hr2
 have HK2 := hide ((za HK1).trans hk2)
 clear hr2 hk2 hi2
 by_cases h0 : i2 = 0
 ·subst h0
  go_wp2_with fail
  refine (jj g (p + 1 + 1) n cap a 30 _ (za HR2) (by omega) (by omega)).mono ?_
  rintro e w2' ⟨⟨i3, rfl, hi3⟩, hr3, hk3⟩
  have hi3' : i3 < 30 := by rcases hi3 with h | h <;> omega
  have HR3 := hide hr3
  have HK3 := hide ((za HK2).trans hk3)
  clear hr3 hk3 hi3
  go_wp2
  go_loopw [4, 5] (fun vo vi wr => ∃ (xs : List Nat) (p' : Nat), vi = .int .i64 (xs.length : Int) ∧ vo = .string (B ((xs.map sg).reverse)) ∧ Hid (∀ d ∈ xs, d < 10) ∧ (xs.length : Int) ≤ (1 + (i3 : Int)) ∧ p' ≤ (p + 1 + 1 + 1) + xs.length ∧ Rd wr g p' a n cap ∧ Keeps g w wr) (fun _ vi _ => ((1 + (i3 : Int)) - intOf vi).toNat)
  case atStart => exact ⟨[], (p + 1 + 1 + 1), rfl, rfl, hide (by simp), by simp; omega, by simp, (za HR3), (za HK3)⟩
  case round =>
   obtain ⟨xs, p', rfl, rfl, hd, hle, hp', hr', hk'⟩ := hrel
   have HR' := hide hr'
   have HK' := hide hk'
   clear hr' hk'
   have hBx := zy ((xs.map sg).reverse)
   simp only [List.length_reverse, List.length_map] at hBx
   by_cases hlt : (xs.length : Int) < (1 + (i3 : Int))
   ·go_wp2_with fail
    refine (jj g p' n cap a 10 _ (za HR') (by omega) (by omega)).mono ?_
    rintro e w3 ⟨⟨d, rfl, hd10⟩, hr3, hk3⟩
    have hd9 : d < 10 := by rcases hd10 with h | h <;> omega
    have HR3 := hide hr3
    have HK3 := hide hk3
    clear hr3 hk3 hd10
    go_wp2_with fail
    refine (j0 d (by omega) _).mono ?_
    rintro e w4 ⟨rfl, hb4⟩
    have hds : (dec d).size = 1 := by unfold dec txt; rw [qR 10 (by omega) d hd9, zy]; rfl
    have happ : Hid (B ((xs.map sg).reverse) ++ dec d = B (((d :: xs).map sg).reverse)) := by
     show _ = _; unfold dec txt; rw [qR 10 (by omega) d hd9, jo]; simp
    go_wp2
    go_roundw
    case rel => exact ⟨d :: xs, p' + 1, by simp, by rw [za happ], hide (by intro x hx; rcases List.mem_cons.1 hx with rfl | hx; exact hd9; exact za hd x hx), by simp; omega, by simp; omega, (za HR3).keep hb4, ((za HK').trans (za HK3)).trans (Keeps.of_below hb4)⟩
    case measure => simp [intOf]; omega
   ·have hne : xs ≠ [] := by intro h; subst h; simp at hlt; omega
    have htr := qW xs (za hd) hne
    have hlen : (xs.map sg).reverse.length ≤ 60 := by simp; omega
    have htl := q4 ((xs.map sg).reverse)
    rw [htr] at htl
    have Htr := hide htr
    clear htr
    go_wp2_with fail
    refine (jr ((xs.map sg).reverse) _ (by omega)).mono ?_
    rintro e w3 ⟨rfl, rfl⟩
    go_wp2
    go_ret
    exact ⟨⟨ofd 10 xs, qn (by rw [za Htr]; rfl), by rw [zj]; omega⟩, ⟨p', by omega, za HR'⟩, za HK'⟩
 ·by_cases h1 : i2 = 1
  ·subst h1
   go_wp2_with fail
   refine (jj g (p + 1 + 1) n cap a 3 _ (za HR2) (by omega) (by omega)).mono ?_
   rintro e w2' ⟨⟨i3, rfl, hi3⟩, hr3, hk3⟩
   have hi3' : i3 < 3 := by rcases hi3 with h | h <;> omega
   have HR3 := hide hr3
   have HK3 := hide ((za HK2).trans hk3)
   clear hr3 hk3 hi3
   go_wp2
   go_loopw [4, 5] (fun vo vi wr => ∃ (xs : List Nat) (p' : Nat), vi = .int .i64 (xs.length : Int) ∧ vo = .string (B ((xs.map sg).reverse)) ∧ Hid (∀ d ∈ xs, d < 10) ∧ (xs.length : Int) ≤ (60 - (i3 : Int)) ∧ p' ≤ (p + 1 + 1 + 1) + xs.length ∧ Rd wr g p' a n cap ∧ Keeps g w wr) (fun _ vi _ => ((60 - (i3 : Int)) - intOf vi).toNat)
   case atStart => exact ⟨[], (p + 1 + 1 + 1), rfl, rfl, hide (by simp), by simp; omega, by simp, (za HR3), (za HK3)⟩
   case round =>
    obtain ⟨xs, p', rfl, rfl, hd, hle, hp', hr', hk'⟩ := hrel
    have HR' := hide hr'
    have HK' := hide hk'
    clear hr' hk'
    have hBx := zy ((xs.map sg).reverse)
    simp only [List.length_reverse, List.length_map] at hBx
    by_cases hlt : (xs.length : Int) < (60 - (i3 : Int))
    ·go_wp2_with fail
     refine (jj g p' n cap a 10 _ (za HR') (by omega) (by omega)).mono ?_
     rintro e w3 ⟨⟨d, rfl, hd10⟩, hr3, hk3⟩
     have hd9 : d < 10 := by rcases hd10 with h | h <;> omega
     have HR3 := hide hr3
     have HK3 := hide hk3
     clear hr3 hk3 hd10
     go_wp2_with fail
     refine (j0 d (by omega) _).mono ?_
     rintro e w4 ⟨rfl, hb4⟩
     have hds : (dec d).size = 1 := by unfold dec txt; rw [qR 10 (by omega) d hd9, zy]; rfl
     have happ : Hid (B ((xs.map sg).reverse) ++ dec d = B (((d :: xs).map sg).reverse)) := by
      show _ = _; unfold dec txt; rw [qR 10 (by omega) d hd9, jo]; simp
     go_wp2
     go_roundw
     case rel => exact ⟨d :: xs, p' + 1, by simp, by rw [za happ], hide (by intro x hx; rcases List.mem_cons.1 hx with rfl | hx; exact hd9; exact za hd x hx), by simp; omega, by simp; omega, (za HR3).keep hb4, ((za HK').trans (za HK3)).trans (Keeps.of_below hb4)⟩
     case measure => simp [intOf]; omega
    ·have hne : xs ≠ [] := by intro h; subst h; simp at hlt; omega
     have htr := qW xs (za hd) hne
     have hlen : (xs.map sg).reverse.length ≤ 60 := by simp; omega
     have htl := q4 ((xs.map sg).reverse)
     rw [htr] at htl
     have Htr := hide htr
     clear htr
     go_wp2_with fail
     refine (jr ((xs.map sg).reverse) _ (by omega)).mono ?_
     rintro e w3 ⟨rfl, rfl⟩
     go_wp2
     go_ret
     exact ⟨⟨ofd 10 xs, qn (by rw [za Htr]; rfl), by rw [zj]; omega⟩, ⟨p', by omega, za HR'⟩, za HK'⟩
  ·have z0 : ((i2 : Int) == 0) = false := by rw [beq_eq_false_iff_ne]; omega
   have z1 : ((i2 : Int) == 1) = false := by rw [beq_eq_false_iff_ne]; omega
   by_cases h2 : i2 = 2
   ·subst h2
    have hr2 := (za HR2)
    have hlt := hr2.lt
    go_wp2_with fail
    refine (of_c g (p + 1 + 1) n cap w2.heap.size a #[.string ⟨#[48]⟩, .string ⟨#[49]⟩, .string ⟨#[50]⟩, .string ⟨#[49, 48]⟩, .string ⟨#[49, 48, 48]⟩, .string ⟨#[57, 57, 57]⟩, .string ⟨#[49, 48, 48, 48]⟩] 7 _ (hr2.keep ((Below.refl _ _).alloc (Nat.le_refl _) _)) (by omega) rfl (by omega) (by omega) (by show (w2.heap.push _)[w2.heap.size]? = _; rw [Array.getElem?_push, if_pos rfl]) (by omega)).mono ?_
    rintro e w3 ⟨⟨v, rfl, hv⟩, ⟨p3, hp3, hr3⟩, hk3⟩
    have hx : ∃ x, v = .string (dec x) ∧ (dec x).size ≤ 60 := by
     obtain ⟨d0, d1, d2, d3, d4, d5, d6⟩ := ZJ
     simp at hv
     rcases hv with rfl | rfl | rfl | rfl | rfl | rfl | rfl
     ·exact ⟨0, by rw [d0], by rw [d0]; decide⟩
     ·exact ⟨1, by rw [d1], by rw [d1]; decide⟩
     ·exact ⟨2, by rw [d2], by rw [d2]; decide⟩
     ·exact ⟨10, by rw [d3], by rw [d3]; decide⟩
     ·exact ⟨100, by rw [d4], by rw [d4]; decide⟩
     ·exact ⟨999, by rw [d5], by rw [d5]; decide⟩
     ·exact ⟨1000, by rw [d6], by rw [d6]; decide⟩
    obtain ⟨x, rfl, hx60⟩ := hx
    have HR3 := hide hr3
    have HK3 := hide ((za HK2).trans ((Keeps.refl _ _).alloc _ |>.trans hk3))
    clear hr3 hk3 hr2 hv
    go_wp2
    go_ret
    exact ⟨⟨x, rfl, hx60⟩, ⟨p3, by omega, za HR3⟩, za HK3⟩
   ·have z2 : ((i2 : Int) == 2) = false := by rw [beq_eq_false_iff_ne]; omega
    go_wp2
    go_loopw [4, 5] (fun vo vi wr => ∃ (xs : List Nat) (p' : Nat), vi = .int .i64 (xs.length : Int) ∧ vo = .string (B ((xs.map sg).reverse)) ∧ Hid (∀ d ∈ xs, d < 10) ∧ (xs.length : Int) ≤ (1 + (i1 : Int)) ∧ p' ≤ (p + 1 + 1) + xs.length ∧ Rd wr g p' a n cap ∧ Keeps g w wr) (fun _ vi _ => ((1 + (i1 : Int)) - intOf vi).toNat)
    case atStart => exact ⟨[], (p + 1 + 1), rfl, rfl, hide (by simp), by simp; omega, by simp, (za HR2), (za HK2)⟩
    case round =>
     obtain ⟨xs, p', rfl, rfl, hd, hle, hp', hr', hk'⟩ := hrel
     have HR' := hide hr'
     have HK' := hide hk'
     clear hr' hk'
     have hBx := zy ((xs.map sg).reverse)
     simp only [List.length_reverse, List.length_map] at hBx
     by_cases hlt : (xs.length : Int) < (1 + (i1 : Int))
     ·go_wp2_with fail
      refine (jj g p' n cap a 10 _ (za HR') (by omega) (by omega)).mono ?_
      rintro e w3 ⟨⟨d, rfl, hd10⟩, hr3, hk3⟩
      have hd9 : d < 10 := by rcases hd10 with h | h <;> omega
      have HR3 := hide hr3
      have HK3 := hide hk3
      clear hr3 hk3 hd10
      go_wp2_with fail
      refine (j0 d (by omega) _).mono ?_
      rintro e w4 ⟨rfl, hb4⟩
      have hds : (dec d).size = 1 := by unfold dec txt; rw [qR 10 (by omega) d hd9, zy]; rfl
      have happ : Hid (B ((xs.map sg).reverse) ++ dec d = B (((d :: xs).map sg).reverse)) := by
       show _ = _; unfold dec txt; rw [qR 10 (by omega) d hd9, jo]; simp
      go_wp2
      go_roundw
      case rel => exact ⟨d :: xs, p' + 1, by simp, by rw [za happ], hide (by intro x hx; rcases List.mem_cons.1 hx with rfl | hx; exact hd9; exact za hd x hx), by simp; omega, by simp; omega, (za HR3).keep hb4, ((za HK').trans (za HK3)).trans (Keeps.of_below hb4)⟩
      case measure => simp [intOf]; omega
     ·have hne : xs ≠ [] := by intro h; subst h; simp at hlt; omega
      have htr := qW xs (za hd) hne
      have hlen : (xs.map sg).reverse.length ≤ 60 := by simp; omega
      have htl := q4 ((xs.map sg).reverse)
      rw [htr] at htl
      have Htr := hide htr
      clear htr
      go_wp2_with fail
      refine (jr ((xs.map sg).reverse) _ (by omega)).mono ?_
      rintro e w3 ⟨rfl, rfl⟩
      go_wp2
      go_ret
      exact ⟨⟨ofd 10 xs, qn (by rw [za Htr]; rfl), by rw [zj]; omega⟩, ⟨p', by omega, za HR'⟩, za HK'⟩
theorem QC (g p n cap : Nat) (a : Option Addr) (w : World) (h : Rd w g p a n cap) (hp : p ≤ 800000000) :
  Calls Tryd.prog 34 #[.pointer (some ⟨g, 0, none⟩)] w fun e w' => (∃ neg x y, e = .returned (numV neg (dec x) (dec y)) ∧ (dec x).size ≤ 60 ∧ (dec y).size ≤ 60) ∧ Drawn w g p n cap a 300 w' := by
 have hlt := h.lt
 have Hlt := hide hlt
 have HR := hide (h.alloc (.cells #[.bool false, .string ⟨#[]⟩, .string ⟨#[]⟩] 26))
 clear h
 go_enter Tryd.func34, Tryd.ntmps34
 go_wp2_with fail
 refine (jw g p n cap a 2 _ (za HR) (by omega) (by omega)).mono ?_
 rintro e w1 ⟨⟨i, rfl, hi⟩, ⟨p1, hp1, hr1⟩, hk1⟩
 have HR1 := hide hr1
 have HK1 := hide hk1
 clear hr1 hk1 hi
 by_cases hi0 : i = 0
 ·have z0 : ((i : Int) == 0) = true := by rw [beq_iff_eq]; omega
  have HK := hide hi0
  clear hi0
  go_wp2_with fail
  have h := jG g p1 n cap a w1 (za HR1) (by omega)
  refine h.mono ?_
  clear h
  rintro e w2 ⟨⟨d, rfl, hd60⟩, ⟨p2, hp2, hr2⟩, hk2⟩
  have HR2 := hide hr2
  have HK2 := hide ((za HK1).trans hk2)
  clear hr2 hk2
  go_wp2_with fail
  refine (jw g p2 n cap a 2 _ (za HR2) (by omega) (by omega)).mono ?_
  rintro e w3 ⟨⟨j, rfl, hj⟩, ⟨p3, hp3, hr3⟩, hk3⟩
  have HR3 := hide hr3
  have HK3 := hide (((za HK2)).trans hk3)
  clear hr3 hk3 hj
  go_wp2_with fail
  have h := jG g p3 n cap a w3 (za HR3) (by omega)
  refine h.mono ?_
  clear h
  rintro e w4 ⟨⟨u, rfl, hu60⟩, ⟨p4, hp4, hr4⟩, hk4⟩
  have HR4 := hide hr4
  have HK4 := hide ((za HK3).trans hk4)
  clear hr4 hk4
  go_wp2_with fail
  have h := vA ((j : Int) == 0) u d w4 (by omega) (by omega)
  refine h.mono ?_
  clear h
  rintro e w5 ⟨rfl, hb5⟩
  have hr5 := (za HR4).keep hb5
  have hk5 := (za HK4).trans (Keeps.of_below hb5)
  have hA := (At3.new w (.bool false) (.string ⟨#[]⟩) (.string ⟨#[]⟩)).keeps hk5 (by omega)
  have hsz := hA.lt
  have c0 := hA.c0
  have c1 := hA.c1
  have c2 := hA.c2
  have f := hA.f
  have Hfin : Hid (Drawn w g p n cap a 300 w5) := ⟨⟨p4, by omega, hr5⟩, ((Keeps.refl g w).alloc _).trans hk5⟩
  clear hr5 hk5 hA HR3 HK3 HR4 HK4 HR1 HK1 HR2 HK2 HR HK
  have hne : w5.heap.size ≠ w.heap.size := by omega
  cases hl : zm ((j : Int) == 0) u d with
  | none =>
   unfold zk numO noNum numV
   go_wp2
   refine bodyPost_ret (v := .agg #[.bool false, .string ⟨#[55]⟩, .string ⟨#[49]⟩]) (by simp [results, Tryd.results34, go_sem, c0, c1, c2, hsz]) rfl ⟨⟨false, 7, 1, rfl, by decide, by decide⟩, ?_⟩
   exact (za Hfin).more (za Hlt) ((z7 (Below.refl _ _) w.heap.size (by omega) _ _ _).alloc (by simp; omega) _)
  | some r =>
   obtain ⟨nn, x, y⟩ := r
   have hok := zH (j1 hl)
   have hx60 : (dec x).size ≤ 60 := by rw [zj]; exact hok.2.2.1
   have hy60 : (dec y).size ≤ 60 := by rw [zj]; exact hok.2.2.2.1
   clear hok
   unfold zk numO numV
   go_wp2
   refine bodyPost_ret (v := numV nn (dec x) (dec y)) (by simp [results, Tryd.results34, go_sem, numV, c0, c1, c2, hsz]) rfl ⟨⟨nn, x, y, rfl, hx60, hy60⟩, ?_⟩
   exact (za Hfin).more (za Hlt) ((z7 (Below.refl _ _) w.heap.size (by omega) _ _ _).alloc (by simp; omega) _)
 ·have z0 : ((i : Int) == 0) = false := by rw [beq_eq_false_iff_ne]; omega
  have HK := hide hi0
  have HR2 := HK
  have HK2 := HK
  clear hi0
  have hd60 : (dec 1).size ≤ 60 := by decide
  rw [show (Value.string ⟨#[49]⟩) = .string (dec 1) from rfl]
  go_wp2_with fail
  refine (jw g p1 n cap a 2 _ (za HR1) (by omega) (by omega)).mono ?_
  rintro e w3 ⟨⟨j, rfl, hj⟩, ⟨p3, hp3, hr3⟩, hk3⟩
  have HR3 := hide hr3
  have HK3 := hide (((za HK1)).trans hk3)
  clear hr3 hk3 hj
  go_wp2_with fail
  have h := jG g p3 n cap a w3 (za HR3) (by omega)
  refine h.mono ?_
  clear h
  rintro e w4 ⟨⟨u, rfl, hu60⟩, ⟨p4, hp4, hr4⟩, hk4⟩
  have HR4 := hide hr4
  have HK4 := hide ((za HK3).trans hk4)
  clear hr4 hk4
  go_wp2_with fail
  have h := vA ((j : Int) == 0) u 1 w4 (by omega) (by omega)
  refine h.mono ?_
  clear h
  rintro e w5 ⟨rfl, hb5⟩
  have hr5 := (za HR4).keep hb5
  have hk5 := (za HK4).trans (Keeps.of_below hb5)
  have hA := (At3.new w (.bool false) (.string ⟨#[]⟩) (.string ⟨#[]⟩)).keeps hk5 (by omega)
  have hsz := hA.lt
  have c0 := hA.c0
  have c1 := hA.c1
  have c2 := hA.c2
  have f := hA.f
  have Hfin : Hid (Drawn w g p n cap a 300 w5) := ⟨⟨p4, by omega, hr5⟩, ((Keeps.refl g w).alloc _).trans hk5⟩
  clear hr5 hk5 hA HR3 HK3 HR4 HK4 HR1 HK1 HR2 HK2 HR HK
  have hne : w5.heap.size ≠ w.heap.size := by omega
  cases hl : zm ((j : Int) == 0) u 1 with
  | none =>
   unfold zk numO noNum numV
   go_wp2
   refine bodyPost_ret (v := .agg #[.bool false, .string ⟨#[55]⟩, .string ⟨#[49]⟩]) (by simp [results, Tryd.results34, go_sem, c0, c1, c2, hsz]) rfl ⟨⟨false, 7, 1, rfl, by decide, by decide⟩, ?_⟩
   exact (za Hfin).more (za Hlt) ((z7 (Below.refl _ _) w.heap.size (by omega) _ _ _).alloc (by simp; omega) _)
  | some r =>
   obtain ⟨nn, x, y⟩ := r
   have hok := zH (j1 hl)
   have hx60 : (dec x).size ≤ 60 := by rw [zj]; exact hok.2.2.1
   have hy60 : (dec y).size ≤ 60 := by rw [zj]; exact hok.2.2.2.1
   clear hok
   unfold zk numO numV
   go_wp2
   refine bodyPost_ret (v := numV nn (dec x) (dec y)) (by simp [results, Tryd.results34, go_sem, numV, c0, c1, c2, hsz]) rfl ⟨⟨nn, x, y, rfl, hx60, hy60⟩, ?_⟩
   exact (za Hfin).more (za Hlt) ((z7 (Below.refl _ _) w.heap.size (by omega) _ _ _).alloc (by simp; omega) _)
def numS (neg : Bool) (us ds : ByteArray) : Value := .agg #[.bool neg, .string us, .string ds]
def jl (us ds : ByteArray) : Prop := us.size ≤ 1000 ∧ ds.size ≤ 1000
theorem jN {x : Nat} (h : (dec x).size ≤ 60) : (dec (x * 2)).size ≤ 61 := by
 by_cases h0 : x = 0
 ·subst h0; decide
 ·have := jM (ρ := x * 2) (b := x) (by omega); omega
theorem xD {l : List Value} {v : Value} {M : Nat} (h : l.all (isS M) = true) (hv : v ∈ l) : ∃ s, v = .string s ∧ s.size ≤ M := Qx (List.all_eq_true.1 h v hv)
theorem xX (g p n cap : Nat) (a : Option Addr) (neg : Bool) (x y : Nat) (w : World) (h : Rd w g p a n cap) (hp : p ≤ 800000000) (hx : (dec x).size ≤ 60) (hy : (dec y).size ≤ 60) :
  Calls Tryd.prog 99 #[.pointer (some ⟨g, 0, none⟩), numV neg (dec x) (dec y)] w fun e w' => (∃ neg us ds, e = .returned (numS neg us ds) ∧ jl us ds) ∧ Drawn w g p n cap a 10 w' := by
 have hlt := h.lt
 have Hlt := hide hlt
 have hAa := (At3.new w (.bool neg) (.string (dec x)) (.string (dec y))).alloc (.cells #[.bool false, .string ⟨#[]⟩, .string ⟨#[]⟩] 26)
 have hAb := At3.new (w.alloc (.cells #[.bool neg, .string (dec x), .string (dec y)] 26)) (.bool false) (.string ⟨#[]⟩) (.string ⟨#[]⟩)
 have hR0 := (h.alloc (.cells #[.bool neg, .string (dec x), .string (dec y)] 26)).alloc (.cells #[.bool false, .string ⟨#[]⟩, .string ⟨#[]⟩] 26)
 rw [show (w.alloc (.cells #[.bool neg, .string (dec x), .string (dec y)] 26)).heap.size = w.heap.size + 1 from by simp] at hAb
 have HA1 := hide hAa
 have HA2 := hide hAb
 have HR := hide hR0
 clear h hAa hAb hR0
 unfold numV
 go_enter Tryd.func99, Tryd.ntmps99
 go_wp2_with fail
 refine (jw g p n cap a 7 _ (za HR) (by omega) (by omega)).mono ?_
 rintro e w1 ⟨⟨i, rfl, hi⟩, ⟨p1, hp1, hr1⟩, hk1⟩
 have HR1 := hide hr1
 have HK1 := hide hk1
 clear hr1 hk1 hi
 have hA1 := (za HA1).keeps (za HK1) (by omega)
 have hA2 := (za HA2).keeps (za HK1) (by omega)
 have c10 := hA1.c0
 have c11 := hA1.c1
 have c12 := hA1.c2
 have f1 := hA1.f
 have c20 := hA2.c0
 have c21 := hA2.c1
 have c22 := hA2.c2
 have f2 := hA2.f
 have hs1 := hA1.lt
 have hs2 := hA2.lt
 clear hA1 hA2
 rcases Nat.lt_or_ge i 1 with h | h
 ·have hi0 : i = 0 := by omega
  subst hi0
  have hr1 := za HR1
  have hlt1 := hr1.lt
  go_wp2_with fail
  refine (of_c g p1 n cap w1.heap.size a #[.string ⟨#[]⟩, .string ⟨#[48, 48]⟩, .string ⟨#[48]⟩, .string ⟨#[120]⟩, .string ⟨#[45, 49]⟩, .string ⟨#[48, 55]⟩] 6 _ (hr1.alloc _) (by omega) rfl (by omega) (by omega) (by show (w1.heap.push _)[w1.heap.size]? = _; rw [Array.getElem?_push, if_pos rfl]) (by omega)).mono ?_
  rintro e w2 ⟨⟨v, rfl, hv⟩, ⟨p2, hp2, hr2⟩, hk2⟩
  obtain ⟨s, rfl, hs⟩ := xD (M := 10) (by rfl) hv
  have HR2 := hide hr2
  have HK2 := hide (((za HK1).alloc _).trans hk2)
  clear hr2 hk2 hv hr1 c10 c11 c12 f1 c20 c21 c22 f2 hs1 hs2
  have hA1 := (za HA1).keeps (za HK2) (by omega)
  have hA2 := (za HA2).keeps (za HK2) (by omega)
  have c10 := hA1.c0
  have c11 := hA1.c1
  have c12 := hA1.c2
  have f1 := hA1.f
  have c20 := hA2.c0
  have c21 := hA2.c1
  have c22 := hA2.c2
  have f2 := hA2.f
  have hs1 := hA1.lt
  have hs2 := hA2.lt
  clear hA1 hA2
  go_wp2
  have hcc := And.intro c10 (And.intro c11 (And.intro c12 (And.intro c20 (And.intro c21 (And.intro c22 (And.intro hs1 hs2))))))
  refine bodyPost_ret (v := numS neg s (dec y)) (by simp [results, Tryd.results99, go_sem, numS, hcc]) rfl ⟨⟨neg, s, (dec y), rfl, ⟨by omega, by omega⟩⟩, ?_⟩
  have hD : Drawn w g p n cap a 10 w2 := ⟨⟨p2, by omega, (za HR2)⟩, (((Keeps.refl g w).alloc _).alloc _).trans (za HK2)⟩
  refine hD.more (za Hlt) ?_
  repeat (first | exact Below.refl _ _ | refine Below.setCell ?_ (by first | exact Nat.le_refl _ | exact Nat.le_succ _ | (simp; done) | (simp; omega)) _ | refine Below.alloc ?_ (by first | exact Nat.le_refl _ | (simp; done) | (simp; omega)) _)
 rcases Nat.lt_or_ge i 2 with h2 | h2
 ·have hi1 : i = 1 := by omega
  subst hi1
  have hr1 := za HR1
  have hlt1 := hr1.lt
  go_wp2_with fail
  refine (of_c g p1 n cap w1.heap.size a #[.string ⟨#[]⟩, .string ⟨#[48]⟩, .string ⟨#[48, 48]⟩, .string ⟨#[120]⟩, .string ⟨#[48, 49]⟩, .string ⟨#[49]⟩] 6 _ (hr1.alloc _) (by omega) rfl (by omega) (by omega) (by show (w1.heap.push _)[w1.heap.size]? = _; rw [Array.getElem?_push, if_pos rfl]) (by omega)).mono ?_
  rintro e w2 ⟨⟨v, rfl, hv⟩, ⟨p2, hp2, hr2⟩, hk2⟩
  obtain ⟨s, rfl, hs⟩ := xD (M := 10) (by rfl) hv
  have HR2 := hide hr2
  have HK2 := hide (((za HK1).alloc _).trans hk2)
  clear hr2 hk2 hv hr1 c10 c11 c12 f1 c20 c21 c22 f2 hs1 hs2
  have hA1 := (za HA1).keeps (za HK2) (by omega)
  have hA2 := (za HA2).keeps (za HK2) (by omega)
  have c10 := hA1.c0
  have c11 := hA1.c1
  have c12 := hA1.c2
  have f1 := hA1.f
  have c20 := hA2.c0
  have c21 := hA2.c1
  have c22 := hA2.c2
  have f2 := hA2.f
  have hs1 := hA1.lt
  have hs2 := hA2.lt
  clear hA1 hA2
  go_wp2
  have hcc := And.intro c10 (And.intro c11 (And.intro c12 (And.intro c20 (And.intro c21 (And.intro c22 (And.intro hs1 hs2))))))
  refine bodyPost_ret (v := numS neg (dec x) s) (by simp [results, Tryd.results99, go_sem, numS, hcc]) rfl ⟨⟨neg, (dec x), s, rfl, ⟨by omega, by omega⟩⟩, ?_⟩
  have hD : Drawn w g p n cap a 10 w2 := ⟨⟨p2, by omega, (za HR2)⟩, (((Keeps.refl g w).alloc _).alloc _).trans (za HK2)⟩
  refine hD.more (za Hlt) ?_
  repeat (first | exact Below.refl _ _ | refine Below.setCell ?_ (by first | exact Nat.le_refl _ | exact Nat.le_succ _ | (simp; done) | (simp; omega)) _ | refine Below.alloc ?_ (by first | exact Nat.le_refl _ | (simp; done) | (simp; omega)) _)
 have z0 : ((i : Int) == 0) = false := by rw [beq_eq_false_iff_ne]; omega
 have z1 : ((i : Int) == 1) = false := by rw [beq_eq_false_iff_ne]; omega
 rcases Nat.lt_or_ge i 3 with h3 | h3
 ·have hi2 : i = 2 := by omega
  subst hi2
  cases neg with
  | false =>
   go_wp2
   have hcc := And.intro c10 (And.intro c11 (And.intro c12 (And.intro c20 (And.intro c21 (And.intro c22 (And.intro hs1 hs2))))))
   refine bodyPost_ret (v := numS true (dec x) (dec y)) (by simp [results, Tryd.results99, go_sem, numS, hcc]) rfl ⟨⟨true, (dec x), (dec y), rfl, ⟨by omega, by omega⟩⟩, ?_⟩
   have hD : Drawn w g p n cap a 10 w1 := ⟨⟨p1, by omega, (za HR1)⟩, (((Keeps.refl g w).alloc _).alloc _).trans (za HK1)⟩
   refine hD.more (za Hlt) ?_
   repeat (first | exact Below.refl _ _ | refine Below.setCell ?_ (by first | exact Nat.le_refl _ | exact Nat.le_succ _ | (simp; done) | (simp; omega)) _ | refine Below.alloc ?_ (by first | exact Nat.le_refl _ | (simp; done) | (simp; omega)) _)
  | true =>
   go_wp2
   have hcc := And.intro c10 (And.intro c11 (And.intro c12 (And.intro c20 (And.intro c21 (And.intro c22 (And.intro hs1 hs2))))))
   refine bodyPost_ret (v := numS false (dec x) (dec y)) (by simp [results, Tryd.results99, go_sem, numS, hcc]) rfl ⟨⟨false, (dec x), (dec y), rfl, ⟨by omega, by omega⟩⟩, ?_⟩
   have hD : Drawn w g p n cap a 10 w1 := ⟨⟨p1, by omega, (za HR1)⟩, (((Keeps.refl g w).alloc _).alloc _).trans (za HK1)⟩
   refine hD.more (za Hlt) ?_
   repeat (first | exact Below.refl _ _ | refine Below.setCell ?_ (by first | exact Nat.le_refl _ | exact Nat.le_succ _ | (simp; done) | (simp; omega)) _ | refine Below.alloc ?_ (by first | exact Nat.le_refl _ | (simp; done) | (simp; omega)) _)
 have z2 : ((i : Int) == 2) = false := by rw [beq_eq_false_iff_ne]; omega
 rcases Nat.lt_or_ge i 4 with h4 | h4
 ·have hi3 : i = 3 := by omega
  subst hi3
  go_wp2_with fail
  rw [show (Value.string ⟨#[50]⟩) = .string (dec 2) from rfl]
  have h := qx x 2 w1 (by omega) (by decide)
  refine h.mono ?_
  clear h
  rintro e w2 ⟨rfl, hb2⟩
  have HR2 := hide ((za HR1).keep hb2)
  have HK2 := hide ((za HK1).trans (Keeps.of_below hb2))
  clear hb2 c10 c11 c12 f1 c20 c21 c22 f2 hs1 hs2
  have hA1 := (za HA1).keeps (za HK2) (by omega)
  have hA2 := (za HA2).keeps (za HK2) (by omega)
  have c10 := hA1.c0
  have c11 := hA1.c1
  have c12 := hA1.c2
  have f1 := hA1.f
  have c20 := hA2.c0
  have c21 := hA2.c1
  have c22 := hA2.c2
  have f2 := hA2.f
  have hs1 := hA1.lt
  have hs2 := hA2.lt
  clear hA1 hA2
  have hB1 := ((za HA1).keeps (za HK2) (by omega)).set1 (.string (dec (x * 2)))
  have hB2 := ((za HA2).keeps (za HK2) (by omega)).set (p := ⟨w.heap.size, 1, none⟩) (by simp) (.string (dec (x * 2)))
  have HR3 := hide ((za HR2).below (w' := w2.setCell ⟨w.heap.size, 1, none⟩ (.string (dec (x * 2)))) ((Below.refl _ _).setCell (by show g + 1 ≤ w.heap.size; omega) _))
  have HK3 := hide ((((Keeps.refl g w).alloc (.cells #[.bool neg, .string (dec x), .string (dec y)] 26)).alloc (.cells #[.bool false, .string ⟨#[]⟩, .string ⟨#[]⟩] 26)).trans (za HK2))
  have HK4 := hide ((za HK3).setNew (p := ⟨w.heap.size, 1, none⟩) (Nat.le_refl _) (.string (dec (x * 2))))
  have HB1 := hide hB1
  have HB2 := hide hB2
  clear hB1 hB2
  go_wp2_with fail
  rw [show (Value.string ⟨#[50]⟩) = .string (dec 2) from rfl]
  have h := qx y 2 (w2.setCell ⟨w.heap.size, 1, none⟩ (.string (dec (x * 2)))) (by omega) (by decide)
  refine h.mono ?_
  clear h
  rintro e w3 ⟨rfl, hb3⟩
  have hR := (za HR3).keep hb3
  have hK := (za HK4).trans (Keeps.of_below hb3)
  have hA1 := (za HB1).below hb3
  have hA2 := (za HB2).below hb3
  clear hb3 c10 c11 c12 f1 c20 c21 c22 f2 hs1 hs2
  have c10 := hA1.c0
  have c11 := hA1.c1
  have c12 := hA1.c2
  have f1 := hA1.f
  have c20 := hA2.c0
  have c21 := hA2.c1
  have c22 := hA2.c2
  have f2 := hA2.f
  have hs1 := hA1.lt
  have hs2 := hA2.lt
  have HR := hide hR
  have HK := hide hK
  have hx2 : (dec (x * 2)).size ≤ 61 := jN hx
  have hy2 : (dec (y * 2)).size ≤ 61 := jN hy
  clear hA1 hA2 hR hK
  go_wp2
  have hcc := And.intro c10 (And.intro c11 (And.intro c12 (And.intro c20 (And.intro c21 (And.intro c22 (And.intro hs1 hs2))))))
  refine bodyPost_ret (v := numS neg (dec (x * 2)) (dec (y * 2))) (by simp [results, Tryd.results99, go_sem, numS, hcc]) rfl ⟨⟨neg, _, _, rfl, ⟨by omega, by omega⟩⟩, ?_⟩
  have hD : Drawn w g p n cap a 10 w3 := ⟨⟨_, by omega, za HR⟩, za HK⟩
  refine hD.more (za Hlt) ?_
  repeat (first | exact Below.refl _ _ | refine Below.setCell ?_ (by first | exact Nat.le_refl _ | exact Nat.le_succ _ | (simp; done) | (simp; omega)) _ | refine Below.alloc ?_ (by first | exact Nat.le_refl _ | (simp; done) | (simp; omega)) _)
 have z3 : ((i : Int) == 3) = false := by rw [beq_eq_false_iff_ne]; omega
 rcases Nat.lt_or_ge i 5 with h5 | h5
 ·have hi4 : i = 4 := by omega
  subst hi4
  go_wp2_with fail
  refine (jw g p1 n cap a 2 _ (za HR1) (by omega) (by omega)).mono ?_
  rintro e w2 ⟨⟨j, rfl, hj⟩, ⟨p2, hp2, hr2⟩, hk2⟩
  have hj2 : j < 2 := by rcases hj with h | h <;> omega
  have HR2 := hide hr2
  have HK2 := hide ((za HK1).trans hk2)
  clear hr2 hk2 hj c10 c11 c12 f1 c20 c21 c22 f2 hs1 hs2
  go_wp2_with fail
  refine (y4 ⟨#[57]⟩ (60 + (j : Int)) 100 _ (by show 1 * _ ≤ _; omega) (by omega) (by omega)).mono ?_
  rintro e w3 ⟨⟨s, rfl, hs⟩, rfl⟩
  have hA1 := (za HA1).keeps (za HK2) (by omega)
  have hA2 := (za HA2).keeps (za HK2) (by omega)
  have c10 := hA1.c0
  have c11 := hA1.c1
  have c12 := hA1.c2
  have f1 := hA1.f
  have c20 := hA2.c0
  have c21 := hA2.c1
  have c22 := hA2.c2
  have f2 := hA2.f
  have hs1 := hA1.lt
  have hs2 := hA2.lt
  clear hA1 hA2
  go_wp2
  have hcc := And.intro c10 (And.intro c11 (And.intro c12 (And.intro c20 (And.intro c21 (And.intro c22 (And.intro hs1 hs2))))))
  refine bodyPost_ret (v := numS neg s (dec y)) (by simp [results, Tryd.results99, go_sem, numS, hcc]) rfl ⟨⟨neg, s, (dec y), rfl, ⟨by omega, by omega⟩⟩, ?_⟩
  have hD : Drawn w g p n cap a 10 w3 := ⟨⟨p2, by omega, (za HR2)⟩, (((Keeps.refl g w).alloc _).alloc _).trans (za HK2)⟩
  refine hD.more (za Hlt) ?_
  repeat (first | exact Below.refl _ _ | refine Below.setCell ?_ (by first | exact Nat.le_refl _ | exact Nat.le_succ _ | (simp; done) | (simp; omega)) _ | refine Below.alloc ?_ (by first | exact Nat.le_refl _ | (simp; done) | (simp; omega)) _)
 have z4 : ((i : Int) == 4) = false := by rw [beq_eq_false_iff_ne]; omega
 rcases Nat.lt_or_ge i 6 with h6 | h6
 ·have hi5 : i = 5 := by omega
  subst hi5
  go_wp2_with fail
  refine (jw g p1 n cap a 2 _ (za HR1) (by omega) (by omega)).mono ?_
  rintro e w2 ⟨⟨j, rfl, hj⟩, ⟨p2, hp2, hr2⟩, hk2⟩
  have hj2 : j < 2 := by rcases hj with h | h <;> omega
  have HR2 := hide hr2
  have HK2 := hide ((za HK1).trans hk2)
  clear hr2 hk2 hj c10 c11 c12 f1 c20 c21 c22 f2 hs1 hs2
  go_wp2_with fail
  refine (y4 ⟨#[48]⟩ (59 + (j : Int)) 100 _ (by show 1 * _ ≤ _; omega) (by omega) (by omega)).mono ?_
  rintro e w3 ⟨⟨s, rfl, hs⟩, rfl⟩
  have hsz : (⟨#[49]⟩ ++ s : ByteArray).size ≤ 101 := by rw [ByteArray.size_append]; show 1 + _ ≤ _; omega
  have hns : ¬ 9223372036854775807 < 1 + s.size := by omega
  have hA1 := (za HA1).keeps (za HK2) (by omega)
  have hA2 := (za HA2).keeps (za HK2) (by omega)
  have c10 := hA1.c0
  have c11 := hA1.c1
  have c12 := hA1.c2
  have f1 := hA1.f
  have c20 := hA2.c0
  have c21 := hA2.c1
  have c22 := hA2.c2
  have f2 := hA2.f
  have hs1 := hA1.lt
  have hs2 := hA2.lt
  clear hA1 hA2
  go_wp2
  have hcc := And.intro c10 (And.intro c11 (And.intro c12 (And.intro c20 (And.intro c21 (And.intro c22 (And.intro hs1 hs2))))))
  refine bodyPost_ret (v := numS neg (dec x) (⟨#[49]⟩ ++ s)) (by simp [results, Tryd.results99, go_sem, numS, hcc]) rfl ⟨⟨neg, (dec x), (⟨#[49]⟩ ++ s), rfl, ⟨by omega, by omega⟩⟩, ?_⟩
  have hD : Drawn w g p n cap a 10 w3 := ⟨⟨p2, by omega, (za HR2)⟩, (((Keeps.refl g w).alloc _).alloc _).trans (za HK2)⟩
  refine hD.more (za Hlt) ?_
  repeat (first | exact Below.refl _ _ | refine Below.setCell ?_ (by first | exact Nat.le_refl _ | exact Nat.le_succ _ | (simp; done) | (simp; omega)) _ | refine Below.alloc ?_ (by first | exact Nat.le_refl _ | (simp; done) | (simp; omega)) _)
 have z5 : ((i : Int) == 5) = false := by rw [beq_eq_false_iff_ne]; omega
 go_wp2
 have hcc := And.intro c10 (And.intro c11 (And.intro c12 (And.intro c20 (And.intro c21 (And.intro c22 (And.intro hs1 hs2))))))
 refine bodyPost_ret (v := numS false ⟨#[]⟩ ⟨#[]⟩) (by simp [results, Tryd.results99, go_sem, numS, hcc]) rfl ⟨⟨false, _, _, rfl, ⟨by decide, by decide⟩⟩, ?_⟩
 have hD : Drawn w g p n cap a 10 w1 := ⟨⟨p1, by omega, za HR1⟩, (((Keeps.refl g w).alloc _).alloc _).trans (za HK1)⟩
 refine hD.more (za Hlt) ?_
 repeat (first | exact Below.refl _ _ | refine Below.setCell ?_ (by first | exact Nat.le_refl _ | exact Nat.le_succ _ | (simp; done) | (simp; omega)) _ | refine Below.alloc ?_ (by first | exact Nat.le_refl _ | (simp; done) | (simp; omega)) _)
theorem xx (g p n cap : Nat) (a : Option Addr) (w : World) (h : Rd w g p a n cap) (hp : p ≤ 700000000) :
  Calls Tryd.prog 52 #[.pointer (some ⟨g, 0, none⟩)] w fun e w' => (∃ neg us ds, e = .returned (numS neg us ds) ∧ jl us ds) ∧ Drawn w g p n cap a 400 w' := by
 have hlt := h.lt
 have Hlt := hide hlt
 have HR := hide (h.alloc (.cells #[.bool false, .string ⟨#[]⟩, .string ⟨#[]⟩] 26))
 clear h
 go_enter Tryd.func52, Tryd.ntmps52
 go_wp2_with fail
 have h := QC g p n cap a _ (za HR) (by omega)
 refine h.mono ?_
 clear h
 rintro e w1 ⟨⟨neg, x, y, rfl, hx60, hy60⟩, ⟨p1, hp1, hr1⟩, hk1⟩
 have hA := (At3.new w (.bool false) (.string ⟨#[]⟩) (.string ⟨#[]⟩)).keeps hk1 (by omega)
 have HA := hide (hA.alloc (.cells #[.bool neg, .string (dec x), .string (dec y)] 26))
 have HB := hide (At3.new w1 (.bool neg) (.string (dec x)) (.string (dec y)))
 have hs0 := hA.lt
 have hs1 : g < w1.heap.size := hr1.lt
 have HR1 := hide (hr1.alloc (.cells #[.bool neg, .string (dec x), .string (dec y)] 26))
 have HK1 := hide ((((Keeps.refl g w).alloc _).trans hk1).alloc (.cells #[.bool neg, .string (dec x), .string (dec y)] 26))
 clear hr1 hk1 hA
 unfold numV
 go_wp2_with fail
 refine (jw g p1 n cap a 24 _ (za HR1) (by omega) (by omega)).mono ?_
 rintro e w2 ⟨⟨i, rfl, hi⟩, ⟨p2, hp2, hr2⟩, hk2⟩
 have hA1 := (za HA).keeps hk2 (by omega)
 have hA2 := (za HB).keeps hk2 (by omega)
 have c10 := hA1.c0
 have c11 := hA1.c1
 have c12 := hA1.c2
 have f1 := hA1.f
 have c20 := hA2.c0
 have c21 := hA2.c1
 have c22 := hA2.c2
 have f2 := hA2.f
 have hs2 := hA2.lt
 have HR2 := hide hr2
 have HK2 := hide ((za HK1).trans hk2)
 have HA1 := hide hA1
 clear hr2 hk2 hi hA1 hA2
 by_cases hi0 : i = 0
 ·have z0 : ((i : Int) == 0) = true := by rw [beq_iff_eq]; omega
  have HI := hide hi0
  clear hi0
  go_wp2_with fail
  have h := xX g p2 n cap a neg x y w2 (za HR2) (by omega) hx60 hy60
  refine h.mono ?_
  clear h
  rintro e w3 ⟨⟨neg', us, ds, rfl, hsm⟩, ⟨p3, hp3, hr3⟩, hk3⟩
  have hA1 := (za HA1).keeps hk3 (by omega)
  clear c10 c11 c12 f1
  have c10 := hA1.c0
  have c11 := hA1.c1
  have c12 := hA1.c2
  have f1 := hA1.f
  have hD : Drawn w g p n cap a 400 w3 := ⟨⟨p3, by omega, hr3⟩, (za HK2).trans hk3⟩
  have HD := hide hD
  have Hsm := hide hsm
  have hs3 := hA1.lt
  clear hD hsm hr3 hk3 hA1
  unfold numS
  go_wp2
  have hcc := And.intro c10 (And.intro c11 c12)
  refine bodyPost_ret (v := .agg #[.bool neg', .string us, .string ds]) (by simp [results, Tryd.results52, go_sem, hcc]) rfl ⟨⟨neg', us, ds, rfl, za Hsm⟩, ?_⟩
  refine (za HD).more (za Hlt) ?_
  repeat (first | exact Below.refl _ _ | refine Below.setCell ?_ (by first | exact Nat.le_refl _ | exact Nat.le_succ _ | (simp; done) | (simp; omega)) _ | refine Below.alloc ?_ (by first | exact Nat.le_refl _ | (simp; done) | (simp; omega)) _)
 ·have z0 : ((i : Int) == 0) = false := by rw [beq_eq_false_iff_ne]; omega
  have hD : Drawn w g p n cap a 400 w2 := ⟨⟨p2, by omega, za HR2⟩, za HK2⟩
  have HD := hide hD
  clear hD hi0
  go_wp2
  have hcc := And.intro c10 (And.intro c11 c12)
  refine bodyPost_ret (v := .agg #[.bool neg, .string (dec x), .string (dec y)]) (by simp [results, Tryd.results52, go_sem, hcc]) rfl ⟨⟨neg, _, _, rfl, ⟨by omega, by omega⟩⟩, ?_⟩
  refine (za HD).more (za Hlt) ?_
  repeat (first | exact Below.refl _ _ | refine Below.setCell ?_ (by first | exact Nat.le_refl _ | exact Nat.le_succ _ | (simp; done) | (simp; omega)) _ | refine Below.alloc ?_ (by first | exact Nat.le_refl _ | (simp; done) | (simp; omega)) _)
end Go.Proofs.YtcnnicbaeicboaaDoor
