/- A part of the proof, put together out of smaller texts: each piece says what it is for. -/
import Derived.Test.YtchginjabaobfaaDoorM5
import Derived.Test.YtchginjabaobfaaDoorRows
import Derived.Deep.QuietTactic
import Derived.BigQuiet
namespace Go.Proofs.YtchginjabaobfaaDoor
open Go.RowKit Nt


theorem numO_agg (o : Option (Bool × Nat × Nat)) : ∃ n u d, numO o = .agg #[.bool n, .string u, .string d] := by
  cases o with
  | none => exact ⟨_, _, _, rfl⟩
  | some p => exact ⟨_, _, _, rfl⟩
theorem far3 {w : World} {b : Nat} {u0 u1 u2 : Value} {a : Addr} (h : b ≠ a.block) : (((w.setCell ⟨b, 0, none⟩ u0).setCell ⟨b, 1, none⟩ u1).setCell ⟨b, 2, none⟩ u2).cell? a = w.cell? a := by
  rw [World.cell?_setCell_far _ _ _ _ h, World.cell?_setCell_far _ _ _ _ h, World.cell?_setCell_far _ _ _ _ h]
theorem dec_prod {x y : Nat} (hx : (dec x).size ≤ 60) (hy : (dec y).size ≤ 60) : (dec (x * y)).size ≤ 120 := by
  rw [dec_len]; exact txl_len_le (by omega) (by omega) (gr_prod hx hy)
theorem dec_sum {x y : Nat} (hx : (dec x).size ≤ 120) (hy : (dec y).size ≤ 120) : (dec (x + y)).size ≤ 121 := by
  have h1 := dec_lt x
  have h2 := dec_lt y
  have h3 : 10 ^ (dec x).size ≤ 10 ^ 120 := Nat.pow_le_pow_right (by omega) hx
  have h4 : 10 ^ (dec y).size ≤ 10 ^ 120 := Nat.pow_le_pow_right (by omega) hy
  rw [dec_len]
  apply txl_len_le (by omega) (by omega)
  have e : (10 : Nat) ^ 121 = 10 * 10 ^ 120 := by rw [Nat.pow_succ, Nat.mul_comm]
  rw [e]
  generalize (10 : Nat) ^ 120 = p at *
  omega

set_option maxRecDepth 100000 in
set_option maxHeartbeats 2000000 in
theorem l3Add_same (n1 n2 : Bool) (x1 y1 x2 y2 : Nat) (w : World) (sx1 : (dec x1).size ≤ 60) (sy1 : (dec y1).size ≤ 60) (sx2 : (dec x2).size ≤ 60) (sy2 : (dec y2).size ≤ 60) (hn : n1 = n2) :
    Calls Tryd.prog 62 #[.agg #[.bool n1, .string (dec x1), .string (dec y1)], .agg #[.bool n2, .string (dec x2), .string (dec y2)]] w fun e w' => e = .returned (ansC (lowest n1 (x1 * y2 + x2 * y1) (y1 * y2)) (codeOf (lowest n1 (x1 * y2 + x2 * y1) (y1 * y2)))) ∧ Below w.heap.size w w' := by
  have hb0 : (n1 == n2) = true := by rw [hn]; simp
  have d1 := dec_prod sx1 sy2
  have d2 := dec_prod sx2 sy1
  have d3 := dec_prod sy1 sy2
  have d4 := dec_sum d1 d2
  clear hn
  have HW := hide ((((Below.refl w.heap.size w).alloc (Nat.le_refl _) (.cells #[.bool n1, .string (dec x1), .string (dec y1)] 26)).alloc (by simp) (.cells #[.bool n2, .string (dec x2), .string (dec y2)] 26)).alloc (by simp; omega) (.cells #[.bool false, .string ⟨#[]⟩, .string ⟨#[]⟩] 26))
  have HA := hide (((AtC.new w #[.bool n1, .string (dec x1), .string (dec y1)] 26).alloc (.cells #[.bool n2, .string (dec x2), .string (dec y2)] 26)).alloc (.cells #[.bool false, .string ⟨#[]⟩, .string ⟨#[]⟩] 26))
  have HB := hide ((AtC.new (w.alloc (.cells #[.bool n1, .string (dec x1), .string (dec y1)] 26)) #[.bool n2, .string (dec x2), .string (dec y2)] 26).alloc (.cells #[.bool false, .string ⟨#[]⟩, .string ⟨#[]⟩] 26))
  have HC := hide (AtC.new ((w.alloc (.cells #[.bool n1, .string (dec x1), .string (dec y1)] 26)).alloc (.cells #[.bool n2, .string (dec x2), .string (dec y2)] 26)) #[.bool false, .string ⟨#[]⟩, .string ⟨#[]⟩] 26)
  rw [World.size_alloc] at HB
  rw [World.size_alloc, World.size_alloc] at HC
  go_enter Tryd.func62, Tryd.ntmps62
  -- a product: x1 y2 the numbers, (((w.alloc (.cells #[.bool n1, .string (dec x1), .string (dec y1)] 26)).alloc (.cells #[.bool n2, .string (dec x2), .string (dec y2)] 26)).alloc (.cells #[.bool false, .string ⟨#[]⟩, .string ⟨#[]⟩] 26)) the world ahead, (Below.refl (((w.alloc (.cells #[.bool n1, .string (dec x1), .string (dec y1)] 26)).alloc (.cells #[.bool n2, .string (dec x2), .string (dec y2)] 26)).alloc (.cells #[.bool false, .string ⟨#[]⟩, .string ⟨#[]⟩] 26)).heap.size (((w.alloc (.cells #[.bool n1, .string (dec x1), .string (dec y1)] 26)).alloc (.cells #[.bool n2, .string (dec x2), .string (dec y2)] 26)).alloc (.cells #[.bool false, .string ⟨#[]⟩, .string ⟨#[]⟩] 26))) its fact since W0, w1 the new world
  go_wp2_with fail
  have h := l1Mul_c x1 y2 (((w.alloc (.cells #[.bool n1, .string (dec x1), .string (dec y1)] 26)).alloc (.cells #[.bool n2, .string (dec x2), .string (dec y2)] 26)).alloc (.cells #[.bool false, .string ⟨#[]⟩, .string ⟨#[]⟩] 26)) (by omega) (by omega)
  refine h.mono ?_
  clear h
  rintro e w1 ⟨rfl, hb⟩
  have HSw1 := hide (((Below.refl (((w.alloc (.cells #[.bool n1, .string (dec x1), .string (dec y1)] 26)).alloc (.cells #[.bool n2, .string (dec x2), .string (dec y2)] 26)).alloc (.cells #[.bool false, .string ⟨#[]⟩, .string ⟨#[]⟩] 26)).heap.size (((w.alloc (.cells #[.bool n1, .string (dec x1), .string (dec y1)] 26)).alloc (.cells #[.bool n2, .string (dec x2), .string (dec y2)] 26)).alloc (.cells #[.bool false, .string ⟨#[]⟩, .string ⟨#[]⟩] 26)))).trans (hb.mono ((Below.refl (((w.alloc (.cells #[.bool n1, .string (dec x1), .string (dec y1)] 26)).alloc (.cells #[.bool n2, .string (dec x2), .string (dec y2)] 26)).alloc (.cells #[.bool false, .string ⟨#[]⟩, .string ⟨#[]⟩] 26)).heap.size (((w.alloc (.cells #[.bool n1, .string (dec x1), .string (dec y1)] 26)).alloc (.cells #[.bool n2, .string (dec x2), .string (dec y2)] 26)).alloc (.cells #[.bool false, .string ⟨#[]⟩, .string ⟨#[]⟩] 26)))).size))
  clear hb
  -- w1 the world, (unhide HSw1) what is kept since W0
  have hA := (unhide HA).below (unhide HSw1)
  have hB := (unhide HB).below (unhide HSw1)
  have hC := (unhide HC).below (unhide HSw1)
  have a0 : (w1).cell? ⟨w.heap.size, 0, none⟩ = some (.bool n1) := hA.c 0
  have a1 : (w1).cell? ⟨w.heap.size, 1, none⟩ = some (.string (dec x1)) := hA.c 1
  have a2 : (w1).cell? ⟨w.heap.size, 2, none⟩ = some (.string (dec y1)) := hA.c 2
  have b0 : (w1).cell? ⟨w.heap.size + 1, 0, none⟩ = some (.bool n2) := hB.c 0
  have b1 : (w1).cell? ⟨w.heap.size + 1, 1, none⟩ = some (.string (dec x2)) := hB.c 1
  have b2 : (w1).cell? ⟨w.heap.size + 1, 2, none⟩ = some (.string (dec y2)) := hB.c 2
  have c0 : (w1).cell? ⟨w.heap.size + 1 + 1, 0, none⟩ = some (.bool false) := hC.c 0
  have c1 : (w1).cell? ⟨w.heap.size + 1 + 1, 1, none⟩ = some (.string ⟨#[]⟩) := hC.c 1
  have c2 : (w1).cell? ⟨w.heap.size + 1 + 1, 2, none⟩ = some (.string ⟨#[]⟩) := hC.c 2
  have cf := hC.f
  have hs := hC.lt
  clear hA hB hC
  -- a product: x2 y1 the numbers, w1 the world ahead, (unhide HSw1) its fact since W0, w2 the new world
  go_wp2_with fail
  have h := l1Mul_c x2 y1 w1 (by omega) (by omega)
  refine h.mono ?_
  clear h
  rintro e w2 ⟨rfl, hb⟩
  have HSw2 := hide (((unhide HSw1)).trans (hb.mono ((unhide HSw1)).size))
  clear hb
  clear a0 a1 a2 b0 b1 b2 c0 c1 c2 cf hs
  -- w2 the world, (unhide HSw2) what is kept since W0
  have hA := (unhide HA).below (unhide HSw2)
  have hB := (unhide HB).below (unhide HSw2)
  have hC := (unhide HC).below (unhide HSw2)
  have a0 : (w2).cell? ⟨w.heap.size, 0, none⟩ = some (.bool n1) := hA.c 0
  have a1 : (w2).cell? ⟨w.heap.size, 1, none⟩ = some (.string (dec x1)) := hA.c 1
  have a2 : (w2).cell? ⟨w.heap.size, 2, none⟩ = some (.string (dec y1)) := hA.c 2
  have b0 : (w2).cell? ⟨w.heap.size + 1, 0, none⟩ = some (.bool n2) := hB.c 0
  have b1 : (w2).cell? ⟨w.heap.size + 1, 1, none⟩ = some (.string (dec x2)) := hB.c 1
  have b2 : (w2).cell? ⟨w.heap.size + 1, 2, none⟩ = some (.string (dec y2)) := hB.c 2
  have c0 : (w2).cell? ⟨w.heap.size + 1 + 1, 0, none⟩ = some (.bool false) := hC.c 0
  have c1 : (w2).cell? ⟨w.heap.size + 1 + 1, 1, none⟩ = some (.string ⟨#[]⟩) := hC.c 1
  have c2 : (w2).cell? ⟨w.heap.size + 1 + 1, 2, none⟩ = some (.string ⟨#[]⟩) := hC.c 2
  have cf := hC.f
  have hs := hC.lt
  clear hA hB hC
  -- a product: y1 y2 the numbers, w2 the world ahead, (unhide HSw2) its fact since W0, w3 the new world
  go_wp2_with fail
  have h := l1Mul_c y1 y2 w2 (by omega) (by omega)
  refine h.mono ?_
  clear h
  rintro e w3 ⟨rfl, hb⟩
  have HSw3 := hide (((unhide HSw2)).trans (hb.mono ((unhide HSw2)).size))
  clear hb
  clear a0 a1 a2 b0 b1 b2 c0 c1 c2 cf hs
  -- w3 the world, (unhide HSw3) what is kept since W0
  have hA := (unhide HA).below (unhide HSw3)
  have hB := (unhide HB).below (unhide HSw3)
  have hC := (unhide HC).below (unhide HSw3)
  have a0 : (w3).cell? ⟨w.heap.size, 0, none⟩ = some (.bool n1) := hA.c 0
  have a1 : (w3).cell? ⟨w.heap.size, 1, none⟩ = some (.string (dec x1)) := hA.c 1
  have a2 : (w3).cell? ⟨w.heap.size, 2, none⟩ = some (.string (dec y1)) := hA.c 2
  have b0 : (w3).cell? ⟨w.heap.size + 1, 0, none⟩ = some (.bool n2) := hB.c 0
  have b1 : (w3).cell? ⟨w.heap.size + 1, 1, none⟩ = some (.string (dec x2)) := hB.c 1
  have b2 : (w3).cell? ⟨w.heap.size + 1, 2, none⟩ = some (.string (dec y2)) := hB.c 2
  have c0 : (w3).cell? ⟨w.heap.size + 1 + 1, 0, none⟩ = some (.bool false) := hC.c 0
  have c1 : (w3).cell? ⟨w.heap.size + 1 + 1, 1, none⟩ = some (.string ⟨#[]⟩) := hC.c 1
  have c2 : (w3).cell? ⟨w.heap.size + 1 + 1, 2, none⟩ = some (.string ⟨#[]⟩) := hC.c 2
  have cf := hC.f
  have hs := hC.lt
  clear hA hB hC
  go_wp2
  go_region_held3 (fun w' => w'.cell? ⟨w.heap.size, 0, none⟩ = some (.bool n1)) ((first | with_reducible assumption | exact a0 | (rw [far3 (by first | (simp; done) | (simp; omega) | omega)]; with_reducible assumption))) (first | (go_at_call 58; refine (l1Add_c (x1 * y2) (x2 * y1) _ (by omega) (by omega)).mono ?_; rintro e w4 ⟨rfl, hb4⟩; have hbb := (unhide HSw3).drew.trans (hb4.mono (unhide HSw3).drew.size); have HS4 := hide hbb; have a40 : w4.cell? ⟨w.heap.size, 0, none⟩ = some (.bool n1) := ((unhide HA).below hbb).c 0; clear hb4 hbb) | (go_at_call 107; refine (l3Answer_c n1 (x1 * y2 + x2 * y1) (y1 * y2) _ (by omega) (by omega)).mono ?_; rintro e w5 ⟨rfl, hb5⟩; have hbb := (unhide HS4).trans (hb5.mono (unhide HS4).size); have HS5 := hide hbb; have hA := (unhide HA).below hbb; have hC := (unhide HC).below hbb; have a50 : w5.cell? ⟨w.heap.size, 0, none⟩ = some (.bool n1) := hA.c 0; have c50 : w5.cell? ⟨w.heap.size + 1 + 1, 0, none⟩ = some (.bool false) := hC.c 0; have c51 : w5.cell? ⟨w.heap.size + 1 + 1, 1, none⟩ = some (.string ⟨#[]⟩) := hC.c 1; have c52 : w5.cell? ⟨w.heap.size + 1 + 1, 2, none⟩ = some (.string ⟨#[]⟩) := hC.c 2; have cf5 := hC.f; have hs5 := hC.lt; obtain ⟨rn, ru, rd, hr⟩ := numO_agg (lowest n1 (x1 * y2 + x2 * y1) (y1 * y2)); have Hr := hide hr; unfold ansC; rw [hr]; clear hb5 hbb hA hC hr))
  go_wp2
  have hcc := And.intro c50 (And.intro c51 (And.intro c52 hs5))
  refine bodyPost_ret (v := .tuple #[.agg #[.bool rn, .string ru, .string rd], .int .i64 (codeOf (lowest n1 (x1 * y2 + x2 * y1) (y1 * y2)))]) (by simp [results, Tryd.results62, go_sem, hcc]) rfl ⟨by unfold ansC; rw [unhide Hr], ?_⟩
  refine ((unhide HW).trans ((unhide HS5).mono (unhide HW).size)).trans ?_
  repeat (first | exact Below.refl _ _ | refine Below.setCell ?_ (by first | exact Nat.le_refl _ | exact Nat.le_succ _ | (simp; done) | (simp; omega)) _ | refine Below.alloc ?_ (by first | exact Nat.le_refl _ | (simp; done) | (simp; omega)) _)

set_option maxRecDepth 100000 in
set_option maxHeartbeats 2000000 in
theorem l3Add_ge (n1 n2 : Bool) (x1 y1 x2 y2 : Nat) (w : World) (sx1 : (dec x1).size ≤ 60) (sy1 : (dec y1).size ≤ 60) (sx2 : (dec x2).size ≤ 60) (sy2 : (dec y2).size ≤ 60) (hn : n1 ≠ n2) (hl : x2 * y1 ≤ x1 * y2) :
    Calls Tryd.prog 62 #[.agg #[.bool n1, .string (dec x1), .string (dec y1)], .agg #[.bool n2, .string (dec x2), .string (dec y2)]] w fun e w' => e = .returned (ansC (lowest n1 (x1 * y2 - x2 * y1) (y1 * y2)) (codeOf (lowest n1 (x1 * y2 - x2 * y1) (y1 * y2)))) ∧ Below w.heap.size w w' := by
  have hb0 : (n1 == n2) = false := by simp [hn]
  have hcm := cmp_ge hl
  have hle : x2 * y1 ≤ x1 * y2 := by omega
  have d1 := dec_prod sx1 sy2
  have d2 := dec_prod sx2 sy1
  have d3 := dec_prod sy1 sy2
  have dm : (dec (x1 * y2 - x2 * y1)).size ≤ 120 := Nat.le_trans (dec_size_le (Nat.sub_le _ _)) (by omega)
  obtain ⟨cm, hcme⟩ : ∃ cm, cmpN (x1 * y2) (x2 * y1) = cm := ⟨_, rfl⟩
  rw [hcme] at hcm
  have Hcme := hide hcme
  clear hn hcme hl
  have HW := hide ((((Below.refl w.heap.size w).alloc (Nat.le_refl _) (.cells #[.bool n1, .string (dec x1), .string (dec y1)] 26)).alloc (by simp) (.cells #[.bool n2, .string (dec x2), .string (dec y2)] 26)).alloc (by simp; omega) (.cells #[.bool false, .string ⟨#[]⟩, .string ⟨#[]⟩] 26))
  have HA := hide (((AtC.new w #[.bool n1, .string (dec x1), .string (dec y1)] 26).alloc (.cells #[.bool n2, .string (dec x2), .string (dec y2)] 26)).alloc (.cells #[.bool false, .string ⟨#[]⟩, .string ⟨#[]⟩] 26))
  have HB := hide ((AtC.new (w.alloc (.cells #[.bool n1, .string (dec x1), .string (dec y1)] 26)) #[.bool n2, .string (dec x2), .string (dec y2)] 26).alloc (.cells #[.bool false, .string ⟨#[]⟩, .string ⟨#[]⟩] 26))
  have HC := hide (AtC.new ((w.alloc (.cells #[.bool n1, .string (dec x1), .string (dec y1)] 26)).alloc (.cells #[.bool n2, .string (dec x2), .string (dec y2)] 26)) #[.bool false, .string ⟨#[]⟩, .string ⟨#[]⟩] 26)
  rw [World.size_alloc] at HB
  rw [World.size_alloc, World.size_alloc] at HC
  go_enter Tryd.func62, Tryd.ntmps62
  -- a product: x1 y2 the numbers, (((w.alloc (.cells #[.bool n1, .string (dec x1), .string (dec y1)] 26)).alloc (.cells #[.bool n2, .string (dec x2), .string (dec y2)] 26)).alloc (.cells #[.bool false, .string ⟨#[]⟩, .string ⟨#[]⟩] 26)) the world ahead, (Below.refl (((w.alloc (.cells #[.bool n1, .string (dec x1), .string (dec y1)] 26)).alloc (.cells #[.bool n2, .string (dec x2), .string (dec y2)] 26)).alloc (.cells #[.bool false, .string ⟨#[]⟩, .string ⟨#[]⟩] 26)).heap.size (((w.alloc (.cells #[.bool n1, .string (dec x1), .string (dec y1)] 26)).alloc (.cells #[.bool n2, .string (dec x2), .string (dec y2)] 26)).alloc (.cells #[.bool false, .string ⟨#[]⟩, .string ⟨#[]⟩] 26))) its fact since W0, w1 the new world
  go_wp2_with fail
  have h := l1Mul_c x1 y2 (((w.alloc (.cells #[.bool n1, .string (dec x1), .string (dec y1)] 26)).alloc (.cells #[.bool n2, .string (dec x2), .string (dec y2)] 26)).alloc (.cells #[.bool false, .string ⟨#[]⟩, .string ⟨#[]⟩] 26)) (by omega) (by omega)
  refine h.mono ?_
  clear h
  rintro e w1 ⟨rfl, hb⟩
  have HSw1 := hide (((Below.refl (((w.alloc (.cells #[.bool n1, .string (dec x1), .string (dec y1)] 26)).alloc (.cells #[.bool n2, .string (dec x2), .string (dec y2)] 26)).alloc (.cells #[.bool false, .string ⟨#[]⟩, .string ⟨#[]⟩] 26)).heap.size (((w.alloc (.cells #[.bool n1, .string (dec x1), .string (dec y1)] 26)).alloc (.cells #[.bool n2, .string (dec x2), .string (dec y2)] 26)).alloc (.cells #[.bool false, .string ⟨#[]⟩, .string ⟨#[]⟩] 26)))).trans (hb.mono ((Below.refl (((w.alloc (.cells #[.bool n1, .string (dec x1), .string (dec y1)] 26)).alloc (.cells #[.bool n2, .string (dec x2), .string (dec y2)] 26)).alloc (.cells #[.bool false, .string ⟨#[]⟩, .string ⟨#[]⟩] 26)).heap.size (((w.alloc (.cells #[.bool n1, .string (dec x1), .string (dec y1)] 26)).alloc (.cells #[.bool n2, .string (dec x2), .string (dec y2)] 26)).alloc (.cells #[.bool false, .string ⟨#[]⟩, .string ⟨#[]⟩] 26)))).size))
  clear hb
  -- w1 the world, (unhide HSw1) what is kept since W0
  have hA := (unhide HA).below (unhide HSw1)
  have hB := (unhide HB).below (unhide HSw1)
  have hC := (unhide HC).below (unhide HSw1)
  have a0 : (w1).cell? ⟨w.heap.size, 0, none⟩ = some (.bool n1) := hA.c 0
  have a1 : (w1).cell? ⟨w.heap.size, 1, none⟩ = some (.string (dec x1)) := hA.c 1
  have a2 : (w1).cell? ⟨w.heap.size, 2, none⟩ = some (.string (dec y1)) := hA.c 2
  have b0 : (w1).cell? ⟨w.heap.size + 1, 0, none⟩ = some (.bool n2) := hB.c 0
  have b1 : (w1).cell? ⟨w.heap.size + 1, 1, none⟩ = some (.string (dec x2)) := hB.c 1
  have b2 : (w1).cell? ⟨w.heap.size + 1, 2, none⟩ = some (.string (dec y2)) := hB.c 2
  have c0 : (w1).cell? ⟨w.heap.size + 1 + 1, 0, none⟩ = some (.bool false) := hC.c 0
  have c1 : (w1).cell? ⟨w.heap.size + 1 + 1, 1, none⟩ = some (.string ⟨#[]⟩) := hC.c 1
  have c2 : (w1).cell? ⟨w.heap.size + 1 + 1, 2, none⟩ = some (.string ⟨#[]⟩) := hC.c 2
  have cf := hC.f
  have hs := hC.lt
  clear hA hB hC
  -- a product: x2 y1 the numbers, w1 the world ahead, (unhide HSw1) its fact since W0, w2 the new world
  go_wp2_with fail
  have h := l1Mul_c x2 y1 w1 (by omega) (by omega)
  refine h.mono ?_
  clear h
  rintro e w2 ⟨rfl, hb⟩
  have HSw2 := hide (((unhide HSw1)).trans (hb.mono ((unhide HSw1)).size))
  clear hb
  clear a0 a1 a2 b0 b1 b2 c0 c1 c2 cf hs
  -- w2 the world, (unhide HSw2) what is kept since W0
  have hA := (unhide HA).below (unhide HSw2)
  have hB := (unhide HB).below (unhide HSw2)
  have hC := (unhide HC).below (unhide HSw2)
  have a0 : (w2).cell? ⟨w.heap.size, 0, none⟩ = some (.bool n1) := hA.c 0
  have a1 : (w2).cell? ⟨w.heap.size, 1, none⟩ = some (.string (dec x1)) := hA.c 1
  have a2 : (w2).cell? ⟨w.heap.size, 2, none⟩ = some (.string (dec y1)) := hA.c 2
  have b0 : (w2).cell? ⟨w.heap.size + 1, 0, none⟩ = some (.bool n2) := hB.c 0
  have b1 : (w2).cell? ⟨w.heap.size + 1, 1, none⟩ = some (.string (dec x2)) := hB.c 1
  have b2 : (w2).cell? ⟨w.heap.size + 1, 2, none⟩ = some (.string (dec y2)) := hB.c 2
  have c0 : (w2).cell? ⟨w.heap.size + 1 + 1, 0, none⟩ = some (.bool false) := hC.c 0
  have c1 : (w2).cell? ⟨w.heap.size + 1 + 1, 1, none⟩ = some (.string ⟨#[]⟩) := hC.c 1
  have c2 : (w2).cell? ⟨w.heap.size + 1 + 1, 2, none⟩ = some (.string ⟨#[]⟩) := hC.c 2
  have cf := hC.f
  have hs := hC.lt
  clear hA hB hC
  -- a product: y1 y2 the numbers, w2 the world ahead, (unhide HSw2) its fact since W0, w3 the new world
  go_wp2_with fail
  have h := l1Mul_c y1 y2 w2 (by omega) (by omega)
  refine h.mono ?_
  clear h
  rintro e w3 ⟨rfl, hb⟩
  have HSw3 := hide (((unhide HSw2)).trans (hb.mono ((unhide HSw2)).size))
  clear hb
  clear a0 a1 a2 b0 b1 b2 c0 c1 c2 cf hs
  -- w3 the world, (unhide HSw3) what is kept since W0
  have hA := (unhide HA).below (unhide HSw3)
  have hB := (unhide HB).below (unhide HSw3)
  have hC := (unhide HC).below (unhide HSw3)
  have a0 : (w3).cell? ⟨w.heap.size, 0, none⟩ = some (.bool n1) := hA.c 0
  have a1 : (w3).cell? ⟨w.heap.size, 1, none⟩ = some (.string (dec x1)) := hA.c 1
  have a2 : (w3).cell? ⟨w.heap.size, 2, none⟩ = some (.string (dec y1)) := hA.c 2
  have b0 : (w3).cell? ⟨w.heap.size + 1, 0, none⟩ = some (.bool n2) := hB.c 0
  have b1 : (w3).cell? ⟨w.heap.size + 1, 1, none⟩ = some (.string (dec x2)) := hB.c 1
  have b2 : (w3).cell? ⟨w.heap.size + 1, 2, none⟩ = some (.string (dec y2)) := hB.c 2
  have c0 : (w3).cell? ⟨w.heap.size + 1 + 1, 0, none⟩ = some (.bool false) := hC.c 0
  have c1 : (w3).cell? ⟨w.heap.size + 1 + 1, 1, none⟩ = some (.string ⟨#[]⟩) := hC.c 1
  have c2 : (w3).cell? ⟨w.heap.size + 1 + 1, 2, none⟩ = some (.string ⟨#[]⟩) := hC.c 2
  have cf := hC.f
  have hs := hC.lt
  clear hA hB hC
  go_wp2_with fail
  have h := l1Cmp_c (x1 * y2) (x2 * y1) w3 (by omega) (by omega)
  rw [unhide Hcme] at h
  refine h.mono ?_
  clear h
  rintro e w3' ⟨rfl, rfl⟩
  go_wp2
  go_region_held3 (fun w' => w'.cell? ⟨w.heap.size, 0, none⟩ = some (.bool n1)) ((first | with_reducible assumption | exact a0 | (rw [far3 (by first | (simp; done) | (simp; omega) | omega)]; with_reducible assumption))) (first | (go_at_call 109; refine (l1Sub_c (x1 * y2) (x2 * y1) _ hle (by omega)).mono ?_; rintro e w4 ⟨rfl, hb4⟩; have hbb := (unhide HSw3).drew.trans (hb4.mono (unhide HSw3).drew.size); have HS4 := hide hbb; have a40 : w4.cell? ⟨w.heap.size, 0, none⟩ = some (.bool n1) := ((unhide HA).below hbb).c 0; clear hb4 hbb) | (go_at_call 107; refine (l3Answer_c n1 (x1 * y2 - x2 * y1) (y1 * y2) _ (by omega) (by omega)).mono ?_; rintro e w5 ⟨rfl, hb5⟩; have hbb := (unhide HS4).trans (hb5.mono (unhide HS4).size); have HS5 := hide hbb; have hA := (unhide HA).below hbb; have hC := (unhide HC).below hbb; have a50 : w5.cell? ⟨w.heap.size, 0, none⟩ = some (.bool n1) := hA.c 0; have c50 : w5.cell? ⟨w.heap.size + 1 + 1, 0, none⟩ = some (.bool false) := hC.c 0; have c51 : w5.cell? ⟨w.heap.size + 1 + 1, 1, none⟩ = some (.string ⟨#[]⟩) := hC.c 1; have c52 : w5.cell? ⟨w.heap.size + 1 + 1, 2, none⟩ = some (.string ⟨#[]⟩) := hC.c 2; have cf5 := hC.f; have hs5 := hC.lt; obtain ⟨rn, ru, rd, hr⟩ := numO_agg (lowest n1 (x1 * y2 - x2 * y1) (y1 * y2)); have Hr := hide hr; unfold ansC; rw [hr]; clear hb5 hbb hA hC hr))
  go_wp2
  have hcc := And.intro c50 (And.intro c51 (And.intro c52 hs5))
  refine bodyPost_ret (v := .tuple #[.agg #[.bool rn, .string ru, .string rd], .int .i64 (codeOf (lowest n1 (x1 * y2 - x2 * y1) (y1 * y2)))]) (by simp [results, Tryd.results62, go_sem, hcc]) rfl ⟨by unfold ansC; rw [unhide Hr], ?_⟩
  refine ((unhide HW).trans ((unhide HS5).mono (unhide HW).size)).trans ?_
  repeat (first | exact Below.refl _ _ | refine Below.setCell ?_ (by first | exact Nat.le_refl _ | exact Nat.le_succ _ | (simp; done) | (simp; omega)) _ | refine Below.alloc ?_ (by first | exact Nat.le_refl _ | (simp; done) | (simp; omega)) _)

set_option maxRecDepth 100000 in
set_option maxHeartbeats 2000000 in
theorem l3Add_lt (n1 n2 : Bool) (x1 y1 x2 y2 : Nat) (w : World) (sx1 : (dec x1).size ≤ 60) (sy1 : (dec y1).size ≤ 60) (sx2 : (dec x2).size ≤ 60) (sy2 : (dec y2).size ≤ 60) (hn : n1 ≠ n2) (hl : x1 * y2 < x2 * y1) :
    Calls Tryd.prog 62 #[.agg #[.bool n1, .string (dec x1), .string (dec y1)], .agg #[.bool n2, .string (dec x2), .string (dec y2)]] w fun e w' => e = .returned (ansC (lowest n2 (x2 * y1 - x1 * y2) (y1 * y2)) (codeOf (lowest n2 (x2 * y1 - x1 * y2) (y1 * y2)))) ∧ Below w.heap.size w w' := by
  have hb0 : (n1 == n2) = false := by simp [hn]
  have hcm := cmp_lt hl
  have hle : x1 * y2 ≤ x2 * y1 := by omega
  have d1 := dec_prod sx1 sy2
  have d2 := dec_prod sx2 sy1
  have d3 := dec_prod sy1 sy2
  have dm : (dec (x2 * y1 - x1 * y2)).size ≤ 120 := Nat.le_trans (dec_size_le (Nat.sub_le _ _)) (by omega)
  obtain ⟨cm, hcme⟩ : ∃ cm, cmpN (x1 * y2) (x2 * y1) = cm := ⟨_, rfl⟩
  rw [hcme] at hcm
  have Hcme := hide hcme
  clear hn hcme hl
  have HW := hide ((((Below.refl w.heap.size w).alloc (Nat.le_refl _) (.cells #[.bool n1, .string (dec x1), .string (dec y1)] 26)).alloc (by simp) (.cells #[.bool n2, .string (dec x2), .string (dec y2)] 26)).alloc (by simp; omega) (.cells #[.bool false, .string ⟨#[]⟩, .string ⟨#[]⟩] 26))
  have HA := hide (((AtC.new w #[.bool n1, .string (dec x1), .string (dec y1)] 26).alloc (.cells #[.bool n2, .string (dec x2), .string (dec y2)] 26)).alloc (.cells #[.bool false, .string ⟨#[]⟩, .string ⟨#[]⟩] 26))
  have HB := hide ((AtC.new (w.alloc (.cells #[.bool n1, .string (dec x1), .string (dec y1)] 26)) #[.bool n2, .string (dec x2), .string (dec y2)] 26).alloc (.cells #[.bool false, .string ⟨#[]⟩, .string ⟨#[]⟩] 26))
  have HC := hide (AtC.new ((w.alloc (.cells #[.bool n1, .string (dec x1), .string (dec y1)] 26)).alloc (.cells #[.bool n2, .string (dec x2), .string (dec y2)] 26)) #[.bool false, .string ⟨#[]⟩, .string ⟨#[]⟩] 26)
  rw [World.size_alloc] at HB
  rw [World.size_alloc, World.size_alloc] at HC
  go_enter Tryd.func62, Tryd.ntmps62
  -- a product: x1 y2 the numbers, (((w.alloc (.cells #[.bool n1, .string (dec x1), .string (dec y1)] 26)).alloc (.cells #[.bool n2, .string (dec x2), .string (dec y2)] 26)).alloc (.cells #[.bool false, .string ⟨#[]⟩, .string ⟨#[]⟩] 26)) the world ahead, (Below.refl (((w.alloc (.cells #[.bool n1, .string (dec x1), .string (dec y1)] 26)).alloc (.cells #[.bool n2, .string (dec x2), .string (dec y2)] 26)).alloc (.cells #[.bool false, .string ⟨#[]⟩, .string ⟨#[]⟩] 26)).heap.size (((w.alloc (.cells #[.bool n1, .string (dec x1), .string (dec y1)] 26)).alloc (.cells #[.bool n2, .string (dec x2), .string (dec y2)] 26)).alloc (.cells #[.bool false, .string ⟨#[]⟩, .string ⟨#[]⟩] 26))) its fact since W0, w1 the new world
  go_wp2_with fail
  have h := l1Mul_c x1 y2 (((w.alloc (.cells #[.bool n1, .string (dec x1), .string (dec y1)] 26)).alloc (.cells #[.bool n2, .string (dec x2), .string (dec y2)] 26)).alloc (.cells #[.bool false, .string ⟨#[]⟩, .string ⟨#[]⟩] 26)) (by omega) (by omega)
  refine h.mono ?_
  clear h
  rintro e w1 ⟨rfl, hb⟩
  have HSw1 := hide (((Below.refl (((w.alloc (.cells #[.bool n1, .string (dec x1), .string (dec y1)] 26)).alloc (.cells #[.bool n2, .string (dec x2), .string (dec y2)] 26)).alloc (.cells #[.bool false, .string ⟨#[]⟩, .string ⟨#[]⟩] 26)).heap.size (((w.alloc (.cells #[.bool n1, .string (dec x1), .string (dec y1)] 26)).alloc (.cells #[.bool n2, .string (dec x2), .string (dec y2)] 26)).alloc (.cells #[.bool false, .string ⟨#[]⟩, .string ⟨#[]⟩] 26)))).trans (hb.mono ((Below.refl (((w.alloc (.cells #[.bool n1, .string (dec x1), .string (dec y1)] 26)).alloc (.cells #[.bool n2, .string (dec x2), .string (dec y2)] 26)).alloc (.cells #[.bool false, .string ⟨#[]⟩, .string ⟨#[]⟩] 26)).heap.size (((w.alloc (.cells #[.bool n1, .string (dec x1), .string (dec y1)] 26)).alloc (.cells #[.bool n2, .string (dec x2), .string (dec y2)] 26)).alloc (.cells #[.bool false, .string ⟨#[]⟩, .string ⟨#[]⟩] 26)))).size))
  clear hb
  -- w1 the world, (unhide HSw1) what is kept since W0
  have hA := (unhide HA).below (unhide HSw1)
  have hB := (unhide HB).below (unhide HSw1)
  have hC := (unhide HC).below (unhide HSw1)
  have a0 : (w1).cell? ⟨w.heap.size, 0, none⟩ = some (.bool n1) := hA.c 0
  have a1 : (w1).cell? ⟨w.heap.size, 1, none⟩ = some (.string (dec x1)) := hA.c 1
  have a2 : (w1).cell? ⟨w.heap.size, 2, none⟩ = some (.string (dec y1)) := hA.c 2
  have b0 : (w1).cell? ⟨w.heap.size + 1, 0, none⟩ = some (.bool n2) := hB.c 0
  have b1 : (w1).cell? ⟨w.heap.size + 1, 1, none⟩ = some (.string (dec x2)) := hB.c 1
  have b2 : (w1).cell? ⟨w.heap.size + 1, 2, none⟩ = some (.string (dec y2)) := hB.c 2
  have c0 : (w1).cell? ⟨w.heap.size + 1 + 1, 0, none⟩ = some (.bool false) := hC.c 0
  have c1 : (w1).cell? ⟨w.heap.size + 1 + 1, 1, none⟩ = some (.string ⟨#[]⟩) := hC.c 1
  have c2 : (w1).cell? ⟨w.heap.size + 1 + 1, 2, none⟩ = some (.string ⟨#[]⟩) := hC.c 2
  have cf := hC.f
  have hs := hC.lt
  clear hA hB hC
  -- a product: x2 y1 the numbers, w1 the world ahead, (unhide HSw1) its fact since W0, w2 the new world
  go_wp2_with fail
  have h := l1Mul_c x2 y1 w1 (by omega) (by omega)
  refine h.mono ?_
  clear h
  rintro e w2 ⟨rfl, hb⟩
  have HSw2 := hide (((unhide HSw1)).trans (hb.mono ((unhide HSw1)).size))
  clear hb
  clear a0 a1 a2 b0 b1 b2 c0 c1 c2 cf hs
  -- w2 the world, (unhide HSw2) what is kept since W0
  have hA := (unhide HA).below (unhide HSw2)
  have hB := (unhide HB).below (unhide HSw2)
  have hC := (unhide HC).below (unhide HSw2)
  have a0 : (w2).cell? ⟨w.heap.size, 0, none⟩ = some (.bool n1) := hA.c 0
  have a1 : (w2).cell? ⟨w.heap.size, 1, none⟩ = some (.string (dec x1)) := hA.c 1
  have a2 : (w2).cell? ⟨w.heap.size, 2, none⟩ = some (.string (dec y1)) := hA.c 2
  have b0 : (w2).cell? ⟨w.heap.size + 1, 0, none⟩ = some (.bool n2) := hB.c 0
  have b1 : (w2).cell? ⟨w.heap.size + 1, 1, none⟩ = some (.string (dec x2)) := hB.c 1
  have b2 : (w2).cell? ⟨w.heap.size + 1, 2, none⟩ = some (.string (dec y2)) := hB.c 2
  have c0 : (w2).cell? ⟨w.heap.size + 1 + 1, 0, none⟩ = some (.bool false) := hC.c 0
  have c1 : (w2).cell? ⟨w.heap.size + 1 + 1, 1, none⟩ = some (.string ⟨#[]⟩) := hC.c 1
  have c2 : (w2).cell? ⟨w.heap.size + 1 + 1, 2, none⟩ = some (.string ⟨#[]⟩) := hC.c 2
  have cf := hC.f
  have hs := hC.lt
  clear hA hB hC
  -- a product: y1 y2 the numbers, w2 the world ahead, (unhide HSw2) its fact since W0, w3 the new world
  go_wp2_with fail
  have h := l1Mul_c y1 y2 w2 (by omega) (by omega)
  refine h.mono ?_
  clear h
  rintro e w3 ⟨rfl, hb⟩
  have HSw3 := hide (((unhide HSw2)).trans (hb.mono ((unhide HSw2)).size))
  clear hb
  clear a0 a1 a2 b0 b1 b2 c0 c1 c2 cf hs
  -- w3 the world, (unhide HSw3) what is kept since W0
  have hA := (unhide HA).below (unhide HSw3)
  have hB := (unhide HB).below (unhide HSw3)
  have hC := (unhide HC).below (unhide HSw3)
  have a0 : (w3).cell? ⟨w.heap.size, 0, none⟩ = some (.bool n1) := hA.c 0
  have a1 : (w3).cell? ⟨w.heap.size, 1, none⟩ = some (.string (dec x1)) := hA.c 1
  have a2 : (w3).cell? ⟨w.heap.size, 2, none⟩ = some (.string (dec y1)) := hA.c 2
  have b0 : (w3).cell? ⟨w.heap.size + 1, 0, none⟩ = some (.bool n2) := hB.c 0
  have b1 : (w3).cell? ⟨w.heap.size + 1, 1, none⟩ = some (.string (dec x2)) := hB.c 1
  have b2 : (w3).cell? ⟨w.heap.size + 1, 2, none⟩ = some (.string (dec y2)) := hB.c 2
  have c0 : (w3).cell? ⟨w.heap.size + 1 + 1, 0, none⟩ = some (.bool false) := hC.c 0
  have c1 : (w3).cell? ⟨w.heap.size + 1 + 1, 1, none⟩ = some (.string ⟨#[]⟩) := hC.c 1
  have c2 : (w3).cell? ⟨w.heap.size + 1 + 1, 2, none⟩ = some (.string ⟨#[]⟩) := hC.c 2
  have cf := hC.f
  have hs := hC.lt
  clear hA hB hC
  go_wp2_with fail
  have h := l1Cmp_c (x1 * y2) (x2 * y1) w3 (by omega) (by omega)
  rw [unhide Hcme] at h
  refine h.mono ?_
  clear h
  rintro e w3' ⟨rfl, rfl⟩
  go_wp2
  go_region_held3 (fun w' => w'.cell? ⟨w.heap.size + 1, 0, none⟩ = some (.bool n2)) ((first | with_reducible assumption | exact b0 | (rw [far3 (by first | (simp; done) | (simp; omega) | omega)]; with_reducible assumption))) (first | (go_at_call 109; refine (l1Sub_c (x2 * y1) (x1 * y2) _ hle (by omega)).mono ?_; rintro e w4 ⟨rfl, hb4⟩; have hbb := (unhide HSw3).drew.trans (hb4.mono (unhide HSw3).drew.size); have HS4 := hide hbb; have a40 : w4.cell? ⟨w.heap.size + 1, 0, none⟩ = some (.bool n2) := ((unhide HB).below hbb).c 0; clear hb4 hbb) | (go_at_call 107; refine (l3Answer_c n2 (x2 * y1 - x1 * y2) (y1 * y2) _ (by omega) (by omega)).mono ?_; rintro e w5 ⟨rfl, hb5⟩; have hbb := (unhide HS4).trans (hb5.mono (unhide HS4).size); have HS5 := hide hbb; have hA := (unhide HB).below hbb; have hC := (unhide HC).below hbb; have a50 : w5.cell? ⟨w.heap.size + 1, 0, none⟩ = some (.bool n2) := hA.c 0; have c50 : w5.cell? ⟨w.heap.size + 1 + 1, 0, none⟩ = some (.bool false) := hC.c 0; have c51 : w5.cell? ⟨w.heap.size + 1 + 1, 1, none⟩ = some (.string ⟨#[]⟩) := hC.c 1; have c52 : w5.cell? ⟨w.heap.size + 1 + 1, 2, none⟩ = some (.string ⟨#[]⟩) := hC.c 2; have cf5 := hC.f; have hs5 := hC.lt; obtain ⟨rn, ru, rd, hr⟩ := numO_agg (lowest n2 (x2 * y1 - x1 * y2) (y1 * y2)); have Hr := hide hr; unfold ansC; rw [hr]; clear hb5 hbb hA hC hr))
  go_wp2
  have hcc := And.intro c50 (And.intro c51 (And.intro c52 hs5))
  refine bodyPost_ret (v := .tuple #[.agg #[.bool rn, .string ru, .string rd], .int .i64 (codeOf (lowest n2 (x2 * y1 - x1 * y2) (y1 * y2)))]) (by simp [results, Tryd.results62, go_sem, hcc]) rfl ⟨by unfold ansC; rw [unhide Hr], ?_⟩
  refine ((unhide HW).trans ((unhide HS5).mono (unhide HW).size)).trans ?_
  repeat (first | exact Below.refl _ _ | refine Below.setCell ?_ (by first | exact Nat.le_refl _ | exact Nat.le_succ _ | (simp; done) | (simp; omega)) _ | refine Below.alloc ?_ (by first | exact Nat.le_refl _ | (simp; done) | (simp; omega)) _)

theorem l3Add_c (n1 n2 : Bool) (x1 y1 x2 y2 : Nat) (w : World) (sx1 : (dec x1).size ≤ 60) (sy1 : (dec y1).size ≤ 60) (sx2 : (dec x2).size ≤ 60) (sy2 : (dec y2).size ≤ 60) :
    Calls Tryd.prog 62 #[.agg #[.bool n1, .string (dec x1), .string (dec y1)], .agg #[.bool n2, .string (dec x2), .string (dec y2)]] w fun e w' => e = .returned (ansC (lowest (plusW (n1, x1 * y2) (n2, x2 * y1)).1 (plusW (n1, x1 * y2) (n2, x2 * y1)).2 (y1 * y2)) (codeOf (lowest (plusW (n1, x1 * y2) (n2, x2 * y1)).1 (plusW (n1, x1 * y2) (n2, x2 * y1)).2 (y1 * y2)))) ∧ Below w.heap.size w w' := by
  by_cases hn : n1 = n2
  · have hp : plusW (n1, x1 * y2) (n2, x2 * y1) = (n1, x1 * y2 + x2 * y1) := by rw [← hn, plusW_same]
    rw [hp]
    exact l3Add_same n1 n2 x1 y1 x2 y2 w sx1 sy1 sx2 sy2 hn
  · by_cases hl : x1 * y2 < x2 * y1
    · rw [plusW_lt hn hl]
      exact l3Add_lt n1 n2 x1 y1 x2 y2 w sx1 sy1 sx2 sy2 hn hl
    · rw [plusW_ge hn hl]
      exact l3Add_ge n1 n2 x1 y1 x2 y2 w sx1 sy1 sx2 sy2 hn (by omega)
end Go.Proofs.YtchginjabaobfaaDoor
namespace Go.Proofs.YtchginjabaobfaaDoor
open Go.RowKit Nt

set_option maxRecDepth 100000 in
set_option maxHeartbeats 2000000 in
theorem specNumAdd_no (n1 n2 : Bool) (u1 d1 u2 d2 : List UInt8) (w : World) (hl1 : u1.length ≤ 1000) (hl2 : d1.length ≤ 1000) (hl3 : u2.length ≤ 1000) (hl4 : d2.length ≤ 1000) (h : (okM n1 u1 d1 && okM n2 u2 d2) = false) :
    Calls Tryd.prog 19 #[.agg #[.bool n1, .string (B u1), .string (B d1)], .agg #[.bool n2, .string (B u2), .string (B d2)]] w fun e w' => e = .returned (ansC none 1) ∧ Below w.heap.size w w' := by
  have h1 := fun w => specNumOk_c n1 u1 d1 w (by omega) (by omega)
  have h2 := fun w => specNumOk_c n2 u2 d2 w (by omega) (by omega)
  unfold numB at h1 h2
  -- both numbers are boxed, the answer's box behind them
  have HW := hide ((((Below.refl w.heap.size w).alloc (Nat.le_refl _) (.cells #[.bool n1, .string (B u1), .string (B d1)] 26)).alloc (by simp) (.cells #[.bool n2, .string (B u2), .string (B d2)] 26)).alloc (by simp; omega) (.cells #[.bool false, .string ⟨#[]⟩, .string ⟨#[]⟩] 26))
  have HA := hide (((AtC.new w #[.bool n1, .string (B u1), .string (B d1)] 26).alloc (.cells #[.bool n2, .string (B u2), .string (B d2)] 26)).alloc (.cells #[.bool false, .string ⟨#[]⟩, .string ⟨#[]⟩] 26))
  have HB := hide ((AtC.new (w.alloc (.cells #[.bool n1, .string (B u1), .string (B d1)] 26)) #[.bool n2, .string (B u2), .string (B d2)] 26).alloc (.cells #[.bool false, .string ⟨#[]⟩, .string ⟨#[]⟩] 26))
  have HC := hide (AtC.new ((w.alloc (.cells #[.bool n1, .string (B u1), .string (B d1)] 26)).alloc (.cells #[.bool n2, .string (B u2), .string (B d2)] 26)) #[.bool false, .string ⟨#[]⟩, .string ⟨#[]⟩] 26)
  rw [World.size_alloc] at HB
  rw [World.size_alloc, World.size_alloc] at HC
  cases hk : okM n1 u1 d1 with
  | false =>
    rw [hk] at h1
    have H1 := hide h1
    clear h h1 h2 hk
    go_enter Tryd.func19, Tryd.ntmps19
    go_wp2_with fail
    have h := unhide H1 (((w.alloc (.cells #[.bool n1, .string (B u1), .string (B d1)] 26)).alloc (.cells #[.bool n2, .string (B u2), .string (B d2)] 26)).alloc (.cells #[.bool false, .string ⟨#[]⟩, .string ⟨#[]⟩] 26))
    refine h.mono ?_
    clear h
    rintro e w1 ⟨rfl, hb1⟩
    have Hb1 := hide hb1
    -- w1 the world, (unhide Hb1) what is kept since W0 (Below (W0).heap.size W0 w1)
    have hA := (unhide HA).below (unhide Hb1)
    have hB := (unhide HB).below (unhide Hb1)
    have hC := (unhide HC).below (unhide Hb1)
    have a0 : (w1).cell? ⟨w.heap.size, 0, none⟩ = some (.bool n1) := hA.c 0
    have a1 : (w1).cell? ⟨w.heap.size, 1, none⟩ = some (.string (B u1)) := hA.c 1
    have a2 : (w1).cell? ⟨w.heap.size, 2, none⟩ = some (.string (B d1)) := hA.c 2
    have b0 : (w1).cell? ⟨w.heap.size + 1, 0, none⟩ = some (.bool n2) := hB.c 0
    have b1 : (w1).cell? ⟨w.heap.size + 1, 1, none⟩ = some (.string (B u2)) := hB.c 1
    have b2 : (w1).cell? ⟨w.heap.size + 1, 2, none⟩ = some (.string (B d2)) := hB.c 2
    have c0 : (w1).cell? ⟨w.heap.size + 1 + 1, 0, none⟩ = some (.bool false) := hC.c 0
    have c1 : (w1).cell? ⟨w.heap.size + 1 + 1, 1, none⟩ = some (.string ⟨#[]⟩) := hC.c 1
    have c2 : (w1).cell? ⟨w.heap.size + 1 + 1, 2, none⟩ = some (.string ⟨#[]⟩) := hC.c 2
    have cf := hC.f
    have hs := hC.lt
    clear hA hB hC
    clear hb1
    go_wp2
    have hcc := And.intro c0 (And.intro c1 c2)
    refine bodyPost_ret (v := ansC none 1) (by simp [results, Tryd.results19, go_sem, hcc, ansC, numO, noNum, numV]) rfl ⟨rfl, ?_⟩
    refine ((unhide HW).trans ((unhide Hb1).mono (unhide HW).size)).trans ?_
    repeat (first | exact Below.refl _ _ | refine Below.setCell ?_ (by first | exact Nat.le_refl _ | exact Nat.le_succ _ | (simp; done) | (simp; omega)) _ | refine Below.alloc ?_ (by first | exact Nat.le_refl _ | (simp; done) | (simp; omega)) _)
  | true =>
    rw [hk, Bool.true_and] at h
    rw [hk] at h1
    rw [h] at h2
    have H1 := hide h1
    have H2 := hide h2
    clear h h1 h2 hk
    go_enter Tryd.func19, Tryd.ntmps19
    go_wp2_with fail
    have h := unhide H1 (((w.alloc (.cells #[.bool n1, .string (B u1), .string (B d1)] 26)).alloc (.cells #[.bool n2, .string (B u2), .string (B d2)] 26)).alloc (.cells #[.bool false, .string ⟨#[]⟩, .string ⟨#[]⟩] 26))
    refine h.mono ?_
    clear h
    rintro e w1 ⟨rfl, hb1⟩
    have Hb1 := hide hb1
    have HW1 := hide ((unhide HW).trans (hb1.mono (unhide HW).size))
    -- w1 the world, (unhide Hb1) what is kept since W0 (Below (W0).heap.size W0 w1)
    have hA := (unhide HA).below (unhide Hb1)
    have hB := (unhide HB).below (unhide Hb1)
    have hC := (unhide HC).below (unhide Hb1)
    have a0 : (w1).cell? ⟨w.heap.size, 0, none⟩ = some (.bool n1) := hA.c 0
    have a1 : (w1).cell? ⟨w.heap.size, 1, none⟩ = some (.string (B u1)) := hA.c 1
    have a2 : (w1).cell? ⟨w.heap.size, 2, none⟩ = some (.string (B d1)) := hA.c 2
    have b0 : (w1).cell? ⟨w.heap.size + 1, 0, none⟩ = some (.bool n2) := hB.c 0
    have b1 : (w1).cell? ⟨w.heap.size + 1, 1, none⟩ = some (.string (B u2)) := hB.c 1
    have b2 : (w1).cell? ⟨w.heap.size + 1, 2, none⟩ = some (.string (B d2)) := hB.c 2
    have c0 : (w1).cell? ⟨w.heap.size + 1 + 1, 0, none⟩ = some (.bool false) := hC.c 0
    have c1 : (w1).cell? ⟨w.heap.size + 1 + 1, 1, none⟩ = some (.string ⟨#[]⟩) := hC.c 1
    have c2 : (w1).cell? ⟨w.heap.size + 1 + 1, 2, none⟩ = some (.string ⟨#[]⟩) := hC.c 2
    have cf := hC.f
    have hs := hC.lt
    clear hA hB hC
    clear hb1
    go_wp2_with fail
    have h := unhide H2 w1
    refine h.mono ?_
    clear h
    rintro e w2 ⟨rfl, hb2⟩
    clear a0 a1 a2 b0 b1 b2 c0 c1 c2 cf hs
    have Hb2 := hide ((unhide Hb1).trans (hb2.mono (unhide Hb1).size))
    -- w2 the world, (unhide Hb2) what is kept since W0 (Below (W0).heap.size W0 w2)
    have hA := (unhide HA).below (unhide Hb2)
    have hB := (unhide HB).below (unhide Hb2)
    have hC := (unhide HC).below (unhide Hb2)
    have a0 : (w2).cell? ⟨w.heap.size, 0, none⟩ = some (.bool n1) := hA.c 0
    have a1 : (w2).cell? ⟨w.heap.size, 1, none⟩ = some (.string (B u1)) := hA.c 1
    have a2 : (w2).cell? ⟨w.heap.size, 2, none⟩ = some (.string (B d1)) := hA.c 2
    have b0 : (w2).cell? ⟨w.heap.size + 1, 0, none⟩ = some (.bool n2) := hB.c 0
    have b1 : (w2).cell? ⟨w.heap.size + 1, 1, none⟩ = some (.string (B u2)) := hB.c 1
    have b2 : (w2).cell? ⟨w.heap.size + 1, 2, none⟩ = some (.string (B d2)) := hB.c 2
    have c0 : (w2).cell? ⟨w.heap.size + 1 + 1, 0, none⟩ = some (.bool false) := hC.c 0
    have c1 : (w2).cell? ⟨w.heap.size + 1 + 1, 1, none⟩ = some (.string ⟨#[]⟩) := hC.c 1
    have c2 : (w2).cell? ⟨w.heap.size + 1 + 1, 2, none⟩ = some (.string ⟨#[]⟩) := hC.c 2
    have cf := hC.f
    have hs := hC.lt
    clear hA hB hC
    clear hb2
    go_wp2
    have hcc := And.intro c0 (And.intro c1 c2)
    refine bodyPost_ret (v := ansC none 1) (by simp [results, Tryd.results19, go_sem, hcc, ansC, numO, noNum, numV]) rfl ⟨rfl, ?_⟩
    refine ((unhide HW).trans ((unhide Hb2).mono (unhide HW).size)).trans ?_
    repeat (first | exact Below.refl _ _ | refine Below.setCell ?_ (by first | exact Nat.le_refl _ | exact Nat.le_succ _ | (simp; done) | (simp; omega)) _ | refine Below.alloc ?_ (by first | exact Nat.le_refl _ | (simp; done) | (simp; omega)) _)

set_option maxRecDepth 100000 in
set_option maxHeartbeats 2000000 in
theorem specNumAdd_yes (n1 n2 : Bool) (x1 y1 x2 y2 : Nat) (w : World) (hok1 : okM n1 (txl 10 x1) (txl 10 y1) = true) (hok2 : okM n2 (txl 10 x2) (txl 10 y2) = true) :
    Calls Tryd.prog 19 #[.agg #[.bool n1, .string (dec x1), .string (dec y1)], .agg #[.bool n2, .string (dec x2), .string (dec y2)]] w fun e w' => e = .returned (ansC (lowest (plusW (n1, x1 * y2) (n2, x2 * y1)).1 (plusW (n1, x1 * y2) (n2, x2 * y1)).2 (y1 * y2)) (codeOf (lowest (plusW (n1, x1 * y2) (n2, x2 * y1)).1 (plusW (n1, x1 * y2) (n2, x2 * y1)).2 (y1 * y2)))) ∧ Below w.heap.size w w' := by
  have hp1 := ok_parts hok1
  have hp2 := ok_parts hok2
  have sx1 : (dec x1).size ≤ 60 := by rw [dec_len]; exact hp1.2.2.1
  have sy1 : (dec y1).size ≤ 60 := by rw [dec_len]; exact hp1.2.2.2.1
  have sx2 : (dec x2).size ≤ 60 := by rw [dec_len]; exact hp2.2.2.1
  have sy2 : (dec y2).size ≤ 60 := by rw [dec_len]; exact hp2.2.2.2.1
  have h1 := fun w => specNumOk_c n1 (txl 10 x1) (txl 10 y1) w (by have := hp1.2.2.1; omega) (by have := hp1.2.2.2.1; omega)
  have h2 := fun w => specNumOk_c n2 (txl 10 x2) (txl 10 y2) w (by have := hp2.2.2.1; omega) (by have := hp2.2.2.2.1; omega)
  rw [hok1] at h1
  rw [hok2] at h2
  have H1 := hide h1
  have H2 := hide h2
  have hadd := fun w => l3Add_c n1 n2 x1 y1 x2 y2 w sx1 sy1 sx2 sy2
  generalize lowest (plusW (n1, x1 * y2) (n2, x2 * y1)).1 (plusW (n1, x1 * y2) (n2, x2 * y1)).2 (y1 * y2) = o at *
  have Hadd := hide hadd
  clear h1 h2 hp1 hp2 hok1 hok2 hadd sx1 sy1 sx2 sy2
  unfold numB at H1 H2
  unfold dec txt at *
  generalize txl 10 x1 = u1 at *
  generalize txl 10 y1 = d1 at *
  generalize txl 10 x2 = u2 at *
  generalize txl 10 y2 = d2 at *
  -- both numbers are boxed, the answer's box behind them
  have HW := hide ((((Below.refl w.heap.size w).alloc (Nat.le_refl _) (.cells #[.bool n1, .string (B u1), .string (B d1)] 26)).alloc (by simp) (.cells #[.bool n2, .string (B u2), .string (B d2)] 26)).alloc (by simp; omega) (.cells #[.bool false, .string ⟨#[]⟩, .string ⟨#[]⟩] 26))
  have HA := hide (((AtC.new w #[.bool n1, .string (B u1), .string (B d1)] 26).alloc (.cells #[.bool n2, .string (B u2), .string (B d2)] 26)).alloc (.cells #[.bool false, .string ⟨#[]⟩, .string ⟨#[]⟩] 26))
  have HB := hide ((AtC.new (w.alloc (.cells #[.bool n1, .string (B u1), .string (B d1)] 26)) #[.bool n2, .string (B u2), .string (B d2)] 26).alloc (.cells #[.bool false, .string ⟨#[]⟩, .string ⟨#[]⟩] 26))
  have HC := hide (AtC.new ((w.alloc (.cells #[.bool n1, .string (B u1), .string (B d1)] 26)).alloc (.cells #[.bool n2, .string (B u2), .string (B d2)] 26)) #[.bool false, .string ⟨#[]⟩, .string ⟨#[]⟩] 26)
  rw [World.size_alloc] at HB
  rw [World.size_alloc, World.size_alloc] at HC
  go_enter Tryd.func19, Tryd.ntmps19
  go_wp2_with fail
  have h := unhide H1 (((w.alloc (.cells #[.bool n1, .string (B u1), .string (B d1)] 26)).alloc (.cells #[.bool n2, .string (B u2), .string (B d2)] 26)).alloc (.cells #[.bool false, .string ⟨#[]⟩, .string ⟨#[]⟩] 26))
  refine h.mono ?_
  clear h
  rintro e w1 ⟨rfl, hb1⟩
  have Hb1 := hide hb1
  have HW1 := hide ((unhide HW).trans (hb1.mono (unhide HW).size))
  -- w1 the world, (unhide Hb1) what is kept since W0 (Below (W0).heap.size W0 w1)
  have hA := (unhide HA).below (unhide Hb1)
  have hB := (unhide HB).below (unhide Hb1)
  have hC := (unhide HC).below (unhide Hb1)
  have a0 : (w1).cell? ⟨w.heap.size, 0, none⟩ = some (.bool n1) := hA.c 0
  have a1 : (w1).cell? ⟨w.heap.size, 1, none⟩ = some (.string (B u1)) := hA.c 1
  have a2 : (w1).cell? ⟨w.heap.size, 2, none⟩ = some (.string (B d1)) := hA.c 2
  have b0 : (w1).cell? ⟨w.heap.size + 1, 0, none⟩ = some (.bool n2) := hB.c 0
  have b1 : (w1).cell? ⟨w.heap.size + 1, 1, none⟩ = some (.string (B u2)) := hB.c 1
  have b2 : (w1).cell? ⟨w.heap.size + 1, 2, none⟩ = some (.string (B d2)) := hB.c 2
  have c0 : (w1).cell? ⟨w.heap.size + 1 + 1, 0, none⟩ = some (.bool false) := hC.c 0
  have c1 : (w1).cell? ⟨w.heap.size + 1 + 1, 1, none⟩ = some (.string ⟨#[]⟩) := hC.c 1
  have c2 : (w1).cell? ⟨w.heap.size + 1 + 1, 2, none⟩ = some (.string ⟨#[]⟩) := hC.c 2
  have cf := hC.f
  have hs := hC.lt
  clear hA hB hC
  clear hb1
  go_wp2_with fail
  have h := unhide H2 w1
  refine h.mono ?_
  clear h
  rintro e w2 ⟨rfl, hb2⟩
  clear a0 a1 a2 b0 b1 b2 c0 c1 c2 cf hs
  have Hb2 := hide ((unhide Hb1).trans (hb2.mono (unhide Hb1).size))
  -- w2 the world, (unhide Hb2) what is kept since W0 (Below (W0).heap.size W0 w2)
  have hA := (unhide HA).below (unhide Hb2)
  have hB := (unhide HB).below (unhide Hb2)
  have hC := (unhide HC).below (unhide Hb2)
  have a0 : (w2).cell? ⟨w.heap.size, 0, none⟩ = some (.bool n1) := hA.c 0
  have a1 : (w2).cell? ⟨w.heap.size, 1, none⟩ = some (.string (B u1)) := hA.c 1
  have a2 : (w2).cell? ⟨w.heap.size, 2, none⟩ = some (.string (B d1)) := hA.c 2
  have b0 : (w2).cell? ⟨w.heap.size + 1, 0, none⟩ = some (.bool n2) := hB.c 0
  have b1 : (w2).cell? ⟨w.heap.size + 1, 1, none⟩ = some (.string (B u2)) := hB.c 1
  have b2 : (w2).cell? ⟨w.heap.size + 1, 2, none⟩ = some (.string (B d2)) := hB.c 2
  have c0 : (w2).cell? ⟨w.heap.size + 1 + 1, 0, none⟩ = some (.bool false) := hC.c 0
  have c1 : (w2).cell? ⟨w.heap.size + 1 + 1, 1, none⟩ = some (.string ⟨#[]⟩) := hC.c 1
  have c2 : (w2).cell? ⟨w.heap.size + 1 + 1, 2, none⟩ = some (.string ⟨#[]⟩) := hC.c 2
  have cf := hC.f
  have hs := hC.lt
  clear hA hB hC
  clear hb2
  go_wp2_with fail
  have h := unhide Hadd w2
  refine h.mono ?_
  clear h
  rintro e w3 ⟨rfl, hb3⟩
  clear a0 a1 a2 b0 b1 b2 c0 c1 c2 cf hs
  have Hb3 := hide ((unhide Hb2).trans (hb3.mono (unhide Hb2).size))
  -- w3 the world, (unhide Hb3) what is kept since W0 (Below (W0).heap.size W0 w3)
  have hA := (unhide HA).below (unhide Hb3)
  have hB := (unhide HB).below (unhide Hb3)
  have hC := (unhide HC).below (unhide Hb3)
  have a0 : (w3).cell? ⟨w.heap.size, 0, none⟩ = some (.bool n1) := hA.c 0
  have a1 : (w3).cell? ⟨w.heap.size, 1, none⟩ = some (.string (B u1)) := hA.c 1
  have a2 : (w3).cell? ⟨w.heap.size, 2, none⟩ = some (.string (B d1)) := hA.c 2
  have b0 : (w3).cell? ⟨w.heap.size + 1, 0, none⟩ = some (.bool n2) := hB.c 0
  have b1 : (w3).cell? ⟨w.heap.size + 1, 1, none⟩ = some (.string (B u2)) := hB.c 1
  have b2 : (w3).cell? ⟨w.heap.size + 1, 2, none⟩ = some (.string (B d2)) := hB.c 2
  have c0 : (w3).cell? ⟨w.heap.size + 1 + 1, 0, none⟩ = some (.bool false) := hC.c 0
  have c1 : (w3).cell? ⟨w.heap.size + 1 + 1, 1, none⟩ = some (.string ⟨#[]⟩) := hC.c 1
  have c2 : (w3).cell? ⟨w.heap.size + 1 + 1, 2, none⟩ = some (.string ⟨#[]⟩) := hC.c 2
  have cf := hC.f
  have hs := hC.lt
  clear hA hB hC
  clear hb3
  obtain ⟨rn, ru, rd, hr⟩ := numO_agg o
  have Hr := hide hr
  unfold ansC
  rw [hr]
  clear hr
  go_wp2
  have hcc := And.intro c0 (And.intro c1 (And.intro c2 hs))
  refine bodyPost_ret (v := .tuple #[.agg #[.bool rn, .string ru, .string rd], .int .i64 (codeOf o)]) (by simp [results, Tryd.results19, go_sem, hcc]) rfl ⟨by unfold ansC; rw [unhide Hr], ?_⟩
  refine ((unhide HW).trans ((unhide Hb3).mono (unhide HW).size)).trans ?_
  repeat (first | exact Below.refl _ _ | refine Below.setCell ?_ (by first | exact Nat.le_refl _ | exact Nat.le_succ _ | (simp; done) | (simp; omega)) _ | refine Below.alloc ?_ (by first | exact Nat.le_refl _ | (simp; done) | (simp; omega)) _)
end Go.Proofs.YtchginjabaobfaaDoor
/- Rationals in lowest terms: what is written hangs on the rational alone. -/
namespace Go.Proofs.YtchginjabaobfaaDoor
open Go.RowKit Nt

def sgn (p : Bool × Nat) : Int := if p.1 then -(p.2 : Int) else (p.2 : Int)
def lowZ (z : Int) (d : Nat) : Option (Bool × Nat × Nat) := lowest (decide (z < 0)) z.natAbs d

theorem sgn_natAbs (p : Bool × Nat) : (sgn p).natAbs = p.2 := by unfold sgn; split <;> simp
theorem lowest_sgn (n : Bool) (u d : Nat) : lowest n u d = lowZ (sgn (n, u)) d := by
  unfold lowZ
  rw [sgn_natAbs]
  by_cases hu : u = 0
  · subst hu
    unfold lowest
    cases n <;> simp [sgn]
  · have : decide (sgn (n, u) < 0) = n := by
      cases n
      · simp [sgn]
      · simp [sgn]; omega
    rw [this]

theorem co_cross {a b a' b' : Nat} (h : Nat.gcd a b = 1) (h' : Nat.gcd a' b' = 1) (he : a * b' = a' * b) (hb : 0 < b) : a = a' ∧ b = b' := by
  have d1 : b ∣ b' := by
    have : b ∣ a * b' := ⟨a', by rw [he, Nat.mul_comm]⟩
    exact (Nat.Coprime.symm h).dvd_of_dvd_mul_left this
  have d2 : b' ∣ b := by
    have : b' ∣ a' * b := ⟨a, by rw [← he, Nat.mul_comm]⟩
    exact (Nat.Coprime.symm h').dvd_of_dvd_mul_left this
  have hbb : b = b' := Nat.dvd_antisymm d1 d2
  subst hbb
  exact ⟨Nat.eq_of_mul_eq_mul_right hb he, rfl⟩

theorem low_cross {u d u' d' : Nat} (hd : 0 < d) (hd' : 0 < d') (h : u * d' = u' * d) : u / Nat.gcd u d = u' / Nat.gcd u' d' ∧ d / Nat.gcd u d = d' / Nat.gcd u' d' := by
  have hg : 0 < Nat.gcd u d := Nat.gcd_pos_of_pos_right _ hd
  have hg' : 0 < Nat.gcd u' d' := Nat.gcd_pos_of_pos_right _ hd'
  have hc : Nat.gcd (u / Nat.gcd u d) (d / Nat.gcd u d) = 1 := Nat.coprime_div_gcd_div_gcd hg
  have hc' : Nat.gcd (u' / Nat.gcd u' d') (d' / Nat.gcd u' d') = 1 := Nat.coprime_div_gcd_div_gcd hg'
  have eu : Nat.gcd u d * (u / Nat.gcd u d) = u := Nat.mul_div_cancel' (Nat.gcd_dvd_left u d)
  have ed : Nat.gcd u d * (d / Nat.gcd u d) = d := Nat.mul_div_cancel' (Nat.gcd_dvd_right u d)
  have eu' : Nat.gcd u' d' * (u' / Nat.gcd u' d') = u' := Nat.mul_div_cancel' (Nat.gcd_dvd_left u' d')
  have ed' : Nat.gcd u' d' * (d' / Nat.gcd u' d') = d' := Nat.mul_div_cancel' (Nat.gcd_dvd_right u' d')
  have hb : 0 < d / Nat.gcd u d := Nat.div_pos (Nat.le_of_dvd hd (Nat.gcd_dvd_right u d)) hg
  generalize Nat.gcd u d = g at *
  generalize Nat.gcd u' d' = g' at *
  generalize u / g = a at *
  generalize d / g = b at *
  generalize u' / g' = a' at *
  generalize d' / g' = b' at *
  subst eu ed eu' ed'
  apply co_cross hc hc' _ hb
  have h2 : (g * g') * (a * b') = (g * g') * (a' * b) := by
    have e1 : g * a * (g' * b') = (g * g') * (a * b') := by simp only [Nat.mul_comm, Nat.mul_left_comm]
    have e2 : g' * a' * (g * b) = (g * g') * (a' * b) := by simp only [Nat.mul_comm, Nat.mul_left_comm]
    rw [← e1, ← e2, h]
  exact Nat.eq_of_mul_eq_mul_left (Nat.mul_pos hg hg') h2

theorem lowZ_eq {z z' : Int} {d d' : Nat} (hd : 0 < d) (hd' : 0 < d') (h : z * (d' : Int) = z' * (d : Int)) : lowZ z d = lowZ z' d' := by
  have hn : z.natAbs * d' = z'.natAbs * d := by
    have := congrArg Int.natAbs h
    rwa [Int.natAbs_mul, Int.natAbs_mul, Int.natAbs_natCast, Int.natAbs_natCast] at this
  have hs : decide (z < 0) = decide (z' < 0) := by
    have key : ∀ {x y : Int} {e f : Nat}, 0 < e → 0 < f → x * (f : Int) = y * (e : Int) → x < 0 → y < 0 := by
      intro x y e f he hf hh hx
      rcases (show y < 0 ∨ 0 ≤ y by omega) with h1 | h1
      · exact h1
      · have h2 : x * (f : Int) < 0 := Int.mul_neg_of_neg_of_pos hx (by omega)
        have h3 : 0 ≤ y * (e : Int) := Int.mul_nonneg h1 (by omega)
        omega
    by_cases h1 : z < 0
    · rw [decide_eq_true h1, decide_eq_true (key hd hd' h h1)]
    · have : ¬ z' < 0 := fun h2 => h1 (key hd' hd h.symm h2)
      rw [decide_eq_false h1, decide_eq_false this]
  obtain ⟨e1, e2⟩ := low_cross hd hd' hn
  unfold lowZ lowest
  rw [hs, e1, e2]
  have z1 : ¬ d = 0 := by omega
  have z2 : ¬ d' = 0 := by omega
  simp only [z1, z2, false_or]

/-- what is ok is its own lowest terms -/
theorem lowZ_ok {n : Bool} {x y : Nat} (h : okM n (txl 10 x) (txl 10 y) = true) : lowZ (sgn (n, x)) y = some (n, x, y) := by
  obtain ⟨_, _, h3, h4, h5, h6, h7⟩ := ok_parts h
  rw [valDec_txl] at h5 h6
  rw [valDec_txl, valDec_txl] at h7
  rw [← lowest_sgn]
  exact lowest_co h5 h7 (by rw [dec_len]; exact h3) (by rw [dec_len]; exact h4) h6

theorem plusW_sgn (p q : Bool × Nat) : sgn (plusW p q) = sgn p + sgn q := by
  obtain ⟨n, x⟩ := p
  obtain ⟨m, y⟩ := q
  unfold plusW sgn
  cases n <;> cases m <;> simp
  · by_cases h : x < y
    · simp [h]; omega
    · simp [h]; omega
  · by_cases h : x < y
    · simp [h]; omega
    · simp [h]; omega
  · omega

/-- the lowest terms of a rational stand for it -/
theorem lowZ_val {z : Int} {d : Nat} {n : Bool} {x y : Nat} (h : lowZ z d = some (n, x, y)) : 0 < d ∧ 0 < y ∧ sgn (n, x) * (d : Int) = z * (y : Int) := by
  unfold lowZ lowest at h
  split at h
  · cases h
  · rename_i hh
    have hd : 0 < d := by omega
    have hg : 0 < Nat.gcd z.natAbs d := Nat.gcd_pos_of_pos_right _ hd
    have ed : Nat.gcd z.natAbs d * (d / Nat.gcd z.natAbs d) = d := Nat.mul_div_cancel' (Nat.gcd_dvd_right _ d)
    have eu : Nat.gcd z.natAbs d * (z.natAbs / Nat.gcd z.natAbs d) = z.natAbs := Nat.mul_div_cancel' (Nat.gcd_dvd_left _ d)
    have hb : 0 < d / Nat.gcd z.natAbs d := Nat.div_pos (Nat.le_of_dvd hd (Nat.gcd_dvd_right _ d)) hg
    simp only [Option.some.injEq, Prod.mk.injEq] at h
    obtain ⟨h1, h2, h3⟩ := h
    rw [h2] at eu h1
    rw [h3] at ed hb
    generalize Nat.gcd z.natAbs d = g at *
    refine ⟨hd, hb, ?_⟩
    have hz : z = sgn (n, g * x) := by
      unfold sgn
      by_cases hx : x = 0
      · subst hx; simp at eu; simp; omega
      · by_cases hz0 : z < 0
        · have hn : n = true := by rw [← h1]; simp [hz0, hx]
          rw [hn]; simp; omega
        · have hn : n = false := by rw [← h1]; simp [hz0]
          rw [hn]; simp; omega
    rw [hz, ← ed]
    unfold sgn
    cases n
    · simp [Int.mul_comm, Int.mul_left_comm]
    · simp only [if_true, Int.natCast_mul, Int.neg_mul]
      congr 1
      simp [Int.mul_comm, Int.mul_left_comm]
end Go.Proofs.YtchginjabaobfaaDoor
/- The field, plain: adding, multiplying, taking, dividing in lowest terms, and what holds of them. -/
namespace Go.Proofs.YtchginjabaobfaaDoor
open Go.RowKit Nt

abbrev Rt := Bool × Nat × Nat
def okP (p : Rt) : Bool := okM p.1 (txl 10 p.2.1) (txl 10 p.2.2)
def zP (p : Rt) : Int := sgn (p.1, p.2.1)
def addP (p q : Rt) : Option Rt := lowZ (zP p * (q.2.2 : Int) + zP q * (p.2.2 : Int)) (p.2.2 * q.2.2)
def subP (p q : Rt) : Option Rt := lowZ (zP p * (q.2.2 : Int) - zP q * (p.2.2 : Int)) (p.2.2 * q.2.2)
def mulP (p q : Rt) : Option Rt := lowZ (zP p * zP q) (p.2.2 * q.2.2)

theorem sgn_mul (n : Bool) (x y : Nat) : sgn (n, x * y) = sgn (n, x) * (y : Int) := by
  unfold sgn; cases n <;> simp [Int.neg_mul]
theorem sgn_not (n : Bool) (x : Nat) : sgn (!n, x) = - sgn (n, x) := by
  unfold sgn; cases n <;> simp
theorem sgn_prod (n m : Bool) (x y : Nat) : sgn (n != m, x * y) = sgn (n, x) * sgn (m, y) := by
  unfold sgn; cases n <;> cases m <;> simp [Int.neg_mul, Int.mul_neg]
theorem add_low (n1 n2 : Bool) (x1 y1 x2 y2 : Nat) : lowest (plusW (n1, x1 * y2) (n2, x2 * y1)).1 (plusW (n1, x1 * y2) (n2, x2 * y1)).2 (y1 * y2) = addP (n1, x1, y1) (n2, x2, y2) := by
  rw [lowest_sgn]
  unfold addP zP
  rw [show ((plusW (n1, x1 * y2) (n2, x2 * y1)).1, (plusW (n1, x1 * y2) (n2, x2 * y1)).2) = plusW (n1, x1 * y2) (n2, x2 * y1) from rfl, plusW_sgn, sgn_mul, sgn_mul]
theorem sub_low (n1 n2 : Bool) (x1 y1 x2 y2 : Nat) : lowest (plusW (n1, x1 * y2) (!n2, x2 * y1)).1 (plusW (n1, x1 * y2) (!n2, x2 * y1)).2 (y1 * y2) = subP (n1, x1, y1) (n2, x2, y2) := by
  rw [lowest_sgn]
  unfold subP zP
  rw [show ((plusW (n1, x1 * y2) (!n2, x2 * y1)).1, (plusW (n1, x1 * y2) (!n2, x2 * y1)).2) = plusW (n1, x1 * y2) (!n2, x2 * y1) from rfl, plusW_sgn, sgn_mul, sgn_mul, sgn_not, Int.neg_mul]
  rfl
theorem mul_low (n1 n2 : Bool) (x1 y1 x2 y2 : Nat) : lowest (n1 != n2) (x1 * x2) (y1 * y2) = mulP (n1, x1, y1) (n2, x2, y2) := by
  rw [lowest_sgn, sgn_prod]; rfl

theorem okP_pos {p : Rt} (h : okP p = true) : 0 < p.2.2 := by
  have := (ok_parts h).2.2.2.2.1
  rw [valDec_txl] at this
  omega
theorem okP_low {p : Rt} (h : okP p = true) : lowZ (zP p) p.2.2 = some p := lowZ_ok h
theorem lowZ_okP {z : Int} {d : Nat} {p : Rt} (h : lowZ z d = some p) : okP p = true := lowest_ok (n := p.1) (x := p.2.1) (y := p.2.2) h
theorem lowZ_cross {z : Int} {d : Nat} {p : Rt} (h : lowZ z d = some p) : 0 < d ∧ 0 < p.2.2 ∧ zP p * (d : Int) = z * (p.2.2 : Int) := lowZ_val (n := p.1) (x := p.2.1) (y := p.2.2) h

theorem addP_comm (p q : Rt) : addP p q = addP q p := by unfold addP; rw [Int.add_comm, Nat.mul_comm]
theorem mulP_comm (p q : Rt) : mulP p q = mulP q p := by unfold mulP; rw [Int.mul_comm, Nat.mul_comm]

theorem poly_assoc (zp zq zr zs zt yp yq yr ys yt : Int) (hq : yq ≠ 0) (h1 : zs * (yp * yq) = (zp * yq + zq * yp) * ys) (h2 : zt * (yq * yr) = (zq * yr + zr * yq) * yt) : (zs * yr + zr * ys) * (yp * yt) = (zp * yt + zt * yp) * (ys * yr) := by
  have h : yq * ((zs * yr + zr * ys) * (yp * yt)) = yq * ((zp * yt + zt * yp) * (ys * yr)) := by grind
  exact Int.eq_of_mul_eq_mul_left hq h
theorem poly_dist (zp zq zr zt zv zw yp yq yr yt yv yw : Int) (hp : yp ≠ 0) (hq : yq ≠ 0) (hr : yr ≠ 0) (h1 : zt * (yq * yr) = (zq * yr + zr * yq) * yt) (h2 : zv * (yp * yq) = (zp * zq) * yv) (h3 : zw * (yp * yr) = (zp * zr) * yw) : (zp * zt) * (yv * yw) = (zv * yw + zw * yv) * (yp * yt) := by
  have h : (yp * yq * yr) * ((zp * zt) * (yv * yw)) = (yp * yq * yr) * ((zv * yw + zw * yv) * (yp * yt)) := by
    have e1 : (yp * yq * yr) * ((zp * zt) * (yv * yw)) = (zt * (yq * yr)) * (yp * zp * yv * yw) := by grind
    have e2 : (yp * yq * yr) * ((zv * yw + zw * yv) * (yp * yt)) = (zv * (yp * yq)) * yr * yw * yp * yt + (zw * (yp * yr)) * yq * yv * yp * yt := by grind
    rw [e1, e2, h1, h2, h3]; grind
  have h0 : yp * yq * yr ≠ 0 := Int.mul_ne_zero (Int.mul_ne_zero hp hq) hr
  exact Int.eq_of_mul_eq_mul_left h0 h
theorem poly_back (zp zq zs yp yq ys : Int) (h1 : zs * (yp * yq) = (zp * yq + zq * yp) * ys) : (zs * yq - zq * ys) * yp = zp * (ys * yq) := by grind

theorem addP_assoc {p q r s t : Rt} (hp : okP p = true) (hq : okP q = true) (hr : okP r = true) (h1 : addP p q = some s) (h2 : addP q r = some t) : addP s r = addP p t := by
  have yp := okP_pos hp
  have yq := okP_pos hq
  have yr := okP_pos hr
  obtain ⟨_, ys, e1⟩ := lowZ_cross h1
  obtain ⟨_, yt, e2⟩ := lowZ_cross h2
  unfold addP
  apply lowZ_eq (Nat.mul_pos ys yr) (Nat.mul_pos yp yt)
  rw [Int.natCast_mul] at e1 e2 ⊢
  rw [Int.natCast_mul]
  exact poly_assoc _ _ _ _ _ _ _ _ _ _ (by omega) e1 e2
theorem mulP_addP {p q r t v z : Rt} (hp : okP p = true) (hq : okP q = true) (hr : okP r = true) (h1 : addP q r = some t) (h2 : mulP p q = some v) (h3 : mulP p r = some z) : mulP p t = addP v z := by
  have yp := okP_pos hp
  have yq := okP_pos hq
  have yr := okP_pos hr
  obtain ⟨_, yt, e1⟩ := lowZ_cross h1
  obtain ⟨_, yv, e2⟩ := lowZ_cross h2
  obtain ⟨_, yz, e3⟩ := lowZ_cross h3
  unfold addP mulP
  apply lowZ_eq (Nat.mul_pos yp yt) (Nat.mul_pos yv yz)
  rw [Int.natCast_mul] at e1 e2 e3 ⊢
  rw [Int.natCast_mul]
  exact poly_dist _ _ _ _ _ _ _ _ _ _ _ _ (by omega) (by omega) (by omega) e1 e2 e3
theorem subP_back {p q s : Rt} (hp : okP p = true) (hq : okP q = true) (h : addP p q = some s) : subP s q = some p := by
  have yp := okP_pos hp
  have yq := okP_pos hq
  obtain ⟨_, ys, e1⟩ := lowZ_cross h
  rw [← okP_low hp]
  unfold subP
  apply lowZ_eq (Nat.mul_pos ys yq) yp
  rw [Int.natCast_mul] at e1 ⊢
  exact poly_back _ _ _ _ _ _ e1
theorem addP_zero {p : Rt} (hp : okP p = true) : addP p (false, 0, 1) = some p := by
  rw [← okP_low hp]
  unfold addP
  congr 1
  · simp [zP, sgn]
  · simp
theorem mulP_one {p : Rt} (hp : okP p = true) : mulP p (false, 1, 1) = some p := by
  rw [← okP_low hp]
  unfold mulP
  congr 1
  · simp [zP, sgn]
  · simp
theorem ok_one : okP (false, 1, 1) = true := by decide +kernel
theorem ok_zero : okP (false, 0, 1) = true := by decide +kernel
/-- turned over: ok too -/
theorem okP_turn {p : Rt} (hp : okP p = true) (hz : p.2.1 ≠ 0) : okP (p.1, p.2.2, p.2.1) = true := by
  obtain ⟨h1, h2, h3, h4, h5, h6, h7⟩ := ok_parts hp
  rw [valDec_txl] at h5 h6
  rw [valDec_txl, valDec_txl] at h7
  refine okM_mk h4 h3 h2 h1 ?_ ?_ ?_
  · rw [valDec_txl]; exact hz
  · intro _; rw [valDec_txl]; exact h5
  · rw [valDec_txl, valDec_txl, Nat.gcd_comm]; exact h7
theorem mulP_turn {p : Rt} (hp : okP p = true) (hz : p.2.1 ≠ 0) : mulP p (p.1, p.2.2, p.2.1) = some (false, 1, 1) := by
  have yp := okP_pos hp
  rw [← okP_low ok_one]
  unfold mulP
  apply lowZ_eq (Nat.mul_pos yp (by show 0 < p.2.1; omega)) (by decide)
  obtain ⟨n, x, y⟩ := p
  unfold zP sgn
  cases n <;> simp [Int.mul_comm, Int.mul_neg]
end Go.Proofs.YtchginjabaobfaaDoor
/- The field on what a Num holds: three texts of bytes, ok or not. -/
namespace Go.Proofs.YtchginjabaobfaaDoor
open Go.RowKit Nt

abbrev T3 := Bool × List UInt8 × List UInt8
def numT (t : T3) : Value := .agg #[.bool t.1, .string (B t.2.1), .string (B t.2.2)]
def okT (t : T3) : Bool := okM t.1 t.2.1 t.2.2
def valT (t : T3) : Rt := (t.1, valDec t.2.1, valDec t.2.2)
def putT (p : Rt) : T3 := (p.1, txl 10 p.2.1, txl 10 p.2.2)
def nilT : T3 := (false, [], [])
def optT : Option Rt → T3 × Int
  | some s => (putT s, 0)
  | none => (nilT, 3)
def fld (f : Rt → Rt → Option Rt) (a b : T3) : T3 × Int := if okT a && okT b then optT (f (valT a) (valT b)) else (nilT, 1)
def ansT (r : T3 × Int) : Value := .tuple #[numT r.1, .int .i64 r.2]
def divT (a b : T3) : T3 × Int := if b.2.1 = [48] then (nilT, 2) else fld mulP a (b.1, b.2.2, b.2.1)

theorem valT_put (p : Rt) : valT (putT p) = p := by
  unfold valT putT; simp only [valDec_txl]
theorem putT_val {t : T3} (h : okT t = true) : putT (valT t) = t := by
  obtain ⟨h1, h2, _⟩ := ok_parts h
  unfold putT valT
  simp only
  rw [← isDec_val h1, ← isDec_val h2]
theorem okP_val {t : T3} (h : okT t = true) : okP (valT t) = true := by
  have := putT_val h
  unfold okP
  rw [show okM (valT t).1 (txl 10 (valT t).2.1) (txl 10 (valT t).2.2) = okT (putT (valT t)) from rfl, this]
  exact h
theorem okT_put {p : Rt} (h : okP p = true) : okT (putT p) = true := h
theorem okT_nil : okT nilT = false := by decide +kernel
theorem okT_len {t : T3} (h : okT t = true) : t.2.1.length ≤ 60 ∧ t.2.2.length ≤ 60 := by
  obtain ⟨_, _, h3, h4, _⟩ := ok_parts h
  exact ⟨h3, h4⟩

/-- each answer of the field is in lowest terms -/
def Low (f : Rt → Rt → Option Rt) : Prop := ∀ p q s, f p q = some s → okP s = true
theorem low_add : Low addP := fun _ _ _ h => lowZ_okP h
theorem low_sub : Low subP := fun _ _ _ h => lowZ_okP h
theorem low_mul : Low mulP := fun _ _ _ h => lowZ_okP h

theorem fld_no {f : Rt → Rt → Option Rt} {a b : T3} (h : (okT a && okT b) = false) : fld f a b = (nilT, 1) := by
  unfold fld; rw [h]; rfl
theorem fld_yes {f : Rt → Rt → Option Rt} {a b : T3} (ha : okT a = true) (hb : okT b = true) : fld f a b = optT (f (valT a) (valT b)) := by
  unfold fld; rw [ha, hb]; rfl
theorem fld_code {f : Rt → Rt → Option Rt} {a b : T3} (ha : okT a = true) (hb : okT b = true) : (fld f a b).2 = 0 ∨ (fld f a b).2 = 3 := by
  rw [fld_yes ha hb]
  cases f (valT a) (valT b)
  · exact .inr rfl
  · exact .inl rfl
theorem fld_zero {f : Rt → Rt → Option Rt} {a b : T3} (h : (fld f a b).2 = 0) : okT a = true ∧ okT b = true ∧ ∃ s, f (valT a) (valT b) = some s ∧ (fld f a b).1 = putT s := by
  unfold fld at h ⊢
  split at h
  · rename_i hh
    rw [Bool.and_eq_true] at hh
    refine ⟨hh.1, hh.2, ?_⟩
    rw [if_pos (by rw [hh.1, hh.2]; rfl)]
    cases hs : f (valT a) (valT b) with
    | none => rw [hs] at h; cases h
    | some s => exact ⟨s, rfl, rfl⟩
  · cases h
theorem fld_ok {f : Rt → Rt → Option Rt} (hf : Low f) {a b : T3} : okT (fld f a b).1 = decide ((fld f a b).2 = 0) := by
  by_cases h : (fld f a b).2 = 0
  · obtain ⟨_, _, s, hs, he⟩ := fld_zero h
    rw [he, decide_eq_true h]
    exact okT_put (hf _ _ _ hs)
  · rw [decide_eq_false h]
    unfold fld at h ⊢
    split
    · rename_i hh
      rw [if_pos hh] at h
      cases hs : f (valT a) (valT b) with
      | none => exact okT_nil
      | some s => rw [hs] at h; exact absurd rfl h
    · exact okT_nil
theorem fld_len (f : Rt → Rt → Option Rt) (hf : Low f) (a b : T3) : (fld f a b).1.2.1.length ≤ 60 ∧ (fld f a b).1.2.2.length ≤ 60 := by
  have h := fld_ok hf (a := a) (b := b)
  by_cases h0 : (fld f a b).2 = 0
  · rw [decide_eq_true h0] at h
    exact okT_len h
  · have : (fld f a b).1 = nilT := by
      unfold fld at h0 ⊢
      split
      · rename_i hh
        rw [if_pos hh] at h0
        cases hs : f (valT a) (valT b) with
        | none => rfl
        | some s => rw [hs] at h0; exact absurd rfl h0
      · rfl
    rw [this]; exact ⟨Nat.zero_le _, Nat.zero_le _⟩

theorem add_comm_t (a b : T3) : fld addP a b = fld addP b a := by
  unfold fld; rw [addP_comm, Bool.and_comm]
theorem mul_comm_t (a b : T3) : fld mulP a b = fld mulP b a := by
  unfold fld; rw [mulP_comm, Bool.and_comm]

/-- one behind the other: what is asked of two answers -/
def sameT (l r : T3 × Int) : Prop := l.2 = 3 ∨ r.2 = 3 ∨ l = r
theorem assoc_t {a b c : T3} (hc : okT c = true) (h1 : (fld addP a b).2 = 0) (h2 : (fld addP b c).2 = 0) : fld addP (fld addP a b).1 c = fld addP a (fld addP b c).1 := by
  obtain ⟨ha, hb, s, hs, e1⟩ := fld_zero h1
  obtain ⟨_, _, t, ht, e2⟩ := fld_zero h2
  rw [e1, e2, fld_yes (okT_put (low_add _ _ _ hs)) hc, fld_yes ha (okT_put (low_add _ _ _ ht)), valT_put, valT_put, addP_assoc (okP_val ha) (okP_val hb) (okP_val hc) hs ht]
theorem dist_t {a b c : T3} (h1 : (fld addP b c).2 = 0) (h2 : (fld mulP a b).2 = 0) (h3 : (fld mulP a c).2 = 0) : fld mulP a (fld addP b c).1 = fld addP (fld mulP a b).1 (fld mulP a c).1 := by
  obtain ⟨hb, hc, t, ht, e1⟩ := fld_zero h1
  obtain ⟨ha, _, v, hv, e2⟩ := fld_zero h2
  obtain ⟨_, _, z, hz, e3⟩ := fld_zero h3
  rw [e1, e2, e3, fld_yes ha (okT_put (low_add _ _ _ ht)), fld_yes (okT_put (low_mul _ _ _ hv)) (okT_put (low_mul _ _ _ hz)), valT_put, valT_put, valT_put, mulP_addP (okP_val ha) (okP_val hb) (okP_val hc) ht hv hz]
theorem back_t {a b : T3} (h : (fld addP a b).2 = 0) : fld subP (fld addP a b).1 b = (a, 0) := by
  obtain ⟨ha, hb, s, hs, e⟩ := fld_zero h
  rw [e, fld_yes (okT_put (low_add _ _ _ hs)) hb, valT_put, subP_back (okP_val ha) (okP_val hb) hs]
  show (putT (valT a), (0 : Int)) = _
  rw [putT_val ha]
def zeroT : T3 := (false, [48], [49])
def oneT : T3 := (false, [49], [49])
theorem okT_zero : okT zeroT = true := by decide +kernel
theorem okT_one : okT oneT = true := by decide +kernel
theorem val_zero : valT zeroT = (false, 0, 1) := by decide +kernel
theorem val_one : valT oneT = (false, 1, 1) := by decide +kernel
theorem add_zero_t {a : T3} (ha : okT a = true) : fld addP a zeroT = (a, 0) := by
  rw [fld_yes ha okT_zero, val_zero, addP_zero (okP_val ha)]
  show (putT (valT a), (0 : Int)) = _
  rw [putT_val ha]
theorem mul_one_t {a : T3} (ha : okT a = true) : fld mulP a oneT = (a, 0) := by
  rw [fld_yes ha okT_one, val_one, mulP_one (okP_val ha)]
  show (putT (valT a), (0 : Int)) = _
  rw [putT_val ha]
theorem isDec_zero {l : List UInt8} (h : isDec l = true) : l = [48] ↔ valDec l = 0 := by
  constructor
  · rintro rfl; decide +kernel
  · intro h0
    rw [isDec_val h, h0]; exact txl_zero 10
theorem zero_iff {a : T3} (ha : okT a = true) : a.2.1 = [48] ↔ a = zeroT := by
  obtain ⟨h1, h2, h3, h4, h5, h6, h7⟩ := ok_parts ha
  constructor
  · intro h
    have h0 := (isDec_zero h1).1 h
    rw [h0, Nat.gcd_zero_left] at h7
    obtain ⟨n, u, d⟩ := a
    simp only at *
    have hn : n = false := by
      cases n
      · rfl
      · exact absurd h0 (h6 rfl)
    rw [isDec_val h2, h7, h, hn]
    rfl
  · rintro rfl; rfl
theorem put_one : putT (false, 1, 1) = oneT := by decide +kernel
theorem div_self_t {a : T3} (ha : okT a = true) : divT a a = if a = zeroT then (nilT, 2) else (oneT, 0) := by
  unfold divT
  by_cases h : a.2.1 = [48]
  · rw [if_pos h, if_pos ((zero_iff ha).1 h)]
  · rw [if_neg h, if_neg (fun h' => h ((zero_iff ha).2 h'))]
    have hz : (valT a).2.1 ≠ 0 := fun h0 => h ((isDec_zero (ok_parts ha).1).2 h0)
    have hb : okT (a.1, a.2.2, a.2.1) = true := by
      have := okT_put (okP_turn (okP_val ha) hz)
      have e := putT_val ha
      have e1 : txl 10 (valT a).2.1 = a.2.1 := congrArg (fun t : T3 => t.2.1) e
      have e2 : txl 10 (valT a).2.2 = a.2.2 := congrArg (fun t : T3 => t.2.2) e
      unfold putT at this
      simp only [e1, e2] at this
      exact this
    rw [fld_yes ha hb, show valT (a.1, a.2.2, a.2.1) = ((valT a).1, (valT a).2.2, (valT a).2.1) from rfl, mulP_turn (okP_val ha) hz]
    show (putT (false, 1, 1), (0 : Int)) = (oneT, 0)
    rw [put_one]
end Go.Proofs.YtchginjabaobfaaDoor
namespace Go.Proofs.YtchginjabaobfaaDoor
open Go.RowKit Nt

theorem ansT_no : ansT (nilT, 1) = ansC none 1 := rfl
theorem ansT_opt (o : Option Rt) : ansT (optT o) = ansC o (codeOf o) := by
  cases o with
  | none => rfl
  | some s => rfl
theorem ans_opt (o : Option Rt) : Ending.returned (ansC o (codeOf o)) = .returned (ansT (optT o)) := by rw [ansT_opt]
theorem numT_dec {t : T3} (h : okT t = true) : numT t = .agg #[.bool (valT t).1, .string (dec (valT t).2.1), .string (dec (valT t).2.2)] := by
  have := putT_val h
  conv => lhs; rw [← this]
  rfl

def small (t : T3) : Prop := t.2.1.length ≤ 1000 ∧ t.2.2.length ≤ 1000

theorem workAdd_t (a b : T3) (w : World) (ha : small a) (hb : small b) (hT : Tens w) :
    Calls Tryd.prog 60 #[numT a, numT b, .func (.func 61) #[] #[]] w fun e w' => e = .returned (ansT (fld addP a b)) ∧ Below w.heap.size w w' := by
  cases h : okT a && okT b with
  | false => rw [fld_no h]; exact numWork_no a.1 b.1 a.2.1 a.2.2 b.2.1 b.2.2 _ w ha.1 ha.2 hb.1 hb.2 h hT
  | true =>
    rw [Bool.and_eq_true] at h
    rw [fld_yes h.1 h.2, numT_dec h.1, numT_dec h.2, ← ans_opt, show addP (valT a) (valT b) = _ from (add_low _ _ _ _ _ _).symm]
    exact workSum_c _ _ _ _ _ _ w (okP_val h.1) (okP_val h.2) hT
theorem workSub_t (a b : T3) (w : World) (ha : small a) (hb : small b) (hT : Tens w) :
    Calls Tryd.prog 60 #[numT a, numT b, .func (.func 66) #[] #[]] w fun e w' => e = .returned (ansT (fld subP a b)) ∧ Below w.heap.size w w' := by
  cases h : okT a && okT b with
  | false => rw [fld_no h]; exact numWork_no a.1 b.1 a.2.1 a.2.2 b.2.1 b.2.2 _ w ha.1 ha.2 hb.1 hb.2 h hT
  | true =>
    rw [Bool.and_eq_true] at h
    rw [fld_yes h.1 h.2, numT_dec h.1, numT_dec h.2, ← ans_opt, show subP (valT a) (valT b) = _ from (sub_low _ _ _ _ _ _).symm]
    exact workLeft_c _ _ _ _ _ _ w (okP_val h.1) (okP_val h.2) hT
theorem workMul_t (a b : T3) (w : World) (ha : small a) (hb : small b) (hT : Tens w) :
    Calls Tryd.prog 60 #[numT a, numT b, .func (.func 63) #[] #[]] w fun e w' => e = .returned (ansT (fld mulP a b)) ∧ Below w.heap.size w w' := by
  cases h : okT a && okT b with
  | false => rw [fld_no h]; exact numWork_no a.1 b.1 a.2.1 a.2.2 b.2.1 b.2.2 _ w ha.1 ha.2 hb.1 hb.2 h hT
  | true =>
    rw [Bool.and_eq_true] at h
    rw [fld_yes h.1 h.2, numT_dec h.1, numT_dec h.2, ← ans_opt, show mulP (valT a) (valT b) = _ from (mul_low _ _ _ _ _ _).symm]
    exact workProduct_c _ _ _ _ _ _ w (okP_val h.1) (okP_val h.2) hT

-- a function of the field that hands on to numWork: implAdd_t the name, NumAdd the function, workAdd_t numWork's contract, addP the plain one
set_option maxRecDepth 100000 in
set_option maxHeartbeats 2000000 in
theorem implAdd_t (a b : T3) (w : World) (ha : small a) (hb : small b) (hT : Tens w) :
    Calls Tryd.prog 18 #[numT a, numT b] w fun e w' => e = .returned (ansT (fld addP a b)) ∧ Below w.heap.size w w' := by
  have hwork := fun w hT => workAdd_t a b w ha hb hT
  generalize fld addP a b = r at *
  have Hwork := hide hwork
  clear hwork
  obtain ⟨n1, u1, d1⟩ := a
  obtain ⟨n2, u2, d2⟩ := b
  obtain ⟨⟨rn, ru, rd⟩, rc⟩ := r
  unfold numT ansT at *
  -- both numbers are boxed, the answer's box behind them
  have HW := hide ((((Below.refl w.heap.size w).alloc (Nat.le_refl _) (.cells #[.bool n1, .string (B u1), .string (B d1)] 26)).alloc (by simp) (.cells #[.bool n2, .string (B u2), .string (B d2)] 26)).alloc (by simp; omega) (.cells #[.bool false, .string ⟨#[]⟩, .string ⟨#[]⟩] 26))
  have HA := hide (((AtC.new w #[.bool n1, .string (B u1), .string (B d1)] 26).alloc (.cells #[.bool n2, .string (B u2), .string (B d2)] 26)).alloc (.cells #[.bool false, .string ⟨#[]⟩, .string ⟨#[]⟩] 26))
  have HB := hide ((AtC.new (w.alloc (.cells #[.bool n1, .string (B u1), .string (B d1)] 26)) #[.bool n2, .string (B u2), .string (B d2)] 26).alloc (.cells #[.bool false, .string ⟨#[]⟩, .string ⟨#[]⟩] 26))
  have HC := hide (AtC.new ((w.alloc (.cells #[.bool n1, .string (B u1), .string (B d1)] 26)).alloc (.cells #[.bool n2, .string (B u2), .string (B d2)] 26)) #[.bool false, .string ⟨#[]⟩, .string ⟨#[]⟩] 26)
  rw [World.size_alloc] at HB
  rw [World.size_alloc, World.size_alloc] at HC
  have HT := hide hT
  clear hT ha hb
  dsimp only at *
  go_enter Tryd.func18, Tryd.ntmps18
  go_wp2_with fail
  refine (unhide Hwork _ ((unhide HT).below (unhide HW))).mono ?_
  rintro e w1 ⟨rfl, hb1⟩
  have Hb1 := hide hb1
  -- w1 the world, (unhide Hb1) what is kept since W0 (Below (W0).heap.size W0 w1)
  have hA := (unhide HA).below (unhide Hb1)
  have hB := (unhide HB).below (unhide Hb1)
  have hC := (unhide HC).below (unhide Hb1)
  have a0 : (w1).cell? ⟨w.heap.size, 0, none⟩ = some (.bool n1) := hA.c 0
  have a1 : (w1).cell? ⟨w.heap.size, 1, none⟩ = some (.string (B u1)) := hA.c 1
  have a2 : (w1).cell? ⟨w.heap.size, 2, none⟩ = some (.string (B d1)) := hA.c 2
  have b0 : (w1).cell? ⟨w.heap.size + 1, 0, none⟩ = some (.bool n2) := hB.c 0
  have b1 : (w1).cell? ⟨w.heap.size + 1, 1, none⟩ = some (.string (B u2)) := hB.c 1
  have b2 : (w1).cell? ⟨w.heap.size + 1, 2, none⟩ = some (.string (B d2)) := hB.c 2
  have c0 : (w1).cell? ⟨w.heap.size + 1 + 1, 0, none⟩ = some (.bool false) := hC.c 0
  have c1 : (w1).cell? ⟨w.heap.size + 1 + 1, 1, none⟩ = some (.string ⟨#[]⟩) := hC.c 1
  have c2 : (w1).cell? ⟨w.heap.size + 1 + 1, 2, none⟩ = some (.string ⟨#[]⟩) := hC.c 2
  have cf := hC.f
  have hs := hC.lt
  clear hA hB hC
  clear hb1
  unfold numT
  go_wp2
  have hcc := And.intro c0 (And.intro c1 (And.intro c2 hs))
  refine bodyPost_ret (v := .tuple #[.agg #[.bool rn, .string (B ru), .string (B rd)], .int .i64 rc]) (by simp [results, Tryd.results18, go_sem, hcc]) rfl ⟨rfl, ?_⟩
  refine ((unhide HW).trans ((unhide Hb1).mono (unhide HW).size)).trans ?_
  repeat (first | exact Below.refl _ _ | refine Below.setCell ?_ (by first | exact Nat.le_refl _ | exact Nat.le_succ _ | (simp; done) | (simp; omega)) _ | refine Below.alloc ?_ (by first | exact Nat.le_refl _ | (simp; done) | (simp; omega)) _)
-- a function of the field that hands on to numWork: implSub_t the name, NumSub the function, workSub_t numWork's contract, subP the plain one
set_option maxRecDepth 100000 in
set_option maxHeartbeats 2000000 in
theorem implSub_t (a b : T3) (w : World) (ha : small a) (hb : small b) (hT : Tens w) :
    Calls Tryd.prog 23 #[numT a, numT b] w fun e w' => e = .returned (ansT (fld subP a b)) ∧ Below w.heap.size w w' := by
  have hwork := fun w hT => workSub_t a b w ha hb hT
  generalize fld subP a b = r at *
  have Hwork := hide hwork
  clear hwork
  obtain ⟨n1, u1, d1⟩ := a
  obtain ⟨n2, u2, d2⟩ := b
  obtain ⟨⟨rn, ru, rd⟩, rc⟩ := r
  unfold numT ansT at *
  -- both numbers are boxed, the answer's box behind them
  have HW := hide ((((Below.refl w.heap.size w).alloc (Nat.le_refl _) (.cells #[.bool n1, .string (B u1), .string (B d1)] 26)).alloc (by simp) (.cells #[.bool n2, .string (B u2), .string (B d2)] 26)).alloc (by simp; omega) (.cells #[.bool false, .string ⟨#[]⟩, .string ⟨#[]⟩] 26))
  have HA := hide (((AtC.new w #[.bool n1, .string (B u1), .string (B d1)] 26).alloc (.cells #[.bool n2, .string (B u2), .string (B d2)] 26)).alloc (.cells #[.bool false, .string ⟨#[]⟩, .string ⟨#[]⟩] 26))
  have HB := hide ((AtC.new (w.alloc (.cells #[.bool n1, .string (B u1), .string (B d1)] 26)) #[.bool n2, .string (B u2), .string (B d2)] 26).alloc (.cells #[.bool false, .string ⟨#[]⟩, .string ⟨#[]⟩] 26))
  have HC := hide (AtC.new ((w.alloc (.cells #[.bool n1, .string (B u1), .string (B d1)] 26)).alloc (.cells #[.bool n2, .string (B u2), .string (B d2)] 26)) #[.bool false, .string ⟨#[]⟩, .string ⟨#[]⟩] 26)
  rw [World.size_alloc] at HB
  rw [World.size_alloc, World.size_alloc] at HC
  have HT := hide hT
  clear hT ha hb
  dsimp only at *
  go_enter Tryd.func23, Tryd.ntmps23
  go_wp2_with fail
  refine (unhide Hwork _ ((unhide HT).below (unhide HW))).mono ?_
  rintro e w1 ⟨rfl, hb1⟩
  have Hb1 := hide hb1
  -- w1 the world, (unhide Hb1) what is kept since W0 (Below (W0).heap.size W0 w1)
  have hA := (unhide HA).below (unhide Hb1)
  have hB := (unhide HB).below (unhide Hb1)
  have hC := (unhide HC).below (unhide Hb1)
  have a0 : (w1).cell? ⟨w.heap.size, 0, none⟩ = some (.bool n1) := hA.c 0
  have a1 : (w1).cell? ⟨w.heap.size, 1, none⟩ = some (.string (B u1)) := hA.c 1
  have a2 : (w1).cell? ⟨w.heap.size, 2, none⟩ = some (.string (B d1)) := hA.c 2
  have b0 : (w1).cell? ⟨w.heap.size + 1, 0, none⟩ = some (.bool n2) := hB.c 0
  have b1 : (w1).cell? ⟨w.heap.size + 1, 1, none⟩ = some (.string (B u2)) := hB.c 1
  have b2 : (w1).cell? ⟨w.heap.size + 1, 2, none⟩ = some (.string (B d2)) := hB.c 2
  have c0 : (w1).cell? ⟨w.heap.size + 1 + 1, 0, none⟩ = some (.bool false) := hC.c 0
  have c1 : (w1).cell? ⟨w.heap.size + 1 + 1, 1, none⟩ = some (.string ⟨#[]⟩) := hC.c 1
  have c2 : (w1).cell? ⟨w.heap.size + 1 + 1, 2, none⟩ = some (.string ⟨#[]⟩) := hC.c 2
  have cf := hC.f
  have hs := hC.lt
  clear hA hB hC
  clear hb1
  unfold numT
  go_wp2
  have hcc := And.intro c0 (And.intro c1 (And.intro c2 hs))
  refine bodyPost_ret (v := .tuple #[.agg #[.bool rn, .string (B ru), .string (B rd)], .int .i64 rc]) (by simp [results, Tryd.results23, go_sem, hcc]) rfl ⟨rfl, ?_⟩
  refine ((unhide HW).trans ((unhide Hb1).mono (unhide HW).size)).trans ?_
  repeat (first | exact Below.refl _ _ | refine Below.setCell ?_ (by first | exact Nat.le_refl _ | exact Nat.le_succ _ | (simp; done) | (simp; omega)) _ | refine Below.alloc ?_ (by first | exact Nat.le_refl _ | (simp; done) | (simp; omega)) _)
-- a function of the field that hands on to numWork: implMul_t the name, NumMul the function, workMul_t numWork's contract, mulP the plain one
set_option maxRecDepth 100000 in
set_option maxHeartbeats 2000000 in
theorem implMul_t (a b : T3) (w : World) (ha : small a) (hb : small b) (hT : Tens w) :
    Calls Tryd.prog 20 #[numT a, numT b] w fun e w' => e = .returned (ansT (fld mulP a b)) ∧ Below w.heap.size w w' := by
  have hwork := fun w hT => workMul_t a b w ha hb hT
  generalize fld mulP a b = r at *
  have Hwork := hide hwork
  clear hwork
  obtain ⟨n1, u1, d1⟩ := a
  obtain ⟨n2, u2, d2⟩ := b
  obtain ⟨⟨rn, ru, rd⟩, rc⟩ := r
  unfold numT ansT at *
  -- both numbers are boxed, the answer's box behind them
  have HW := hide ((((Below.refl w.heap.size w).alloc (Nat.le_refl _) (.cells #[.bool n1, .string (B u1), .string (B d1)] 26)).alloc (by simp) (.cells #[.bool n2, .string (B u2), .string (B d2)] 26)).alloc (by simp; omega) (.cells #[.bool false, .string ⟨#[]⟩, .string ⟨#[]⟩] 26))
  have HA := hide (((AtC.new w #[.bool n1, .string (B u1), .string (B d1)] 26).alloc (.cells #[.bool n2, .string (B u2), .string (B d2)] 26)).alloc (.cells #[.bool false, .string ⟨#[]⟩, .string ⟨#[]⟩] 26))
  have HB := hide ((AtC.new (w.alloc (.cells #[.bool n1, .string (B u1), .string (B d1)] 26)) #[.bool n2, .string (B u2), .string (B d2)] 26).alloc (.cells #[.bool false, .string ⟨#[]⟩, .string ⟨#[]⟩] 26))
  have HC := hide (AtC.new ((w.alloc (.cells #[.bool n1, .string (B u1), .string (B d1)] 26)).alloc (.cells #[.bool n2, .string (B u2), .string (B d2)] 26)) #[.bool false, .string ⟨#[]⟩, .string ⟨#[]⟩] 26)
  rw [World.size_alloc] at HB
  rw [World.size_alloc, World.size_alloc] at HC
  have HT := hide hT
  clear hT ha hb
  dsimp only at *
  go_enter Tryd.func20, Tryd.ntmps20
  go_wp2_with fail
  refine (unhide Hwork _ ((unhide HT).below (unhide HW))).mono ?_
  rintro e w1 ⟨rfl, hb1⟩
  have Hb1 := hide hb1
  -- w1 the world, (unhide Hb1) what is kept since W0 (Below (W0).heap.size W0 w1)
  have hA := (unhide HA).below (unhide Hb1)
  have hB := (unhide HB).below (unhide Hb1)
  have hC := (unhide HC).below (unhide Hb1)
  have a0 : (w1).cell? ⟨w.heap.size, 0, none⟩ = some (.bool n1) := hA.c 0
  have a1 : (w1).cell? ⟨w.heap.size, 1, none⟩ = some (.string (B u1)) := hA.c 1
  have a2 : (w1).cell? ⟨w.heap.size, 2, none⟩ = some (.string (B d1)) := hA.c 2
  have b0 : (w1).cell? ⟨w.heap.size + 1, 0, none⟩ = some (.bool n2) := hB.c 0
  have b1 : (w1).cell? ⟨w.heap.size + 1, 1, none⟩ = some (.string (B u2)) := hB.c 1
  have b2 : (w1).cell? ⟨w.heap.size + 1, 2, none⟩ = some (.string (B d2)) := hB.c 2
  have c0 : (w1).cell? ⟨w.heap.size + 1 + 1, 0, none⟩ = some (.bool false) := hC.c 0
  have c1 : (w1).cell? ⟨w.heap.size + 1 + 1, 1, none⟩ = some (.string ⟨#[]⟩) := hC.c 1
  have c2 : (w1).cell? ⟨w.heap.size + 1 + 1, 2, none⟩ = some (.string ⟨#[]⟩) := hC.c 2
  have cf := hC.f
  have hs := hC.lt
  clear hA hB hC
  clear hb1
  unfold numT
  go_wp2
  have hcc := And.intro c0 (And.intro c1 (And.intro c2 hs))
  refine bodyPost_ret (v := .tuple #[.agg #[.bool rn, .string (B ru), .string (B rd)], .int .i64 rc]) (by simp [results, Tryd.results20, go_sem, hcc]) rfl ⟨rfl, ?_⟩
  refine ((unhide HW).trans ((unhide Hb1).mono (unhide HW).size)).trans ?_
  repeat (first | exact Below.refl _ _ | refine Below.setCell ?_ (by first | exact Nat.le_refl _ | exact Nat.le_succ _ | (simp; done) | (simp; omega)) _ | refine Below.alloc ?_ (by first | exact Nat.le_refl _ | (simp; done) | (simp; omega)) _)

theorem specAdd_t (a b : T3) (w : World) (ha : small a) (hb : small b) :
    Calls Tryd.prog 19 #[numT a, numT b] w fun e w' => e = .returned (ansT (fld addP a b)) ∧ Below w.heap.size w w' := by
  cases h : okT a && okT b with
  | false => rw [fld_no h]; exact specNumAdd_no a.1 b.1 a.2.1 a.2.2 b.2.1 b.2.2 w ha.1 ha.2 hb.1 hb.2 h
  | true =>
    rw [Bool.and_eq_true] at h
    rw [fld_yes h.1 h.2, numT_dec h.1, numT_dec h.2, ← ans_opt, show addP (valT a) (valT b) = _ from (add_low _ _ _ _ _ _).symm]
    exact specNumAdd_yes _ _ _ _ _ _ w (okP_val h.1) (okP_val h.2)
theorem implOk_t (a : T3) (w : World) (ha : small a) (hT : Tens w) : Calls Tryd.prog 9 #[numT a] w fun e w' => e = .returned (.bool (okT a)) ∧ Below w.heap.size w w' :=
  implNumOk_c a.1 a.2.1 a.2.2 w (by have := ha.1; omega) (by have := ha.2; omega) hT
theorem specOk_t (a : T3) (w : World) (ha : small a) : Calls Tryd.prog 21 #[numT a] w fun e w' => e = .returned (.bool (okT a)) ∧ Below w.heap.size w w' :=
  specNumOk_c a.1 a.2.1 a.2.2 w (by have := ha.1; omega) (by have := ha.2; omega)
end Go.Proofs.YtchginjabaobfaaDoor
namespace Go.Proofs.YtchginjabaobfaaDoor
open Go.RowKit Nt

set_option maxRecDepth 100000 in
set_option maxHeartbeats 2000000 in
theorem implDiv_t (a b : T3) (w : World) (ha : okT a = true) (hb : okT b = true) (hT : Tens w) :
    Calls Tryd.prog 24 #[numT a, numT b] w fun e w' => e = .returned (ansT (divT a b)) ∧ Below w.heap.size w w' := by
  have la := okT_len ha
  have lb := okT_len hb
  have h1 := fun w hT => implOk_t a w ⟨by omega, by omega⟩ hT
  have h2 := fun w hT => implOk_t b w ⟨by omega, by omega⟩ hT
  have hmul := fun w hT => implMul_t a (b.1, b.2.2, b.2.1) w ⟨by omega, by omega⟩ ⟨by show b.2.2.length ≤ 1000; omega, by show b.2.1.length ≤ 1000; omega⟩ hT
  rw [ha] at h1
  rw [hb] at h2
  have H1 := hide h1
  have H2 := hide h2
  have Hmul := hide hmul
  clear h1 h2 hmul ha hb la lb
  obtain ⟨n1, u1, d1⟩ := a
  obtain ⟨n2, u2, d2⟩ := b
  unfold numT at *
  dsimp only at *
  -- both numbers are boxed, the answer's box behind them
  have HW := hide ((((Below.refl w.heap.size w).alloc (Nat.le_refl _) (.cells #[.bool n1, .string (B u1), .string (B d1)] 26)).alloc (by simp) (.cells #[.bool n2, .string (B u2), .string (B d2)] 26)).alloc (by simp; omega) (.cells #[.bool false, .string ⟨#[]⟩, .string ⟨#[]⟩] 26))
  have HA := hide (((AtC.new w #[.bool n1, .string (B u1), .string (B d1)] 26).alloc (.cells #[.bool n2, .string (B u2), .string (B d2)] 26)).alloc (.cells #[.bool false, .string ⟨#[]⟩, .string ⟨#[]⟩] 26))
  have HB := hide ((AtC.new (w.alloc (.cells #[.bool n1, .string (B u1), .string (B d1)] 26)) #[.bool n2, .string (B u2), .string (B d2)] 26).alloc (.cells #[.bool false, .string ⟨#[]⟩, .string ⟨#[]⟩] 26))
  have HC := hide (AtC.new ((w.alloc (.cells #[.bool n1, .string (B u1), .string (B d1)] 26)).alloc (.cells #[.bool n2, .string (B u2), .string (B d2)] 26)) #[.bool false, .string ⟨#[]⟩, .string ⟨#[]⟩] 26)
  rw [World.size_alloc] at HB
  rw [World.size_alloc, World.size_alloc] at HC
  have HT := hide hT
  clear hT
  have hsb : ((B u2).toList == [48]) = decide (u2 = [48]) := by rw [B_tl]; by_cases h : u2 = [48] <;> simp [h]
  by_cases hz : u2 = [48]
  all_goals
    have Hz := hide hz
    first | rw [decide_eq_true hz] at hsb | rw [decide_eq_false hz] at hsb
    clear hz
    go_enter Tryd.func24, Tryd.ntmps24
    go_wp2_with fail
    refine (unhide H1 _ ((unhide HT).below (unhide HW))).mono ?_
    rintro e w1 ⟨rfl, hb1⟩
    have Hb1 := hide hb1
    have HW1 := hide ((unhide HW).trans (hb1.mono (unhide HW).size))
    -- w1 the world, (unhide Hb1) what is kept since W0 (Below (W0).heap.size W0 w1)
    have hA := (unhide HA).below (unhide Hb1)
    have hB := (unhide HB).below (unhide Hb1)
    have hC := (unhide HC).below (unhide Hb1)
    have a0 : (w1).cell? ⟨w.heap.size, 0, none⟩ = some (.bool n1) := hA.c 0
    have a1 : (w1).cell? ⟨w.heap.size, 1, none⟩ = some (.string (B u1)) := hA.c 1
    have a2 : (w1).cell? ⟨w.heap.size, 2, none⟩ = some (.string (B d1)) := hA.c 2
    have b0 : (w1).cell? ⟨w.heap.size + 1, 0, none⟩ = some (.bool n2) := hB.c 0
    have b1 : (w1).cell? ⟨w.heap.size + 1, 1, none⟩ = some (.string (B u2)) := hB.c 1
    have b2 : (w1).cell? ⟨w.heap.size + 1, 2, none⟩ = some (.string (B d2)) := hB.c 2
    have c0 : (w1).cell? ⟨w.heap.size + 1 + 1, 0, none⟩ = some (.bool false) := hC.c 0
    have c1 : (w1).cell? ⟨w.heap.size + 1 + 1, 1, none⟩ = some (.string ⟨#[]⟩) := hC.c 1
    have c2 : (w1).cell? ⟨w.heap.size + 1 + 1, 2, none⟩ = some (.string ⟨#[]⟩) := hC.c 2
    have cf := hC.f
    have hs := hC.lt
    clear hA hB hC
    clear hb1
    go_wp2_with fail
    refine (unhide H2 w1 ((unhide HT).below (unhide HW1))).mono ?_
    rintro e w2 ⟨rfl, hb2⟩
    clear a0 a1 a2 b0 b1 b2 c0 c1 c2 cf hs
    have Hb2 := hide ((unhide Hb1).trans (hb2.mono (unhide Hb1).size))
    have HW2 := hide ((unhide HW1).trans (hb2.mono (unhide HW1).size))
    -- w2 the world, (unhide Hb2) what is kept since W0 (Below (W0).heap.size W0 w2)
    have hA := (unhide HA).below (unhide Hb2)
    have hB := (unhide HB).below (unhide Hb2)
    have hC := (unhide HC).below (unhide Hb2)
    have a0 : (w2).cell? ⟨w.heap.size, 0, none⟩ = some (.bool n1) := hA.c 0
    have a1 : (w2).cell? ⟨w.heap.size, 1, none⟩ = some (.string (B u1)) := hA.c 1
    have a2 : (w2).cell? ⟨w.heap.size, 2, none⟩ = some (.string (B d1)) := hA.c 2
    have b0 : (w2).cell? ⟨w.heap.size + 1, 0, none⟩ = some (.bool n2) := hB.c 0
    have b1 : (w2).cell? ⟨w.heap.size + 1, 1, none⟩ = some (.string (B u2)) := hB.c 1
    have b2 : (w2).cell? ⟨w.heap.size + 1, 2, none⟩ = some (.string (B d2)) := hB.c 2
    have c0 : (w2).cell? ⟨w.heap.size + 1 + 1, 0, none⟩ = some (.bool false) := hC.c 0
    have c1 : (w2).cell? ⟨w.heap.size + 1 + 1, 1, none⟩ = some (.string ⟨#[]⟩) := hC.c 1
    have c2 : (w2).cell? ⟨w.heap.size + 1 + 1, 2, none⟩ = some (.string ⟨#[]⟩) := hC.c 2
    have cf := hC.f
    have hs := hC.lt
    clear hA hB hC
    clear hb2
    go_wp2_with fail
  · have hcc := And.intro c0 (And.intro c1 c2)
    refine bodyPost_ret (v := ansT (nilT, 2)) (by simp [results, Tryd.results24, go_sem, hcc, ansT, numT, nilT]; rfl) rfl ⟨by unfold divT; rw [if_pos (unhide Hz)], ?_⟩
    refine ((unhide HW).trans ((unhide Hb2).mono (unhide HW).size)).trans ?_
    repeat (first | exact Below.refl _ _ | refine Below.setCell ?_ (by first | exact Nat.le_refl _ | exact Nat.le_succ _ | (simp; done) | (simp; omega)) _ | refine Below.alloc ?_ (by first | exact Nat.le_refl _ | (simp; done) | (simp; omega)) _)
  · refine (unhide Hmul w2 ((unhide HT).below (unhide HW2))).mono ?_
    generalize hr : fld mulP (n1, u1, d1) (n2, d2, u2) = r
    have Hr := hide hr
    clear hr
    obtain ⟨⟨rn, ru, rd⟩, rc⟩ := r
    unfold ansT numT
    dsimp only
    rintro e w3 ⟨rfl, hb3⟩
    clear a0 a1 a2 b0 b1 b2 c0 c1 c2 cf hs
    have Hb3 := hide ((unhide Hb2).trans (hb3.mono (unhide Hb2).size))
    -- w3 the world, (unhide Hb3) what is kept since W0 (Below (W0).heap.size W0 w3)
    have hA := (unhide HA).below (unhide Hb3)
    have hB := (unhide HB).below (unhide Hb3)
    have hC := (unhide HC).below (unhide Hb3)
    have a0 : (w3).cell? ⟨w.heap.size, 0, none⟩ = some (.bool n1) := hA.c 0
    have a1 : (w3).cell? ⟨w.heap.size, 1, none⟩ = some (.string (B u1)) := hA.c 1
    have a2 : (w3).cell? ⟨w.heap.size, 2, none⟩ = some (.string (B d1)) := hA.c 2
    have b0 : (w3).cell? ⟨w.heap.size + 1, 0, none⟩ = some (.bool n2) := hB.c 0
    have b1 : (w3).cell? ⟨w.heap.size + 1, 1, none⟩ = some (.string (B u2)) := hB.c 1
    have b2 : (w3).cell? ⟨w.heap.size + 1, 2, none⟩ = some (.string (B d2)) := hB.c 2
    have c0 : (w3).cell? ⟨w.heap.size + 1 + 1, 0, none⟩ = some (.bool false) := hC.c 0
    have c1 : (w3).cell? ⟨w.heap.size + 1 + 1, 1, none⟩ = some (.string ⟨#[]⟩) := hC.c 1
    have c2 : (w3).cell? ⟨w.heap.size + 1 + 1, 2, none⟩ = some (.string ⟨#[]⟩) := hC.c 2
    have cf := hC.f
    have hs := hC.lt
    clear hA hB hC
    clear hb3
    go_wp2
    have hcc := And.intro c0 (And.intro c1 (And.intro c2 hs))
    refine bodyPost_ret (v := .tuple #[.agg #[.bool rn, .string (B ru), .string (B rd)], .int .i64 rc]) (by simp [results, Tryd.results24, go_sem, hcc]) rfl ⟨by unfold divT; rw [if_neg (unhide Hz), unhide Hr]; rfl, ?_⟩
    refine ((unhide HW).trans ((unhide Hb3).mono (unhide HW).size)).trans ?_
    repeat (first | exact Below.refl _ _ | refine Below.setCell ?_ (by first | exact Nat.le_refl _ | exact Nat.le_succ _ | (simp; done) | (simp; omega)) _ | refine Below.alloc ?_ (by first | exact Nat.le_refl _ | (simp; done) | (simp; omega)) _)

-- what wfSame says: one is too big, or both are the same
set_option maxRecDepth 100000 in
set_option maxHeartbeats 2000000 in
theorem wfSame_t (l r : T3 × Int) (w : World) (h : sameT l r) :
    Calls Tryd.prog 22 #[numT l.1, .int .i64 l.2, numT r.1, .int .i64 r.2] w fun e w' => e = .returned (.bool true) ∧ Below w.heap.size w w' := by
  obtain ⟨⟨n1, u1, d1⟩, c⟩ := l
  obtain ⟨⟨n2, u2, d2⟩, d⟩ := r
  unfold numT
  unfold sameT at h
  dsimp only at *
  have HW := hide (((Below.refl w.heap.size w).alloc (Nat.le_refl _) (.cells #[.bool n1, .string (B u1), .string (B d1)] 26)).alloc (by simp) (.cells #[.bool n2, .string (B u2), .string (B d2)] 26))
  by_cases hc : c = 3
  · subst hc
    clear h
    go_enter Tryd.func22, Tryd.ntmps22
    go_wp2
    go_ret
    exact ⟨rfl, unhide HW⟩
  · by_cases hd : d = 3
    · subst hd
      clear h
      go_enter Tryd.func22, Tryd.ntmps22
      go_wp2
      go_ret
      exact ⟨rfl, unhide HW⟩
    · have he : ((n1, u1, d1), c) = ((n2, u2, d2), d) := by
        rcases h with h | h | h
        · exact absurd h hc
        · exact absurd h hd
        · exact h
      clear h
      injection he with h1 h2
      injection h1 with h3 h4
      injection h4 with h5 h6
      subst h2 h3 h5 h6
      go_enter Tryd.func22, Tryd.ntmps22
      go_wp2
      go_ret
      exact ⟨rfl, unhide HW⟩
end Go.Proofs.YtchginjabaobfaaDoor
/- The reader that the draws share: what it holds, and what a draw leaves. -/
namespace Go.Proofs.YtchginjabaobfaaDoor
open Go.RowKit Nt

/-- all blocks that were there, but one, are as they were -/
structure Keeps (g : Nat) (w w' : World) : Prop where
  os : w'.os = w.os
  tape : w'.tape = w.tape
  output : w'.output = w.output
  size : w.heap.size ≤ w'.heap.size
  block : ∀ k, k < w.heap.size → k ≠ g → w'.heap[k]? = w.heap[k]?

theorem Keeps.refl (g : Nat) (w : World) : Keeps g w w := ⟨rfl, rfl, rfl, Nat.le_refl _, fun _ _ _ => rfl⟩
theorem Keeps.trans {g : Nat} {a b c : World} (h : Keeps g a b) (k : Keeps g b c) : Keeps g a c :=
  ⟨k.os.trans h.os, k.tape.trans h.tape, k.output.trans h.output, Nat.le_trans h.size k.size, fun i hi hg => (k.block i (Nat.lt_of_lt_of_le hi h.size) hg).trans (h.block i hi hg)⟩
theorem Keeps.of_below {g : Nat} {w w' : World} (h : Below w.heap.size w w') : Keeps g w w' := ⟨h.os, h.tape, h.output, h.size, fun k hk _ => h.block k hk⟩
theorem Keeps.below {g B : Nat} {w w' : World} (h : Keeps g w w') (hg : B ≤ g) (hB : B ≤ w.heap.size) : Below B w w' := ⟨h.os, h.tape, h.output, h.size, fun k hk => h.block k (by omega) (by omega)⟩
theorem Keeps.drew {g : Nat} {a w : World} (h : Keeps g a w) : Keeps g a w.drew := ⟨h.os, h.tape, h.output, h.size, h.block⟩
theorem Keeps.drewN {g : Nat} {a w : World} (h : Keeps g a w) (n : Nat) : Keeps g a (w.drewN n) := ⟨h.os, h.tape, h.output, h.size, h.block⟩
theorem Keeps.alloc {g : Nat} {a w : World} (h : Keeps g a w) (o : Obj) : Keeps g a (w.alloc o) := h.trans (Keeps.of_below ((Below.refl _ _).alloc (Nat.le_refl _) o))
theorem Keeps.setOwn {g : Nat} {a w : World} (h : Keeps g a w) {p : Addr} (hp : p.block = g) (u : Value) : Keeps g a (w.setCell p u) :=
  h.trans ⟨rfl, rfl, rfl, by simp [World.setCell], fun k _ hg => Below.heap_setCell _ _ _ _ (by omega)⟩
theorem Keeps.setNew {g : Nat} {a w : World} (h : Keeps g a w) {p : Addr} (hp : a.heap.size ≤ p.block) (u : Value) : Keeps g a (w.setCell p u) :=
  ⟨h.os, h.tape, h.output, Nat.le_trans h.size (by simp [World.setCell]), fun k hk hg => (Below.heap_setCell _ _ _ _ (by omega)).trans (h.block k hk hg)⟩
theorem Keeps.cell {g : Nat} {w w' : World} (h : Keeps g w w') {p : Addr} (hp : p.block < w.heap.size) (hg : p.block ≠ g) : w'.cell? p = w.cell? p := World.cell?_of_block (w := w) (h.block p.block hp hg)
theorem Keeps.frozen {g : Nat} {w w' : World} (h : Keeps g w w') {p : Addr} (hp : p.block < w.heap.size) (hg : p.block ≠ g) : w'.frozen? p = w.frozen? p := World.frozen?_of_block (w := w) (h.block p.block hp hg)

/-- bytes that can be read -/
def Byts (w : World) (g : Nat) (a : Option Addr) (n : Nat) : Prop :=
  0 < n → ∃ q o, a = some ⟨q, o, none⟩ ∧ q < g ∧ q < w.heap.size ∧ ∀ j, j < n → ∃ x : Nat, x ≤ 255 ∧ w.cell? ⟨q, o + j, none⟩ = some (.int .u8 (x : Int))
theorem Byts.keeps {w w' : World} {g : Nat} {a : Option Addr} {n : Nat} (h : Byts w g a n) (k : Keeps g w w') : Byts w' g a n := by
  intro hn
  obtain ⟨q, o, rfl, hqg, hq, hc⟩ := h hn
  refine ⟨q, o, rfl, hqg, Nat.lt_of_lt_of_le hq k.size, fun j hj => ?_⟩
  obtain ⟨x, hx, hcj⟩ := hc j hj
  exact ⟨x, hx, by rw [k.cell hq (Nat.ne_of_lt hqg)]; exact hcj⟩

/-- the reader stands at a place of its bytes -/
structure Rd (w : World) (g p : Nat) (a : Option Addr) (n cap : Nat) : Prop where
  heap : w.heap[g]? = some (.cells #[.slice a n cap, .int .i64 (p : Int)] 107 (0, 0))
  byts : Byts w g a n
  len : n ≤ 2000

theorem Rd.keep {w w' : World} {g p : Nat} {a : Option Addr} {n cap : Nat} (h : Rd w g p a n cap) (hb : Below w.heap.size w w') : Rd w' g p a n cap :=
  ⟨by rw [hb.block g (Array.getElem?_eq_some_iff.1 h.heap).1]; exact h.heap, h.byts.keeps (Keeps.of_below hb), h.len⟩
theorem Rd.drewN {w : World} {g p : Nat} {a : Option Addr} {n cap : Nat} (h : Rd w g p a n cap) (k : Nat) : Rd (w.drewN k) g p a n cap := ⟨h.heap, h.byts, h.len⟩
theorem Rd.drew {w : World} {g p : Nat} {a : Option Addr} {n cap : Nat} (h : Rd w g p a n cap) : Rd w.drew g p a n cap := ⟨h.heap, h.byts, h.len⟩
theorem Rd.lt {w : World} {g p : Nat} {a : Option Addr} {n cap : Nat} (h : Rd w g p a n cap) : g < w.heap.size := (Array.getElem?_eq_some_iff.1 h.heap).1
theorem Rd.c0 {w : World} {g p : Nat} {a : Option Addr} {n cap : Nat} (h : Rd w g p a n cap) : w.cell? ⟨g, 0, none⟩ = some (.slice a n cap) := by simp [World.cell?, h.heap]
theorem Rd.c1 {w : World} {g p : Nat} {a : Option Addr} {n cap : Nat} (h : Rd w g p a n cap) : w.cell? ⟨g, 1, none⟩ = some (.int .i64 (p : Int)) := by simp [World.cell?, h.heap]
theorem Rd.f1 {w : World} {g p : Nat} {a : Option Addr} {n cap : Nat} (h : Rd w g p a n cap) : w.frozen? ⟨g, 1, none⟩ = false := by simp [World.frozen?, h.heap]
theorem Rd.next {w : World} {g p : Nat} {a : Option Addr} {n cap : Nat} (h : Rd w g p a n cap) (v : Int) (hv : v = ((p + 1 : Nat) : Int)) : Rd (w.setCell ⟨g, 1, none⟩ (.int .i64 v)) g (p + 1) a n cap := by
  refine ⟨?_, h.byts.keeps ((Keeps.refl g w).setOwn (p := ⟨g, 1, none⟩) rfl _), h.len⟩
  subst hv
  rw [show (w.setCell ⟨g, 1, none⟩ (.int .i64 ((p + 1 : Nat) : Int))).heap[g]? = _ from Array.getElem?_modify, if_pos rfl, h.heap]
  simp

theorem Rd.below {w w' : World} {g p : Nat} {a : Option Addr} {n cap : Nat} (h : Rd w g p a n cap) (hb : Below (g + 1) w w') : Rd w' g p a n cap := by
  refine ⟨by rw [hb.block g (by omega)]; exact h.heap, ?_, h.len⟩
  intro hn
  obtain ⟨q, o, rfl, hqg, hq, hc⟩ := h.byts hn
  refine ⟨q, o, rfl, hqg, Nat.lt_of_lt_of_le hq hb.size, fun j hj => ?_⟩
  obtain ⟨x, hx, hcj⟩ := hc j hj
  exact ⟨x, hx, by rw [hb.cell (p := ⟨q, o + j, none⟩) (by show q < g + 1; omega)]; exact hcj⟩

/-- what a draw leaves: the reader stands further on, all else is kept -/
def Drawn (w : World) (g p n cap : Nat) (a : Option Addr) (k : Nat) (w' : World) : Prop := (∃ p', p' ≤ p + k ∧ Rd w' g p' a n cap) ∧ Keeps g w w'
theorem Drawn.zero {w : World} {g p n cap : Nat} {a : Option Addr} (h : Rd w g p a n cap) : Drawn w g p n cap a 0 w := ⟨⟨p, by omega, h⟩, Keeps.refl _ _⟩
theorem Drawn.more {w w1 w2 : World} {g p n cap k : Nat} {a : Option Addr} (h : Drawn w g p n cap a k w1) (hg : g < w.heap.size) (hb : Below w.heap.size w1 w2) : Drawn w g p n cap a k w2 := by
  obtain ⟨⟨p', hp, hr⟩, hk⟩ := h
  exact ⟨⟨p', hp, hr.below (hb.mono (by omega))⟩, ⟨hb.os.trans hk.os, hb.tape.trans hk.tape, hb.output.trans hk.output, Nat.le_trans hk.size hb.size, fun i hi hig => (hb.block i hi).trans (hk.block i hi hig)⟩⟩
theorem Drawn.step {w w1 w2 : World} {g p p' n cap k j : Nat} {a : Option Addr} (hk : Keeps g w w1) (hp : p' ≤ p + k) (h : Drawn w1 g p' n cap a j w2) : Drawn w g p n cap a (k + j) w2 := by
  obtain ⟨⟨q, hq, hr⟩, hk2⟩ := h
  exact ⟨⟨q, by omega, hr⟩, hk.trans hk2⟩
theorem Drawn.wide {w w1 : World} {g p n cap k j : Nat} {a : Option Addr} (h : Drawn w g p n cap a k w1) (hj : k ≤ j) : Drawn w g p n cap a j w1 := by
  obtain ⟨⟨q, hq, hr⟩, hk⟩ := h
  exact ⟨⟨q, by omega, hr⟩, hk⟩
theorem Drawn.made {w w1 : World} {g p n cap k : Nat} {a : Option Addr} {o : Obj} (h : Drawn (w.alloc o) g p n cap a k w1) : Drawn w g p n cap a k w1 := ⟨h.1, ((Keeps.refl g w).alloc o).trans h.2⟩
theorem Rd.alloc {w : World} {g p : Nat} {a : Option Addr} {n cap : Nat} (h : Rd w g p a n cap) (o : Obj) : Rd (w.alloc o) g p a n cap := h.keep ((Below.refl _ _).alloc (Nat.le_refl _) _)

/-- a number's three cells -/
def At3 (w : World) (b : Nat) (x y z : Value) : Prop := w.heap[b]? = some (.cells #[x, y, z] 26 (0, 0))
theorem At3.lt {w : World} {b : Nat} {x y z : Value} (h : At3 w b x y z) : b < w.heap.size := (Array.getElem?_eq_some_iff.1 h).1
theorem At3.new (w : World) (x y z : Value) : At3 (w.alloc (.cells #[x, y, z] 26)) w.heap.size x y z := by
  show (w.heap.push _)[w.heap.size]? = _; rw [Array.getElem?_push, if_pos rfl]
theorem At3.keeps {w w' : World} {b g : Nat} {x y z : Value} (h : At3 w b x y z) (k : Keeps g w w') (hg : b ≠ g) : At3 w' b x y z := (k.block b h.lt hg).trans h
theorem At3.below {w w' : World} {b : Nat} {x y z : Value} (h : At3 w b x y z) (k : Below w.heap.size w w') : At3 w' b x y z := (k.block b h.lt).trans h
theorem At3.alloc {w : World} {b : Nat} {x y z : Value} (h : At3 w b x y z) (o : Obj) : At3 (w.alloc o) b x y z := h.below ((Below.refl _ _).alloc (Nat.le_refl _) _)
theorem At3.drew {w : World} {b : Nat} {x y z : Value} (h : At3 w b x y z) : At3 w.drew b x y z := h
theorem At3.set1 {w : World} {b : Nat} {x y z : Value} (h : At3 w b x y z) (u : Value) : At3 (w.setCell ⟨b, 1, none⟩ u) b x u z := by
  show (w.heap.modify b _)[b]? = _
  rw [Array.getElem?_modify, if_pos rfl, show w.heap[b]? = _ from h]
  rfl
theorem At3.set {w : World} {b : Nat} {x y z : Value} (h : At3 w b x y z) {p : Addr} (hp : b ≠ p.block) (u : Value) : At3 (w.setCell p u) b x y z := by
  unfold At3; rw [Below.heap_setCell _ _ _ _ hp]; exact h
theorem At3.c0 {w : World} {b : Nat} {x y z : Value} (h : At3 w b x y z) : w.cell? ⟨b, 0, none⟩ = some x := by unfold At3 at h; simp [World.cell?, h]
theorem At3.c1 {w : World} {b : Nat} {x y z : Value} (h : At3 w b x y z) : w.cell? ⟨b, 1, none⟩ = some y := by unfold At3 at h; simp [World.cell?, h]
theorem At3.c2 {w : World} {b : Nat} {x y z : Value} (h : At3 w b x y z) : w.cell? ⟨b, 2, none⟩ = some z := by unfold At3 at h; simp [World.cell?, h]
theorem At3.f {w : World} {b : Nat} {x y z : Value} (h : At3 w b x y z) (j : Nat) : w.frozen? ⟨b, j, none⟩ = false := by unfold At3 at h; simp [World.frozen?, h]

theorem xor_small {x y : Int} (hx0 : 0 ≤ x) (hx : x < 4611686018427387904) (hy0 : 0 ≤ y) (hy : y < 4611686018427387904) : 0 ≤ bits .xor .i64 x y ∧ bits .xor .i64 x y < 4611686018427387904 := by
  obtain ⟨a, rfl⟩ := Int.eq_ofNat_of_zero_le hx0
  obtain ⟨b, rfl⟩ := Int.eq_ofNat_of_zero_le hy0
  have e : (BitVec.ofInt 64 (a : Int) ^^^ BitVec.ofInt 64 (b : Int)).toNat = a ^^^ b := by
    rw [BitVec.toNat_xor, BitVec.ofInt_natCast, BitVec.ofInt_natCast, BitVec.toNat_ofNat, BitVec.toNat_ofNat, Nat.mod_eq_of_lt (by omega), Nat.mod_eq_of_lt (by omega)]
  have hlt : a ^^^ b < 2 ^ 62 := Nat.xor_lt_two_pow (by omega) (by omega)
  have hw : bits .xor .i64 (a : Int) (b : Int) = ((a ^^^ b : Nat) : Int) := by
    show IntKind.i64.wrap ((BitVec.ofInt 64 (a : Int) ^^^ BitVec.ofInt 64 (b : Int)).toNat : Int) = _
    rw [e, wi64 _ (by omega) (by omega)]
  rw [hw]; omega

end Go.Proofs.YtchginjabaobfaaDoor
namespace Go.Proofs.YtchginjabaobfaaDoor
open Go.RowKit Nt

/-- a number from 0 to below m, or 0 -/
def inPick (m : Int) (i : Nat) : Prop := (i : Int) < m ∨ i = 0

/-- a number that fits, by a name of its own -/
theorem nameI (z : Int) (M : Int) (h0 : 0 ≤ z) (h1 : z ≤ M) (hM : M ≤ 9223372036854775807) : ∃ u : Nat, Hid (z = (u : Int)) ∧ IntKind.i64.wrap z = (u : Int) ∧ (u : Int) ≤ M :=
  ⟨z.toNat, by show z = _; omega, by rw [wi64 z (by omega) (by omega)]; omega, by omega⟩

set_option maxRecDepth 100000 in
set_option maxHeartbeats 1000000 in
theorem pick_c (g p n cap : Nat) (a : Option Addr) (m : Int) (w : World) (h : Rd w g p a n cap) (hp : p ≤ 1000000000) (hm : m ≤ 4611686018427387904) :
    Calls Tryd.prog 33 #[.pointer (some ⟨g, 0, none⟩), .int .i64 m] w fun e w' => (∃ i : Nat, e = .returned (.int .i64 (i : Int)) ∧ inPick m i) ∧ Rd w' g (p + 1) a n cap ∧ Keeps g w w' := by
  have c0 := h.c0
  have c1 := h.c1
  have f1 := h.f1
  have hlt := h.lt
  have hN := h.next ((p : Int) + 1) (by omega)
  have hK := (Keeps.refl g w).setOwn (p := ⟨g, 1, none⟩) rfl (.int .i64 ((p : Int) + 1))
  have d0 := hN.c0
  have d1 := hN.c1
  have hB := hN.byts
  have hlen := h.len
  have HN := hide hN
  have HK := hide hK
  clear hN hK h
  by_cases hm1 : m < 1
  · go_enter Tryd.func33, Tryd.ntmps33
    go_wp2
    go_ret
    exact ⟨⟨0, rfl, .inr rfl⟩, unhide HN, unhide HK⟩
  · by_cases hn0 : n = 0
    · have hz : ((n : Int) == 0) = true := by simp [hn0]
      have hl : decide (m < 1) = false := decide_eq_false hm1
      go_enter Tryd.func33, Tryd.ntmps33
      go_wp2
      go_ret
      subst hn0
      exact ⟨⟨0, rfl, .inr rfl⟩, unhide HN, unhide HK⟩
    · obtain ⟨q, o, rfl, hqg, hq, hcells⟩ := hB (by omega)
      have hz : ((n : Int) == 0) = false := by simp; omega
      have hl : decide (m < 1) = false := decide_eq_false hm1
      have Hc := hide hcells
      clear hcells hB
      by_cases hpn : p < n
      · obtain ⟨x, hx, hcx⟩ := unhide Hc p hpn
        go_enter Tryd.func33, Tryd.ntmps33
        go_wp2
        go_ret
        refine ⟨⟨((x : Int) % m).toNat, ret_int ?_, .inl ?_⟩, unhide HN, unhide HK⟩
        · rw [Int.toNat_of_nonneg (Int.emod_nonneg _ (by omega))]
        · rw [Int.toNat_of_nonneg (Int.emod_nonneg _ (by omega))]; exact Int.emod_lt_of_pos _ (by omega)
      · obtain ⟨i1, hi1, e1⟩ : ∃ i : Nat, i < n ∧ (p : Int).tmod n = (i : Int) := ⟨p % n, Nat.mod_lt _ (by omega), by rw [Int.tmod_eq_emod_of_nonneg (by omega)]; rfl⟩
        obtain ⟨k7, _, e3, hk7⟩ := nameI ((p : Int) * 7) 7000000000 (by omega) (by omega) (by omega)
        obtain ⟨k73, _, e4, hk73⟩ := nameI ((k7 : Int) + 3) 7000000003 (by omega) (by omega) (by omega)
        obtain ⟨i2, hi2, e5⟩ : ∃ i : Nat, i < n ∧ (k73 : Int).tmod n = (i : Int) := ⟨k73 % n, Nat.mod_lt _ (by omega), by rw [Int.tmod_eq_emod_of_nonneg (by omega)]; rfl⟩
        obtain ⟨x, hx, hcx⟩ := unhide Hc i1 hi1
        obtain ⟨y, hy, hcy⟩ := unhide Hc i2 hi2
        obtain ⟨u1, _, e6, hu1⟩ := nameI ((x : Int) * 131) 100000 (by omega) (by omega) (by omega)
        obtain ⟨u2, _, e7, hu2⟩ := nameI ((y : Int) * 1117) 1000000 (by omega) (by omega) (by omega)
        obtain ⟨u3, _, e8, hu3⟩ := nameI ((u1 : Int) + u2) 1100000 (by omega) (by omega) (by omega)
        obtain ⟨u4, _, e9, hu4⟩ := nameI ((p : Int) * 29) 29000000000 (by omega) (by omega) (by omega)
        obtain ⟨u5, _, e10, hu5⟩ := nameI ((u3 : Int) + u4) 30000000000 (by omega) (by omega) (by omega)
        obtain ⟨u6, hu6, e11⟩ : ∃ u : Nat, (u : Int) ≤ 1000000000 ∧ (p : Int).tdiv n = (u : Int) := ⟨p / n, by have := Nat.div_le_self p n; omega, by rw [Int.tdiv_eq_ediv_of_nonneg (by omega)]; rfl⟩
        have e11' := wi64 (u6 : Int) (by omega) (by omega)
        obtain ⟨u7, _, e12, hu7⟩ := nameI ((u6 : Int) * 53) 53000000000 (by omega) (by omega) (by omega)
        obtain ⟨u8, _, e13, hu8⟩ := nameI ((u5 : Int) + u7) 100000000000 (by omega) (by omega) (by omega)
        have hi1' : (i1 : Int) < n := by omega
        have hi2' : (i2 : Int) < n := by omega
        have hx256 : (x : Int) ≤ 255 := by omega
        have hy256 : (y : Int) ≤ 255 := by omega
        have hX := xor_small (x := (u8 : Int)) (y := (u8 : Int) / 64) (by omega) (by omega) (by omega) (by omega)
        obtain ⟨z, hz⟩ : ∃ z : Nat, bits .xor .i64 (u8 : Int) ((u8 : Int) / 64) = (z : Int) := ⟨(bits .xor .i64 (u8 : Int) ((u8 : Int) / 64)).toNat, by omega⟩
        have Hz := hide hz
        clear hz hX
        go_enter Tryd.func33, Tryd.ntmps33
        go_wp2
        go_quiet (fail)
        go_wp2
        go_ret
        rw [unhide Hz]
        refine ⟨⟨((z : Int) % m).toNat, ret_int ?_, .inl ?_⟩, (unhide HN).drewN nq, (unhide HK).drewN nq⟩
        · rw [Int.toNat_of_nonneg (Int.emod_nonneg _ (by omega)), Int.tmod_eq_emod_of_nonneg (by omega)]
        · rw [Int.toNat_of_nonneg (Int.emod_nonneg _ (by omega))]; exact Int.emod_lt_of_pos _ (by omega)

theorem pick_d (g p n cap : Nat) (a : Option Addr) (m : Int) (w : World) (h : Rd w g p a n cap) (hp : p ≤ 1000000000) (hm : m ≤ 4611686018427387904) :
    Calls Tryd.prog 33 #[.pointer (some ⟨g, 0, none⟩), .int .i64 m] w fun e w' => (∃ i : Nat, e = .returned (.int .i64 (i : Int)) ∧ inPick m i) ∧ Drawn w g p n cap a 1 w' :=
  (pick_c g p n cap a m w h hp hm).mono fun _ _ h => ⟨h.1, ⟨p + 1, Nat.le_refl _, h.2.1⟩, h.2.2⟩
end Go.Proofs.YtchginjabaobfaaDoor
namespace Go.Proofs.YtchginjabaobfaaDoor
open Go.RowKit Nt

/-- a slice of bytes that came in -/
def Bytes0 (w : World) (a : Option Addr) (n : Nat) : Prop :=
  0 < n → ∃ q o, a = some ⟨q, o, none⟩ ∧ q < w.heap.size ∧ ∀ j, j < n → ∃ x : Nat, x ≤ 255 ∧ w.cell? ⟨q, o + j, none⟩ = some (.int .u8 (x : Int))
theorem Bytes0.below {w w' : World} {a : Option Addr} {n : Nat} (h : Bytes0 w a n) (k : Below w.heap.size w w') : Bytes0 w' a n := by
  intro hn
  obtain ⟨q, o, rfl, hq, hc⟩ := h hn
  refine ⟨q, o, rfl, Nat.lt_of_lt_of_le hq k.size, fun j hj => ?_⟩
  obtain ⟨x, hx, hcj⟩ := hc j hj
  exact ⟨x, hx, by rw [k.cell hq]; exact hcj⟩
theorem Bytes0.byts {w : World} {a : Option Addr} {n m : Nat} (h : Bytes0 w a n) (hm : m ≤ n) (o : Obj) : Byts (w.alloc o) w.heap.size a m := by
  intro hn
  obtain ⟨q, o', rfl, hq, hc⟩ := h (by omega)
  refine ⟨q, o', rfl, hq, by simp; omega, fun j hj => ?_⟩
  obtain ⟨x, hx, hcj⟩ := hc j (by omega)
  exact ⟨x, hx, by rw [Below.cell ((Below.refl w.heap.size w).alloc (Nat.le_refl _) o) hq]; exact hcj⟩

theorem rd_new {w : World} {a : Option Addr} {n m cap : Nat} (h : Bytes0 w a n) (hm : m ≤ n) (h2 : m ≤ 2000) (v : Int) (hv : v = ((0 : Nat) : Int)) : Rd (w.alloc (.cells #[.slice a m cap, .int .i64 v] 107)) w.heap.size 0 a m cap := by
  subst hv
  exact ⟨by show (w.heap.push _)[w.heap.size]? = _; rw [Array.getElem?_push, if_pos rfl], h.byts hm _, h2⟩

set_option maxRecDepth 100000 in
set_option maxHeartbeats 400000 in
theorem l1Open_c (a : Option Addr) (n cap : Nat) (w : World) (h : Bytes0 w a n) (hcap : n ≤ cap) (hmax : cap ≤ maxLen) :
    Calls Tryd.prog 32 #[.slice a n cap] w fun e w' => e = .returned (.pointer (some ⟨w.heap.size, 0, none⟩)) ∧ (∃ m, m ≤ n ∧ Rd w' w.heap.size 0 a m cap) ∧ Below w.heap.size w w' := by
  unfold maxLen at hmax
  have H := hide h
  clear h
  by_cases hn : 2000 < n
  · have hc2 : (2000 : Int) ≤ cap := by omega
    go_enter Tryd.func32, Tryd.ntmps32
    go_wp2
    go_ret
    exact ⟨rfl, ⟨2000, by omega, rd_new (unhide H) (by omega) (by omega) _ rfl⟩, (Below.refl _ _).alloc (Nat.le_refl _) _⟩
  · go_enter Tryd.func32, Tryd.ntmps32
    go_wp2
    go_ret
    exact ⟨rfl, ⟨n, by omega, rd_new (unhide H) (by omega) (by omega) _ rfl⟩, (Below.refl _ _).alloc (Nat.le_refl _) _⟩

def isS (M : Nat) : Value → Bool | .string s => decide (s.size ≤ M) | _ => false
theorem isS_out {M : Nat} {v : Value} (h : isS M v = true) : ∃ s, v = .string s ∧ s.size ≤ M := by
  cases v <;> simp [isS] at h
  exact ⟨_, rfl, h⟩

set_option maxRecDepth 100000 in
set_option maxHeartbeats 400000 in
theorem of_c (g p n cap q : Nat) (a : Option Addr) (cs : Array Value) (L : Nat) (w : World) (h : Rd w g p a n cap) (hp : p ≤ 1000000000) (hL : L = cs.size) (hL0 : 0 < L) (hL9 : L ≤ 1000000)
    (hcs : w.heap[q]? = some (.cells cs 9 (0, 0))) (hqg : q ≠ g) :
    Calls Tryd.prog 35 #[.pointer (some ⟨g, 0, none⟩), .slice (some ⟨q, 0, none⟩) L L] w fun e w' => (∃ v, e = .returned v ∧ v ∈ cs.toList) ∧ Drawn w g p n cap a 1 w' := by
  have hq : q < w.heap.size := (Array.getElem?_eq_some_iff.1 hcs).1
  have H := hide h
  have Hcs := hide hcs
  have HL := hide hL
  clear h hcs hL
  go_enter Tryd.func35, Tryd.ntmps35
  go_wp2_with fail
  refine (pick_c g p n cap a L w (unhide H) hp (by omega)).mono ?_
  rintro e w1 ⟨⟨i, rfl, hi⟩, hr, hk⟩
  have hiL : i < L := by rcases hi with hi | hi <;> omega
  have hiL2 : (i : Int) < L := by omega
  have hlt : i < cs.toList.length := by rw [Array.length_toList, ← unhide HL]; exact hiL
  have hcell : w1.cell? ⟨q, i, none⟩ = some (cs.toList[i]'hlt) := by
    rw [hk.cell (p := ⟨q, i, none⟩) hq hqg]
    simp [World.cell?, unhide Hcs]
  have hmem : cs.toList[i]'hlt ∈ cs.toList := List.getElem_mem hlt
  generalize cs.toList[i]'hlt = v at *
  have Hm := hide hmem
  have HR := hide hr
  have HK := hide hk
  clear hr hk hmem hi
  go_wp2
  go_ret
  exact ⟨⟨v, rfl, unhide Hm⟩, ⟨p + 1, Nat.le_refl _, unhide HR⟩, unhide HK⟩

theorem many_odd {s n T o : Nat} (h : o + s * n ≤ T) (hn : n % 2 = 1) : o + s + (s + s) * (n / 2) ≤ T := by
  obtain ⟨k, hk⟩ : ∃ k, n / 2 = k := ⟨_, rfl⟩
  have e : n = 2 * k + 1 := by omega
  rw [hk]; subst e
  rw [Nat.mul_add, Nat.mul_one, ← Nat.mul_assoc, Nat.mul_comm s 2, Nat.two_mul] at h
  omega
theorem many_even {s n T o : Nat} (h : o + s * n ≤ T) (hn : n % 2 = 0) : o + (s + s) * (n / 2) ≤ T := by
  obtain ⟨k, hk⟩ : ∃ k, n / 2 = k := ⟨_, rfl⟩
  have e : n = 2 * k := by omega
  rw [hk]; subst e
  rw [← Nat.mul_assoc, Nat.mul_comm s 2, Nat.two_mul] at h
  omega

set_option maxRecDepth 100000 in
set_option maxHeartbeats 400000 in
theorem l1Many_c (s : ByteArray) (n : Int) (T : Nat) (w : World) (hT : s.size * n.toNat ≤ T) (hT9 : T ≤ 1000000000) (hn : n ≤ 1000000000) :
    Calls Tryd.prog 36 #[.string s, .int .i64 n] w fun e w' => (∃ r : ByteArray, e = .returned (.string r) ∧ r.size ≤ T) ∧ w' = w := by
  go_enter Tryd.func36, Tryd.ntmps36
  go_wp2
  go_loop [0, 1, 5] (fun vs vn vo => ∃ (s o : ByteArray) (n : Int), vs = .string s ∧ vn = .int .i64 n ∧ vo = .string o ∧ n ≤ 1000000000 ∧ Hid (o.size + s.size * n.toNat ≤ T)) (fun _ vn _ => (intOf vn).toNat)
  case atStart => exact ⟨s, ⟨#[]⟩, n, rfl, rfl, rfl, hn, by show 0 + _ ≤ T; omega⟩
  case round =>
    obtain ⟨s, o, n, rfl, rfl, rfl, hn, hS⟩ := hrel
    by_cases h0 : 0 < n
    · obtain ⟨k, rfl⟩ := Int.eq_ofNat_of_zero_le (show 0 ≤ n by omega)
      have hS' := unhide hS
      rw [Int.toNat_natCast] at hS'
      have hm : s.size * 1 ≤ s.size * k := Nat.mul_le_mul_left _ (by omega)
      have ho : o.size ≤ T := by omega
      have hs1 : s.size ≤ T := by omega
      have hosz : (o ++ s).size = o.size + s.size := ByteArray.size_append
      have hssz : (s ++ s).size = s.size + s.size := ByteArray.size_append
      by_cases hodd : k % 2 = 1
      · have h1 := many_odd hS' hodd
        have hr : ((k : Int) % 2 == 1) = true := by rw [beq_iff_eq]; omega
        have hfit : o.size + s.size ≤ T := by omega
        have H1 := hide h1
        have Hos := hide hosz
        have Hss := hide hssz
        clear h1 hosz hssz hS' hm hS hodd
        go_wp2
        go_round
        case rel => exact ⟨s ++ s, o ++ s, ((k / 2 : Nat) : Int), rfl, by go_num, rfl, by omega, by show _ ≤ T; rw [unhide Hos, unhide Hss, Int.toNat_natCast]; exact unhide H1⟩
        case measure => simp [intOf]; omega
      · have h1 := many_even hS' (by omega)
        have hr : ((k : Int) % 2 == 1) = false := by rw [beq_eq_false_iff_ne]; omega
        have H1 := hide h1
        have Hss := hide hssz
        clear h1 hosz hssz hS' hm hS hodd
        go_wp2
        go_round
        case rel => exact ⟨s ++ s, o, ((k / 2 : Nat) : Int), rfl, by go_num, rfl, by omega, by show _ ≤ T; rw [unhide Hss, Int.toNat_natCast]; exact unhide H1⟩
        case measure => simp [intOf]; omega
    · have hT' : o.size ≤ T := by
        have := unhide hS
        omega
      go_wp2
      go_ret
      exact ⟨⟨o, rfl, hT'⟩, rfl⟩
end Go.Proofs.YtchginjabaobfaaDoor
