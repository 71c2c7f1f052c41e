/- A part of the proof, put together out of smaller texts. -/
import Derived.Test.YtcnnicbaeicboaaDoorM3
import Derived.Deep.Cut
set_option linter.all false
set_option maxRecDepth 100000
set_option maxHeartbeats 16000000
namespace Go.Proofs.YtcnnicbaeicboaaDoor
open Go.RowKit Nt
theorem xM (n1 n2 : Bool) (v1 u1 v2 u2 : Value) (x1 y1 x2 y2 : Nat) (w : World) (hx1 : isNat w v1 x1) (hy1 : isNat w u1 y1) (hx2 : isNat w v2 x2) (hy2 : isNat w u2 y2) (hs1 : (gr x1).length ≤ 1000000) (hs2 : (gr x2).length ≤ 1000000) (ht1 : (gr y1).length ≤ 1000000) (ht2 : (gr y2).length ≤ 1000000)
  (hp1 : (gr (x1 * y2)).length ≤ 1000000) (hp2 : (gr (x2 * y1)).length ≤ 1000000) :
  Calls Tryd.prog 105 #[fracV n1 false v1 u1, fracV n2 false v2 u2, .func (.func 61) #[] #[]] w fun e w' => (∃ v u, e = .returned (fracV (plusW (n1, x1 * y2) (n2, x2 * y1)).1 false v u) ∧ isNatB w' w.heap.size v (plusW (n1, x1 * y2) (n2, x2 * y1)).2 ∧ isNatB w' w.heap.size u (y1 * y2)) ∧ Below w.heap.size w w' := by
 have hmt := qU
 obtain ⟨p1, e1, rfl⟩ := zd hx1
 obtain ⟨q1, e3, rfl⟩ := zd hy1
 obtain ⟨p2, e2, rfl⟩ := zd hx2
 obtain ⟨q2, e4, rfl⟩ := zd hy2
 have Hx1 := hide hx1
 have Hx2 := hide hx2
 have Hy1 := hide hy1
 have Hy2 := hide hy2
 obtain ⟨lx1, hlx1⟩ : ∃ l, (gr x1).length = l := ⟨_, rfl⟩
 obtain ⟨lx2, hlx2⟩ : ∃ l, (gr x2).length = l := ⟨_, rfl⟩
 obtain ⟨ly1, hly1⟩ : ∃ l, (gr y1).length = l := ⟨_, rfl⟩
 obtain ⟨ly2, hly2⟩ : ∃ l, (gr y2).length = l := ⟨_, rfl⟩
 rw [hlx1] at Hx1
 rw [hlx2] at Hx2
 rw [hly1] at Hy1
 rw [hly2] at Hy2
 rw [hlx1, hlx2, hly1, hly2]
 have Hl := hide (And.intro hlx1 (And.intro hlx2 (And.intro hly1 hly2)))
 have HW := hide ((((Below.refl w.heap.size w).alloc (Nat.le_refl _) (.cells #[.bool n1, .slice p1 lx1 e1, .bool false, .slice q1 ly1 e3] 128)).alloc (by simp) (.cells #[.bool n2, .slice p2 lx2 e2, .bool false, .slice q2 ly2 e4] 128)).alloc (by simp; omega) (.cells #[.bool false, .slice none 0 0, .bool false, .slice none 0 0] 128))
 have HA := hide (((AtC.new w #[.bool n1, .slice p1 lx1 e1, .bool false, .slice q1 ly1 e3] 128).alloc (.cells #[.bool n2, .slice p2 lx2 e2, .bool false, .slice q2 ly2 e4] 128)).alloc (.cells #[.bool false, .slice none 0 0, .bool false, .slice none 0 0] 128))
 have HB := hide ((AtC.new (w.alloc (.cells #[.bool n1, .slice p1 lx1 e1, .bool false, .slice q1 ly1 e3] 128)) #[.bool n2, .slice p2 lx2 e2, .bool false, .slice q2 ly2 e4] 128).alloc (.cells #[.bool false, .slice none 0 0, .bool false, .slice none 0 0] 128))
 have HC := hide (AtC.new ((w.alloc (.cells #[.bool n1, .slice p1 lx1 e1, .bool false, .slice q1 ly1 e3] 128)).alloc (.cells #[.bool n2, .slice p2 lx2 e2, .bool false, .slice q2 ly2 e4] 128)) #[.bool false, .slice none 0 0, .bool false, .slice none 0 0] 128)
 rw [World.size_alloc] at HB
 rw [World.size_alloc, World.size_alloc] at HC
 clear hx1 hx2 hy1 hy2 hlx1 hlx2 hly1 hly2
 unfold fracV
 go_enter Tryd.func105, Tryd.ntmps105
 go_wp2
 go_region_held3 (fun w' => w'.cell? ⟨w.heap.size, 0, none⟩ = some (.bool n1) ∧ w'.cell? ⟨w.heap.size, 1, none⟩ = some (.slice p1 lx1 e1) ∧ w'.cell? ⟨w.heap.size, 2, none⟩ = some (.bool false) ∧ w'.cell? ⟨w.heap.size, 3, none⟩ = some (.slice q1 ly1 e3) ∧ w'.cell? ⟨w.heap.size + 1, 0, none⟩ = some (.bool n2) ∧ w'.cell? ⟨w.heap.size + 1, 1, none⟩ = some (.slice p2 lx2 e2) ∧ w'.cell? ⟨w.heap.size + 1, 2, none⟩ = some (.bool false) ∧ w'.cell? ⟨w.heap.size + 1, 3, none⟩ = some (.slice q2 ly2 e4)) (((try dsimp only); (repeat' apply And.intro) <;> (first | with_reducible assumption | (rw [far4 (by first | (simp; done) | (simp; omega))]; with_reducible assumption) | exact (za HA).drew.c _ | exact (za HB).drew.c _))) (first | (go_at_call 61; refine (kt n1 n2 (.slice p1 lx1 e1) (.slice q1 ly1 e3) (.slice p2 lx2 e2) (.slice q2 ly2 e4) x1 y1 x2 y2 _ (by exact zb (za Hx1) (za HW).drew) (by exact zb (za Hy1) (za HW).drew) (by exact zb (za Hx2) (za HW).drew) (by exact zb (za Hy2) (za HW).drew) hs1 hs2 ht1 ht2 hp1 hp2).mono ?_; rintro e w1 ⟨⟨z, rfl, ⟨zv, rfl, hz⟩⟩, hb1⟩; obtain ⟨zp1, zc1, rfl⟩ := zd hz; have hA1 := (za HA).drew.below hb1; have hB1 := (za HB).drew.below hb1; have hC1 := (za HC).drew.below hb1; have a10 : w1.cell? ⟨w.heap.size, 0, none⟩ = some (.bool n1) := hA1.c 0; have a11 : w1.cell? ⟨w.heap.size, 1, none⟩ = some (.slice p1 lx1 e1) := hA1.c 1; have a12 : w1.cell? ⟨w.heap.size, 2, none⟩ = some (.bool false) := hA1.c 2; have a13 : w1.cell? ⟨w.heap.size, 3, none⟩ = some (.slice q1 ly1 e3) := hA1.c 3; have b10 : w1.cell? ⟨w.heap.size + 1, 0, none⟩ = some (.bool n2) := hB1.c 0; have b11 : w1.cell? ⟨w.heap.size + 1, 1, none⟩ = some (.slice p2 lx2 e2) := hB1.c 1; have b12 : w1.cell? ⟨w.heap.size + 1, 2, none⟩ = some (.bool false) := hB1.c 2; have b13 : w1.cell? ⟨w.heap.size + 1, 3, none⟩ = some (.slice q2 ly2 e4) := hB1.c 3; have HA1 := hide hA1; have HB1 := hide hB1; have HC1 := hide hC1; have Hz1 := hide hz; have HW1 := hide ((za HW).drew.trans (hb1.mono (za HW).drew.size)); clear hA1 hB1 hC1 hz hb1; unfold zC) | (go_at_call 204; refine (qN false false (.slice q1 ly1 e3) (.slice q2 ly2 e4) y1 y2 _ (by exact zb (za Hy1) (za HW1)) (by exact zb (za Hy2) (za HW1)) (by omega) (by omega)).mono ?_; rintro e w2 ⟨⟨z, rfl, ⟨zv, rfl, hz⟩⟩, hb2⟩; obtain ⟨zp2, zc2, rfl⟩ := zd hz; have hA2 := (za HA1).below hb2; have hB2 := (za HB1).below hb2; have hC2 := (za HC1).below hb2; have a20 : w2.cell? ⟨w.heap.size, 0, none⟩ = some (.bool n1) := hA2.c 0; have a21 : w2.cell? ⟨w.heap.size, 1, none⟩ = some (.slice p1 lx1 e1) := hA2.c 1; have a22 : w2.cell? ⟨w.heap.size, 2, none⟩ = some (.bool false) := hA2.c 2; have a23 : w2.cell? ⟨w.heap.size, 3, none⟩ = some (.slice q1 ly1 e3) := hA2.c 3; have b20 : w2.cell? ⟨w.heap.size + 1, 0, none⟩ = some (.bool n2) := hB2.c 0; have b21 : w2.cell? ⟨w.heap.size + 1, 1, none⟩ = some (.slice p2 lx2 e2) := hB2.c 1; have b22 : w2.cell? ⟨w.heap.size + 1, 2, none⟩ = some (.bool false) := hB2.c 2; have b23 : w2.cell? ⟨w.heap.size + 1, 3, none⟩ = some (.slice q2 ly2 e4) := hB2.c 3; have c20 : w2.cell? ⟨w.heap.size + 1 + 1, 0, none⟩ = some (.bool false) := hC2.c 0; have c21 : w2.cell? ⟨w.heap.size + 1 + 1, 1, none⟩ = some (.slice none 0 0) := hC2.c 1; have c22 : w2.cell? ⟨w.heap.size + 1 + 1, 2, none⟩ = some (.bool false) := hC2.c 2; have c23 : w2.cell? ⟨w.heap.size + 1 + 1, 3, none⟩ = some (.slice none 0 0) := hC2.c 3; have cf := hC2.f; have hs := hC2.lt; have hs1' := (za HC1).lt; have Hz1' := hide (zl (za Hz1) hb2); have Hz2 := hide hz; have HW2 := hide ((za HW1).trans (hb2.mono (za HW1).size)); have hsz1 := (za HW1).size; clear hA2 hB2 hC2 hz hb2; unfold zC))
 go_wp2
 have hcc := And.intro c20 (And.intro c21 (And.intro c22 c23))
 refine bodyPost_ret (v := .agg #[.bool (plusW (n1, x1 * y2) (n2, x2 * y1)).1, .slice zp1 (gr (plusW (n1, x1 * y2) (n2, x2 * y1)).2).length zc1, .bool false, .slice zp2 (gr (y1 * y2)).length zc2]) (by simp [results, Tryd.results105, go_sem, hcc]) rfl ⟨⟨_, _, rfl, ?_, ?_⟩, ?_⟩
 ·have h0 := zK (b := w.heap.size + 1 + 1) (u0 := .bool (plusW (n1, x1 * y2) (n2, x2 * y1)).1) (u1 := .slice zp1 (gr (plusW (n1, x1 * y2) (n2, x2 * y1)).2).length zc1) (u2 := .bool false) (u3 := .slice zp2 (gr (y1 * y2)).length zc2) (za Hz1') (by simp)
  exact zE h0 (by first | omega | (simp; omega))
 ·have h0 := zK (b := w.heap.size + 1 + 1) (u0 := .bool (plusW (n1, x1 * y2) (n2, x2 * y1)).1) (u1 := .slice zp1 (gr (plusW (n1, x1 * y2) (n2, x2 * y1)).2).length zc1) (u2 := .bool false) (u3 := .slice zp2 (gr (y1 * y2)).length zc2) (za Hz2) (by omega)
  exact zE h0 (by omega)
 ·exact ((((za HW2).setCell (by show w.heap.size ≤ w.heap.size + 1 + 1; omega) _).setCell (by show w.heap.size ≤ w.heap.size + 1 + 1; omega) _).setCell (by show w.heap.size ≤ w.heap.size + 1 + 1; omega) _).setCell (by show w.heap.size ≤ w.heap.size + 1 + 1; omega) _
theorem ky (n1 n2 : Bool) (v1 u1 v2 u2 : Value) (x1 y1 x2 y2 : Nat) (w : World) (hx1 : isNat w v1 x1) (hy1 : isNat w u1 y1) (hx2 : isNat w v2 x2) (hy2 : isNat w u2 y2) (hs1 : (gr x1).length ≤ 1000000) (hs2 : (gr x2).length ≤ 1000000) (ht1 : (gr y1).length ≤ 1000000) (ht2 : (gr y2).length ≤ 1000000)
  (hp1 : (gr (x1 * y2)).length ≤ 1000000) (hp2 : (gr (x2 * y1)).length ≤ 1000000) :
  Calls Tryd.prog 105 #[fracV n1 false v1 u1, fracV n2 false v2 u2, .func (.func 66) #[] #[]] w fun e w' => (∃ v u, e = .returned (fracV (plusW (n1, x1 * y2) (!n2, x2 * y1)).1 false v u) ∧ isNatB w' w.heap.size v (plusW (n1, x1 * y2) (!n2, x2 * y1)).2 ∧ isNatB w' w.heap.size u (y1 * y2)) ∧ Below w.heap.size w w' := by
 have hmt := qU
 obtain ⟨p1, e1, rfl⟩ := zd hx1
 obtain ⟨q1, e3, rfl⟩ := zd hy1
 obtain ⟨p2, e2, rfl⟩ := zd hx2
 obtain ⟨q2, e4, rfl⟩ := zd hy2
 have Hx1 := hide hx1
 have Hx2 := hide hx2
 have Hy1 := hide hy1
 have Hy2 := hide hy2
 obtain ⟨lx1, hlx1⟩ : ∃ l, (gr x1).length = l := ⟨_, rfl⟩
 obtain ⟨lx2, hlx2⟩ : ∃ l, (gr x2).length = l := ⟨_, rfl⟩
 obtain ⟨ly1, hly1⟩ : ∃ l, (gr y1).length = l := ⟨_, rfl⟩
 obtain ⟨ly2, hly2⟩ : ∃ l, (gr y2).length = l := ⟨_, rfl⟩
 rw [hlx1] at Hx1
 rw [hlx2] at Hx2
 rw [hly1] at Hy1
 rw [hly2] at Hy2
 rw [hlx1, hlx2, hly1, hly2]
 have Hl := hide (And.intro hlx1 (And.intro hlx2 (And.intro hly1 hly2)))
 have HW := hide ((((Below.refl w.heap.size w).alloc (Nat.le_refl _) (.cells #[.bool n1, .slice p1 lx1 e1, .bool false, .slice q1 ly1 e3] 128)).alloc (by simp) (.cells #[.bool n2, .slice p2 lx2 e2, .bool false, .slice q2 ly2 e4] 128)).alloc (by simp; omega) (.cells #[.bool false, .slice none 0 0, .bool false, .slice none 0 0] 128))
 have HA := hide (((AtC.new w #[.bool n1, .slice p1 lx1 e1, .bool false, .slice q1 ly1 e3] 128).alloc (.cells #[.bool n2, .slice p2 lx2 e2, .bool false, .slice q2 ly2 e4] 128)).alloc (.cells #[.bool false, .slice none 0 0, .bool false, .slice none 0 0] 128))
 have HB := hide ((AtC.new (w.alloc (.cells #[.bool n1, .slice p1 lx1 e1, .bool false, .slice q1 ly1 e3] 128)) #[.bool n2, .slice p2 lx2 e2, .bool false, .slice q2 ly2 e4] 128).alloc (.cells #[.bool false, .slice none 0 0, .bool false, .slice none 0 0] 128))
 have HC := hide (AtC.new ((w.alloc (.cells #[.bool n1, .slice p1 lx1 e1, .bool false, .slice q1 ly1 e3] 128)).alloc (.cells #[.bool n2, .slice p2 lx2 e2, .bool false, .slice q2 ly2 e4] 128)) #[.bool false, .slice none 0 0, .bool false, .slice none 0 0] 128)
 rw [World.size_alloc] at HB
 rw [World.size_alloc, World.size_alloc] at HC
 clear hx1 hx2 hy1 hy2 hlx1 hlx2 hly1 hly2
 unfold fracV
 go_enter Tryd.func105, Tryd.ntmps105
 go_wp2
 go_region_held3 (fun w' => w'.cell? ⟨w.heap.size, 0, none⟩ = some (.bool n1) ∧ w'.cell? ⟨w.heap.size, 1, none⟩ = some (.slice p1 lx1 e1) ∧ w'.cell? ⟨w.heap.size, 2, none⟩ = some (.bool false) ∧ w'.cell? ⟨w.heap.size, 3, none⟩ = some (.slice q1 ly1 e3) ∧ w'.cell? ⟨w.heap.size + 1, 0, none⟩ = some (.bool n2) ∧ w'.cell? ⟨w.heap.size + 1, 1, none⟩ = some (.slice p2 lx2 e2) ∧ w'.cell? ⟨w.heap.size + 1, 2, none⟩ = some (.bool false) ∧ w'.cell? ⟨w.heap.size + 1, 3, none⟩ = some (.slice q2 ly2 e4)) (((try dsimp only); (repeat' apply And.intro) <;> (first | with_reducible assumption | (rw [far4 (by first | (simp; done) | (simp; omega))]; with_reducible assumption) | exact (za HA).drew.c _ | exact (za HB).drew.c _))) (first | (go_at_call 66; refine (yT n1 n2 (.slice p1 lx1 e1) (.slice q1 ly1 e3) (.slice p2 lx2 e2) (.slice q2 ly2 e4) x1 y1 x2 y2 _ (by exact zb (za Hx1) (za HW).drew) (by exact zb (za Hy1) (za HW).drew) (by exact zb (za Hx2) (za HW).drew) (by exact zb (za Hy2) (za HW).drew) hs1 hs2 ht1 ht2 hp1 hp2).mono ?_; rintro e w1 ⟨⟨z, rfl, ⟨zv, rfl, hz⟩⟩, hb1⟩; obtain ⟨zp1, zc1, rfl⟩ := zd hz; have hA1 := (za HA).drew.below hb1; have hB1 := (za HB).drew.below hb1; have hC1 := (za HC).drew.below hb1; have a10 : w1.cell? ⟨w.heap.size, 0, none⟩ = some (.bool n1) := hA1.c 0; have a11 : w1.cell? ⟨w.heap.size, 1, none⟩ = some (.slice p1 lx1 e1) := hA1.c 1; have a12 : w1.cell? ⟨w.heap.size, 2, none⟩ = some (.bool false) := hA1.c 2; have a13 : w1.cell? ⟨w.heap.size, 3, none⟩ = some (.slice q1 ly1 e3) := hA1.c 3; have b10 : w1.cell? ⟨w.heap.size + 1, 0, none⟩ = some (.bool n2) := hB1.c 0; have b11 : w1.cell? ⟨w.heap.size + 1, 1, none⟩ = some (.slice p2 lx2 e2) := hB1.c 1; have b12 : w1.cell? ⟨w.heap.size + 1, 2, none⟩ = some (.bool false) := hB1.c 2; have b13 : w1.cell? ⟨w.heap.size + 1, 3, none⟩ = some (.slice q2 ly2 e4) := hB1.c 3; have HA1 := hide hA1; have HB1 := hide hB1; have HC1 := hide hC1; have Hz1 := hide hz; have HW1 := hide ((za HW).drew.trans (hb1.mono (za HW).drew.size)); clear hA1 hB1 hC1 hz hb1; unfold zC) | (go_at_call 204; refine (qN false false (.slice q1 ly1 e3) (.slice q2 ly2 e4) y1 y2 _ (by exact zb (za Hy1) (za HW1)) (by exact zb (za Hy2) (za HW1)) (by omega) (by omega)).mono ?_; rintro e w2 ⟨⟨z, rfl, ⟨zv, rfl, hz⟩⟩, hb2⟩; obtain ⟨zp2, zc2, rfl⟩ := zd hz; have hA2 := (za HA1).below hb2; have hB2 := (za HB1).below hb2; have hC2 := (za HC1).below hb2; have a20 : w2.cell? ⟨w.heap.size, 0, none⟩ = some (.bool n1) := hA2.c 0; have a21 : w2.cell? ⟨w.heap.size, 1, none⟩ = some (.slice p1 lx1 e1) := hA2.c 1; have a22 : w2.cell? ⟨w.heap.size, 2, none⟩ = some (.bool false) := hA2.c 2; have a23 : w2.cell? ⟨w.heap.size, 3, none⟩ = some (.slice q1 ly1 e3) := hA2.c 3; have b20 : w2.cell? ⟨w.heap.size + 1, 0, none⟩ = some (.bool n2) := hB2.c 0; have b21 : w2.cell? ⟨w.heap.size + 1, 1, none⟩ = some (.slice p2 lx2 e2) := hB2.c 1; have b22 : w2.cell? ⟨w.heap.size + 1, 2, none⟩ = some (.bool false) := hB2.c 2; have b23 : w2.cell? ⟨w.heap.size + 1, 3, none⟩ = some (.slice q2 ly2 e4) := hB2.c 3; have c20 : w2.cell? ⟨w.heap.size + 1 + 1, 0, none⟩ = some (.bool false) := hC2.c 0; have c21 : w2.cell? ⟨w.heap.size + 1 + 1, 1, none⟩ = some (.slice none 0 0) := hC2.c 1; have c22 : w2.cell? ⟨w.heap.size + 1 + 1, 2, none⟩ = some (.bool false) := hC2.c 2; have c23 : w2.cell? ⟨w.heap.size + 1 + 1, 3, none⟩ = some (.slice none 0 0) := hC2.c 3; have cf := hC2.f; have hs := hC2.lt; have hs1' := (za HC1).lt; have Hz1' := hide (zl (za Hz1) hb2); have Hz2 := hide hz; have HW2 := hide ((za HW1).trans (hb2.mono (za HW1).size)); have hsz1 := (za HW1).size; clear hA2 hB2 hC2 hz hb2; unfold zC))
 go_wp2
 have hcc := And.intro c20 (And.intro c21 (And.intro c22 c23))
 refine bodyPost_ret (v := .agg #[.bool (plusW (n1, x1 * y2) (!n2, x2 * y1)).1, .slice zp1 (gr (plusW (n1, x1 * y2) (!n2, x2 * y1)).2).length zc1, .bool false, .slice zp2 (gr (y1 * y2)).length zc2]) (by simp [results, Tryd.results105, go_sem, hcc]) rfl ⟨⟨_, _, rfl, ?_, ?_⟩, ?_⟩
 ·have h0 := zK (b := w.heap.size + 1 + 1) (u0 := .bool (plusW (n1, x1 * y2) (!n2, x2 * y1)).1) (u1 := .slice zp1 (gr (plusW (n1, x1 * y2) (!n2, x2 * y1)).2).length zc1) (u2 := .bool false) (u3 := .slice zp2 (gr (y1 * y2)).length zc2) (za Hz1') (by simp)
  exact zE h0 (by first | omega | (simp; omega))
 ·have h0 := zK (b := w.heap.size + 1 + 1) (u0 := .bool (plusW (n1, x1 * y2) (!n2, x2 * y1)).1) (u1 := .slice zp1 (gr (plusW (n1, x1 * y2) (!n2, x2 * y1)).2).length zc1) (u2 := .bool false) (u3 := .slice zp2 (gr (y1 * y2)).length zc2) (za Hz2) (by omega)
  exact zE h0 (by omega)
 ·exact ((((za HW2).setCell (by show w.heap.size ≤ w.heap.size + 1 + 1; omega) _).setCell (by show w.heap.size ≤ w.heap.size + 1 + 1; omega) _).setCell (by show w.heap.size ≤ w.heap.size + 1 + 1; omega) _).setCell (by show w.heap.size ≤ w.heap.size + 1 + 1; omega) _
theorem vO (n1 n2 : Bool) (v1 u1 v2 u2 : Value) (x1 y1 x2 y2 : Nat) (w : World) (hx1 : isNat w v1 x1) (hy1 : isNat w u1 y1) (hx2 : isNat w v2 x2) (hy2 : isNat w u2 y2) (hs1 : (gr x1).length ≤ 1000000) (hs2 : (gr x2).length ≤ 1000000) (ht1 : (gr y1).length ≤ 1000000) (ht2 : (gr y2).length ≤ 1000000) :
  Calls Tryd.prog 105 #[fracV n1 false v1 u1, fracV n2 false v2 u2, .func (.func 63) #[] #[]] w fun e w' => (∃ v u, e = .returned (fracV ((n1 != n2, x1 * x2) : Bool × Nat).1 false v u) ∧ isNatB w' w.heap.size v ((n1 != n2, x1 * x2) : Bool × Nat).2 ∧ isNatB w' w.heap.size u (y1 * y2)) ∧ Below w.heap.size w w' := by
 have hmt := qU
 obtain ⟨p1, e1, rfl⟩ := zd hx1
 obtain ⟨q1, e3, rfl⟩ := zd hy1
 obtain ⟨p2, e2, rfl⟩ := zd hx2
 obtain ⟨q2, e4, rfl⟩ := zd hy2
 have Hx1 := hide hx1
 have Hx2 := hide hx2
 have Hy1 := hide hy1
 have Hy2 := hide hy2
 obtain ⟨lx1, hlx1⟩ : ∃ l, (gr x1).length = l := ⟨_, rfl⟩
 obtain ⟨lx2, hlx2⟩ : ∃ l, (gr x2).length = l := ⟨_, rfl⟩
 obtain ⟨ly1, hly1⟩ : ∃ l, (gr y1).length = l := ⟨_, rfl⟩
 obtain ⟨ly2, hly2⟩ : ∃ l, (gr y2).length = l := ⟨_, rfl⟩
 rw [hlx1] at Hx1
 rw [hlx2] at Hx2
 rw [hly1] at Hy1
 rw [hly2] at Hy2
 rw [hlx1, hlx2, hly1, hly2]
 have Hl := hide (And.intro hlx1 (And.intro hlx2 (And.intro hly1 hly2)))
 have HW := hide ((((Below.refl w.heap.size w).alloc (Nat.le_refl _) (.cells #[.bool n1, .slice p1 lx1 e1, .bool false, .slice q1 ly1 e3] 128)).alloc (by simp) (.cells #[.bool n2, .slice p2 lx2 e2, .bool false, .slice q2 ly2 e4] 128)).alloc (by simp; omega) (.cells #[.bool false, .slice none 0 0, .bool false, .slice none 0 0] 128))
 have HA := hide (((AtC.new w #[.bool n1, .slice p1 lx1 e1, .bool false, .slice q1 ly1 e3] 128).alloc (.cells #[.bool n2, .slice p2 lx2 e2, .bool false, .slice q2 ly2 e4] 128)).alloc (.cells #[.bool false, .slice none 0 0, .bool false, .slice none 0 0] 128))
 have HB := hide ((AtC.new (w.alloc (.cells #[.bool n1, .slice p1 lx1 e1, .bool false, .slice q1 ly1 e3] 128)) #[.bool n2, .slice p2 lx2 e2, .bool false, .slice q2 ly2 e4] 128).alloc (.cells #[.bool false, .slice none 0 0, .bool false, .slice none 0 0] 128))
 have HC := hide (AtC.new ((w.alloc (.cells #[.bool n1, .slice p1 lx1 e1, .bool false, .slice q1 ly1 e3] 128)).alloc (.cells #[.bool n2, .slice p2 lx2 e2, .bool false, .slice q2 ly2 e4] 128)) #[.bool false, .slice none 0 0, .bool false, .slice none 0 0] 128)
 rw [World.size_alloc] at HB
 rw [World.size_alloc, World.size_alloc] at HC
 clear hx1 hx2 hy1 hy2 hlx1 hlx2 hly1 hly2
 unfold fracV
 go_enter Tryd.func105, Tryd.ntmps105
 go_wp2
 go_region_held3 (fun w' => w'.cell? ⟨w.heap.size, 0, none⟩ = some (.bool n1) ∧ w'.cell? ⟨w.heap.size, 1, none⟩ = some (.slice p1 lx1 e1) ∧ w'.cell? ⟨w.heap.size, 2, none⟩ = some (.bool false) ∧ w'.cell? ⟨w.heap.size, 3, none⟩ = some (.slice q1 ly1 e3) ∧ w'.cell? ⟨w.heap.size + 1, 0, none⟩ = some (.bool n2) ∧ w'.cell? ⟨w.heap.size + 1, 1, none⟩ = some (.slice p2 lx2 e2) ∧ w'.cell? ⟨w.heap.size + 1, 2, none⟩ = some (.bool false) ∧ w'.cell? ⟨w.heap.size + 1, 3, none⟩ = some (.slice q2 ly2 e4)) (((try dsimp only); (repeat' apply And.intro) <;> (first | with_reducible assumption | (rw [far4 (by first | (simp; done) | (simp; omega))]; with_reducible assumption) | exact (za HA).drew.c _ | exact (za HB).drew.c _))) (first | (go_at_call 63; refine (vr n1 false n2 false (.slice p1 lx1 e1) (.slice q1 ly1 e3) (.slice p2 lx2 e2) (.slice q2 ly2 e4) x1 y1 x2 y2 _ (by exact zb (za Hx1) (za HW).drew) (by exact zb (za Hy1) (za HW).drew) (by exact zb (za Hx2) (za HW).drew) (by exact zb (za Hy2) (za HW).drew) hs1 hs2).mono ?_; rintro e w1 ⟨⟨z, rfl, ⟨zv, rfl, hz⟩⟩, hb1⟩; obtain ⟨zp1, zc1, rfl⟩ := zd hz; have hA1 := (za HA).drew.below hb1; have hB1 := (za HB).drew.below hb1; have hC1 := (za HC).drew.below hb1; have a10 : w1.cell? ⟨w.heap.size, 0, none⟩ = some (.bool n1) := hA1.c 0; have a11 : w1.cell? ⟨w.heap.size, 1, none⟩ = some (.slice p1 lx1 e1) := hA1.c 1; have a12 : w1.cell? ⟨w.heap.size, 2, none⟩ = some (.bool false) := hA1.c 2; have a13 : w1.cell? ⟨w.heap.size, 3, none⟩ = some (.slice q1 ly1 e3) := hA1.c 3; have b10 : w1.cell? ⟨w.heap.size + 1, 0, none⟩ = some (.bool n2) := hB1.c 0; have b11 : w1.cell? ⟨w.heap.size + 1, 1, none⟩ = some (.slice p2 lx2 e2) := hB1.c 1; have b12 : w1.cell? ⟨w.heap.size + 1, 2, none⟩ = some (.bool false) := hB1.c 2; have b13 : w1.cell? ⟨w.heap.size + 1, 3, none⟩ = some (.slice q2 ly2 e4) := hB1.c 3; have HA1 := hide hA1; have HB1 := hide hB1; have HC1 := hide hC1; have Hz1 := hide hz; have HW1 := hide ((za HW).drew.trans (hb1.mono (za HW).drew.size)); clear hA1 hB1 hC1 hz hb1; unfold zC) | (go_at_call 204; refine (qN false false (.slice q1 ly1 e3) (.slice q2 ly2 e4) y1 y2 _ (by exact zb (za Hy1) (za HW1)) (by exact zb (za Hy2) (za HW1)) (by omega) (by omega)).mono ?_; rintro e w2 ⟨⟨z, rfl, ⟨zv, rfl, hz⟩⟩, hb2⟩; obtain ⟨zp2, zc2, rfl⟩ := zd hz; have hA2 := (za HA1).below hb2; have hB2 := (za HB1).below hb2; have hC2 := (za HC1).below hb2; have a20 : w2.cell? ⟨w.heap.size, 0, none⟩ = some (.bool n1) := hA2.c 0; have a21 : w2.cell? ⟨w.heap.size, 1, none⟩ = some (.slice p1 lx1 e1) := hA2.c 1; have a22 : w2.cell? ⟨w.heap.size, 2, none⟩ = some (.bool false) := hA2.c 2; have a23 : w2.cell? ⟨w.heap.size, 3, none⟩ = some (.slice q1 ly1 e3) := hA2.c 3; have b20 : w2.cell? ⟨w.heap.size + 1, 0, none⟩ = some (.bool n2) := hB2.c 0; have b21 : w2.cell? ⟨w.heap.size + 1, 1, none⟩ = some (.slice p2 lx2 e2) := hB2.c 1; have b22 : w2.cell? ⟨w.heap.size + 1, 2, none⟩ = some (.bool false) := hB2.c 2; have b23 : w2.cell? ⟨w.heap.size + 1, 3, none⟩ = some (.slice q2 ly2 e4) := hB2.c 3; have c20 : w2.cell? ⟨w.heap.size + 1 + 1, 0, none⟩ = some (.bool false) := hC2.c 0; have c21 : w2.cell? ⟨w.heap.size + 1 + 1, 1, none⟩ = some (.slice none 0 0) := hC2.c 1; have c22 : w2.cell? ⟨w.heap.size + 1 + 1, 2, none⟩ = some (.bool false) := hC2.c 2; have c23 : w2.cell? ⟨w.heap.size + 1 + 1, 3, none⟩ = some (.slice none 0 0) := hC2.c 3; have cf := hC2.f; have hs := hC2.lt; have hs1' := (za HC1).lt; have Hz1' := hide (zl (za Hz1) hb2); have Hz2 := hide hz; have HW2 := hide ((za HW1).trans (hb2.mono (za HW1).size)); have hsz1 := (za HW1).size; clear hA2 hB2 hC2 hz hb2; unfold zC))
 go_wp2
 have hcc := And.intro c20 (And.intro c21 (And.intro c22 c23))
 refine bodyPost_ret (v := .agg #[.bool ((n1 != n2, x1 * x2) : Bool × Nat).1, .slice zp1 (gr ((n1 != n2, x1 * x2) : Bool × Nat).2).length zc1, .bool false, .slice zp2 (gr (y1 * y2)).length zc2]) (by simp [results, Tryd.results105, go_sem, hcc]) rfl ⟨⟨_, _, rfl, ?_, ?_⟩, ?_⟩
 ·have h0 := zK (b := w.heap.size + 1 + 1) (u0 := .bool ((n1 != n2, x1 * x2) : Bool × Nat).1) (u1 := .slice zp1 (gr ((n1 != n2, x1 * x2) : Bool × Nat).2).length zc1) (u2 := .bool false) (u3 := .slice zp2 (gr (y1 * y2)).length zc2) (za Hz1') (by simp)
  exact zE h0 (by first | omega | (simp; omega))
 ·have h0 := zK (b := w.heap.size + 1 + 1) (u0 := .bool ((n1 != n2, x1 * x2) : Bool × Nat).1) (u1 := .slice zp1 (gr ((n1 != n2, x1 * x2) : Bool × Nat).2).length zc1) (u2 := .bool false) (u3 := .slice zp2 (gr (y1 * y2)).length zc2) (za Hz2) (by omega)
  exact zE h0 (by omega)
 ·exact ((((za HW2).setCell (by show w.heap.size ≤ w.heap.size + 1 + 1; omega) _).setCell (by show w.heap.size ≤ w.heap.size + 1 + 1; omega) _).setCell (by show w.heap.size ≤ w.heap.size + 1 + 1; omega) _).setCell (by show w.heap.size ≤ w.heap.size + 1 + 1; omega) _
theorem Qf (a b : Bool × Nat) : (plusW a b).2 ≤ a.2 + b.2 := by
 unfold plusW; split
 ·simp
 ·split
  ·simp; omega
  ·simp; omega
theorem ve {x y : Nat} (hx : (dec x).size ≤ 60) (hy : (dec y).size ≤ 60) : x * y < 10 ^ 120 := by
 have h1 := z8 x
 have h2 := z8 y
 have h3 : 10 ^ (dec x).size ≤ 10 ^ 60 := Nat.pow_le_pow_right (by omega) hx
 have h4 : 10 ^ (dec y).size ≤ 10 ^ 60 := Nat.pow_le_pow_right (by omega) hy
 calc x * y < 10 ^ 60 * 10 ^ 60 := Nat.mul_lt_mul'' (by omega) (by omega)
  _ = 10 ^ 120 := by rw [← Nat.pow_add]
theorem yZ {n : Nat} (h : n < 10 ^ 121) : (gr n).length ≤ 121 := by
 apply qq
 rw [zj]; exact qb (by omega) (by omega) h
theorem zJ {x y : Nat} (hx : (dec x).size ≤ 60) (hy : (dec y).size ≤ 60) : (gr (x * y)).length ≤ 121 := yZ (Nat.lt_of_lt_of_le (ve hx hy) (Nat.pow_le_pow_right (by omega) (by omega)))
theorem yY {n1 n2 : Bool} {x1 y1 x2 y2 : Nat} (h1 : (dec x1).size ≤ 60) (h2 : (dec y1).size ≤ 60) (h3 : (dec x2).size ≤ 60) (h4 : (dec y2).size ≤ 60) : (gr (plusW (n1, x1 * y2) (n2, x2 * y1)).2).length ≤ 121 := by
 apply yZ
 have ha := ve h1 h4
 have hb := ve h3 h2
 have hp := Qf (n1, x1 * y2) (n2, x2 * y1)
 have : (10 : Nat) ^ 121 = 10 * 10 ^ 120 := by rw [Nat.pow_succ, Nat.mul_comm]
 rw [this]
 generalize (10 : Nat) ^ 120 = p at *
 simp only at hp
 omega
def ansC (o : Option (Bool × Nat × Nat)) (c : Int) : Value := .tuple #[numO o, .int .i64 c]
def qp (o : Option (Bool × Nat × Nat)) : Int := if o.isSome then 0 else 3
theorem jI (n1 n2 : Bool) (u1 d1 u2 d2 : List UInt8) (f : Value) (w : World) (hl1 : u1.length ≤ 1000) (hl2 : d1.length ≤ 1000) (hl3 : u2.length ≤ 1000) (hl4 : d2.length ≤ 1000) (h : (okM n1 u1 d1 && okM n2 u2 d2) = false) (hT : Tens w) :
  Calls Tryd.prog 60 #[.agg #[.bool n1, .string (B u1), .string (B d1)], .agg #[.bool n2, .string (B u2), .string (B d2)], f] w fun e w' => e = .returned (ansC none 1) ∧ Below w.heap.size w w' := by
 have h1 := fun w hT => zN n1 u1 d1 w (by omega) (by omega) hT
 have h2 := fun w hT => zN n2 u2 d2 w (by omega) (by omega) hT
 unfold numB at h1 h2
 have HW := hide ((((Below.refl w.heap.size w).alloc (Nat.le_refl _) (.cells #[.bool n1, .string (B u1), .string (B d1)] 26)).alloc (by simp) (.cells #[.bool n2, .string (B u2), .string (B d2)] 26)).alloc (by simp; omega) (.cells #[.bool false, .string ⟨#[]⟩, .string ⟨#[]⟩] 26))
 have HA := hide (((AtC.new w #[.bool n1, .string (B u1), .string (B d1)] 26).alloc (.cells #[.bool n2, .string (B u2), .string (B d2)] 26)).alloc (.cells #[.bool false, .string ⟨#[]⟩, .string ⟨#[]⟩] 26))
 have HB := hide ((AtC.new (w.alloc (.cells #[.bool n1, .string (B u1), .string (B d1)] 26)) #[.bool n2, .string (B u2), .string (B d2)] 26).alloc (.cells #[.bool false, .string ⟨#[]⟩, .string ⟨#[]⟩] 26))
 have HC := hide (AtC.new ((w.alloc (.cells #[.bool n1, .string (B u1), .string (B d1)] 26)).alloc (.cells #[.bool n2, .string (B u2), .string (B d2)] 26)) #[.bool false, .string ⟨#[]⟩, .string ⟨#[]⟩] 26)
 rw [World.size_alloc] at HB
 rw [World.size_alloc, World.size_alloc] at HC
 have HT := hide hT
 clear hT
 cases hk : okM n1 u1 d1 with
 | false =>
  rw [hk] at h1
  have H1 := hide h1
  clear h h1 h2 hk
  go_enter Tryd.func60, Tryd.ntmps60
  go_wp2_with fail
  have h := za H1 _ ((za HT).below (za HW))
  refine h.mono ?_
  clear h
  rintro e w1 ⟨rfl, hb1⟩
  have Hb1 := hide hb1
  have hA := (za HA).below (za Hb1)
  have hB := (za HB).below (za Hb1)
  have hC := (za HC).below (za Hb1)
  have a0 : (w1).cell? ⟨w.heap.size, 0, none⟩ = some (.bool n1) := hA.c 0
  have a1 : (w1).cell? ⟨w.heap.size, 1, none⟩ = some (.string (B u1)) := hA.c 1
  have a2 : (w1).cell? ⟨w.heap.size, 2, none⟩ = some (.string (B d1)) := hA.c 2
  have b0 : (w1).cell? ⟨w.heap.size + 1, 0, none⟩ = some (.bool n2) := hB.c 0
  have b1 : (w1).cell? ⟨w.heap.size + 1, 1, none⟩ = some (.string (B u2)) := hB.c 1
  have b2 : (w1).cell? ⟨w.heap.size + 1, 2, none⟩ = some (.string (B d2)) := hB.c 2
  have c0 : (w1).cell? ⟨w.heap.size + 1 + 1, 0, none⟩ = some (.bool false) := hC.c 0
  have c1 : (w1).cell? ⟨w.heap.size + 1 + 1, 1, none⟩ = some (.string ⟨#[]⟩) := hC.c 1
  have c2 : (w1).cell? ⟨w.heap.size + 1 + 1, 2, none⟩ = some (.string ⟨#[]⟩) := hC.c 2
  have cf := hC.f
  have hs := hC.lt
  clear hA hB hC
  clear hb1
  go_wp2
  have hcc := And.intro c0 (And.intro c1 c2)
  refine bodyPost_ret (v := ansC none 1) (by simp [results, Tryd.results60, go_sem, hcc, ansC, numO, noNum, numV]) rfl ⟨rfl, ?_⟩
  refine ((za HW).trans ((za Hb1).mono (za HW).size)).trans ?_
  repeat (first | exact Below.refl _ _ | refine Below.setCell ?_ (by first | exact Nat.le_refl _ | exact Nat.le_succ _ | (simp; done) | (simp; omega)) _ | refine Below.alloc ?_ (by first | exact Nat.le_refl _ | (simp; done) | (simp; omega)) _)
 | true =>
  rw [hk, Bool.true_and] at h
  rw [hk] at h1
  rw [h] at h2
  have H1 := hide h1
  have H2 := hide h2
  clear h h1 h2 hk
  go_enter Tryd.func60, Tryd.ntmps60
  go_wp2_with fail
  have h := za H1 _ ((za HT).below (za HW))
  refine h.mono ?_
  clear h
  rintro e w1 ⟨rfl, hb1⟩
  have Hb1 := hide hb1
  have HW1 := hide ((za HW).trans (hb1.mono (za HW).size))
  have hA := (za HA).below (za Hb1)
  have hB := (za HB).below (za Hb1)
  have hC := (za HC).below (za Hb1)
  have a0 : (w1).cell? ⟨w.heap.size, 0, none⟩ = some (.bool n1) := hA.c 0
  have a1 : (w1).cell? ⟨w.heap.size, 1, none⟩ = some (.string (B u1)) := hA.c 1
  have a2 : (w1).cell? ⟨w.heap.size, 2, none⟩ = some (.string (B d1)) := hA.c 2
  have b0 : (w1).cell? ⟨w.heap.size + 1, 0, none⟩ = some (.bool n2) := hB.c 0
  have b1 : (w1).cell? ⟨w.heap.size + 1, 1, none⟩ = some (.string (B u2)) := hB.c 1
  have b2 : (w1).cell? ⟨w.heap.size + 1, 2, none⟩ = some (.string (B d2)) := hB.c 2
  have c0 : (w1).cell? ⟨w.heap.size + 1 + 1, 0, none⟩ = some (.bool false) := hC.c 0
  have c1 : (w1).cell? ⟨w.heap.size + 1 + 1, 1, none⟩ = some (.string ⟨#[]⟩) := hC.c 1
  have c2 : (w1).cell? ⟨w.heap.size + 1 + 1, 2, none⟩ = some (.string ⟨#[]⟩) := hC.c 2
  have cf := hC.f
  have hs := hC.lt
  clear hA hB hC
  clear hb1
  go_wp2_with fail
  have h := za H2 w1 ((za HT).below (za HW1))
  refine h.mono ?_
  clear h
  rintro e w2 ⟨rfl, hb2⟩
  clear a0 a1 a2 b0 b1 b2 c0 c1 c2 cf hs
  have Hb2 := hide ((za Hb1).trans (hb2.mono (za Hb1).size))
  have hA := (za HA).below (za Hb2)
  have hB := (za HB).below (za Hb2)
  have hC := (za HC).below (za Hb2)
  have a0 : (w2).cell? ⟨w.heap.size, 0, none⟩ = some (.bool n1) := hA.c 0
  have a1 : (w2).cell? ⟨w.heap.size, 1, none⟩ = some (.string (B u1)) := hA.c 1
  have a2 : (w2).cell? ⟨w.heap.size, 2, none⟩ = some (.string (B d1)) := hA.c 2
  have b0 : (w2).cell? ⟨w.heap.size + 1, 0, none⟩ = some (.bool n2) := hB.c 0
  have b1 : (w2).cell? ⟨w.heap.size + 1, 1, none⟩ = some (.string (B u2)) := hB.c 1
  have b2 : (w2).cell? ⟨w.heap.size + 1, 2, none⟩ = some (.string (B d2)) := hB.c 2
  have c0 : (w2).cell? ⟨w.heap.size + 1 + 1, 0, none⟩ = some (.bool false) := hC.c 0
  have c1 : (w2).cell? ⟨w.heap.size + 1 + 1, 1, none⟩ = some (.string ⟨#[]⟩) := hC.c 1
  have c2 : (w2).cell? ⟨w.heap.size + 1 + 1, 2, none⟩ = some (.string ⟨#[]⟩) := hC.c 2
  have cf := hC.f
  have hs := hC.lt
  clear hA hB hC
  clear hb2
  go_wp2
  have hcc := And.intro c0 (And.intro c1 c2)
  refine bodyPost_ret (v := ansC none 1) (by simp [results, Tryd.results60, go_sem, hcc, ansC, numO, noNum, numV]) rfl ⟨rfl, ?_⟩
  refine ((za HW).trans ((za Hb2).mono (za HW).size)).trans ?_
  repeat (first | exact Below.refl _ _ | refine Below.setCell ?_ (by first | exact Nat.le_refl _ | exact Nat.le_succ _ | (simp; done) | (simp; omega)) _ | refine Below.alloc ?_ (by first | exact Nat.le_refl _ | (simp; done) | (simp; omega)) _)
theorem x3 {neg : Bool} {a q : Nat} (hq : q ≠ 0) (hg : Nat.gcd a q = 1) (ha : (dec a).size ≤ 60) (hqs : (dec q).size ≤ 60) (hn : neg = true → a ≠ 0) : zm neg a q = some (neg, a, q) := by
 unfold zm
 rw [hg, Nat.div_one, Nat.div_one, if_neg (by omega)]
 cases neg with
 | false => rfl
 | true => simp [hn rfl]
theorem Qa {neg : Bool} {u d : List UInt8} (h1 : u.length ≤ 60) (h2 : d.length ≤ 60) (h3 : isDec u = true) (h4 : isDec d = true) (h5 : zz d ≠ 0) (h6 : neg = true → zz u ≠ 0) (h7 : Nat.gcd (zz u) (zz d) = 1) : okM neg u d = true := by
 unfold okM
 simp only [Bool.and_eq_true, decide_eq_true_eq, Bool.not_eq_true', Bool.and_eq_false_iff, decide_eq_false_iff_not]
 refine ⟨⟨⟨⟨⟨⟨h1, h2⟩, h3⟩, h4⟩, h5⟩, ?_⟩, h7⟩
 cases neg with
 | false => exact .inl rfl
 | true => exact .inr (h6 rfl)
theorem j1 {neg n : Bool} {u d x y : Nat} (h : zm neg u d = some (n, x, y)) : okM n (txl 10 x) (txl 10 y) = true := by
 unfold zm at h
 split at h
 ·cases h
 ·rename_i hh
  simp only [Option.some.injEq, Prod.mk.injEq] at h
  obtain ⟨rfl, rfl, rfl⟩ := h
  have hd : d ≠ 0 := fun hd => hh (.inl hd)
  have h1 : ¬ 60 < (dec (u / Nat.gcd u d)).size := fun k => hh (.inr (.inl k))
  have h2 : ¬ 60 < (dec (d / Nat.gcd u d)).size := fun k => hh (.inr (.inr k))
  rw [zj] at h1 h2
  have hgp : 0 < Nat.gcd u d := Nat.gcd_pos_of_pos_right _ (by omega)
  have hdd : d / Nat.gcd u d ≠ 0 := by
   have := Nat.div_pos (Nat.le_of_dvd (by omega) (Nat.gcd_dvd_right u d)) hgp
   omega
  have hco : Nat.gcd (u / Nat.gcd u d) (d / Nat.gcd u d) = 1 := Nat.coprime_div_gcd_div_gcd hgp
  refine Qa (by omega) (by omega) (jZ _) (jZ _) (by rw [zn]; exact hdd) ?_ (by rw [zn, zn]; exact hco)
  intro hh
  rw [zn]
  intro h0
  rw [h0] at hh
  simp at hh
theorem AtC.st0 {w : World} {b : Nat} {x y z s : Value} {T : TypeId} (h : AtC w b #[x, y, z, s] T) (u : Value) : AtC (w.setCell ⟨b, 0, none⟩ u) b #[u, y, z, s] T := by
 show (w.heap.modify b _)[b]? = _
 rw [Array.getElem?_modify, if_pos rfl, show w.heap[b]? = _ from h]; rfl
theorem AtC.st1 {w : World} {b : Nat} {x y z s : Value} {T : TypeId} (h : AtC w b #[x, y, z, s] T) (u : Value) : AtC (w.setCell ⟨b, 1, none⟩ u) b #[x, u, z, s] T := by
 show (w.heap.modify b _)[b]? = _
 rw [Array.getElem?_modify, if_pos rfl, show w.heap[b]? = _ from h]; rfl
theorem AtC.st2 {w : World} {b : Nat} {x y z s : Value} {T : TypeId} (h : AtC w b #[x, y, z, s] T) (u : Value) : AtC (w.setCell ⟨b, 2, none⟩ u) b #[x, y, u, s] T := by
 show (w.heap.modify b _)[b]? = _
 rw [Array.getElem?_modify, if_pos rfl, show w.heap[b]? = _ from h]; rfl
theorem AtC.st3 {w : World} {b : Nat} {x y z s : Value} {T : TypeId} (h : AtC w b #[x, y, z, s] T) (u : Value) : AtC (w.setCell ⟨b, 3, none⟩ u) b #[x, y, z, u] T := by
 show (w.heap.modify b _)[b]? = _
 rw [Array.getElem?_modify, if_pos rfl, show w.heap[b]? = _ from h]; rfl
theorem AtC.m0 {w : World} {b : Nat} {x y z s : Value} {T : TypeId} (h : AtC w b #[x, y, z, s] T) : w.cell? ⟨b, 0, none⟩ = some x := h.c 0
theorem AtC.m1 {w : World} {b : Nat} {x y z s : Value} {T : TypeId} (h : AtC w b #[x, y, z, s] T) : w.cell? ⟨b, 1, none⟩ = some y := h.c 1
theorem AtC.m2 {w : World} {b : Nat} {x y z s : Value} {T : TypeId} (h : AtC w b #[x, y, z, s] T) : w.cell? ⟨b, 2, none⟩ = some z := h.c 2
theorem AtC.m3 {w : World} {b : Nat} {x y z s : Value} {T : TypeId} (h : AtC w b #[x, y, z, s] T) : w.cell? ⟨b, 3, none⟩ = some s := h.c 3
theorem AtC.n0 {w : World} {b : Nat} {x y z : Value} {T : TypeId} (h : AtC w b #[x, y, z] T) : w.cell? ⟨b, 0, none⟩ = some x := h.c 0
theorem AtC.n1 {w : World} {b : Nat} {x y z : Value} {T : TypeId} (h : AtC w b #[x, y, z] T) : w.cell? ⟨b, 1, none⟩ = some y := h.c 1
theorem AtC.n2 {w : World} {b : Nat} {x y z : Value} {T : TypeId} (h : AtC w b #[x, y, z] T) : w.cell? ⟨b, 2, none⟩ = some z := h.c 2
theorem AtC.put4 {w : World} {b : Nat} {x y z s : Value} {T : TypeId} (h : AtC w b #[x, y, z, s] T) (u v t r : Value) : AtC ((((w.setCell ⟨b, 0, none⟩ u).setCell ⟨b, 1, none⟩ v).setCell ⟨b, 2, none⟩ t).setCell ⟨b, 3, none⟩ r) b #[u, v, t, r] T :=
 (((h.st0 u).st1 v).st2 t).st3 r
theorem kx {B : Nat} {a w : World} (h : Below B a w) {b : Nat} (hb : B ≤ b) (u v t r : Value) : Below B a ((((w.setCell ⟨b, 0, none⟩ u).setCell ⟨b, 1, none⟩ v).setCell ⟨b, 2, none⟩ t).setCell ⟨b, 3, none⟩ r) :=
 (((h.setCell (p := ⟨b, 0, none⟩) hb u).setCell (p := ⟨b, 1, none⟩) hb v).setCell (p := ⟨b, 2, none⟩) hb t).setCell (p := ⟨b, 3, none⟩) hb r
abbrev kN : Obj := .cells #[.bool false, .slice none 0 0, .bool false, .slice none 0 0] 128
theorem ze {B : Nat} {a w : World} (h : Below B a w) (hB : B ≤ a.heap.size) (o : Obj) : Below B a (w.alloc o) := h.alloc (Nat.le_trans hB h.size) o
def Made (w2 : World) (R : Bool × Nat) (q : Nat) (s8 : Value) (wx : World) : Prop :=
 ∃ g vp vc up uc, s8 = .pointer (some ⟨g, 0, none⟩) ∧ AtC wx g #[.bool R.1, .slice vp (gr R.2).length vc, .bool false, .slice up (gr q).length uc] 128 ∧ isNat wx (.slice vp (gr R.2).length vc) R.2 ∧ isNat wx (.slice up (gr q).length uc) q ∧ Below w2.heap.size w2 wx
theorem vD {w2 w5 : World} {R : Bool × Nat} {q base : Nat} {vp up : Option Addr} {vc uc : Nat} (hv : isNatB w5 base (.slice vp (gr R.2).length vc) R.2) (hu : isNatB w5 base (.slice up (gr q).length uc) q) (hK : Below w2.heap.size w2 w5) :
  Made w2 R q (.pointer (some ⟨w5.heap.size, 0, none⟩)) (w5.alloc (.cells #[.bool R.1, .slice vp (gr R.2).length vc, .bool false, .slice up (gr q).length uc] 128)) :=
 ⟨_, vp, vc, up, uc, rfl, AtC.new _ _ _, zb hv.nat (ze (Below.refl _ _) (Nat.le_refl _) _), zb hu.nat (ze (Below.refl _ _) (Nat.le_refl _) _), ze hK (Nat.le_refl _) _⟩
theorem qz {w2 w5 : World} {R : Bool × Nat} {q base b : Nat} {vp up : Option Addr} {vc uc : Nat} {x y z s : Value} (hM : AtC w5 b #[x, y, z, s] 128) (h2 : w2.heap.size ≤ b) (hb : b < base) (hv : isNatB w5 base (.slice vp (gr R.2).length vc) R.2) (hu : isNatB w5 base (.slice up (gr q).length uc) q) (hK : Below w2.heap.size w2 w5) :
  Made w2 R q (.pointer (some ⟨b, 0, none⟩)) ((((w5.setCell ⟨b, 0, none⟩ (.bool R.1)).setCell ⟨b, 1, none⟩ (.slice vp (gr R.2).length vc)).setCell ⟨b, 2, none⟩ (.bool false)).setCell ⟨b, 3, none⟩ (.slice up (gr q).length uc)) :=
 ⟨b, vp, vc, up, uc, rfl, hM.put4 _ _ _ _, (zK hv hb).nat, (zK hu hb).nat, kx hK h2 _ _ _ _⟩
theorem ZA (n1 n2 : Bool) (x1 y1 x2 y2 : Nat) (w : World) (hok1 : okM n1 (txl 10 x1) (txl 10 y1) = true) (hok2 : okM n2 (txl 10 x2) (txl 10 y2) = true) (hT : Tens w) :
  Calls Tryd.prog 60 #[.agg #[.bool n1, .string (dec x1), .string (dec y1)], .agg #[.bool n2, .string (dec x2), .string (dec y2)], .func (.func 61) #[] #[]] w fun e w' => e = .returned (ansC (zm (plusW (n1, x1 * y2) (n2, x2 * y1)).1 (plusW (n1, x1 * y2) (n2, x2 * y1)).2 (y1 * y2)) (qp (zm (plusW (n1, x1 * y2) (n2, x2 * y1)).1 (plusW (n1, x1 * y2) (n2, x2 * y1)).2 (y1 * y2)))) ∧ Below w.heap.size w w' := by
 have hp1 := zH hok1
 have hp2 := zH hok2
 have sx1 : (dec x1).size ≤ 60 := by rw [zj]; exact hp1.2.2.1
 have sy1 : (dec y1).size ≤ 60 := by rw [zj]; exact hp1.2.2.2.1
 have sx2 : (dec x2).size ≤ 60 := by rw [zj]; exact hp2.2.2.1
 have sy2 : (dec y2).size ≤ 60 := by rw [zj]; exact hp2.2.2.2.1
 have hy1 : y1 ≠ 0 := by have := hp1.2.2.2.2.1; rwa [zn] at this
 have hy2 : y2 ≠ 0 := by have := hp2.2.2.2.2.1; rwa [zn] at this
 have hyy : 0 < y1 * y2 := Nat.mul_pos (by omega) (by omega)
 have gx1 := qq sx1
 have gy1 := qq sy1
 have gx2 := qq sx2
 have gy2 := qq sy2
 have gp1 := zJ sx1 sy2
 have gp2 := zJ sx2 sy1
 have gpq := zJ sy1 sy2
 have gR : (gr (plusW (n1, x1 * y2) (n2, x2 * y1)).2).length ≤ 121 := yY sx1 sy1 sx2 sy2
 have h1 := fun w hT => zN n1 (txl 10 x1) (txl 10 y1) w (by have := hp1.2.2.1; omega) (by have := hp1.2.2.2.1; omega) hT
 have h2 := fun w hT => zN n2 (txl 10 x2) (txl 10 y2) w (by have := hp2.2.2.1; omega) (by have := hp2.2.2.2.1; omega) hT
 rw [hok1] at h1
 rw [hok2] at h2
 have H1 : Hid (∀ w, Tens w → Calls Tryd.prog 9 #[.agg #[.bool n1, .string (dec x1), .string (dec y1)]] w fun e w' => e = .returned (.bool true) ∧ Below w.heap.size w w') := h1
 have H2 : Hid (∀ w, Tens w → Calls Tryd.prog 9 #[.agg #[.bool n2, .string (dec x2), .string (dec y2)]] w fun e w' => e = .returned (.bool true) ∧ Below w.heap.size w w') := h2
 have HT := hide hT
 clear h1 h2 hp1 hp2 hok1 hok2 hT hy1 hy2
 have HW := hide ((((Below.refl w.heap.size w).alloc (Nat.le_refl _) (.cells #[.bool n1, .string (dec x1), .string (dec y1)] 26)).alloc (by simp) (.cells #[.bool n2, .string (dec x2), .string (dec y2)] 26)).alloc (by simp; omega) (.cells #[.bool false, .string ⟨#[]⟩, .string ⟨#[]⟩] 26))
 have HA := hide (((AtC.new w #[.bool n1, .string (dec x1), .string (dec y1)] 26).alloc (.cells #[.bool n2, .string (dec x2), .string (dec y2)] 26)).alloc (.cells #[.bool false, .string ⟨#[]⟩, .string ⟨#[]⟩] 26))
 have HB := hide ((AtC.new (w.alloc (.cells #[.bool n1, .string (dec x1), .string (dec y1)] 26)) #[.bool n2, .string (dec x2), .string (dec y2)] 26).alloc (.cells #[.bool false, .string ⟨#[]⟩, .string ⟨#[]⟩] 26))
 have HC := hide (AtC.new ((w.alloc (.cells #[.bool n1, .string (dec x1), .string (dec y1)] 26)).alloc (.cells #[.bool n2, .string (dec x2), .string (dec y2)] 26)) #[.bool false, .string ⟨#[]⟩, .string ⟨#[]⟩] 26)
 rw [World.size_alloc] at HB
 rw [World.size_alloc, World.size_alloc] at HC
 go_enter Tryd.func60, Tryd.ntmps60
 go_wp2_with fail
 refine (za H1 _ ((za HT).below (za HW))).mono ?_
 rintro e w1 ⟨rfl, hb1⟩
 have hA1 := (za HA).below hb1
 have hB1 := (za HB).below hb1
 have HC1 := hide ((za HC).below hb1)
 have a10 : w1.cell? ⟨w.heap.size, 0, none⟩ = some (.bool n1) := hA1.c 0
 have a11 : w1.cell? ⟨w.heap.size, 1, none⟩ = some (.string (dec x1)) := hA1.c 1
 have a12 : w1.cell? ⟨w.heap.size, 2, none⟩ = some (.string (dec y1)) := hA1.c 2
 have b10 : w1.cell? ⟨w.heap.size + 1, 0, none⟩ = some (.bool n2) := hB1.c 0
 have b11 : w1.cell? ⟨w.heap.size + 1, 1, none⟩ = some (.string (dec x2)) := hB1.c 1
 have b12 : w1.cell? ⟨w.heap.size + 1, 2, none⟩ = some (.string (dec y2)) := hB1.c 2
 have HA1 := hide hA1
 have HB1 := hide hB1
 have HW1 := hide ((za HW).trans (hb1.mono (za HW).size))
 clear hb1 hA1 hB1
 go_wp2_with fail
 refine (za H2 w1 ((za HT).below (za HW1))).mono ?_
 rintro e w2 ⟨rfl, hb2⟩
 have hA2 := (za HA1).below hb2
 have hB2 := (za HB1).below hb2
 have HC2 := hide ((za HC1).below hb2)
 have a20 : w2.cell? ⟨w.heap.size, 0, none⟩ = some (.bool n1) := hA2.c 0
 have a21 : w2.cell? ⟨w.heap.size, 1, none⟩ = some (.string (dec x1)) := hA2.c 1
 have a22 : w2.cell? ⟨w.heap.size, 2, none⟩ = some (.string (dec y1)) := hA2.c 2
 have b20 : w2.cell? ⟨w.heap.size + 1, 0, none⟩ = some (.bool n2) := hB2.c 0
 have b21 : w2.cell? ⟨w.heap.size + 1, 1, none⟩ = some (.string (dec x2)) := hB2.c 1
 have b22 : w2.cell? ⟨w.heap.size + 1, 2, none⟩ = some (.string (dec y2)) := hB2.c 2
 have HA2 := hide hA2
 have HB2 := hide hB2
 have HW2 := hide ((za HW1).trans (hb2.mono (za HW1).size))
 have HKd := hide (Below.refl w2.heap.size w2).drew
 have HKa := hide (ze (Below.refl w2.heap.size w2) (Nat.le_refl _) kN).drew
 have HT2 := hide ((za HT).below (za HW2))
 have hs2 := (za HC2).lt
 clear hb2 hA2 hB2 HA1 HB1 HC1 a10 a11 a12 b10 b11 b12
 go_upto_region 3 with fail
 go_cut [8] from 11 (fun s8 wx => Made w2 (plusW (n1, x1 * y2) (n2, x2 * y1)) (y1 * y2) s8 wx)
 case first =>
  go_region_held3 (fun w' => w'.cell? ⟨w.heap.size, 0, none⟩ = some (.bool n1) ∧ w'.cell? ⟨w.heap.size, 1, none⟩ = some (.string (dec x1)) ∧ w'.cell? ⟨w.heap.size, 2, none⟩ = some (.string (dec y1)) ∧ w'.cell? ⟨w.heap.size + 1, 0, none⟩ = some (.bool n2) ∧ w'.cell? ⟨w.heap.size + 1, 1, none⟩ = some (.string (dec x2)) ∧ w'.cell? ⟨w.heap.size + 1, 2, none⟩ = some (.string (dec y2))) (((try dsimp only); (repeat' apply And.intro) <;> (first | with_reducible assumption | (rw [far4 (by first | (simp; done) | (simp; omega) | omega)]; with_reducible assumption) | with_reducible exact (za HA2).drew.n0 | with_reducible exact (za HA2).drew.n1 | with_reducible exact (za HA2).drew.n2 | with_reducible exact (za HB2).drew.n0 | with_reducible exact (za HB2).drew.n1 | with_reducible exact (za HB2).drew.n2 | with_reducible exact ((za HA2).alloc _).drew.n0 | with_reducible exact ((za HA2).alloc _).drew.n1 | with_reducible exact ((za HA2).alloc _).drew.n2 | with_reducible exact ((za HB2).alloc _).drew.n0 | with_reducible exact ((za HB2).alloc _).drew.n1 | with_reducible exact ((za HB2).alloc _).drew.n2 | with_reducible exact ((za HA3).alloc _).n0 | with_reducible exact ((za HA3).alloc _).n1 | with_reducible exact ((za HA3).alloc _).n2 | with_reducible exact ((za HB3).alloc _).n0 | with_reducible exact ((za HB3).alloc _).n1 | with_reducible exact ((za HB3).alloc _).n2 | with_reducible exact ((za HA4).alloc _).n0 | with_reducible exact ((za HA4).alloc _).n1 | with_reducible exact ((za HA4).alloc _).n2 | with_reducible exact ((za HB4).alloc _).n0 | with_reducible exact ((za HB4).alloc _).n1 | with_reducible exact ((za HB4).alloc _).n2 | with_reducible exact ((za HA5).alloc _).n0 | with_reducible exact ((za HA5).alloc _).n1 | with_reducible exact ((za HA5).alloc _).n2 | with_reducible exact ((za HB5).alloc _).n0 | with_reducible exact ((za HB5).alloc _).n1 | with_reducible exact ((za HB5).alloc _).n2 | (rw [far4 (by first | (simp; done) | (simp; omega) | omega)]; with_reducible exact ((za HA5).alloc _).n0) | (rw [far4 (by first | (simp; done) | (simp; omega) | omega)]; with_reducible exact ((za HA5).alloc _).n1) | (rw [far4 (by first | (simp; done) | (simp; omega) | omega)]; with_reducible exact ((za HA5).alloc _).n2) | (rw [far4 (by first | (simp; done) | (simp; omega) | omega)]; with_reducible exact ((za HB5).alloc _).n0) | (rw [far4 (by first | (simp; done) | (simp; omega) | omega)]; with_reducible exact ((za HB5).alloc _).n1) | (rw [far4 (by first | (simp; done) | (simp; omega) | omega)]; with_reducible exact ((za HB5).alloc _).n2)))) (first | (go_at_call_of 106 (dec x1); refine (qe n1 x1 y1 _ sx1 sy1 (by first | exact (za HT2).below (za HKd) | exact (za HT2).below (za HKa))).mono ?_; rintro e w3 ⟨⟨v, u, rfl, hv, hu⟩, hb3⟩; obtain ⟨vp1, vc1, rfl⟩ := zd hv; obtain ⟨up1, uc1, rfl⟩ := zd hu; have HK3 : Hid (Below w2.heap.size w2 w3) := (by first | exact (za HKd).trans (hb3.mono (za HKd).size) | exact (za HKa).trans (hb3.mono (za HKa).size)); have k3 := (za HK3).size; have HM3 := (by first | exact hide ((AtC.new w2 #[.bool false, .slice none 0 0, .bool false, .slice none 0 0] 128).drew.below hb3) | exact trivial : _); have HA3 := hide ((za HA2).below (za HK3)); have HB3 := hide ((za HB2).below (za HK3)); have a30 : w3.cell? ⟨w.heap.size, 0, none⟩ = some (.bool n1) := (za HA3).c 0; have a31 : w3.cell? ⟨w.heap.size, 1, none⟩ = some (.string (dec x1)) := (za HA3).c 1; have a32 : w3.cell? ⟨w.heap.size, 2, none⟩ = some (.string (dec y1)) := (za HA3).c 2; have b30 : w3.cell? ⟨w.heap.size + 1, 0, none⟩ = some (.bool n2) := (za HB3).c 0; have b31 : w3.cell? ⟨w.heap.size + 1, 1, none⟩ = some (.string (dec x2)) := (za HB3).c 1; have b32 : w3.cell? ⟨w.heap.size + 1, 2, none⟩ = some (.string (dec y2)) := (za HB3).c 2; have Hv1 := hide hv.nat; have Hu1 := hide hu.nat; clear hv hu hb3; unfold fracV) | (go_at_call_of 106 (dec x2); refine (qe n2 x2 y2 _ sx2 sy2 (by first | exact (za HT2).below (za HK3) | exact (za HT2).below (ze (za HK3) (Nat.le_refl _) _))).mono ?_; rintro e w4 ⟨⟨v, u, rfl, hv, hu⟩, hb4⟩; obtain ⟨vp2, vc2, rfl⟩ := zd hv; obtain ⟨up2, uc2, rfl⟩ := zd hu; have HK34 : Hid (Below w3.heap.size w3 w4) := (by first | exact hb4 | exact (ze (Below.refl _ _) (Nat.le_refl _) _).trans (hb4.mono (ze (Below.refl _ _) (Nat.le_refl _) _).size)); have HK4 := hide ((za HK3).trans ((za HK34).mono (za HK3).size)); have k4 := (za HK34).size; have HM4 := (by first | exact hide ((za HM3).below (za HK34)) | exact hide ((AtC.new w3 #[.bool false, .slice none 0 0, .bool false, .slice none 0 0] 128).below hb4) | exact trivial : _); have HA4 := hide ((za HA2).below (za HK4)); have HB4 := hide ((za HB2).below (za HK4)); have a40 : w4.cell? ⟨w.heap.size, 0, none⟩ = some (.bool n1) := (za HA4).c 0; have a41 : w4.cell? ⟨w.heap.size, 1, none⟩ = some (.string (dec x1)) := (za HA4).c 1; have a42 : w4.cell? ⟨w.heap.size, 2, none⟩ = some (.string (dec y1)) := (za HA4).c 2; have b40 : w4.cell? ⟨w.heap.size + 1, 0, none⟩ = some (.bool n2) := (za HB4).c 0; have b41 : w4.cell? ⟨w.heap.size + 1, 1, none⟩ = some (.string (dec x2)) := (za HB4).c 1; have b42 : w4.cell? ⟨w.heap.size + 1, 2, none⟩ = some (.string (dec y2)) := (za HB4).c 2; have Hv1' := hide (zb (za Hv1) (za HK34)); have Hu1' := hide (zb (za Hu1) (za HK34)); have Hv2 := hide hv.nat; have Hu2 := hide hu.nat; clear hv hu hb4; unfold fracV) | (go_at_call 105; refine (xM n1 n2 (.slice vp1 (gr x1).length vc1) (.slice up1 (gr y1).length uc1) (.slice vp2 (gr x2).length vc2) (.slice up2 (gr y2).length uc2) x1 y1 x2 y2 _ (by first | exact za Hv1' | exact zb (za Hv1') (ze (Below.refl _ _) (Nat.le_refl _) _)) (by first | exact za Hu1' | exact zb (za Hu1') (ze (Below.refl _ _) (Nat.le_refl _) _)) (by first | exact za Hv2 | exact zb (za Hv2) (ze (Below.refl _ _) (Nat.le_refl _) _)) (by first | exact za Hu2 | exact zb (za Hu2) (ze (Below.refl _ _) (Nat.le_refl _) _)) (by omega) (by omega) (by omega) (by omega) (by omega) (by omega)).mono ?_; rintro e w5 ⟨⟨v, u, rfl, hv, hu⟩, hb5⟩; obtain ⟨vp, vc, rfl⟩ := zd hv; obtain ⟨up, uc, rfl⟩ := zd hu; have HK45 : Hid (Below w4.heap.size w4 w5) := (by first | exact hb5 | exact (ze (Below.refl _ _) (Nat.le_refl _) _).trans (hb5.mono (ze (Below.refl _ _) (Nat.le_refl _) _).size)); have HK5 := hide ((za HK4).trans ((za HK45).mono (za HK4).size)); have k5 := (za HK45).size; have ml4 := (by first | exact (za HM4).lt | exact trivial : _); have HM5 := (by first | exact hide ((za HM4).below (za HK45)) | exact hide ((AtC.new w4 #[.bool false, .slice none 0 0, .bool false, .slice none 0 0] 128).below hb5) | exact trivial : _); have HA5 := hide ((za HA2).below (za HK5)); have HB5 := hide ((za HB2).below (za HK5)); have a50 : w5.cell? ⟨w.heap.size, 0, none⟩ = some (.bool n1) := (za HA5).c 0; have a51 : w5.cell? ⟨w.heap.size, 1, none⟩ = some (.string (dec x1)) := (za HA5).c 1; have a52 : w5.cell? ⟨w.heap.size, 2, none⟩ = some (.string (dec y1)) := (za HA5).c 2; have b50 : w5.cell? ⟨w.heap.size + 1, 0, none⟩ = some (.bool n2) := (za HB5).c 0; have b51 : w5.cell? ⟨w.heap.size + 1, 1, none⟩ = some (.string (dec x2)) := (za HB5).c 1; have b52 : w5.cell? ⟨w.heap.size + 1, 2, none⟩ = some (.string (dec y2)) := (za HB5).c 2; have m0 := (by first | exact (za HM5).m0 | exact trivial : _); have m1 := (by first | exact (za HM5).m1 | exact trivial : _); have m2 := (by first | exact (za HM5).m2 | exact trivial : _); have m3 := (by first | exact (za HM5).m3 | exact trivial : _); have mf := (by first | exact (za HM5).f | exact trivial : _); have ml := (by first | exact (za HM5).lt | exact trivial : _); have Hv := hide hv; have Hu := hide hu; clear hv hu hb5; unfold fracV))
  all_goals
   go_wp2_with fail
   go_meet
  ·exact vD (za Hv) (za Hu) (za HK5)
  ·exact qz (za HM5) (by omega) (by simp) (za Hv) (za Hu) (za HK5)
  ·exact qz (za HM5) (by omega) ml4 (za Hv) (za Hu) (za HK5)
  ·exact qz (za HM5) (by omega) ml4 (za Hv) (za Hu) (za HK5)
 case rest =>
 obtain ⟨g, vp, vc, up, uc, rfl, hM, hv, hu, hK⟩ := hcut
 have hC := (za HC2).below hK
 have c0 := hC.n0
 have c1 := hC.n1
 have c2 := hC.n2
 have cf := hC.f
 have cl := hC.lt
 have g0 := hM.m0
 have g1 := hM.m1
 have g2 := hM.m2
 have g3 := hM.m3
 have HWc := hide ((za HW2).trans (hK.mono (za HW2).size))
 have HCc := hide hC
 have Hv := hide hv
 have Hu := hide hu
 have HTc := hide ((za HT2).below hK)
 clear hC hM hv hu hK a20 a21 a22 b20 b21 b22 HKd HKa HA2 HB2 HC2 HT2 H1 H2 HA HB HC HW
 go_wp2_with fail
 obtain ⟨o, ho⟩ : ∃ o, zm (plusW (n1, x1 * y2) (n2, x2 * y1)).1 (plusW (n1, x1 * y2) (n2, x2 * y1)).2 (y1 * y2) = o := ⟨_, rfl⟩
 refine (js _ _ _ _ _ wc (za Hv) (za Hu) hyy (by omega) (by omega) (za HTc)).mono ?_
 rintro e w6 ⟨rfl, hb6⟩
 have hC := (za HCc).below hb6
 clear c0 c1 c2 cf cl g0 g1 g2 g3
 have c0 := hC.n0
 have c1 := hC.n1
 have c2 := hC.n2
 have cf := hC.f
 have cl := hC.lt
 have HC6 := hide hC
 have HW6 := hide ((za HWc).trans (hb6.mono (za HWc).size))
 clear hC hb6
 rw [ho]
 have Ho := hide ho
 clear ho
 cases o with
 | none =>
  unfold zk numO noNum numV
  go_wp2
  refine bodyPost_ret (v := ansC none 3) (by simp [results, Tryd.results60, go_sem, c0, c1, c2, cl, ansC, numO, noNum, numV]) rfl ⟨by rw [za Ho]; rfl, ?_⟩
  refine (za HW6).trans ?_
  repeat (first | exact Below.refl _ _ | refine Below.setCell ?_ (by first | exact Nat.le_refl _ | exact Nat.le_succ _ | (simp; done) | (simp; omega)) _ | refine Below.alloc ?_ (by first | exact Nat.le_refl _ | (simp; done) | (simp; omega)) _)
 | some p =>
  obtain ⟨pn, pu, pd⟩ := p
  unfold zk numO numV
  go_wp2
  refine bodyPost_ret (v := ansC (some (pn, pu, pd)) 0) (by simp [results, Tryd.results60, go_sem, c0, c1, c2, cl, ansC, numO, numV]) rfl ⟨by rw [za Ho]; rfl, ?_⟩
  refine (za HW6).trans ?_
  repeat (first | exact Below.refl _ _ | refine Below.setCell ?_ (by first | exact Nat.le_refl _ | exact Nat.le_succ _ | (simp; done) | (simp; omega)) _ | refine Below.alloc ?_ (by first | exact Nat.le_refl _ | (simp; done) | (simp; omega)) _)
theorem xg (n1 n2 : Bool) (x1 y1 x2 y2 : Nat) (w : World) (hok1 : okM n1 (txl 10 x1) (txl 10 y1) = true) (hok2 : okM n2 (txl 10 x2) (txl 10 y2) = true) (hT : Tens w) :
  Calls Tryd.prog 60 #[.agg #[.bool n1, .string (dec x1), .string (dec y1)], .agg #[.bool n2, .string (dec x2), .string (dec y2)], .func (.func 66) #[] #[]] w fun e w' => e = .returned (ansC (zm (plusW (n1, x1 * y2) (!n2, x2 * y1)).1 (plusW (n1, x1 * y2) (!n2, x2 * y1)).2 (y1 * y2)) (qp (zm (plusW (n1, x1 * y2) (!n2, x2 * y1)).1 (plusW (n1, x1 * y2) (!n2, x2 * y1)).2 (y1 * y2)))) ∧ Below w.heap.size w w' := by
 have hp1 := zH hok1
 have hp2 := zH hok2
 have sx1 : (dec x1).size ≤ 60 := by rw [zj]; exact hp1.2.2.1
 have sy1 : (dec y1).size ≤ 60 := by rw [zj]; exact hp1.2.2.2.1
 have sx2 : (dec x2).size ≤ 60 := by rw [zj]; exact hp2.2.2.1
 have sy2 : (dec y2).size ≤ 60 := by rw [zj]; exact hp2.2.2.2.1
 have hy1 : y1 ≠ 0 := by have := hp1.2.2.2.2.1; rwa [zn] at this
 have hy2 : y2 ≠ 0 := by have := hp2.2.2.2.2.1; rwa [zn] at this
 have hyy : 0 < y1 * y2 := Nat.mul_pos (by omega) (by omega)
 have gx1 := qq sx1
 have gy1 := qq sy1
 have gx2 := qq sx2
 have gy2 := qq sy2
 have gp1 := zJ sx1 sy2
 have gp2 := zJ sx2 sy1
 have gpq := zJ sy1 sy2
 have gR : (gr (plusW (n1, x1 * y2) (!n2, x2 * y1)).2).length ≤ 121 := yY sx1 sy1 sx2 sy2
 have h1 := fun w hT => zN n1 (txl 10 x1) (txl 10 y1) w (by have := hp1.2.2.1; omega) (by have := hp1.2.2.2.1; omega) hT
 have h2 := fun w hT => zN n2 (txl 10 x2) (txl 10 y2) w (by have := hp2.2.2.1; omega) (by have := hp2.2.2.2.1; omega) hT
 rw [hok1] at h1
 rw [hok2] at h2
 have H1 : Hid (∀ w, Tens w → Calls Tryd.prog 9 #[.agg #[.bool n1, .string (dec x1), .string (dec y1)]] w fun e w' => e = .returned (.bool true) ∧ Below w.heap.size w w') := h1
 have H2 : Hid (∀ w, Tens w → Calls Tryd.prog 9 #[.agg #[.bool n2, .string (dec x2), .string (dec y2)]] w fun e w' => e = .returned (.bool true) ∧ Below w.heap.size w w') := h2
 have HT := hide hT
 clear h1 h2 hp1 hp2 hok1 hok2 hT hy1 hy2
 have HW := hide ((((Below.refl w.heap.size w).alloc (Nat.le_refl _) (.cells #[.bool n1, .string (dec x1), .string (dec y1)] 26)).alloc (by simp) (.cells #[.bool n2, .string (dec x2), .string (dec y2)] 26)).alloc (by simp; omega) (.cells #[.bool false, .string ⟨#[]⟩, .string ⟨#[]⟩] 26))
 have HA := hide (((AtC.new w #[.bool n1, .string (dec x1), .string (dec y1)] 26).alloc (.cells #[.bool n2, .string (dec x2), .string (dec y2)] 26)).alloc (.cells #[.bool false, .string ⟨#[]⟩, .string ⟨#[]⟩] 26))
 have HB := hide ((AtC.new (w.alloc (.cells #[.bool n1, .string (dec x1), .string (dec y1)] 26)) #[.bool n2, .string (dec x2), .string (dec y2)] 26).alloc (.cells #[.bool false, .string ⟨#[]⟩, .string ⟨#[]⟩] 26))
 have HC := hide (AtC.new ((w.alloc (.cells #[.bool n1, .string (dec x1), .string (dec y1)] 26)).alloc (.cells #[.bool n2, .string (dec x2), .string (dec y2)] 26)) #[.bool false, .string ⟨#[]⟩, .string ⟨#[]⟩] 26)
 rw [World.size_alloc] at HB
 rw [World.size_alloc, World.size_alloc] at HC
 go_enter Tryd.func60, Tryd.ntmps60
 go_wp2_with fail
 refine (za H1 _ ((za HT).below (za HW))).mono ?_
 rintro e w1 ⟨rfl, hb1⟩
 have hA1 := (za HA).below hb1
 have hB1 := (za HB).below hb1
 have HC1 := hide ((za HC).below hb1)
 have a10 : w1.cell? ⟨w.heap.size, 0, none⟩ = some (.bool n1) := hA1.c 0
 have a11 : w1.cell? ⟨w.heap.size, 1, none⟩ = some (.string (dec x1)) := hA1.c 1
 have a12 : w1.cell? ⟨w.heap.size, 2, none⟩ = some (.string (dec y1)) := hA1.c 2
 have b10 : w1.cell? ⟨w.heap.size + 1, 0, none⟩ = some (.bool n2) := hB1.c 0
 have b11 : w1.cell? ⟨w.heap.size + 1, 1, none⟩ = some (.string (dec x2)) := hB1.c 1
 have b12 : w1.cell? ⟨w.heap.size + 1, 2, none⟩ = some (.string (dec y2)) := hB1.c 2
 have HA1 := hide hA1
 have HB1 := hide hB1
 have HW1 := hide ((za HW).trans (hb1.mono (za HW).size))
 clear hb1 hA1 hB1
 go_wp2_with fail
 refine (za H2 w1 ((za HT).below (za HW1))).mono ?_
 rintro e w2 ⟨rfl, hb2⟩
 have hA2 := (za HA1).below hb2
 have hB2 := (za HB1).below hb2
 have HC2 := hide ((za HC1).below hb2)
 have a20 : w2.cell? ⟨w.heap.size, 0, none⟩ = some (.bool n1) := hA2.c 0
 have a21 : w2.cell? ⟨w.heap.size, 1, none⟩ = some (.string (dec x1)) := hA2.c 1
 have a22 : w2.cell? ⟨w.heap.size, 2, none⟩ = some (.string (dec y1)) := hA2.c 2
 have b20 : w2.cell? ⟨w.heap.size + 1, 0, none⟩ = some (.bool n2) := hB2.c 0
 have b21 : w2.cell? ⟨w.heap.size + 1, 1, none⟩ = some (.string (dec x2)) := hB2.c 1
 have b22 : w2.cell? ⟨w.heap.size + 1, 2, none⟩ = some (.string (dec y2)) := hB2.c 2
 have HA2 := hide hA2
 have HB2 := hide hB2
 have HW2 := hide ((za HW1).trans (hb2.mono (za HW1).size))
 have HKd := hide (Below.refl w2.heap.size w2).drew
 have HKa := hide (ze (Below.refl w2.heap.size w2) (Nat.le_refl _) kN).drew
 have HT2 := hide ((za HT).below (za HW2))
 have hs2 := (za HC2).lt
 clear hb2 hA2 hB2 HA1 HB1 HC1 a10 a11 a12 b10 b11 b12
 go_upto_region 3 with fail
 go_cut [8] from 11 (fun s8 wx => Made w2 (plusW (n1, x1 * y2) (!n2, x2 * y1)) (y1 * y2) s8 wx)
 case first =>
  go_region_held3 (fun w' => w'.cell? ⟨w.heap.size, 0, none⟩ = some (.bool n1) ∧ w'.cell? ⟨w.heap.size, 1, none⟩ = some (.string (dec x1)) ∧ w'.cell? ⟨w.heap.size, 2, none⟩ = some (.string (dec y1)) ∧ w'.cell? ⟨w.heap.size + 1, 0, none⟩ = some (.bool n2) ∧ w'.cell? ⟨w.heap.size + 1, 1, none⟩ = some (.string (dec x2)) ∧ w'.cell? ⟨w.heap.size + 1, 2, none⟩ = some (.string (dec y2))) (((try dsimp only); (repeat' apply And.intro) <;> (first | with_reducible assumption | (rw [far4 (by first | (simp; done) | (simp; omega) | omega)]; with_reducible assumption) | with_reducible exact (za HA2).drew.n0 | with_reducible exact (za HA2).drew.n1 | with_reducible exact (za HA2).drew.n2 | with_reducible exact (za HB2).drew.n0 | with_reducible exact (za HB2).drew.n1 | with_reducible exact (za HB2).drew.n2 | with_reducible exact ((za HA2).alloc _).drew.n0 | with_reducible exact ((za HA2).alloc _).drew.n1 | with_reducible exact ((za HA2).alloc _).drew.n2 | with_reducible exact ((za HB2).alloc _).drew.n0 | with_reducible exact ((za HB2).alloc _).drew.n1 | with_reducible exact ((za HB2).alloc _).drew.n2 | with_reducible exact ((za HA3).alloc _).n0 | with_reducible exact ((za HA3).alloc _).n1 | with_reducible exact ((za HA3).alloc _).n2 | with_reducible exact ((za HB3).alloc _).n0 | with_reducible exact ((za HB3).alloc _).n1 | with_reducible exact ((za HB3).alloc _).n2 | with_reducible exact ((za HA4).alloc _).n0 | with_reducible exact ((za HA4).alloc _).n1 | with_reducible exact ((za HA4).alloc _).n2 | with_reducible exact ((za HB4).alloc _).n0 | with_reducible exact ((za HB4).alloc _).n1 | with_reducible exact ((za HB4).alloc _).n2 | with_reducible exact ((za HA5).alloc _).n0 | with_reducible exact ((za HA5).alloc _).n1 | with_reducible exact ((za HA5).alloc _).n2 | with_reducible exact ((za HB5).alloc _).n0 | with_reducible exact ((za HB5).alloc _).n1 | with_reducible exact ((za HB5).alloc _).n2 | (rw [far4 (by first | (simp; done) | (simp; omega) | omega)]; with_reducible exact ((za HA5).alloc _).n0) | (rw [far4 (by first | (simp; done) | (simp; omega) | omega)]; with_reducible exact ((za HA5).alloc _).n1) | (rw [far4 (by first | (simp; done) | (simp; omega) | omega)]; with_reducible exact ((za HA5).alloc _).n2) | (rw [far4 (by first | (simp; done) | (simp; omega) | omega)]; with_reducible exact ((za HB5).alloc _).n0) | (rw [far4 (by first | (simp; done) | (simp; omega) | omega)]; with_reducible exact ((za HB5).alloc _).n1) | (rw [far4 (by first | (simp; done) | (simp; omega) | omega)]; with_reducible exact ((za HB5).alloc _).n2)))) (first | (go_at_call_of 106 (dec x1); refine (qe n1 x1 y1 _ sx1 sy1 (by first | exact (za HT2).below (za HKd) | exact (za HT2).below (za HKa))).mono ?_; rintro e w3 ⟨⟨v, u, rfl, hv, hu⟩, hb3⟩; obtain ⟨vp1, vc1, rfl⟩ := zd hv; obtain ⟨up1, uc1, rfl⟩ := zd hu; have HK3 : Hid (Below w2.heap.size w2 w3) := (by first | exact (za HKd).trans (hb3.mono (za HKd).size) | exact (za HKa).trans (hb3.mono (za HKa).size)); have k3 := (za HK3).size; have HM3 := (by first | exact hide ((AtC.new w2 #[.bool false, .slice none 0 0, .bool false, .slice none 0 0] 128).drew.below hb3) | exact trivial : _); have HA3 := hide ((za HA2).below (za HK3)); have HB3 := hide ((za HB2).below (za HK3)); have a30 : w3.cell? ⟨w.heap.size, 0, none⟩ = some (.bool n1) := (za HA3).c 0; have a31 : w3.cell? ⟨w.heap.size, 1, none⟩ = some (.string (dec x1)) := (za HA3).c 1; have a32 : w3.cell? ⟨w.heap.size, 2, none⟩ = some (.string (dec y1)) := (za HA3).c 2; have b30 : w3.cell? ⟨w.heap.size + 1, 0, none⟩ = some (.bool n2) := (za HB3).c 0; have b31 : w3.cell? ⟨w.heap.size + 1, 1, none⟩ = some (.string (dec x2)) := (za HB3).c 1; have b32 : w3.cell? ⟨w.heap.size + 1, 2, none⟩ = some (.string (dec y2)) := (za HB3).c 2; have Hv1 := hide hv.nat; have Hu1 := hide hu.nat; clear hv hu hb3; unfold fracV) | (go_at_call_of 106 (dec x2); refine (qe n2 x2 y2 _ sx2 sy2 (by first | exact (za HT2).below (za HK3) | exact (za HT2).below (ze (za HK3) (Nat.le_refl _) _))).mono ?_; rintro e w4 ⟨⟨v, u, rfl, hv, hu⟩, hb4⟩; obtain ⟨vp2, vc2, rfl⟩ := zd hv; obtain ⟨up2, uc2, rfl⟩ := zd hu; have HK34 : Hid (Below w3.heap.size w3 w4) := (by first | exact hb4 | exact (ze (Below.refl _ _) (Nat.le_refl _) _).trans (hb4.mono (ze (Below.refl _ _) (Nat.le_refl _) _).size)); have HK4 := hide ((za HK3).trans ((za HK34).mono (za HK3).size)); have k4 := (za HK34).size; have HM4 := (by first | exact hide ((za HM3).below (za HK34)) | exact hide ((AtC.new w3 #[.bool false, .slice none 0 0, .bool false, .slice none 0 0] 128).below hb4) | exact trivial : _); have HA4 := hide ((za HA2).below (za HK4)); have HB4 := hide ((za HB2).below (za HK4)); have a40 : w4.cell? ⟨w.heap.size, 0, none⟩ = some (.bool n1) := (za HA4).c 0; have a41 : w4.cell? ⟨w.heap.size, 1, none⟩ = some (.string (dec x1)) := (za HA4).c 1; have a42 : w4.cell? ⟨w.heap.size, 2, none⟩ = some (.string (dec y1)) := (za HA4).c 2; have b40 : w4.cell? ⟨w.heap.size + 1, 0, none⟩ = some (.bool n2) := (za HB4).c 0; have b41 : w4.cell? ⟨w.heap.size + 1, 1, none⟩ = some (.string (dec x2)) := (za HB4).c 1; have b42 : w4.cell? ⟨w.heap.size + 1, 2, none⟩ = some (.string (dec y2)) := (za HB4).c 2; have Hv1' := hide (zb (za Hv1) (za HK34)); have Hu1' := hide (zb (za Hu1) (za HK34)); have Hv2 := hide hv.nat; have Hu2 := hide hu.nat; clear hv hu hb4; unfold fracV) | (go_at_call 105; refine (ky n1 n2 (.slice vp1 (gr x1).length vc1) (.slice up1 (gr y1).length uc1) (.slice vp2 (gr x2).length vc2) (.slice up2 (gr y2).length uc2) x1 y1 x2 y2 _ (by first | exact za Hv1' | exact zb (za Hv1') (ze (Below.refl _ _) (Nat.le_refl _) _)) (by first | exact za Hu1' | exact zb (za Hu1') (ze (Below.refl _ _) (Nat.le_refl _) _)) (by first | exact za Hv2 | exact zb (za Hv2) (ze (Below.refl _ _) (Nat.le_refl _) _)) (by first | exact za Hu2 | exact zb (za Hu2) (ze (Below.refl _ _) (Nat.le_refl _) _)) (by omega) (by omega) (by omega) (by omega) (by omega) (by omega)).mono ?_; rintro e w5 ⟨⟨v, u, rfl, hv, hu⟩, hb5⟩; obtain ⟨vp, vc, rfl⟩ := zd hv; obtain ⟨up, uc, rfl⟩ := zd hu; have HK45 : Hid (Below w4.heap.size w4 w5) := (by first | exact hb5 | exact (ze (Below.refl _ _) (Nat.le_refl _) _).trans (hb5.mono (ze (Below.refl _ _) (Nat.le_refl _) _).size)); have HK5 := hide ((za HK4).trans ((za HK45).mono (za HK4).size)); have k5 := (za HK45).size; have ml4 := (by first | exact (za HM4).lt | exact trivial : _); have HM5 := (by first | exact hide ((za HM4).below (za HK45)) | exact hide ((AtC.new w4 #[.bool false, .slice none 0 0, .bool false, .slice none 0 0] 128).below hb5) | exact trivial : _); have HA5 := hide ((za HA2).below (za HK5)); have HB5 := hide ((za HB2).below (za HK5)); have a50 : w5.cell? ⟨w.heap.size, 0, none⟩ = some (.bool n1) := (za HA5).c 0; have a51 : w5.cell? ⟨w.heap.size, 1, none⟩ = some (.string (dec x1)) := (za HA5).c 1; have a52 : w5.cell? ⟨w.heap.size, 2, none⟩ = some (.string (dec y1)) := (za HA5).c 2; have b50 : w5.cell? ⟨w.heap.size + 1, 0, none⟩ = some (.bool n2) := (za HB5).c 0; have b51 : w5.cell? ⟨w.heap.size + 1, 1, none⟩ = some (.string (dec x2)) := (za HB5).c 1; have b52 : w5.cell? ⟨w.heap.size + 1, 2, none⟩ = some (.string (dec y2)) := (za HB5).c 2; have m0 := (by first | exact (za HM5).m0 | exact trivial : _); have m1 := (by first | exact (za HM5).m1 | exact trivial : _); have m2 := (by first | exact (za HM5).m2 | exact trivial : _); have m3 := (by first | exact (za HM5).m3 | exact trivial : _); have mf := (by first | exact (za HM5).f | exact trivial : _); have ml := (by first | exact (za HM5).lt | exact trivial : _); have Hv := hide hv; have Hu := hide hu; clear hv hu hb5; unfold fracV))
  all_goals
   go_wp2_with fail
   go_meet
  ·exact vD (za Hv) (za Hu) (za HK5)
  ·exact qz (za HM5) (by omega) (by simp) (za Hv) (za Hu) (za HK5)
  ·exact qz (za HM5) (by omega) ml4 (za Hv) (za Hu) (za HK5)
  ·exact qz (za HM5) (by omega) ml4 (za Hv) (za Hu) (za HK5)
 case rest =>
 obtain ⟨g, vp, vc, up, uc, rfl, hM, hv, hu, hK⟩ := hcut
 have hC := (za HC2).below hK
 have c0 := hC.n0
 have c1 := hC.n1
 have c2 := hC.n2
 have cf := hC.f
 have cl := hC.lt
 have g0 := hM.m0
 have g1 := hM.m1
 have g2 := hM.m2
 have g3 := hM.m3
 have HWc := hide ((za HW2).trans (hK.mono (za HW2).size))
 have HCc := hide hC
 have Hv := hide hv
 have Hu := hide hu
 have HTc := hide ((za HT2).below hK)
 clear hC hM hv hu hK a20 a21 a22 b20 b21 b22 HKd HKa HA2 HB2 HC2 HT2 H1 H2 HA HB HC HW
 go_wp2_with fail
 obtain ⟨o, ho⟩ : ∃ o, zm (plusW (n1, x1 * y2) (!n2, x2 * y1)).1 (plusW (n1, x1 * y2) (!n2, x2 * y1)).2 (y1 * y2) = o := ⟨_, rfl⟩
 refine (js _ _ _ _ _ wc (za Hv) (za Hu) hyy (by omega) (by omega) (za HTc)).mono ?_
 rintro e w6 ⟨rfl, hb6⟩
 have hC := (za HCc).below hb6
 clear c0 c1 c2 cf cl g0 g1 g2 g3
 have c0 := hC.n0
 have c1 := hC.n1
 have c2 := hC.n2
 have cf := hC.f
 have cl := hC.lt
 have HC6 := hide hC
 have HW6 := hide ((za HWc).trans (hb6.mono (za HWc).size))
 clear hC hb6
 rw [ho]
 have Ho := hide ho
 clear ho
 cases o with
 | none =>
  unfold zk numO noNum numV
  go_wp2
  refine bodyPost_ret (v := ansC none 3) (by simp [results, Tryd.results60, go_sem, c0, c1, c2, cl, ansC, numO, noNum, numV]) rfl ⟨by rw [za Ho]; rfl, ?_⟩
  refine (za HW6).trans ?_
  repeat (first | exact Below.refl _ _ | refine Below.setCell ?_ (by first | exact Nat.le_refl _ | exact Nat.le_succ _ | (simp; done) | (simp; omega)) _ | refine Below.alloc ?_ (by first | exact Nat.le_refl _ | (simp; done) | (simp; omega)) _)
 | some p =>
  obtain ⟨pn, pu, pd⟩ := p
  unfold zk numO numV
  go_wp2
  refine bodyPost_ret (v := ansC (some (pn, pu, pd)) 0) (by simp [results, Tryd.results60, go_sem, c0, c1, c2, cl, ansC, numO, numV]) rfl ⟨by rw [za Ho]; rfl, ?_⟩
  refine (za HW6).trans ?_
  repeat (first | exact Below.refl _ _ | refine Below.setCell ?_ (by first | exact Nat.le_refl _ | exact Nat.le_succ _ | (simp; done) | (simp; omega)) _ | refine Below.alloc ?_ (by first | exact Nat.le_refl _ | (simp; done) | (simp; omega)) _)
theorem vV (n1 n2 : Bool) (x1 y1 x2 y2 : Nat) (w : World) (hok1 : okM n1 (txl 10 x1) (txl 10 y1) = true) (hok2 : okM n2 (txl 10 x2) (txl 10 y2) = true) (hT : Tens w) :
  Calls Tryd.prog 60 #[.agg #[.bool n1, .string (dec x1), .string (dec y1)], .agg #[.bool n2, .string (dec x2), .string (dec y2)], .func (.func 63) #[] #[]] w fun e w' => e = .returned (ansC (zm ((n1 != n2, x1 * x2) : Bool × Nat).1 ((n1 != n2, x1 * x2) : Bool × Nat).2 (y1 * y2)) (qp (zm ((n1 != n2, x1 * x2) : Bool × Nat).1 ((n1 != n2, x1 * x2) : Bool × Nat).2 (y1 * y2)))) ∧ Below w.heap.size w w' := by
 have hp1 := zH hok1
 have hp2 := zH hok2
 have sx1 : (dec x1).size ≤ 60 := by rw [zj]; exact hp1.2.2.1
 have sy1 : (dec y1).size ≤ 60 := by rw [zj]; exact hp1.2.2.2.1
 have sx2 : (dec x2).size ≤ 60 := by rw [zj]; exact hp2.2.2.1
 have sy2 : (dec y2).size ≤ 60 := by rw [zj]; exact hp2.2.2.2.1
 have hy1 : y1 ≠ 0 := by have := hp1.2.2.2.2.1; rwa [zn] at this
 have hy2 : y2 ≠ 0 := by have := hp2.2.2.2.2.1; rwa [zn] at this
 have hyy : 0 < y1 * y2 := Nat.mul_pos (by omega) (by omega)
 have gx1 := qq sx1
 have gy1 := qq sy1
 have gx2 := qq sx2
 have gy2 := qq sy2
 have gp1 := zJ sx1 sy2
 have gp2 := zJ sx2 sy1
 have gpq := zJ sy1 sy2
 have gR : (gr ((n1 != n2, x1 * x2) : Bool × Nat).2).length ≤ 121 := (by exact zJ sx1 sx2)
 have h1 := fun w hT => zN n1 (txl 10 x1) (txl 10 y1) w (by have := hp1.2.2.1; omega) (by have := hp1.2.2.2.1; omega) hT
 have h2 := fun w hT => zN n2 (txl 10 x2) (txl 10 y2) w (by have := hp2.2.2.1; omega) (by have := hp2.2.2.2.1; omega) hT
 rw [hok1] at h1
 rw [hok2] at h2
 have H1 : Hid (∀ w, Tens w → Calls Tryd.prog 9 #[.agg #[.bool n1, .string (dec x1), .string (dec y1)]] w fun e w' => e = .returned (.bool true) ∧ Below w.heap.size w w') := h1
 have H2 : Hid (∀ w, Tens w → Calls Tryd.prog 9 #[.agg #[.bool n2, .string (dec x2), .string (dec y2)]] w fun e w' => e = .returned (.bool true) ∧ Below w.heap.size w w') := h2
 have HT := hide hT
 clear h1 h2 hp1 hp2 hok1 hok2 hT hy1 hy2
 have HW := hide ((((Below.refl w.heap.size w).alloc (Nat.le_refl _) (.cells #[.bool n1, .string (dec x1), .string (dec y1)] 26)).alloc (by simp) (.cells #[.bool n2, .string (dec x2), .string (dec y2)] 26)).alloc (by simp; omega) (.cells #[.bool false, .string ⟨#[]⟩, .string ⟨#[]⟩] 26))
 have HA := hide (((AtC.new w #[.bool n1, .string (dec x1), .string (dec y1)] 26).alloc (.cells #[.bool n2, .string (dec x2), .string (dec y2)] 26)).alloc (.cells #[.bool false, .string ⟨#[]⟩, .string ⟨#[]⟩] 26))
 have HB := hide ((AtC.new (w.alloc (.cells #[.bool n1, .string (dec x1), .string (dec y1)] 26)) #[.bool n2, .string (dec x2), .string (dec y2)] 26).alloc (.cells #[.bool false, .string ⟨#[]⟩, .string ⟨#[]⟩] 26))
 have HC := hide (AtC.new ((w.alloc (.cells #[.bool n1, .string (dec x1), .string (dec y1)] 26)).alloc (.cells #[.bool n2, .string (dec x2), .string (dec y2)] 26)) #[.bool false, .string ⟨#[]⟩, .string ⟨#[]⟩] 26)
 rw [World.size_alloc] at HB
 rw [World.size_alloc, World.size_alloc] at HC
 go_enter Tryd.func60, Tryd.ntmps60
 go_wp2_with fail
 refine (za H1 _ ((za HT).below (za HW))).mono ?_
 rintro e w1 ⟨rfl, hb1⟩
 have hA1 := (za HA).below hb1
 have hB1 := (za HB).below hb1
 have HC1 := hide ((za HC).below hb1)
 have a10 : w1.cell? ⟨w.heap.size, 0, none⟩ = some (.bool n1) := hA1.c 0
 have a11 : w1.cell? ⟨w.heap.size, 1, none⟩ = some (.string (dec x1)) := hA1.c 1
 have a12 : w1.cell? ⟨w.heap.size, 2, none⟩ = some (.string (dec y1)) := hA1.c 2
 have b10 : w1.cell? ⟨w.heap.size + 1, 0, none⟩ = some (.bool n2) := hB1.c 0
 have b11 : w1.cell? ⟨w.heap.size + 1, 1, none⟩ = some (.string (dec x2)) := hB1.c 1
 have b12 : w1.cell? ⟨w.heap.size + 1, 2, none⟩ = some (.string (dec y2)) := hB1.c 2
 have HA1 := hide hA1
 have HB1 := hide hB1
 have HW1 := hide ((za HW).trans (hb1.mono (za HW).size))
 clear hb1 hA1 hB1
 go_wp2_with fail
 refine (za H2 w1 ((za HT).below (za HW1))).mono ?_
 rintro e w2 ⟨rfl, hb2⟩
 have hA2 := (za HA1).below hb2
 have hB2 := (za HB1).below hb2
 have HC2 := hide ((za HC1).below hb2)
 have a20 : w2.cell? ⟨w.heap.size, 0, none⟩ = some (.bool n1) := hA2.c 0
 have a21 : w2.cell? ⟨w.heap.size, 1, none⟩ = some (.string (dec x1)) := hA2.c 1
 have a22 : w2.cell? ⟨w.heap.size, 2, none⟩ = some (.string (dec y1)) := hA2.c 2
 have b20 : w2.cell? ⟨w.heap.size + 1, 0, none⟩ = some (.bool n2) := hB2.c 0
 have b21 : w2.cell? ⟨w.heap.size + 1, 1, none⟩ = some (.string (dec x2)) := hB2.c 1
 have b22 : w2.cell? ⟨w.heap.size + 1, 2, none⟩ = some (.string (dec y2)) := hB2.c 2
 have HA2 := hide hA2
 have HB2 := hide hB2
 have HW2 := hide ((za HW1).trans (hb2.mono (za HW1).size))
 have HKd := hide (Below.refl w2.heap.size w2).drew
 have HKa := hide (ze (Below.refl w2.heap.size w2) (Nat.le_refl _) kN).drew
 have HT2 := hide ((za HT).below (za HW2))
 have hs2 := (za HC2).lt
 clear hb2 hA2 hB2 HA1 HB1 HC1 a10 a11 a12 b10 b11 b12
 go_upto_region 3 with fail
 go_cut [8] from 11 (fun s8 wx => Made w2 ((n1 != n2, x1 * x2) : Bool × Nat) (y1 * y2) s8 wx)
 case first =>
  go_region_held3 (fun w' => w'.cell? ⟨w.heap.size, 0, none⟩ = some (.bool n1) ∧ w'.cell? ⟨w.heap.size, 1, none⟩ = some (.string (dec x1)) ∧ w'.cell? ⟨w.heap.size, 2, none⟩ = some (.string (dec y1)) ∧ w'.cell? ⟨w.heap.size + 1, 0, none⟩ = some (.bool n2) ∧ w'.cell? ⟨w.heap.size + 1, 1, none⟩ = some (.string (dec x2)) ∧ w'.cell? ⟨w.heap.size + 1, 2, none⟩ = some (.string (dec y2))) (((try dsimp only); (repeat' apply And.intro) <;> (first | with_reducible assumption | (rw [far4 (by first | (simp; done) | (simp; omega) | omega)]; with_reducible assumption) | with_reducible exact (za HA2).drew.n0 | with_reducible exact (za HA2).drew.n1 | with_reducible exact (za HA2).drew.n2 | with_reducible exact (za HB2).drew.n0 | with_reducible exact (za HB2).drew.n1 | with_reducible exact (za HB2).drew.n2 | with_reducible exact ((za HA2).alloc _).drew.n0 | with_reducible exact ((za HA2).alloc _).drew.n1 | with_reducible exact ((za HA2).alloc _).drew.n2 | with_reducible exact ((za HB2).alloc _).drew.n0 | with_reducible exact ((za HB2).alloc _).drew.n1 | with_reducible exact ((za HB2).alloc _).drew.n2 | with_reducible exact ((za HA3).alloc _).n0 | with_reducible exact ((za HA3).alloc _).n1 | with_reducible exact ((za HA3).alloc _).n2 | with_reducible exact ((za HB3).alloc _).n0 | with_reducible exact ((za HB3).alloc _).n1 | with_reducible exact ((za HB3).alloc _).n2 | with_reducible exact ((za HA4).alloc _).n0 | with_reducible exact ((za HA4).alloc _).n1 | with_reducible exact ((za HA4).alloc _).n2 | with_reducible exact ((za HB4).alloc _).n0 | with_reducible exact ((za HB4).alloc _).n1 | with_reducible exact ((za HB4).alloc _).n2 | with_reducible exact ((za HA5).alloc _).n0 | with_reducible exact ((za HA5).alloc _).n1 | with_reducible exact ((za HA5).alloc _).n2 | with_reducible exact ((za HB5).alloc _).n0 | with_reducible exact ((za HB5).alloc _).n1 | with_reducible exact ((za HB5).alloc _).n2 | (rw [far4 (by first | (simp; done) | (simp; omega) | omega)]; with_reducible exact ((za HA5).alloc _).n0) | (rw [far4 (by first | (simp; done) | (simp; omega) | omega)]; with_reducible exact ((za HA5).alloc _).n1) | (rw [far4 (by first | (simp; done) | (simp; omega) | omega)]; with_reducible exact ((za HA5).alloc _).n2) | (rw [far4 (by first | (simp; done) | (simp; omega) | omega)]; with_reducible exact ((za HB5).alloc _).n0) | (rw [far4 (by first | (simp; done) | (simp; omega) | omega)]; with_reducible exact ((za HB5).alloc _).n1) | (rw [far4 (by first | (simp; done) | (simp; omega) | omega)]; with_reducible exact ((za HB5).alloc _).n2)))) (first | (go_at_call_of 106 (dec x1); refine (qe n1 x1 y1 _ sx1 sy1 (by first | exact (za HT2).below (za HKd) | exact (za HT2).below (za HKa))).mono ?_; rintro e w3 ⟨⟨v, u, rfl, hv, hu⟩, hb3⟩; obtain ⟨vp1, vc1, rfl⟩ := zd hv; obtain ⟨up1, uc1, rfl⟩ := zd hu; have HK3 : Hid (Below w2.heap.size w2 w3) := (by first | exact (za HKd).trans (hb3.mono (za HKd).size) | exact (za HKa).trans (hb3.mono (za HKa).size)); have k3 := (za HK3).size; have HM3 := (by first | exact hide ((AtC.new w2 #[.bool false, .slice none 0 0, .bool false, .slice none 0 0] 128).drew.below hb3) | exact trivial : _); have HA3 := hide ((za HA2).below (za HK3)); have HB3 := hide ((za HB2).below (za HK3)); have a30 : w3.cell? ⟨w.heap.size, 0, none⟩ = some (.bool n1) := (za HA3).c 0; have a31 : w3.cell? ⟨w.heap.size, 1, none⟩ = some (.string (dec x1)) := (za HA3).c 1; have a32 : w3.cell? ⟨w.heap.size, 2, none⟩ = some (.string (dec y1)) := (za HA3).c 2; have b30 : w3.cell? ⟨w.heap.size + 1, 0, none⟩ = some (.bool n2) := (za HB3).c 0; have b31 : w3.cell? ⟨w.heap.size + 1, 1, none⟩ = some (.string (dec x2)) := (za HB3).c 1; have b32 : w3.cell? ⟨w.heap.size + 1, 2, none⟩ = some (.string (dec y2)) := (za HB3).c 2; have Hv1 := hide hv.nat; have Hu1 := hide hu.nat; clear hv hu hb3; unfold fracV) | (go_at_call_of 106 (dec x2); refine (qe n2 x2 y2 _ sx2 sy2 (by first | exact (za HT2).below (za HK3) | exact (za HT2).below (ze (za HK3) (Nat.le_refl _) _))).mono ?_; rintro e w4 ⟨⟨v, u, rfl, hv, hu⟩, hb4⟩; obtain ⟨vp2, vc2, rfl⟩ := zd hv; obtain ⟨up2, uc2, rfl⟩ := zd hu; have HK34 : Hid (Below w3.heap.size w3 w4) := (by first | exact hb4 | exact (ze (Below.refl _ _) (Nat.le_refl _) _).trans (hb4.mono (ze (Below.refl _ _) (Nat.le_refl _) _).size)); have HK4 := hide ((za HK3).trans ((za HK34).mono (za HK3).size)); have k4 := (za HK34).size; have HM4 := (by first | exact hide ((za HM3).below (za HK34)) | exact hide ((AtC.new w3 #[.bool false, .slice none 0 0, .bool false, .slice none 0 0] 128).below hb4) | exact trivial : _); have HA4 := hide ((za HA2).below (za HK4)); have HB4 := hide ((za HB2).below (za HK4)); have a40 : w4.cell? ⟨w.heap.size, 0, none⟩ = some (.bool n1) := (za HA4).c 0; have a41 : w4.cell? ⟨w.heap.size, 1, none⟩ = some (.string (dec x1)) := (za HA4).c 1; have a42 : w4.cell? ⟨w.heap.size, 2, none⟩ = some (.string (dec y1)) := (za HA4).c 2; have b40 : w4.cell? ⟨w.heap.size + 1, 0, none⟩ = some (.bool n2) := (za HB4).c 0; have b41 : w4.cell? ⟨w.heap.size + 1, 1, none⟩ = some (.string (dec x2)) := (za HB4).c 1; have b42 : w4.cell? ⟨w.heap.size + 1, 2, none⟩ = some (.string (dec y2)) := (za HB4).c 2; have Hv1' := hide (zb (za Hv1) (za HK34)); have Hu1' := hide (zb (za Hu1) (za HK34)); have Hv2 := hide hv.nat; have Hu2 := hide hu.nat; clear hv hu hb4; unfold fracV) | (go_at_call 105; refine (vO n1 n2 (.slice vp1 (gr x1).length vc1) (.slice up1 (gr y1).length uc1) (.slice vp2 (gr x2).length vc2) (.slice up2 (gr y2).length uc2) x1 y1 x2 y2 _ (by first | exact za Hv1' | exact zb (za Hv1') (ze (Below.refl _ _) (Nat.le_refl _) _)) (by first | exact za Hu1' | exact zb (za Hu1') (ze (Below.refl _ _) (Nat.le_refl _) _)) (by first | exact za Hv2 | exact zb (za Hv2) (ze (Below.refl _ _) (Nat.le_refl _) _)) (by first | exact za Hu2 | exact zb (za Hu2) (ze (Below.refl _ _) (Nat.le_refl _) _)) (by omega) (by omega) (by omega) (by omega)).mono ?_; rintro e w5 ⟨⟨v, u, rfl, hv, hu⟩, hb5⟩; obtain ⟨vp, vc, rfl⟩ := zd hv; obtain ⟨up, uc, rfl⟩ := zd hu; have HK45 : Hid (Below w4.heap.size w4 w5) := (by first | exact hb5 | exact (ze (Below.refl _ _) (Nat.le_refl _) _).trans (hb5.mono (ze (Below.refl _ _) (Nat.le_refl _) _).size)); have HK5 := hide ((za HK4).trans ((za HK45).mono (za HK4).size)); have k5 := (za HK45).size; have ml4 := (by first | exact (za HM4).lt | exact trivial : _); have HM5 := (by first | exact hide ((za HM4).below (za HK45)) | exact hide ((AtC.new w4 #[.bool false, .slice none 0 0, .bool false, .slice none 0 0] 128).below hb5) | exact trivial : _); have HA5 := hide ((za HA2).below (za HK5)); have HB5 := hide ((za HB2).below (za HK5)); have a50 : w5.cell? ⟨w.heap.size, 0, none⟩ = some (.bool n1) := (za HA5).c 0; have a51 : w5.cell? ⟨w.heap.size, 1, none⟩ = some (.string (dec x1)) := (za HA5).c 1; have a52 : w5.cell? ⟨w.heap.size, 2, none⟩ = some (.string (dec y1)) := (za HA5).c 2; have b50 : w5.cell? ⟨w.heap.size + 1, 0, none⟩ = some (.bool n2) := (za HB5).c 0; have b51 : w5.cell? ⟨w.heap.size + 1, 1, none⟩ = some (.string (dec x2)) := (za HB5).c 1; have b52 : w5.cell? ⟨w.heap.size + 1, 2, none⟩ = some (.string (dec y2)) := (za HB5).c 2; have m0 := (by first | exact (za HM5).m0 | exact trivial : _); have m1 := (by first | exact (za HM5).m1 | exact trivial : _); have m2 := (by first | exact (za HM5).m2 | exact trivial : _); have m3 := (by first | exact (za HM5).m3 | exact trivial : _); have mf := (by first | exact (za HM5).f | exact trivial : _); have ml := (by first | exact (za HM5).lt | exact trivial : _); have Hv := hide hv; have Hu := hide hu; clear hv hu hb5; unfold fracV))
  all_goals
   go_wp2_with fail
   go_meet
  ·exact vD (za Hv) (za Hu) (za HK5)
  ·exact qz (za HM5) (by omega) (by simp) (za Hv) (za Hu) (za HK5)
  ·exact qz (za HM5) (by omega) ml4 (za Hv) (za Hu) (za HK5)
  ·exact qz (za HM5) (by omega) ml4 (za Hv) (za Hu) (za HK5)
 case rest =>
 obtain ⟨g, vp, vc, up, uc, rfl, hM, hv, hu, hK⟩ := hcut
 have hC := (za HC2).below hK
 have c0 := hC.n0
 have c1 := hC.n1
 have c2 := hC.n2
 have cf := hC.f
 have cl := hC.lt
 have g0 := hM.m0
 have g1 := hM.m1
 have g2 := hM.m2
 have g3 := hM.m3
 have HWc := hide ((za HW2).trans (hK.mono (za HW2).size))
 have HCc := hide hC
 have Hv := hide hv
 have Hu := hide hu
 have HTc := hide ((za HT2).below hK)
 clear hC hM hv hu hK a20 a21 a22 b20 b21 b22 HKd HKa HA2 HB2 HC2 HT2 H1 H2 HA HB HC HW
 go_wp2_with fail
 obtain ⟨o, ho⟩ : ∃ o, zm ((n1 != n2, x1 * x2) : Bool × Nat).1 ((n1 != n2, x1 * x2) : Bool × Nat).2 (y1 * y2) = o := ⟨_, rfl⟩
 refine (js _ _ _ _ _ wc (za Hv) (za Hu) hyy (by omega) (by omega) (za HTc)).mono ?_
 rintro e w6 ⟨rfl, hb6⟩
 have hC := (za HCc).below hb6
 clear c0 c1 c2 cf cl g0 g1 g2 g3
 have c0 := hC.n0
 have c1 := hC.n1
 have c2 := hC.n2
 have cf := hC.f
 have cl := hC.lt
 have HC6 := hide hC
 have HW6 := hide ((za HWc).trans (hb6.mono (za HWc).size))
 clear hC hb6
 rw [ho]
 have Ho := hide ho
 clear ho
 cases o with
 | none =>
  unfold zk numO noNum numV
  go_wp2
  refine bodyPost_ret (v := ansC none 3) (by simp [results, Tryd.results60, go_sem, c0, c1, c2, cl, ansC, numO, noNum, numV]) rfl ⟨by rw [za Ho]; rfl, ?_⟩
  refine (za HW6).trans ?_
  repeat (first | exact Below.refl _ _ | refine Below.setCell ?_ (by first | exact Nat.le_refl _ | exact Nat.le_succ _ | (simp; done) | (simp; omega)) _ | refine Below.alloc ?_ (by first | exact Nat.le_refl _ | (simp; done) | (simp; omega)) _)
 | some p =>
  obtain ⟨pn, pu, pd⟩ := p
  unfold zk numO numV
  go_wp2
  refine bodyPost_ret (v := ansC (some (pn, pu, pd)) 0) (by simp [results, Tryd.results60, go_sem, c0, c1, c2, cl, ansC, numO, numV]) rfl ⟨by rw [za Ho]; rfl, ?_⟩
  refine (za HW6).trans ?_
  repeat (first | exact Below.refl _ _ | refine Below.setCell ?_ (by first | exact Nat.le_refl _ | exact Nat.le_succ _ | (simp; done) | (simp; omega)) _ | refine Below.alloc ?_ (by first | exact Nat.le_refl _ | (simp; done) | (simp; omega)) _)
theorem jF (neg : Bool) (u d : Nat) (w : World) (hsu : (dec u).size ≤ 50000) (hsd : (dec d).size ≤ 50000) :
  Calls Tryd.prog 107 #[.bool neg, .string (dec u), .string (dec d)] w fun e w' => e = .returned (ansC (zm neg u d) (qp (zm neg u d))) ∧ Below w.heap.size w w' := by
 have HA := hide (AtC.new w #[.bool false, .string ⟨#[]⟩, .string ⟨#[]⟩] 26)
 have HW := hide ((Below.refl w.heap.size w).alloc (Nat.le_refl _) (.cells #[.bool false, .string ⟨#[]⟩, .string ⟨#[]⟩] 26))
 go_enter Tryd.func107, Tryd.ntmps107
 go_wp2_with fail
 have h := vA neg u d (w.alloc (.cells #[.bool false, .string ⟨#[]⟩, .string ⟨#[]⟩] 26)) hsu hsd
 refine h.mono ?_
 clear h
 rintro e w1 ⟨rfl, hb1⟩
 have hA := (za HA).below hb1
 have c0 : w1.cell? ⟨w.heap.size, 0, none⟩ = some (.bool false) := hA.c 0
 have c1 : w1.cell? ⟨w.heap.size, 1, none⟩ = some (.string ⟨#[]⟩) := hA.c 1
 have c2 : w1.cell? ⟨w.heap.size, 2, none⟩ = some (.string ⟨#[]⟩) := hA.c 2
 have cf := hA.f
 have hs := hA.lt
 have Hfin := hide ((za HW).trans (hb1.mono (za HW).size))
 clear hA hb1
 cases hlo : zm neg u d with
 | none =>
  have Hlo := hide hlo
  clear hlo
  rw [show zk none = .tuple #[.agg #[.bool false, .string ⟨#[]⟩, .string ⟨#[]⟩], .bool false] from rfl]
  go_wp2
  have hcc := And.intro c0 (And.intro c1 (And.intro c2 hs))
  refine bodyPost_ret (v := ansC none 3) (by simp [results, Tryd.results107, go_sem, hcc, ansC, numO, noNum, numV]) rfl ⟨by rw [za Hlo]; rfl, ?_⟩
  refine (za Hfin).trans ?_
  repeat (first | exact Below.refl _ _ | refine Below.setCell ?_ (by first | exact Nat.le_refl _ | exact Nat.le_succ _ | (simp; done) | (simp; omega)) _ | refine Below.alloc ?_ (by first | exact Nat.le_refl _ | (simp; done) | (simp; omega)) _)
 | some r =>
  obtain ⟨nn, x, y⟩ := r
  have Hlo := hide hlo
  clear hlo
  rw [show zk (some (nn, x, y)) = .tuple #[.agg #[.bool nn, .string (dec x), .string (dec y)], .bool true] from rfl]
  go_wp2
  have hcc := And.intro c0 (And.intro c1 (And.intro c2 hs))
  refine bodyPost_ret (v := ansC (some (nn, x, y)) 0) (by simp [results, Tryd.results107, go_sem, hcc, ansC, numO, numV]) rfl ⟨by rw [za Hlo]; rfl, ?_⟩
  refine (za Hfin).trans ?_
  repeat (first | exact Below.refl _ _ | refine Below.setCell ?_ (by first | exact Nat.le_refl _ | exact Nat.le_succ _ | (simp; done) | (simp; omega)) _ | refine Below.alloc ?_ (by first | exact Nat.le_refl _ | (simp; done) | (simp; omega)) _)
theorem QB (neg : Bool) (us ds : ByteArray) (w : World) :
  Calls Tryd.prog 104 #[.agg #[.bool neg, .string us, .string ds]] w fun e w' => e = .returned (.agg #[.bool (!neg && us.toList != [48]), .string us, .string ds]) ∧ Below w.heap.size w w' := by
 have HW := hide (((Below.refl w.heap.size w).alloc (Nat.le_refl _) (.cells #[.bool neg, .string us, .string ds] 26)).alloc (by simp) (.cells #[.bool false, .string ⟨#[]⟩, .string ⟨#[]⟩] 26))
 cases neg with
 | true =>
  go_enter Tryd.func104, Tryd.ntmps104
  go_wp2
  refine bodyPost_ret (v := .agg #[.bool false, .string us, .string ds]) (by simp [results, Tryd.results104, go_sem]) rfl ⟨rfl, ?_⟩
  refine (Below.refl _ _).trans ?_
  repeat (first | exact Below.refl _ _ | refine Below.setCell ?_ (by first | exact Nat.le_refl _ | exact Nat.le_succ _ | (simp; done) | (simp; omega)) _ | refine Below.alloc ?_ (by first | exact Nat.le_refl _ | (simp; done) | (simp; omega)) _)
 | false =>
  go_enter Tryd.func104, Tryd.ntmps104
  go_wp2
  refine bodyPost_ret (v := .agg #[.bool (us.toList != [48]), .string us, .string ds]) (by simp [results, Tryd.results104, go_sem]; cases h : (us.toList == [48]) <;> simp [bne, h]) rfl ⟨by simp, ?_⟩
  refine (Below.refl _ _).trans ?_
  repeat (first | exact Below.refl _ _ | refine Below.setCell ?_ (by first | exact Nat.le_refl _ | exact Nat.le_succ _ | (simp; done) | (simp; omega)) _ | refine Below.alloc ?_ (by first | exact Nat.le_refl _ | (simp; done) | (simp; omega)) _)
theorem jR (o : Option (Bool × Nat × Nat)) : ∃ n u d, numO o = .agg #[.bool n, .string u, .string d] := by
 cases o with
 | none => exact ⟨_, _, _, rfl⟩
 | some p => exact ⟨_, _, _, rfl⟩
theorem far3 {w : World} {b : Nat} {u0 u1 u2 : Value} {a : Addr} (h : b ≠ a.block) : (((w.setCell ⟨b, 0, none⟩ u0).setCell ⟨b, 1, none⟩ u1).setCell ⟨b, 2, none⟩ u2).cell? a = w.cell? a := by
 rw [World.cell?_setCell_far _ _ _ _ h, World.cell?_setCell_far _ _ _ _ h, World.cell?_setCell_far _ _ _ _ h]
theorem qt {x y : Nat} (hx : (dec x).size ≤ 60) (hy : (dec y).size ≤ 60) : (dec (x * y)).size ≤ 120 := by
 rw [zj]; exact qb (by omega) (by omega) (ve hx hy)
theorem Qv {x y : Nat} (hx : (dec x).size ≤ 120) (hy : (dec y).size ≤ 120) : (dec (x + y)).size ≤ 121 := by
 have h1 := z8 x
 have h2 := z8 y
 have h3 : 10 ^ (dec x).size ≤ 10 ^ 120 := Nat.pow_le_pow_right (by omega) hx
 have h4 : 10 ^ (dec y).size ≤ 10 ^ 120 := Nat.pow_le_pow_right (by omega) hy
 rw [zj]
 apply qb (by omega) (by omega)
 have e : (10 : Nat) ^ 121 = 10 * 10 ^ 120 := by rw [Nat.pow_succ, Nat.mul_comm]
 rw [e]
 generalize (10 : Nat) ^ 120 = p at *
 omega
theorem kG (n1 n2 : Bool) (x1 y1 x2 y2 : Nat) (w : World) (sx1 : (dec x1).size ≤ 60) (sy1 : (dec y1).size ≤ 60) (sx2 : (dec x2).size ≤ 60) (sy2 : (dec y2).size ≤ 60) (hn : n1 = n2) :
  Calls Tryd.prog 62 #[.agg #[.bool n1, .string (dec x1), .string (dec y1)], .agg #[.bool n2, .string (dec x2), .string (dec y2)]] w fun e w' => e = .returned (ansC (zm n1 (x1 * y2 + x2 * y1) (y1 * y2)) (qp (zm n1 (x1 * y2 + x2 * y1) (y1 * y2)))) ∧ Below w.heap.size w w' := by
 have hb0 : (n1 == n2) = true := by rw [hn]; simp
 have d1 := qt sx1 sy2
 have d2 := qt sx2 sy1
 have d3 := qt sy1 sy2
 have d4 := Qv d1 d2
 clear hn
 have HW := hide ((((Below.refl w.heap.size w).alloc (Nat.le_refl _) (.cells #[.bool n1, .string (dec x1), .string (dec y1)] 26)).alloc (by simp) (.cells #[.bool n2, .string (dec x2), .string (dec y2)] 26)).alloc (by simp; omega) (.cells #[.bool false, .string ⟨#[]⟩, .string ⟨#[]⟩] 26))
 have HA := hide (((AtC.new w #[.bool n1, .string (dec x1), .string (dec y1)] 26).alloc (.cells #[.bool n2, .string (dec x2), .string (dec y2)] 26)).alloc (.cells #[.bool false, .string ⟨#[]⟩, .string ⟨#[]⟩] 26))
 have HB := hide ((AtC.new (w.alloc (.cells #[.bool n1, .string (dec x1), .string (dec y1)] 26)) #[.bool n2, .string (dec x2), .string (dec y2)] 26).alloc (.cells #[.bool false, .string ⟨#[]⟩, .string ⟨#[]⟩] 26))
 have HC := hide (AtC.new ((w.alloc (.cells #[.bool n1, .string (dec x1), .string (dec y1)] 26)).alloc (.cells #[.bool n2, .string (dec x2), .string (dec y2)] 26)) #[.bool false, .string ⟨#[]⟩, .string ⟨#[]⟩] 26)
 rw [World.size_alloc] at HB
 rw [World.size_alloc, World.size_alloc] at HC
 go_enter Tryd.func62, Tryd.ntmps62
 go_wp2_with fail
 have h := qx x1 y2 (((w.alloc (.cells #[.bool n1, .string (dec x1), .string (dec y1)] 26)).alloc (.cells #[.bool n2, .string (dec x2), .string (dec y2)] 26)).alloc (.cells #[.bool false, .string ⟨#[]⟩, .string ⟨#[]⟩] 26)) (by omega) (by omega)
 refine h.mono ?_
 clear h
 rintro e w1 ⟨rfl, hb⟩
 have HSw1 := hide (((Below.refl (((w.alloc (.cells #[.bool n1, .string (dec x1), .string (dec y1)] 26)).alloc (.cells #[.bool n2, .string (dec x2), .string (dec y2)] 26)).alloc (.cells #[.bool false, .string ⟨#[]⟩, .string ⟨#[]⟩] 26)).heap.size (((w.alloc (.cells #[.bool n1, .string (dec x1), .string (dec y1)] 26)).alloc (.cells #[.bool n2, .string (dec x2), .string (dec y2)] 26)).alloc (.cells #[.bool false, .string ⟨#[]⟩, .string ⟨#[]⟩] 26)))).trans (hb.mono ((Below.refl (((w.alloc (.cells #[.bool n1, .string (dec x1), .string (dec y1)] 26)).alloc (.cells #[.bool n2, .string (dec x2), .string (dec y2)] 26)).alloc (.cells #[.bool false, .string ⟨#[]⟩, .string ⟨#[]⟩] 26)).heap.size (((w.alloc (.cells #[.bool n1, .string (dec x1), .string (dec y1)] 26)).alloc (.cells #[.bool n2, .string (dec x2), .string (dec y2)] 26)).alloc (.cells #[.bool false, .string ⟨#[]⟩, .string ⟨#[]⟩] 26)))).size))
 clear hb
 have hA := (za HA).below (za HSw1)
 have hB := (za HB).below (za HSw1)
 have hC := (za HC).below (za HSw1)
 have a0 : (w1).cell? ⟨w.heap.size, 0, none⟩ = some (.bool n1) := hA.c 0
 have a1 : (w1).cell? ⟨w.heap.size, 1, none⟩ = some (.string (dec x1)) := hA.c 1
 have a2 : (w1).cell? ⟨w.heap.size, 2, none⟩ = some (.string (dec y1)) := hA.c 2
 have b0 : (w1).cell? ⟨w.heap.size + 1, 0, none⟩ = some (.bool n2) := hB.c 0
 have b1 : (w1).cell? ⟨w.heap.size + 1, 1, none⟩ = some (.string (dec x2)) := hB.c 1
 have b2 : (w1).cell? ⟨w.heap.size + 1, 2, none⟩ = some (.string (dec y2)) := hB.c 2
 have c0 : (w1).cell? ⟨w.heap.size + 1 + 1, 0, none⟩ = some (.bool false) := hC.c 0
 have c1 : (w1).cell? ⟨w.heap.size + 1 + 1, 1, none⟩ = some (.string ⟨#[]⟩) := hC.c 1
 have c2 : (w1).cell? ⟨w.heap.size + 1 + 1, 2, none⟩ = some (.string ⟨#[]⟩) := hC.c 2
 have cf := hC.f
 have hs := hC.lt
 clear hA hB hC
 go_wp2_with fail
 have h := qx x2 y1 w1 (by omega) (by omega)
 refine h.mono ?_
 clear h
 rintro e w2 ⟨rfl, hb⟩
 have HSw2 := hide (((za HSw1)).trans (hb.mono ((za HSw1)).size))
 clear hb
 clear a0 a1 a2 b0 b1 b2 c0 c1 c2 cf hs
 have hA := (za HA).below (za HSw2)
 have hB := (za HB).below (za HSw2)
 have hC := (za HC).below (za HSw2)
 have a0 : (w2).cell? ⟨w.heap.size, 0, none⟩ = some (.bool n1) := hA.c 0
 have a1 : (w2).cell? ⟨w.heap.size, 1, none⟩ = some (.string (dec x1)) := hA.c 1
 have a2 : (w2).cell? ⟨w.heap.size, 2, none⟩ = some (.string (dec y1)) := hA.c 2
 have b0 : (w2).cell? ⟨w.heap.size + 1, 0, none⟩ = some (.bool n2) := hB.c 0
 have b1 : (w2).cell? ⟨w.heap.size + 1, 1, none⟩ = some (.string (dec x2)) := hB.c 1
 have b2 : (w2).cell? ⟨w.heap.size + 1, 2, none⟩ = some (.string (dec y2)) := hB.c 2
 have c0 : (w2).cell? ⟨w.heap.size + 1 + 1, 0, none⟩ = some (.bool false) := hC.c 0
 have c1 : (w2).cell? ⟨w.heap.size + 1 + 1, 1, none⟩ = some (.string ⟨#[]⟩) := hC.c 1
 have c2 : (w2).cell? ⟨w.heap.size + 1 + 1, 2, none⟩ = some (.string ⟨#[]⟩) := hC.c 2
 have cf := hC.f
 have hs := hC.lt
 clear hA hB hC
 go_wp2_with fail
 have h := qx y1 y2 w2 (by omega) (by omega)
 refine h.mono ?_
 clear h
 rintro e w3 ⟨rfl, hb⟩
 have HSw3 := hide (((za HSw2)).trans (hb.mono ((za HSw2)).size))
 clear hb
 clear a0 a1 a2 b0 b1 b2 c0 c1 c2 cf hs
 have hA := (za HA).below (za HSw3)
 have hB := (za HB).below (za HSw3)
 have hC := (za HC).below (za HSw3)
 have a0 : (w3).cell? ⟨w.heap.size, 0, none⟩ = some (.bool n1) := hA.c 0
 have a1 : (w3).cell? ⟨w.heap.size, 1, none⟩ = some (.string (dec x1)) := hA.c 1
 have a2 : (w3).cell? ⟨w.heap.size, 2, none⟩ = some (.string (dec y1)) := hA.c 2
 have b0 : (w3).cell? ⟨w.heap.size + 1, 0, none⟩ = some (.bool n2) := hB.c 0
 have b1 : (w3).cell? ⟨w.heap.size + 1, 1, none⟩ = some (.string (dec x2)) := hB.c 1
 have b2 : (w3).cell? ⟨w.heap.size + 1, 2, none⟩ = some (.string (dec y2)) := hB.c 2
 have c0 : (w3).cell? ⟨w.heap.size + 1 + 1, 0, none⟩ = some (.bool false) := hC.c 0
 have c1 : (w3).cell? ⟨w.heap.size + 1 + 1, 1, none⟩ = some (.string ⟨#[]⟩) := hC.c 1
 have c2 : (w3).cell? ⟨w.heap.size + 1 + 1, 2, none⟩ = some (.string ⟨#[]⟩) := hC.c 2
 have cf := hC.f
 have hs := hC.lt
 clear hA hB hC
 go_wp2
 go_region_held3 (fun w' => w'.cell? ⟨w.heap.size, 0, none⟩ = some (.bool n1)) ((first | with_reducible assumption | exact a0 | (rw [far3 (by first | (simp; done) | (simp; omega) | omega)]; with_reducible assumption))) (first | (go_at_call 58; refine (Qz (x1 * y2) (x2 * y1) _ (by omega) (by omega)).mono ?_; rintro e w4 ⟨rfl, hb4⟩; have hbb := (za HSw3).drew.trans (hb4.mono (za HSw3).drew.size); have HS4 := hide hbb; have a40 : w4.cell? ⟨w.heap.size, 0, none⟩ = some (.bool n1) := ((za HA).below hbb).c 0; clear hb4 hbb) | (go_at_call 107; refine (jF n1 (x1 * y2 + x2 * y1) (y1 * y2) _ (by omega) (by omega)).mono ?_; rintro e w5 ⟨rfl, hb5⟩; have hbb := (za HS4).trans (hb5.mono (za HS4).size); have HS5 := hide hbb; have hA := (za HA).below hbb; have hC := (za HC).below hbb; have a50 : w5.cell? ⟨w.heap.size, 0, none⟩ = some (.bool n1) := hA.c 0; have c50 : w5.cell? ⟨w.heap.size + 1 + 1, 0, none⟩ = some (.bool false) := hC.c 0; have c51 : w5.cell? ⟨w.heap.size + 1 + 1, 1, none⟩ = some (.string ⟨#[]⟩) := hC.c 1; have c52 : w5.cell? ⟨w.heap.size + 1 + 1, 2, none⟩ = some (.string ⟨#[]⟩) := hC.c 2; have cf5 := hC.f; have hs5 := hC.lt; obtain ⟨rn, ru, rd, hr⟩ := jR (zm n1 (x1 * y2 + x2 * y1) (y1 * y2)); have Hr := hide hr; unfold ansC; rw [hr]; clear hb5 hbb hA hC hr))
 go_wp2
 have hcc := And.intro c50 (And.intro c51 (And.intro c52 hs5))
 refine bodyPost_ret (v := .tuple #[.agg #[.bool rn, .string ru, .string rd], .int .i64 (qp (zm n1 (x1 * y2 + x2 * y1) (y1 * y2)))]) (by simp [results, Tryd.results62, go_sem, hcc]) rfl ⟨by unfold ansC; rw [za Hr], ?_⟩
 refine ((za HW).trans ((za HS5).mono (za HW).size)).trans ?_
 repeat (first | exact Below.refl _ _ | refine Below.setCell ?_ (by first | exact Nat.le_refl _ | exact Nat.le_succ _ | (simp; done) | (simp; omega)) _ | refine Below.alloc ?_ (by first | exact Nat.le_refl _ | (simp; done) | (simp; omega)) _)
theorem ZX (n1 n2 : Bool) (x1 y1 x2 y2 : Nat) (w : World) (sx1 : (dec x1).size ≤ 60) (sy1 : (dec y1).size ≤ 60) (sx2 : (dec x2).size ≤ 60) (sy2 : (dec y2).size ≤ 60) (hn : n1 ≠ n2) (hl : x2 * y1 ≤ x1 * y2) :
  Calls Tryd.prog 62 #[.agg #[.bool n1, .string (dec x1), .string (dec y1)], .agg #[.bool n2, .string (dec x2), .string (dec y2)]] w fun e w' => e = .returned (ansC (zm n1 (x1 * y2 - x2 * y1) (y1 * y2)) (qp (zm n1 (x1 * y2 - x2 * y1) (y1 * y2)))) ∧ Below w.heap.size w w' := by
 have hb0 : (n1 == n2) = false := by simp [hn]
 have hcm := ZE hl
 have hle : x2 * y1 ≤ x1 * y2 := by omega
 have d1 := qt sx1 sy2
 have d2 := qt sx2 sy1
 have d3 := qt sy1 sy2
 have dm : (dec (x1 * y2 - x2 * y1)).size ≤ 120 := Nat.le_trans (qJ (Nat.sub_le _ _)) (by omega)
 obtain ⟨cm, hcme⟩ : ∃ cm, cmpN (x1 * y2) (x2 * y1) = cm := ⟨_, rfl⟩
 rw [hcme] at hcm
 have Hcme := hide hcme
 clear hn hcme hl
 have HW := hide ((((Below.refl w.heap.size w).alloc (Nat.le_refl _) (.cells #[.bool n1, .string (dec x1), .string (dec y1)] 26)).alloc (by simp) (.cells #[.bool n2, .string (dec x2), .string (dec y2)] 26)).alloc (by simp; omega) (.cells #[.bool false, .string ⟨#[]⟩, .string ⟨#[]⟩] 26))
 have HA := hide (((AtC.new w #[.bool n1, .string (dec x1), .string (dec y1)] 26).alloc (.cells #[.bool n2, .string (dec x2), .string (dec y2)] 26)).alloc (.cells #[.bool false, .string ⟨#[]⟩, .string ⟨#[]⟩] 26))
 have HB := hide ((AtC.new (w.alloc (.cells #[.bool n1, .string (dec x1), .string (dec y1)] 26)) #[.bool n2, .string (dec x2), .string (dec y2)] 26).alloc (.cells #[.bool false, .string ⟨#[]⟩, .string ⟨#[]⟩] 26))
 have HC := hide (AtC.new ((w.alloc (.cells #[.bool n1, .string (dec x1), .string (dec y1)] 26)).alloc (.cells #[.bool n2, .string (dec x2), .string (dec y2)] 26)) #[.bool false, .string ⟨#[]⟩, .string ⟨#[]⟩] 26)
 rw [World.size_alloc] at HB
 rw [World.size_alloc, World.size_alloc] at HC
 go_enter Tryd.func62, Tryd.ntmps62
 go_wp2_with fail
 have h := qx x1 y2 (((w.alloc (.cells #[.bool n1, .string (dec x1), .string (dec y1)] 26)).alloc (.cells #[.bool n2, .string (dec x2), .string (dec y2)] 26)).alloc (.cells #[.bool false, .string ⟨#[]⟩, .string ⟨#[]⟩] 26)) (by omega) (by omega)
 refine h.mono ?_
 clear h
 rintro e w1 ⟨rfl, hb⟩
 have HSw1 := hide (((Below.refl (((w.alloc (.cells #[.bool n1, .string (dec x1), .string (dec y1)] 26)).alloc (.cells #[.bool n2, .string (dec x2), .string (dec y2)] 26)).alloc (.cells #[.bool false, .string ⟨#[]⟩, .string ⟨#[]⟩] 26)).heap.size (((w.alloc (.cells #[.bool n1, .string (dec x1), .string (dec y1)] 26)).alloc (.cells #[.bool n2, .string (dec x2), .string (dec y2)] 26)).alloc (.cells #[.bool false, .string ⟨#[]⟩, .string ⟨#[]⟩] 26)))).trans (hb.mono ((Below.refl (((w.alloc (.cells #[.bool n1, .string (dec x1), .string (dec y1)] 26)).alloc (.cells #[.bool n2, .string (dec x2), .string (dec y2)] 26)).alloc (.cells #[.bool false, .string ⟨#[]⟩, .string ⟨#[]⟩] 26)).heap.size (((w.alloc (.cells #[.bool n1, .string (dec x1), .string (dec y1)] 26)).alloc (.cells #[.bool n2, .string (dec x2), .string (dec y2)] 26)).alloc (.cells #[.bool false, .string ⟨#[]⟩, .string ⟨#[]⟩] 26)))).size))
 clear hb
 have hA := (za HA).below (za HSw1)
 have hB := (za HB).below (za HSw1)
 have hC := (za HC).below (za HSw1)
 have a0 : (w1).cell? ⟨w.heap.size, 0, none⟩ = some (.bool n1) := hA.c 0
 have a1 : (w1).cell? ⟨w.heap.size, 1, none⟩ = some (.string (dec x1)) := hA.c 1
 have a2 : (w1).cell? ⟨w.heap.size, 2, none⟩ = some (.string (dec y1)) := hA.c 2
 have b0 : (w1).cell? ⟨w.heap.size + 1, 0, none⟩ = some (.bool n2) := hB.c 0
 have b1 : (w1).cell? ⟨w.heap.size + 1, 1, none⟩ = some (.string (dec x2)) := hB.c 1
 have b2 : (w1).cell? ⟨w.heap.size + 1, 2, none⟩ = some (.string (dec y2)) := hB.c 2
 have c0 : (w1).cell? ⟨w.heap.size + 1 + 1, 0, none⟩ = some (.bool false) := hC.c 0
 have c1 : (w1).cell? ⟨w.heap.size + 1 + 1, 1, none⟩ = some (.string ⟨#[]⟩) := hC.c 1
 have c2 : (w1).cell? ⟨w.heap.size + 1 + 1, 2, none⟩ = some (.string ⟨#[]⟩) := hC.c 2
 have cf := hC.f
 have hs := hC.lt
 clear hA hB hC
 go_wp2_with fail
 have h := qx x2 y1 w1 (by omega) (by omega)
 refine h.mono ?_
 clear h
 rintro e w2 ⟨rfl, hb⟩
 have HSw2 := hide (((za HSw1)).trans (hb.mono ((za HSw1)).size))
 clear hb
 clear a0 a1 a2 b0 b1 b2 c0 c1 c2 cf hs
 have hA := (za HA).below (za HSw2)
 have hB := (za HB).below (za HSw2)
 have hC := (za HC).below (za HSw2)
 have a0 : (w2).cell? ⟨w.heap.size, 0, none⟩ = some (.bool n1) := hA.c 0
 have a1 : (w2).cell? ⟨w.heap.size, 1, none⟩ = some (.string (dec x1)) := hA.c 1
 have a2 : (w2).cell? ⟨w.heap.size, 2, none⟩ = some (.string (dec y1)) := hA.c 2
 have b0 : (w2).cell? ⟨w.heap.size + 1, 0, none⟩ = some (.bool n2) := hB.c 0
 have b1 : (w2).cell? ⟨w.heap.size + 1, 1, none⟩ = some (.string (dec x2)) := hB.c 1
 have b2 : (w2).cell? ⟨w.heap.size + 1, 2, none⟩ = some (.string (dec y2)) := hB.c 2
 have c0 : (w2).cell? ⟨w.heap.size + 1 + 1, 0, none⟩ = some (.bool false) := hC.c 0
 have c1 : (w2).cell? ⟨w.heap.size + 1 + 1, 1, none⟩ = some (.string ⟨#[]⟩) := hC.c 1
 have c2 : (w2).cell? ⟨w.heap.size + 1 + 1, 2, none⟩ = some (.string ⟨#[]⟩) := hC.c 2
 have cf := hC.f
 have hs := hC.lt
 clear hA hB hC
 go_wp2_with fail
 have h := qx y1 y2 w2 (by omega) (by omega)
 refine h.mono ?_
 clear h
 rintro e w3 ⟨rfl, hb⟩
 have HSw3 := hide (((za HSw2)).trans (hb.mono ((za HSw2)).size))
 clear hb
 clear a0 a1 a2 b0 b1 b2 c0 c1 c2 cf hs
 have hA := (za HA).below (za HSw3)
 have hB := (za HB).below (za HSw3)
 have hC := (za HC).below (za HSw3)
 have a0 : (w3).cell? ⟨w.heap.size, 0, none⟩ = some (.bool n1) := hA.c 0
 have a1 : (w3).cell? ⟨w.heap.size, 1, none⟩ = some (.string (dec x1)) := hA.c 1
 have a2 : (w3).cell? ⟨w.heap.size, 2, none⟩ = some (.string (dec y1)) := hA.c 2
 have b0 : (w3).cell? ⟨w.heap.size + 1, 0, none⟩ = some (.bool n2) := hB.c 0
 have b1 : (w3).cell? ⟨w.heap.size + 1, 1, none⟩ = some (.string (dec x2)) := hB.c 1
 have b2 : (w3).cell? ⟨w.heap.size + 1, 2, none⟩ = some (.string (dec y2)) := hB.c 2
 have c0 : (w3).cell? ⟨w.heap.size + 1 + 1, 0, none⟩ = some (.bool false) := hC.c 0
 have c1 : (w3).cell? ⟨w.heap.size + 1 + 1, 1, none⟩ = some (.string ⟨#[]⟩) := hC.c 1
 have c2 : (w3).cell? ⟨w.heap.size + 1 + 1, 2, none⟩ = some (.string ⟨#[]⟩) := hC.c 2
 have cf := hC.f
 have hs := hC.lt
 clear hA hB hC
 go_wp2_with fail
 have h := vh (x1 * y2) (x2 * y1) w3 (by omega) (by omega)
 rw [za Hcme] at h
 refine h.mono ?_
 clear h
 rintro e w3' ⟨rfl, rfl⟩
 go_wp2
 go_region_held3 (fun w' => w'.cell? ⟨w.heap.size, 0, none⟩ = some (.bool n1)) ((first | with_reducible assumption | exact a0 | (rw [far3 (by first | (simp; done) | (simp; omega) | omega)]; with_reducible assumption))) (first | (go_at_call 109; refine (yG (x1 * y2) (x2 * y1) _ hle (by omega)).mono ?_; rintro e w4 ⟨rfl, hb4⟩; have hbb := (za HSw3).drew.trans (hb4.mono (za HSw3).drew.size); have HS4 := hide hbb; have a40 : w4.cell? ⟨w.heap.size, 0, none⟩ = some (.bool n1) := ((za HA).below hbb).c 0; clear hb4 hbb) | (go_at_call 107; refine (jF n1 (x1 * y2 - x2 * y1) (y1 * y2) _ (by omega) (by omega)).mono ?_; rintro e w5 ⟨rfl, hb5⟩; have hbb := (za HS4).trans (hb5.mono (za HS4).size); have HS5 := hide hbb; have hA := (za HA).below hbb; have hC := (za HC).below hbb; have a50 : w5.cell? ⟨w.heap.size, 0, none⟩ = some (.bool n1) := hA.c 0; have c50 : w5.cell? ⟨w.heap.size + 1 + 1, 0, none⟩ = some (.bool false) := hC.c 0; have c51 : w5.cell? ⟨w.heap.size + 1 + 1, 1, none⟩ = some (.string ⟨#[]⟩) := hC.c 1; have c52 : w5.cell? ⟨w.heap.size + 1 + 1, 2, none⟩ = some (.string ⟨#[]⟩) := hC.c 2; have cf5 := hC.f; have hs5 := hC.lt; obtain ⟨rn, ru, rd, hr⟩ := jR (zm n1 (x1 * y2 - x2 * y1) (y1 * y2)); have Hr := hide hr; unfold ansC; rw [hr]; clear hb5 hbb hA hC hr))
 go_wp2
 have hcc := And.intro c50 (And.intro c51 (And.intro c52 hs5))
 refine bodyPost_ret (v := .tuple #[.agg #[.bool rn, .string ru, .string rd], .int .i64 (qp (zm n1 (x1 * y2 - x2 * y1) (y1 * y2)))]) (by simp [results, Tryd.results62, go_sem, hcc]) rfl ⟨by unfold ansC; rw [za Hr], ?_⟩
 refine ((za HW).trans ((za HS5).mono (za HW).size)).trans ?_
 repeat (first | exact Below.refl _ _ | refine Below.setCell ?_ (by first | exact Nat.le_refl _ | exact Nat.le_succ _ | (simp; done) | (simp; omega)) _ | refine Below.alloc ?_ (by first | exact Nat.le_refl _ | (simp; done) | (simp; omega)) _)
theorem ZY (n1 n2 : Bool) (x1 y1 x2 y2 : Nat) (w : World) (sx1 : (dec x1).size ≤ 60) (sy1 : (dec y1).size ≤ 60) (sx2 : (dec x2).size ≤ 60) (sy2 : (dec y2).size ≤ 60) (hn : n1 ≠ n2) (hl : x1 * y2 < x2 * y1) :
  Calls Tryd.prog 62 #[.agg #[.bool n1, .string (dec x1), .string (dec y1)], .agg #[.bool n2, .string (dec x2), .string (dec y2)]] w fun e w' => e = .returned (ansC (zm n2 (x2 * y1 - x1 * y2) (y1 * y2)) (qp (zm n2 (x2 * y1 - x1 * y2) (y1 * y2)))) ∧ Below w.heap.size w w' := by
 have hb0 : (n1 == n2) = false := by simp [hn]
 have hcm := ZF hl
 have hle : x1 * y2 ≤ x2 * y1 := by omega
 have d1 := qt sx1 sy2
 have d2 := qt sx2 sy1
 have d3 := qt sy1 sy2
 have dm : (dec (x2 * y1 - x1 * y2)).size ≤ 120 := Nat.le_trans (qJ (Nat.sub_le _ _)) (by omega)
 obtain ⟨cm, hcme⟩ : ∃ cm, cmpN (x1 * y2) (x2 * y1) = cm := ⟨_, rfl⟩
 rw [hcme] at hcm
 have Hcme := hide hcme
 clear hn hcme hl
 have HW := hide ((((Below.refl w.heap.size w).alloc (Nat.le_refl _) (.cells #[.bool n1, .string (dec x1), .string (dec y1)] 26)).alloc (by simp) (.cells #[.bool n2, .string (dec x2), .string (dec y2)] 26)).alloc (by simp; omega) (.cells #[.bool false, .string ⟨#[]⟩, .string ⟨#[]⟩] 26))
 have HA := hide (((AtC.new w #[.bool n1, .string (dec x1), .string (dec y1)] 26).alloc (.cells #[.bool n2, .string (dec x2), .string (dec y2)] 26)).alloc (.cells #[.bool false, .string ⟨#[]⟩, .string ⟨#[]⟩] 26))
 have HB := hide ((AtC.new (w.alloc (.cells #[.bool n1, .string (dec x1), .string (dec y1)] 26)) #[.bool n2, .string (dec x2), .string (dec y2)] 26).alloc (.cells #[.bool false, .string ⟨#[]⟩, .string ⟨#[]⟩] 26))
 have HC := hide (AtC.new ((w.alloc (.cells #[.bool n1, .string (dec x1), .string (dec y1)] 26)).alloc (.cells #[.bool n2, .string (dec x2), .string (dec y2)] 26)) #[.bool false, .string ⟨#[]⟩, .string ⟨#[]⟩] 26)
 rw [World.size_alloc] at HB
 rw [World.size_alloc, World.size_alloc] at HC
 go_enter Tryd.func62, Tryd.ntmps62
 go_wp2_with fail
 have h := qx x1 y2 (((w.alloc (.cells #[.bool n1, .string (dec x1), .string (dec y1)] 26)).alloc (.cells #[.bool n2, .string (dec x2), .string (dec y2)] 26)).alloc (.cells #[.bool false, .string ⟨#[]⟩, .string ⟨#[]⟩] 26)) (by omega) (by omega)
 refine h.mono ?_
 clear h
 rintro e w1 ⟨rfl, hb⟩
 have HSw1 := hide (((Below.refl (((w.alloc (.cells #[.bool n1, .string (dec x1), .string (dec y1)] 26)).alloc (.cells #[.bool n2, .string (dec x2), .string (dec y2)] 26)).alloc (.cells #[.bool false, .string ⟨#[]⟩, .string ⟨#[]⟩] 26)).heap.size (((w.alloc (.cells #[.bool n1, .string (dec x1), .string (dec y1)] 26)).alloc (.cells #[.bool n2, .string (dec x2), .string (dec y2)] 26)).alloc (.cells #[.bool false, .string ⟨#[]⟩, .string ⟨#[]⟩] 26)))).trans (hb.mono ((Below.refl (((w.alloc (.cells #[.bool n1, .string (dec x1), .string (dec y1)] 26)).alloc (.cells #[.bool n2, .string (dec x2), .string (dec y2)] 26)).alloc (.cells #[.bool false, .string ⟨#[]⟩, .string ⟨#[]⟩] 26)).heap.size (((w.alloc (.cells #[.bool n1, .string (dec x1), .string (dec y1)] 26)).alloc (.cells #[.bool n2, .string (dec x2), .string (dec y2)] 26)).alloc (.cells #[.bool false, .string ⟨#[]⟩, .string ⟨#[]⟩] 26)))).size))
 clear hb
 have hA := (za HA).below (za HSw1)
 have hB := (za HB).below (za HSw1)
 have hC := (za HC).below (za HSw1)
 have a0 : (w1).cell? ⟨w.heap.size, 0, none⟩ = some (.bool n1) := hA.c 0
 have a1 : (w1).cell? ⟨w.heap.size, 1, none⟩ = some (.string (dec x1)) := hA.c 1
 have a2 : (w1).cell? ⟨w.heap.size, 2, none⟩ = some (.string (dec y1)) := hA.c 2
 have b0 : (w1).cell? ⟨w.heap.size + 1, 0, none⟩ = some (.bool n2) := hB.c 0
 have b1 : (w1).cell? ⟨w.heap.size + 1, 1, none⟩ = some (.string (dec x2)) := hB.c 1
 have b2 : (w1).cell? ⟨w.heap.size + 1, 2, none⟩ = some (.string (dec y2)) := hB.c 2
 have c0 : (w1).cell? ⟨w.heap.size + 1 + 1, 0, none⟩ = some (.bool false) := hC.c 0
 have c1 : (w1).cell? ⟨w.heap.size + 1 + 1, 1, none⟩ = some (.string ⟨#[]⟩) := hC.c 1
 have c2 : (w1).cell? ⟨w.heap.size + 1 + 1, 2, none⟩ = some (.string ⟨#[]⟩) := hC.c 2
 have cf := hC.f
 have hs := hC.lt
 clear hA hB hC
 go_wp2_with fail
 have h := qx x2 y1 w1 (by omega) (by omega)
 refine h.mono ?_
 clear h
 rintro e w2 ⟨rfl, hb⟩
 have HSw2 := hide (((za HSw1)).trans (hb.mono ((za HSw1)).size))
 clear hb
 clear a0 a1 a2 b0 b1 b2 c0 c1 c2 cf hs
 have hA := (za HA).below (za HSw2)
 have hB := (za HB).below (za HSw2)
 have hC := (za HC).below (za HSw2)
 have a0 : (w2).cell? ⟨w.heap.size, 0, none⟩ = some (.bool n1) := hA.c 0
 have a1 : (w2).cell? ⟨w.heap.size, 1, none⟩ = some (.string (dec x1)) := hA.c 1
 have a2 : (w2).cell? ⟨w.heap.size, 2, none⟩ = some (.string (dec y1)) := hA.c 2
 have b0 : (w2).cell? ⟨w.heap.size + 1, 0, none⟩ = some (.bool n2) := hB.c 0
 have b1 : (w2).cell? ⟨w.heap.size + 1, 1, none⟩ = some (.string (dec x2)) := hB.c 1
 have b2 : (w2).cell? ⟨w.heap.size + 1, 2, none⟩ = some (.string (dec y2)) := hB.c 2
 have c0 : (w2).cell? ⟨w.heap.size + 1 + 1, 0, none⟩ = some (.bool false) := hC.c 0
 have c1 : (w2).cell? ⟨w.heap.size + 1 + 1, 1, none⟩ = some (.string ⟨#[]⟩) := hC.c 1
 have c2 : (w2).cell? ⟨w.heap.size + 1 + 1, 2, none⟩ = some (.string ⟨#[]⟩) := hC.c 2
 have cf := hC.f
 have hs := hC.lt
 clear hA hB hC
 go_wp2_with fail
 have h := qx y1 y2 w2 (by omega) (by omega)
 refine h.mono ?_
 clear h
 rintro e w3 ⟨rfl, hb⟩
 have HSw3 := hide (((za HSw2)).trans (hb.mono ((za HSw2)).size))
 clear hb
 clear a0 a1 a2 b0 b1 b2 c0 c1 c2 cf hs
 have hA := (za HA).below (za HSw3)
 have hB := (za HB).below (za HSw3)
 have hC := (za HC).below (za HSw3)
 have a0 : (w3).cell? ⟨w.heap.size, 0, none⟩ = some (.bool n1) := hA.c 0
 have a1 : (w3).cell? ⟨w.heap.size, 1, none⟩ = some (.string (dec x1)) := hA.c 1
 have a2 : (w3).cell? ⟨w.heap.size, 2, none⟩ = some (.string (dec y1)) := hA.c 2
 have b0 : (w3).cell? ⟨w.heap.size + 1, 0, none⟩ = some (.bool n2) := hB.c 0
 have b1 : (w3).cell? ⟨w.heap.size + 1, 1, none⟩ = some (.string (dec x2)) := hB.c 1
 have b2 : (w3).cell? ⟨w.heap.size + 1, 2, none⟩ = some (.string (dec y2)) := hB.c 2
 have c0 : (w3).cell? ⟨w.heap.size + 1 + 1, 0, none⟩ = some (.bool false) := hC.c 0
 have c1 : (w3).cell? ⟨w.heap.size + 1 + 1, 1, none⟩ = some (.string ⟨#[]⟩) := hC.c 1
 have c2 : (w3).cell? ⟨w.heap.size + 1 + 1, 2, none⟩ = some (.string ⟨#[]⟩) := hC.c 2
 have cf := hC.f
 have hs := hC.lt
 clear hA hB hC
 go_wp2_with fail
 have h := vh (x1 * y2) (x2 * y1) w3 (by omega) (by omega)
 rw [za Hcme] at h
 refine h.mono ?_
 clear h
 rintro e w3' ⟨rfl, rfl⟩
 go_wp2
 go_region_held3 (fun w' => w'.cell? ⟨w.heap.size + 1, 0, none⟩ = some (.bool n2)) ((first | with_reducible assumption | exact b0 | (rw [far3 (by first | (simp; done) | (simp; omega) | omega)]; with_reducible assumption))) (first | (go_at_call 109; refine (yG (x2 * y1) (x1 * y2) _ hle (by omega)).mono ?_; rintro e w4 ⟨rfl, hb4⟩; have hbb := (za HSw3).drew.trans (hb4.mono (za HSw3).drew.size); have HS4 := hide hbb; have a40 : w4.cell? ⟨w.heap.size + 1, 0, none⟩ = some (.bool n2) := ((za HB).below hbb).c 0; clear hb4 hbb) | (go_at_call 107; refine (jF n2 (x2 * y1 - x1 * y2) (y1 * y2) _ (by omega) (by omega)).mono ?_; rintro e w5 ⟨rfl, hb5⟩; have hbb := (za HS4).trans (hb5.mono (za HS4).size); have HS5 := hide hbb; have hA := (za HB).below hbb; have hC := (za HC).below hbb; have a50 : w5.cell? ⟨w.heap.size + 1, 0, none⟩ = some (.bool n2) := hA.c 0; have c50 : w5.cell? ⟨w.heap.size + 1 + 1, 0, none⟩ = some (.bool false) := hC.c 0; have c51 : w5.cell? ⟨w.heap.size + 1 + 1, 1, none⟩ = some (.string ⟨#[]⟩) := hC.c 1; have c52 : w5.cell? ⟨w.heap.size + 1 + 1, 2, none⟩ = some (.string ⟨#[]⟩) := hC.c 2; have cf5 := hC.f; have hs5 := hC.lt; obtain ⟨rn, ru, rd, hr⟩ := jR (zm n2 (x2 * y1 - x1 * y2) (y1 * y2)); have Hr := hide hr; unfold ansC; rw [hr]; clear hb5 hbb hA hC hr))
 go_wp2
 have hcc := And.intro c50 (And.intro c51 (And.intro c52 hs5))
 refine bodyPost_ret (v := .tuple #[.agg #[.bool rn, .string ru, .string rd], .int .i64 (qp (zm n2 (x2 * y1 - x1 * y2) (y1 * y2)))]) (by simp [results, Tryd.results62, go_sem, hcc]) rfl ⟨by unfold ansC; rw [za Hr], ?_⟩
 refine ((za HW).trans ((za HS5).mono (za HW).size)).trans ?_
 repeat (first | exact Below.refl _ _ | refine Below.setCell ?_ (by first | exact Nat.le_refl _ | exact Nat.le_succ _ | (simp; done) | (simp; omega)) _ | refine Below.alloc ?_ (by first | exact Nat.le_refl _ | (simp; done) | (simp; omega)) _)
theorem QA (n1 n2 : Bool) (x1 y1 x2 y2 : Nat) (w : World) (sx1 : (dec x1).size ≤ 60) (sy1 : (dec y1).size ≤ 60) (sx2 : (dec x2).size ≤ 60) (sy2 : (dec y2).size ≤ 60) :
  Calls Tryd.prog 62 #[.agg #[.bool n1, .string (dec x1), .string (dec y1)], .agg #[.bool n2, .string (dec x2), .string (dec y2)]] w fun e w' => e = .returned (ansC (zm (plusW (n1, x1 * y2) (n2, x2 * y1)).1 (plusW (n1, x1 * y2) (n2, x2 * y1)).2 (y1 * y2)) (qp (zm (plusW (n1, x1 * y2) (n2, x2 * y1)).1 (plusW (n1, x1 * y2) (n2, x2 * y1)).2 (y1 * y2)))) ∧ Below w.heap.size w w' := by
 by_cases hn : n1 = n2
 ·have hp : plusW (n1, x1 * y2) (n2, x2 * y1) = (n1, x1 * y2 + x2 * y1) := by rw [← hn, vG]
  rw [hp]
  exact kG n1 n2 x1 y1 x2 y2 w sx1 sy1 sx2 sy2 hn
 ·by_cases hl : x1 * y2 < x2 * y1
  ·rw [ki hn hl]
   exact ZY n1 n2 x1 y1 x2 y2 w sx1 sy1 sx2 sy2 hn hl
  ·rw [kh hn hl]
   exact ZX n1 n2 x1 y1 x2 y2 w sx1 sy1 sx2 sy2 hn (by omega)
end Go.Proofs.YtcnnicbaeicboaaDoor
