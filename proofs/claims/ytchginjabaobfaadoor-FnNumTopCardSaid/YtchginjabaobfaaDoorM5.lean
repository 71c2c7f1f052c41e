/- A part of the proof, put together out of smaller texts: each piece says what it is for. -/
import Derived.Test.YtchginjabaobfaaDoorM4
import Derived.Deep.Cut
namespace Go.Proofs.YtchginjabaobfaaDoor
open Go.RowKit Nt

theorem isNatB_set4 {w : World} {base b : Nat} {v u0 u1 u2 u3 : Value} {x : Nat} (h : isNatB w base v x) (hb : b < base) : isNatB ((((w.setCell ⟨b, 0, none⟩ u0).setCell ⟨b, 1, none⟩ u1).setCell ⟨b, 2, none⟩ u2).setCell ⟨b, 3, none⟩ u3) base v x :=
  isNatB_set (isNatB_set (isNatB_set (isNatB_set h hb) hb) hb) hb
theorem far4 {w : World} {b : Nat} {u0 u1 u2 u3 : Value} {a : Addr} (h : b ≠ a.block) : ((((w.setCell ⟨b, 0, none⟩ u0).setCell ⟨b, 1, none⟩ u1).setCell ⟨b, 2, none⟩ u2).setCell ⟨b, 3, none⟩ u3).cell? a = w.cell? a := by
  rw [World.cell?_setCell_far _ _ _ _ h, World.cell?_setCell_far _ _ _ _ h, World.cell?_setCell_far _ _ _ _ h, World.cell?_setCell_far _ _ _ _ h]

theorem aboveSum_f (n1 n2 : Bool) (v1 u1 v2 u2 : Value) (x1 y1 x2 y2 : Nat) (w : World) (hx1 : isNat w v1 x1) (hy1 : isNat w u1 y1) (hx2 : isNat w v2 x2) (hy2 : isNat w u2 y2) (hs1 : (gr x1).length ≤ 1000000) (hs2 : (gr x2).length ≤ 1000000) (ht1 : (gr y1).length ≤ 1000000) (ht2 : (gr y2).length ≤ 1000000)
    (hp1 : (gr (x1 * y2)).length ≤ 1000000) (hp2 : (gr (x2 * y1)).length ≤ 1000000) :
    Calls Tryd.prog 61 #[fracV n1 false v1 u1, fracV n2 false v2 u2] w fun e w' => (∃ z, e = .returned z ∧ isWholeB w' w.heap.size z (plusW (n1, x1 * y2) (n2, x2 * y1))) ∧ Below w.heap.size w w' := by
  have h := aboveSum_c n1 false n2 false v1 u1 v2 u2 x1 y1 x2 y2 w hx1 hy1 hx2 hy2 hs1 hs2 ht1 ht2 hp1 hp2
  rw [show (n1 != false) = n1 from by cases n1 <;> rfl, show (n2 != false) = n2 from by cases n2 <;> rfl] at h
  exact h

theorem aboveLeft_f (n1 n2 : Bool) (v1 u1 v2 u2 : Value) (x1 y1 x2 y2 : Nat) (w : World) (hx1 : isNat w v1 x1) (hy1 : isNat w u1 y1) (hx2 : isNat w v2 x2) (hy2 : isNat w u2 y2) (hs1 : (gr x1).length ≤ 1000000) (hs2 : (gr x2).length ≤ 1000000) (ht1 : (gr y1).length ≤ 1000000) (ht2 : (gr y2).length ≤ 1000000)
    (hp1 : (gr (x1 * y2)).length ≤ 1000000) (hp2 : (gr (x2 * y1)).length ≤ 1000000) :
    Calls Tryd.prog 66 #[fracV n1 false v1 u1, fracV n2 false v2 u2] w fun e w' => (∃ z, e = .returned z ∧ isWholeB w' w.heap.size z (plusW (n1, x1 * y2) (!n2, x2 * y1))) ∧ Below w.heap.size w w' := by
  have h := aboveLeft_c n1 false n2 false v1 u1 v2 u2 x1 y1 x2 y2 w hx1 hy1 hx2 hy2 hs1 hs2 ht1 ht2 hp1 hp2
  rw [show (n1 != false) = n1 from by cases n1 <;> rfl, show (n2 != false) = n2 from by cases n2 <;> rfl] at h
  exact h

set_option maxRecDepth 100000 in
set_option maxHeartbeats 4000000 in
theorem fractionOf_c (neg : Bool) (a q : Nat) (w : World) (ha : (dec a).size ≤ 60) (hq : (dec q).size ≤ 60) (hT : Tens w) :
    Calls Tryd.prog 106 #[.agg #[.bool neg, .string (dec a), .string (dec q)]] w fun e w' => (∃ v u, e = .returned (fracV neg false v u) ∧ isNatB w' w.heap.size v a ∧ isNatB w' w.heap.size u q) ∧ Below w.heap.size w w' := by
  have HW := hide (((Below.refl w.heap.size w).alloc (Nat.le_refl _) (.cells #[.bool neg, .string (dec a), .string (dec q)] 26)).alloc (by simp) (.cells #[.bool false, .slice none 0 0, .bool false, .slice none 0 0] 128))
  have HA := hide ((AtC.new w #[.bool neg, .string (dec a), .string (dec q)] 26).alloc (.cells #[.bool false, .slice none 0 0, .bool false, .slice none 0 0] 128))
  have HC := hide (AtC.new (w.alloc (.cells #[.bool neg, .string (dec a), .string (dec q)] 26)) #[.bool false, .slice none 0 0, .bool false, .slice none 0 0] 128)
  rw [World.size_alloc] at HC
  have HT := hide hT
  clear hT
  go_enter Tryd.func106, Tryd.ntmps106
  go_wp2
  go_region_held3 (fun w' => w'.cell? ⟨w.heap.size, 0, none⟩ = some (.bool neg) ∧ w'.cell? ⟨w.heap.size, 1, none⟩ = some (.string (dec a)) ∧ w'.cell? ⟨w.heap.size, 2, none⟩ = some (.string (dec q))) (((try dsimp only); (repeat' apply And.intro) <;> (first | with_reducible assumption | (rw [far4 (by first | (simp; done) | (simp; omega))]; with_reducible assumption) | exact (unhide HA).drew.c _))) (first | (go_at_call_of 49 (dec a); refine (natReadB_c a _ (by omega) (by exact (unhide HT).below (unhide HW).drew)).mono ?_; rintro e w1 ⟨⟨v, rfl, hv⟩, hb1⟩; obtain ⟨vp, vc, rfl⟩ := own_slice hv; have hA := (unhide HA).drew.below hb1; have hC := (unhide HC).drew.below hb1; have a10 : w1.cell? ⟨w.heap.size, 0, none⟩ = some (.bool neg) := hA.c 0; have a11 : w1.cell? ⟨w.heap.size, 1, none⟩ = some (.string (dec a)) := hA.c 1; have a12 : w1.cell? ⟨w.heap.size, 2, none⟩ = some (.string (dec q)) := hA.c 2; have HA1 := hide hA; have HC1 := hide hC; have Hv := hide hv; have HW1 := hide ((unhide HW).drew.trans (hb1.mono (unhide HW).drew.size)); clear hA hC hv hb1) | (go_at_call_of 49 (dec q); refine (natReadB_c q _ (by omega) (by exact (unhide HT).below (unhide HW1))).mono ?_; rintro e w2 ⟨⟨u, rfl, hu⟩, hb2⟩; obtain ⟨up, uc, rfl⟩ := own_slice hu; have hA := (unhide HA1).below hb2; have hC := (unhide HC1).below hb2; have a20 : w2.cell? ⟨w.heap.size, 0, none⟩ = some (.bool neg) := hA.c 0; have a21 : w2.cell? ⟨w.heap.size, 1, none⟩ = some (.string (dec a)) := hA.c 1; have a22 : w2.cell? ⟨w.heap.size, 2, none⟩ = some (.string (dec q)) := hA.c 2; have c20 : w2.cell? ⟨w.heap.size + 1, 0, none⟩ = some (.bool false) := hC.c 0; have c21 : w2.cell? ⟨w.heap.size + 1, 1, none⟩ = some (.slice none 0 0) := hC.c 1; have c22 : w2.cell? ⟨w.heap.size + 1, 2, none⟩ = some (.bool false) := hC.c 2; have c23 : w2.cell? ⟨w.heap.size + 1, 3, none⟩ = some (.slice none 0 0) := hC.c 3; have cf := hC.f; have hs := hC.lt; have Hu := hide hu; have Hv2 := hide (own_below (unhide Hv) hb2); have hs1 := (unhide HC1).lt; have HW2 := hide ((unhide HW1).trans (hb2.mono (unhide HW1).size)); clear hA hC hu hb2))
  go_wp2
  have hcc := And.intro c20 (And.intro c21 (And.intro c22 c23))
  refine bodyPost_ret (v := .agg #[.bool neg, .slice vp (gr a).length vc, .bool false, .slice up (gr q).length uc]) (by simp [results, Tryd.results106, go_sem, hcc]) rfl ⟨⟨_, _, rfl, ?_, ?_⟩, ?_⟩
  · have h0 := isNatB_set4 (b := w.heap.size + 1) (u0 := .bool neg) (u1 := .slice vp (gr a).length vc) (u2 := .bool false) (u3 := .slice up (gr q).length uc) (unhide Hv2) (by simp)
    exact own_base h0 (by simp; omega)
  · have h0 := isNatB_set4 (b := w.heap.size + 1) (u0 := .bool neg) (u1 := .slice vp (gr a).length vc) (u2 := .bool false) (u3 := .slice up (gr q).length uc) (unhide Hu) (by omega)
    exact own_base h0 (by have := (unhide HW1).size; omega)
  · exact ((((unhide HW2).setCell (by show w.heap.size ≤ w.heap.size + 1; omega) _).setCell (by show w.heap.size ≤ w.heap.size + 1; omega) _).setCell (by show w.heap.size ≤ w.heap.size + 1; omega) _).setCell (by show w.heap.size ≤ w.heap.size + 1; omega) _

end Go.Proofs.YtchginjabaobfaaDoor
namespace Go.Proofs.YtchginjabaobfaaDoor
open Go.RowKit Nt

set_option maxRecDepth 100000 in
set_option maxHeartbeats 4000000 in
theorem bothSum_c (n1 n2 : Bool) (v1 u1 v2 u2 : Value) (x1 y1 x2 y2 : Nat) (w : World) (hx1 : isNat w v1 x1) (hy1 : isNat w u1 y1) (hx2 : isNat w v2 x2) (hy2 : isNat w u2 y2) (hs1 : (gr x1).length ≤ 1000000) (hs2 : (gr x2).length ≤ 1000000) (ht1 : (gr y1).length ≤ 1000000) (ht2 : (gr y2).length ≤ 1000000)
    (hp1 : (gr (x1 * y2)).length ≤ 1000000) (hp2 : (gr (x2 * y1)).length ≤ 1000000) :
    Calls Tryd.prog 105 #[fracV n1 false v1 u1, fracV n2 false v2 u2, .func (.func 61) #[] #[]] w fun e w' => (∃ v u, e = .returned (fracV (plusW (n1, x1 * y2) (n2, x2 * y1)).1 false v u) ∧ isNatB w' w.heap.size v (plusW (n1, x1 * y2) (n2, x2 * y1)).2 ∧ isNatB w' w.heap.size u (y1 * y2)) ∧ Below w.heap.size w w' := by
  have hmt := meth_times
  obtain ⟨p1, e1, rfl⟩ := own_slice hx1
  obtain ⟨q1, e3, rfl⟩ := own_slice hy1
  obtain ⟨p2, e2, rfl⟩ := own_slice hx2
  obtain ⟨q2, e4, rfl⟩ := own_slice hy2
  have Hx1 := hide hx1
  have Hx2 := hide hx2
  have Hy1 := hide hy1
  have Hy2 := hide hy2
  obtain ⟨lx1, hlx1⟩ : ∃ l, (gr x1).length = l := ⟨_, rfl⟩
  obtain ⟨lx2, hlx2⟩ : ∃ l, (gr x2).length = l := ⟨_, rfl⟩
  obtain ⟨ly1, hly1⟩ : ∃ l, (gr y1).length = l := ⟨_, rfl⟩
  obtain ⟨ly2, hly2⟩ : ∃ l, (gr y2).length = l := ⟨_, rfl⟩
  rw [hlx1] at Hx1
  rw [hlx2] at Hx2
  rw [hly1] at Hy1
  rw [hly2] at Hy2
  rw [hlx1, hlx2, hly1, hly2]
  have Hl := hide (And.intro hlx1 (And.intro hlx2 (And.intro hly1 hly2)))
  have HW := hide ((((Below.refl w.heap.size w).alloc (Nat.le_refl _) (.cells #[.bool n1, .slice p1 lx1 e1, .bool false, .slice q1 ly1 e3] 128)).alloc (by simp) (.cells #[.bool n2, .slice p2 lx2 e2, .bool false, .slice q2 ly2 e4] 128)).alloc (by simp; omega) (.cells #[.bool false, .slice none 0 0, .bool false, .slice none 0 0] 128))
  have HA := hide (((AtC.new w #[.bool n1, .slice p1 lx1 e1, .bool false, .slice q1 ly1 e3] 128).alloc (.cells #[.bool n2, .slice p2 lx2 e2, .bool false, .slice q2 ly2 e4] 128)).alloc (.cells #[.bool false, .slice none 0 0, .bool false, .slice none 0 0] 128))
  have HB := hide ((AtC.new (w.alloc (.cells #[.bool n1, .slice p1 lx1 e1, .bool false, .slice q1 ly1 e3] 128)) #[.bool n2, .slice p2 lx2 e2, .bool false, .slice q2 ly2 e4] 128).alloc (.cells #[.bool false, .slice none 0 0, .bool false, .slice none 0 0] 128))
  have HC := hide (AtC.new ((w.alloc (.cells #[.bool n1, .slice p1 lx1 e1, .bool false, .slice q1 ly1 e3] 128)).alloc (.cells #[.bool n2, .slice p2 lx2 e2, .bool false, .slice q2 ly2 e4] 128)) #[.bool false, .slice none 0 0, .bool false, .slice none 0 0] 128)
  rw [World.size_alloc] at HB
  rw [World.size_alloc, World.size_alloc] at HC
  clear hx1 hx2 hy1 hy2 hlx1 hlx2 hly1 hly2
  unfold fracV
  go_enter Tryd.func105, Tryd.ntmps105
  go_wp2
  go_region_held3 (fun w' => w'.cell? ⟨w.heap.size, 0, none⟩ = some (.bool n1) ∧ w'.cell? ⟨w.heap.size, 1, none⟩ = some (.slice p1 lx1 e1) ∧ w'.cell? ⟨w.heap.size, 2, none⟩ = some (.bool false) ∧ w'.cell? ⟨w.heap.size, 3, none⟩ = some (.slice q1 ly1 e3) ∧ w'.cell? ⟨w.heap.size + 1, 0, none⟩ = some (.bool n2) ∧ w'.cell? ⟨w.heap.size + 1, 1, none⟩ = some (.slice p2 lx2 e2) ∧ w'.cell? ⟨w.heap.size + 1, 2, none⟩ = some (.bool false) ∧ w'.cell? ⟨w.heap.size + 1, 3, none⟩ = some (.slice q2 ly2 e4)) (((try dsimp only); (repeat' apply And.intro) <;> (first | with_reducible assumption | (rw [far4 (by first | (simp; done) | (simp; omega))]; with_reducible assumption) | exact (unhide HA).drew.c _ | exact (unhide HB).drew.c _))) (first | (go_at_call 61; refine (aboveSum_f n1 n2 (.slice p1 lx1 e1) (.slice q1 ly1 e3) (.slice p2 lx2 e2) (.slice q2 ly2 e4) x1 y1 x2 y2 _ (by exact isNat_below (unhide Hx1) (unhide HW).drew) (by exact isNat_below (unhide Hy1) (unhide HW).drew) (by exact isNat_below (unhide Hx2) (unhide HW).drew) (by exact isNat_below (unhide Hy2) (unhide HW).drew) hs1 hs2 ht1 ht2 hp1 hp2).mono ?_; rintro e w1 ⟨⟨z, rfl, ⟨zv, rfl, hz⟩⟩, hb1⟩; obtain ⟨zp1, zc1, rfl⟩ := own_slice hz; have hA1 := (unhide HA).drew.below hb1; have hB1 := (unhide HB).drew.below hb1; have hC1 := (unhide HC).drew.below hb1; have a10 : w1.cell? ⟨w.heap.size, 0, none⟩ = some (.bool n1) := hA1.c 0; have a11 : w1.cell? ⟨w.heap.size, 1, none⟩ = some (.slice p1 lx1 e1) := hA1.c 1; have a12 : w1.cell? ⟨w.heap.size, 2, none⟩ = some (.bool false) := hA1.c 2; have a13 : w1.cell? ⟨w.heap.size, 3, none⟩ = some (.slice q1 ly1 e3) := hA1.c 3; have b10 : w1.cell? ⟨w.heap.size + 1, 0, none⟩ = some (.bool n2) := hB1.c 0; have b11 : w1.cell? ⟨w.heap.size + 1, 1, none⟩ = some (.slice p2 lx2 e2) := hB1.c 1; have b12 : w1.cell? ⟨w.heap.size + 1, 2, none⟩ = some (.bool false) := hB1.c 2; have b13 : w1.cell? ⟨w.heap.size + 1, 3, none⟩ = some (.slice q2 ly2 e4) := hB1.c 3; have HA1 := hide hA1; have HB1 := hide hB1; have HC1 := hide hC1; have Hz1 := hide hz; have HW1 := hide ((unhide HW).drew.trans (hb1.mono (unhide HW).drew.size)); clear hA1 hB1 hC1 hz hb1; unfold wholeV) | (go_at_call 204; refine (wTimes_c false false (.slice q1 ly1 e3) (.slice q2 ly2 e4) y1 y2 _ (by exact isNat_below (unhide Hy1) (unhide HW1)) (by exact isNat_below (unhide Hy2) (unhide HW1)) (by omega) (by omega)).mono ?_; rintro e w2 ⟨⟨z, rfl, ⟨zv, rfl, hz⟩⟩, hb2⟩; obtain ⟨zp2, zc2, rfl⟩ := own_slice hz; have hA2 := (unhide HA1).below hb2; have hB2 := (unhide HB1).below hb2; have hC2 := (unhide HC1).below hb2; have a20 : w2.cell? ⟨w.heap.size, 0, none⟩ = some (.bool n1) := hA2.c 0; have a21 : w2.cell? ⟨w.heap.size, 1, none⟩ = some (.slice p1 lx1 e1) := hA2.c 1; have a22 : w2.cell? ⟨w.heap.size, 2, none⟩ = some (.bool false) := hA2.c 2; have a23 : w2.cell? ⟨w.heap.size, 3, none⟩ = some (.slice q1 ly1 e3) := hA2.c 3; have b20 : w2.cell? ⟨w.heap.size + 1, 0, none⟩ = some (.bool n2) := hB2.c 0; have b21 : w2.cell? ⟨w.heap.size + 1, 1, none⟩ = some (.slice p2 lx2 e2) := hB2.c 1; have b22 : w2.cell? ⟨w.heap.size + 1, 2, none⟩ = some (.bool false) := hB2.c 2; have b23 : w2.cell? ⟨w.heap.size + 1, 3, none⟩ = some (.slice q2 ly2 e4) := hB2.c 3; have c20 : w2.cell? ⟨w.heap.size + 1 + 1, 0, none⟩ = some (.bool false) := hC2.c 0; have c21 : w2.cell? ⟨w.heap.size + 1 + 1, 1, none⟩ = some (.slice none 0 0) := hC2.c 1; have c22 : w2.cell? ⟨w.heap.size + 1 + 1, 2, none⟩ = some (.bool false) := hC2.c 2; have c23 : w2.cell? ⟨w.heap.size + 1 + 1, 3, none⟩ = some (.slice none 0 0) := hC2.c 3; have cf := hC2.f; have hs := hC2.lt; have hs1' := (unhide HC1).lt; have Hz1' := hide (own_below (unhide Hz1) hb2); have Hz2 := hide hz; have HW2 := hide ((unhide HW1).trans (hb2.mono (unhide HW1).size)); have hsz1 := (unhide HW1).size; clear hA2 hB2 hC2 hz hb2; unfold wholeV))
  go_wp2
  have hcc := And.intro c20 (And.intro c21 (And.intro c22 c23))
  refine bodyPost_ret (v := .agg #[.bool (plusW (n1, x1 * y2) (n2, x2 * y1)).1, .slice zp1 (gr (plusW (n1, x1 * y2) (n2, x2 * y1)).2).length zc1, .bool false, .slice zp2 (gr (y1 * y2)).length zc2]) (by simp [results, Tryd.results105, go_sem, hcc]) rfl ⟨⟨_, _, rfl, ?_, ?_⟩, ?_⟩
  · have h0 := isNatB_set4 (b := w.heap.size + 1 + 1) (u0 := .bool (plusW (n1, x1 * y2) (n2, x2 * y1)).1) (u1 := .slice zp1 (gr (plusW (n1, x1 * y2) (n2, x2 * y1)).2).length zc1) (u2 := .bool false) (u3 := .slice zp2 (gr (y1 * y2)).length zc2) (unhide Hz1') (by simp)
    exact own_base h0 (by first | omega | (simp; omega))
  · have h0 := isNatB_set4 (b := w.heap.size + 1 + 1) (u0 := .bool (plusW (n1, x1 * y2) (n2, x2 * y1)).1) (u1 := .slice zp1 (gr (plusW (n1, x1 * y2) (n2, x2 * y1)).2).length zc1) (u2 := .bool false) (u3 := .slice zp2 (gr (y1 * y2)).length zc2) (unhide Hz2) (by omega)
    exact own_base h0 (by omega)
  · exact ((((unhide HW2).setCell (by show w.heap.size ≤ w.heap.size + 1 + 1; omega) _).setCell (by show w.heap.size ≤ w.heap.size + 1 + 1; omega) _).setCell (by show w.heap.size ≤ w.heap.size + 1 + 1; omega) _).setCell (by show w.heap.size ≤ w.heap.size + 1 + 1; omega) _
end Go.Proofs.YtchginjabaobfaaDoor
namespace Go.Proofs.YtchginjabaobfaaDoor
open Go.RowKit Nt

set_option maxRecDepth 100000 in
set_option maxHeartbeats 4000000 in
theorem bothLeft_c (n1 n2 : Bool) (v1 u1 v2 u2 : Value) (x1 y1 x2 y2 : Nat) (w : World) (hx1 : isNat w v1 x1) (hy1 : isNat w u1 y1) (hx2 : isNat w v2 x2) (hy2 : isNat w u2 y2) (hs1 : (gr x1).length ≤ 1000000) (hs2 : (gr x2).length ≤ 1000000) (ht1 : (gr y1).length ≤ 1000000) (ht2 : (gr y2).length ≤ 1000000)
    (hp1 : (gr (x1 * y2)).length ≤ 1000000) (hp2 : (gr (x2 * y1)).length ≤ 1000000) :
    Calls Tryd.prog 105 #[fracV n1 false v1 u1, fracV n2 false v2 u2, .func (.func 66) #[] #[]] w fun e w' => (∃ v u, e = .returned (fracV (plusW (n1, x1 * y2) (!n2, x2 * y1)).1 false v u) ∧ isNatB w' w.heap.size v (plusW (n1, x1 * y2) (!n2, x2 * y1)).2 ∧ isNatB w' w.heap.size u (y1 * y2)) ∧ Below w.heap.size w w' := by
  have hmt := meth_times
  obtain ⟨p1, e1, rfl⟩ := own_slice hx1
  obtain ⟨q1, e3, rfl⟩ := own_slice hy1
  obtain ⟨p2, e2, rfl⟩ := own_slice hx2
  obtain ⟨q2, e4, rfl⟩ := own_slice hy2
  have Hx1 := hide hx1
  have Hx2 := hide hx2
  have Hy1 := hide hy1
  have Hy2 := hide hy2
  obtain ⟨lx1, hlx1⟩ : ∃ l, (gr x1).length = l := ⟨_, rfl⟩
  obtain ⟨lx2, hlx2⟩ : ∃ l, (gr x2).length = l := ⟨_, rfl⟩
  obtain ⟨ly1, hly1⟩ : ∃ l, (gr y1).length = l := ⟨_, rfl⟩
  obtain ⟨ly2, hly2⟩ : ∃ l, (gr y2).length = l := ⟨_, rfl⟩
  rw [hlx1] at Hx1
  rw [hlx2] at Hx2
  rw [hly1] at Hy1
  rw [hly2] at Hy2
  rw [hlx1, hlx2, hly1, hly2]
  have Hl := hide (And.intro hlx1 (And.intro hlx2 (And.intro hly1 hly2)))
  have HW := hide ((((Below.refl w.heap.size w).alloc (Nat.le_refl _) (.cells #[.bool n1, .slice p1 lx1 e1, .bool false, .slice q1 ly1 e3] 128)).alloc (by simp) (.cells #[.bool n2, .slice p2 lx2 e2, .bool false, .slice q2 ly2 e4] 128)).alloc (by simp; omega) (.cells #[.bool false, .slice none 0 0, .bool false, .slice none 0 0] 128))
  have HA := hide (((AtC.new w #[.bool n1, .slice p1 lx1 e1, .bool false, .slice q1 ly1 e3] 128).alloc (.cells #[.bool n2, .slice p2 lx2 e2, .bool false, .slice q2 ly2 e4] 128)).alloc (.cells #[.bool false, .slice none 0 0, .bool false, .slice none 0 0] 128))
  have HB := hide ((AtC.new (w.alloc (.cells #[.bool n1, .slice p1 lx1 e1, .bool false, .slice q1 ly1 e3] 128)) #[.bool n2, .slice p2 lx2 e2, .bool false, .slice q2 ly2 e4] 128).alloc (.cells #[.bool false, .slice none 0 0, .bool false, .slice none 0 0] 128))
  have HC := hide (AtC.new ((w.alloc (.cells #[.bool n1, .slice p1 lx1 e1, .bool false, .slice q1 ly1 e3] 128)).alloc (.cells #[.bool n2, .slice p2 lx2 e2, .bool false, .slice q2 ly2 e4] 128)) #[.bool false, .slice none 0 0, .bool false, .slice none 0 0] 128)
  rw [World.size_alloc] at HB
  rw [World.size_alloc, World.size_alloc] at HC
  clear hx1 hx2 hy1 hy2 hlx1 hlx2 hly1 hly2
  unfold fracV
  go_enter Tryd.func105, Tryd.ntmps105
  go_wp2
  go_region_held3 (fun w' => w'.cell? ⟨w.heap.size, 0, none⟩ = some (.bool n1) ∧ w'.cell? ⟨w.heap.size, 1, none⟩ = some (.slice p1 lx1 e1) ∧ w'.cell? ⟨w.heap.size, 2, none⟩ = some (.bool false) ∧ w'.cell? ⟨w.heap.size, 3, none⟩ = some (.slice q1 ly1 e3) ∧ w'.cell? ⟨w.heap.size + 1, 0, none⟩ = some (.bool n2) ∧ w'.cell? ⟨w.heap.size + 1, 1, none⟩ = some (.slice p2 lx2 e2) ∧ w'.cell? ⟨w.heap.size + 1, 2, none⟩ = some (.bool false) ∧ w'.cell? ⟨w.heap.size + 1, 3, none⟩ = some (.slice q2 ly2 e4)) (((try dsimp only); (repeat' apply And.intro) <;> (first | with_reducible assumption | (rw [far4 (by first | (simp; done) | (simp; omega))]; with_reducible assumption) | exact (unhide HA).drew.c _ | exact (unhide HB).drew.c _))) (first | (go_at_call 66; refine (aboveLeft_f n1 n2 (.slice p1 lx1 e1) (.slice q1 ly1 e3) (.slice p2 lx2 e2) (.slice q2 ly2 e4) x1 y1 x2 y2 _ (by exact isNat_below (unhide Hx1) (unhide HW).drew) (by exact isNat_below (unhide Hy1) (unhide HW).drew) (by exact isNat_below (unhide Hx2) (unhide HW).drew) (by exact isNat_below (unhide Hy2) (unhide HW).drew) hs1 hs2 ht1 ht2 hp1 hp2).mono ?_; rintro e w1 ⟨⟨z, rfl, ⟨zv, rfl, hz⟩⟩, hb1⟩; obtain ⟨zp1, zc1, rfl⟩ := own_slice hz; have hA1 := (unhide HA).drew.below hb1; have hB1 := (unhide HB).drew.below hb1; have hC1 := (unhide HC).drew.below hb1; have a10 : w1.cell? ⟨w.heap.size, 0, none⟩ = some (.bool n1) := hA1.c 0; have a11 : w1.cell? ⟨w.heap.size, 1, none⟩ = some (.slice p1 lx1 e1) := hA1.c 1; have a12 : w1.cell? ⟨w.heap.size, 2, none⟩ = some (.bool false) := hA1.c 2; have a13 : w1.cell? ⟨w.heap.size, 3, none⟩ = some (.slice q1 ly1 e3) := hA1.c 3; have b10 : w1.cell? ⟨w.heap.size + 1, 0, none⟩ = some (.bool n2) := hB1.c 0; have b11 : w1.cell? ⟨w.heap.size + 1, 1, none⟩ = some (.slice p2 lx2 e2) := hB1.c 1; have b12 : w1.cell? ⟨w.heap.size + 1, 2, none⟩ = some (.bool false) := hB1.c 2; have b13 : w1.cell? ⟨w.heap.size + 1, 3, none⟩ = some (.slice q2 ly2 e4) := hB1.c 3; have HA1 := hide hA1; have HB1 := hide hB1; have HC1 := hide hC1; have Hz1 := hide hz; have HW1 := hide ((unhide HW).drew.trans (hb1.mono (unhide HW).drew.size)); clear hA1 hB1 hC1 hz hb1; unfold wholeV) | (go_at_call 204; refine (wTimes_c false false (.slice q1 ly1 e3) (.slice q2 ly2 e4) y1 y2 _ (by exact isNat_below (unhide Hy1) (unhide HW1)) (by exact isNat_below (unhide Hy2) (unhide HW1)) (by omega) (by omega)).mono ?_; rintro e w2 ⟨⟨z, rfl, ⟨zv, rfl, hz⟩⟩, hb2⟩; obtain ⟨zp2, zc2, rfl⟩ := own_slice hz; have hA2 := (unhide HA1).below hb2; have hB2 := (unhide HB1).below hb2; have hC2 := (unhide HC1).below hb2; have a20 : w2.cell? ⟨w.heap.size, 0, none⟩ = some (.bool n1) := hA2.c 0; have a21 : w2.cell? ⟨w.heap.size, 1, none⟩ = some (.slice p1 lx1 e1) := hA2.c 1; have a22 : w2.cell? ⟨w.heap.size, 2, none⟩ = some (.bool false) := hA2.c 2; have a23 : w2.cell? ⟨w.heap.size, 3, none⟩ = some (.slice q1 ly1 e3) := hA2.c 3; have b20 : w2.cell? ⟨w.heap.size + 1, 0, none⟩ = some (.bool n2) := hB2.c 0; have b21 : w2.cell? ⟨w.heap.size + 1, 1, none⟩ = some (.slice p2 lx2 e2) := hB2.c 1; have b22 : w2.cell? ⟨w.heap.size + 1, 2, none⟩ = some (.bool false) := hB2.c 2; have b23 : w2.cell? ⟨w.heap.size + 1, 3, none⟩ = some (.slice q2 ly2 e4) := hB2.c 3; have c20 : w2.cell? ⟨w.heap.size + 1 + 1, 0, none⟩ = some (.bool false) := hC2.c 0; have c21 : w2.cell? ⟨w.heap.size + 1 + 1, 1, none⟩ = some (.slice none 0 0) := hC2.c 1; have c22 : w2.cell? ⟨w.heap.size + 1 + 1, 2, none⟩ = some (.bool false) := hC2.c 2; have c23 : w2.cell? ⟨w.heap.size + 1 + 1, 3, none⟩ = some (.slice none 0 0) := hC2.c 3; have cf := hC2.f; have hs := hC2.lt; have hs1' := (unhide HC1).lt; have Hz1' := hide (own_below (unhide Hz1) hb2); have Hz2 := hide hz; have HW2 := hide ((unhide HW1).trans (hb2.mono (unhide HW1).size)); have hsz1 := (unhide HW1).size; clear hA2 hB2 hC2 hz hb2; unfold wholeV))
  go_wp2
  have hcc := And.intro c20 (And.intro c21 (And.intro c22 c23))
  refine bodyPost_ret (v := .agg #[.bool (plusW (n1, x1 * y2) (!n2, x2 * y1)).1, .slice zp1 (gr (plusW (n1, x1 * y2) (!n2, x2 * y1)).2).length zc1, .bool false, .slice zp2 (gr (y1 * y2)).length zc2]) (by simp [results, Tryd.results105, go_sem, hcc]) rfl ⟨⟨_, _, rfl, ?_, ?_⟩, ?_⟩
  · have h0 := isNatB_set4 (b := w.heap.size + 1 + 1) (u0 := .bool (plusW (n1, x1 * y2) (!n2, x2 * y1)).1) (u1 := .slice zp1 (gr (plusW (n1, x1 * y2) (!n2, x2 * y1)).2).length zc1) (u2 := .bool false) (u3 := .slice zp2 (gr (y1 * y2)).length zc2) (unhide Hz1') (by simp)
    exact own_base h0 (by first | omega | (simp; omega))
  · have h0 := isNatB_set4 (b := w.heap.size + 1 + 1) (u0 := .bool (plusW (n1, x1 * y2) (!n2, x2 * y1)).1) (u1 := .slice zp1 (gr (plusW (n1, x1 * y2) (!n2, x2 * y1)).2).length zc1) (u2 := .bool false) (u3 := .slice zp2 (gr (y1 * y2)).length zc2) (unhide Hz2) (by omega)
    exact own_base h0 (by omega)
  · exact ((((unhide HW2).setCell (by show w.heap.size ≤ w.heap.size + 1 + 1; omega) _).setCell (by show w.heap.size ≤ w.heap.size + 1 + 1; omega) _).setCell (by show w.heap.size ≤ w.heap.size + 1 + 1; omega) _).setCell (by show w.heap.size ≤ w.heap.size + 1 + 1; omega) _

set_option maxRecDepth 100000 in
set_option maxHeartbeats 4000000 in
theorem bothProduct_c (n1 n2 : Bool) (v1 u1 v2 u2 : Value) (x1 y1 x2 y2 : Nat) (w : World) (hx1 : isNat w v1 x1) (hy1 : isNat w u1 y1) (hx2 : isNat w v2 x2) (hy2 : isNat w u2 y2) (hs1 : (gr x1).length ≤ 1000000) (hs2 : (gr x2).length ≤ 1000000) (ht1 : (gr y1).length ≤ 1000000) (ht2 : (gr y2).length ≤ 1000000) :
    Calls Tryd.prog 105 #[fracV n1 false v1 u1, fracV n2 false v2 u2, .func (.func 63) #[] #[]] w fun e w' => (∃ v u, e = .returned (fracV ((n1 != n2, x1 * x2) : Bool × Nat).1 false v u) ∧ isNatB w' w.heap.size v ((n1 != n2, x1 * x2) : Bool × Nat).2 ∧ isNatB w' w.heap.size u (y1 * y2)) ∧ Below w.heap.size w w' := by
  have hmt := meth_times
  obtain ⟨p1, e1, rfl⟩ := own_slice hx1
  obtain ⟨q1, e3, rfl⟩ := own_slice hy1
  obtain ⟨p2, e2, rfl⟩ := own_slice hx2
  obtain ⟨q2, e4, rfl⟩ := own_slice hy2
  have Hx1 := hide hx1
  have Hx2 := hide hx2
  have Hy1 := hide hy1
  have Hy2 := hide hy2
  obtain ⟨lx1, hlx1⟩ : ∃ l, (gr x1).length = l := ⟨_, rfl⟩
  obtain ⟨lx2, hlx2⟩ : ∃ l, (gr x2).length = l := ⟨_, rfl⟩
  obtain ⟨ly1, hly1⟩ : ∃ l, (gr y1).length = l := ⟨_, rfl⟩
  obtain ⟨ly2, hly2⟩ : ∃ l, (gr y2).length = l := ⟨_, rfl⟩
  rw [hlx1] at Hx1
  rw [hlx2] at Hx2
  rw [hly1] at Hy1
  rw [hly2] at Hy2
  rw [hlx1, hlx2, hly1, hly2]
  have Hl := hide (And.intro hlx1 (And.intro hlx2 (And.intro hly1 hly2)))
  have HW := hide ((((Below.refl w.heap.size w).alloc (Nat.le_refl _) (.cells #[.bool n1, .slice p1 lx1 e1, .bool false, .slice q1 ly1 e3] 128)).alloc (by simp) (.cells #[.bool n2, .slice p2 lx2 e2, .bool false, .slice q2 ly2 e4] 128)).alloc (by simp; omega) (.cells #[.bool false, .slice none 0 0, .bool false, .slice none 0 0] 128))
  have HA := hide (((AtC.new w #[.bool n1, .slice p1 lx1 e1, .bool false, .slice q1 ly1 e3] 128).alloc (.cells #[.bool n2, .slice p2 lx2 e2, .bool false, .slice q2 ly2 e4] 128)).alloc (.cells #[.bool false, .slice none 0 0, .bool false, .slice none 0 0] 128))
  have HB := hide ((AtC.new (w.alloc (.cells #[.bool n1, .slice p1 lx1 e1, .bool false, .slice q1 ly1 e3] 128)) #[.bool n2, .slice p2 lx2 e2, .bool false, .slice q2 ly2 e4] 128).alloc (.cells #[.bool false, .slice none 0 0, .bool false, .slice none 0 0] 128))
  have HC := hide (AtC.new ((w.alloc (.cells #[.bool n1, .slice p1 lx1 e1, .bool false, .slice q1 ly1 e3] 128)).alloc (.cells #[.bool n2, .slice p2 lx2 e2, .bool false, .slice q2 ly2 e4] 128)) #[.bool false, .slice none 0 0, .bool false, .slice none 0 0] 128)
  rw [World.size_alloc] at HB
  rw [World.size_alloc, World.size_alloc] at HC
  clear hx1 hx2 hy1 hy2 hlx1 hlx2 hly1 hly2
  unfold fracV
  go_enter Tryd.func105, Tryd.ntmps105
  go_wp2
  go_region_held3 (fun w' => w'.cell? ⟨w.heap.size, 0, none⟩ = some (.bool n1) ∧ w'.cell? ⟨w.heap.size, 1, none⟩ = some (.slice p1 lx1 e1) ∧ w'.cell? ⟨w.heap.size, 2, none⟩ = some (.bool false) ∧ w'.cell? ⟨w.heap.size, 3, none⟩ = some (.slice q1 ly1 e3) ∧ w'.cell? ⟨w.heap.size + 1, 0, none⟩ = some (.bool n2) ∧ w'.cell? ⟨w.heap.size + 1, 1, none⟩ = some (.slice p2 lx2 e2) ∧ w'.cell? ⟨w.heap.size + 1, 2, none⟩ = some (.bool false) ∧ w'.cell? ⟨w.heap.size + 1, 3, none⟩ = some (.slice q2 ly2 e4)) (((try dsimp only); (repeat' apply And.intro) <;> (first | with_reducible assumption | (rw [far4 (by first | (simp; done) | (simp; omega))]; with_reducible assumption) | exact (unhide HA).drew.c _ | exact (unhide HB).drew.c _))) (first | (go_at_call 63; refine (aboveProduct_c n1 false n2 false (.slice p1 lx1 e1) (.slice q1 ly1 e3) (.slice p2 lx2 e2) (.slice q2 ly2 e4) x1 y1 x2 y2 _ (by exact isNat_below (unhide Hx1) (unhide HW).drew) (by exact isNat_below (unhide Hy1) (unhide HW).drew) (by exact isNat_below (unhide Hx2) (unhide HW).drew) (by exact isNat_below (unhide Hy2) (unhide HW).drew) hs1 hs2).mono ?_; rintro e w1 ⟨⟨z, rfl, ⟨zv, rfl, hz⟩⟩, hb1⟩; obtain ⟨zp1, zc1, rfl⟩ := own_slice hz; have hA1 := (unhide HA).drew.below hb1; have hB1 := (unhide HB).drew.below hb1; have hC1 := (unhide HC).drew.below hb1; have a10 : w1.cell? ⟨w.heap.size, 0, none⟩ = some (.bool n1) := hA1.c 0; have a11 : w1.cell? ⟨w.heap.size, 1, none⟩ = some (.slice p1 lx1 e1) := hA1.c 1; have a12 : w1.cell? ⟨w.heap.size, 2, none⟩ = some (.bool false) := hA1.c 2; have a13 : w1.cell? ⟨w.heap.size, 3, none⟩ = some (.slice q1 ly1 e3) := hA1.c 3; have b10 : w1.cell? ⟨w.heap.size + 1, 0, none⟩ = some (.bool n2) := hB1.c 0; have b11 : w1.cell? ⟨w.heap.size + 1, 1, none⟩ = some (.slice p2 lx2 e2) := hB1.c 1; have b12 : w1.cell? ⟨w.heap.size + 1, 2, none⟩ = some (.bool false) := hB1.c 2; have b13 : w1.cell? ⟨w.heap.size + 1, 3, none⟩ = some (.slice q2 ly2 e4) := hB1.c 3; have HA1 := hide hA1; have HB1 := hide hB1; have HC1 := hide hC1; have Hz1 := hide hz; have HW1 := hide ((unhide HW).drew.trans (hb1.mono (unhide HW).drew.size)); clear hA1 hB1 hC1 hz hb1; unfold wholeV) | (go_at_call 204; refine (wTimes_c false false (.slice q1 ly1 e3) (.slice q2 ly2 e4) y1 y2 _ (by exact isNat_below (unhide Hy1) (unhide HW1)) (by exact isNat_below (unhide Hy2) (unhide HW1)) (by omega) (by omega)).mono ?_; rintro e w2 ⟨⟨z, rfl, ⟨zv, rfl, hz⟩⟩, hb2⟩; obtain ⟨zp2, zc2, rfl⟩ := own_slice hz; have hA2 := (unhide HA1).below hb2; have hB2 := (unhide HB1).below hb2; have hC2 := (unhide HC1).below hb2; have a20 : w2.cell? ⟨w.heap.size, 0, none⟩ = some (.bool n1) := hA2.c 0; have a21 : w2.cell? ⟨w.heap.size, 1, none⟩ = some (.slice p1 lx1 e1) := hA2.c 1; have a22 : w2.cell? ⟨w.heap.size, 2, none⟩ = some (.bool false) := hA2.c 2; have a23 : w2.cell? ⟨w.heap.size, 3, none⟩ = some (.slice q1 ly1 e3) := hA2.c 3; have b20 : w2.cell? ⟨w.heap.size + 1, 0, none⟩ = some (.bool n2) := hB2.c 0; have b21 : w2.cell? ⟨w.heap.size + 1, 1, none⟩ = some (.slice p2 lx2 e2) := hB2.c 1; have b22 : w2.cell? ⟨w.heap.size + 1, 2, none⟩ = some (.bool false) := hB2.c 2; have b23 : w2.cell? ⟨w.heap.size + 1, 3, none⟩ = some (.slice q2 ly2 e4) := hB2.c 3; have c20 : w2.cell? ⟨w.heap.size + 1 + 1, 0, none⟩ = some (.bool false) := hC2.c 0; have c21 : w2.cell? ⟨w.heap.size + 1 + 1, 1, none⟩ = some (.slice none 0 0) := hC2.c 1; have c22 : w2.cell? ⟨w.heap.size + 1 + 1, 2, none⟩ = some (.bool false) := hC2.c 2; have c23 : w2.cell? ⟨w.heap.size + 1 + 1, 3, none⟩ = some (.slice none 0 0) := hC2.c 3; have cf := hC2.f; have hs := hC2.lt; have hs1' := (unhide HC1).lt; have Hz1' := hide (own_below (unhide Hz1) hb2); have Hz2 := hide hz; have HW2 := hide ((unhide HW1).trans (hb2.mono (unhide HW1).size)); have hsz1 := (unhide HW1).size; clear hA2 hB2 hC2 hz hb2; unfold wholeV))
  go_wp2
  have hcc := And.intro c20 (And.intro c21 (And.intro c22 c23))
  refine bodyPost_ret (v := .agg #[.bool ((n1 != n2, x1 * x2) : Bool × Nat).1, .slice zp1 (gr ((n1 != n2, x1 * x2) : Bool × Nat).2).length zc1, .bool false, .slice zp2 (gr (y1 * y2)).length zc2]) (by simp [results, Tryd.results105, go_sem, hcc]) rfl ⟨⟨_, _, rfl, ?_, ?_⟩, ?_⟩
  · have h0 := isNatB_set4 (b := w.heap.size + 1 + 1) (u0 := .bool ((n1 != n2, x1 * x2) : Bool × Nat).1) (u1 := .slice zp1 (gr ((n1 != n2, x1 * x2) : Bool × Nat).2).length zc1) (u2 := .bool false) (u3 := .slice zp2 (gr (y1 * y2)).length zc2) (unhide Hz1') (by simp)
    exact own_base h0 (by first | omega | (simp; omega))
  · have h0 := isNatB_set4 (b := w.heap.size + 1 + 1) (u0 := .bool ((n1 != n2, x1 * x2) : Bool × Nat).1) (u1 := .slice zp1 (gr ((n1 != n2, x1 * x2) : Bool × Nat).2).length zc1) (u2 := .bool false) (u3 := .slice zp2 (gr (y1 * y2)).length zc2) (unhide Hz2) (by omega)
    exact own_base h0 (by omega)
  · exact ((((unhide HW2).setCell (by show w.heap.size ≤ w.heap.size + 1 + 1; omega) _).setCell (by show w.heap.size ≤ w.heap.size + 1 + 1; omega) _).setCell (by show w.heap.size ≤ w.heap.size + 1 + 1; omega) _).setCell (by show w.heap.size ≤ w.heap.size + 1 + 1; omega) _
end Go.Proofs.YtchginjabaobfaaDoor
namespace Go.Proofs.YtchginjabaobfaaDoor
open Go.RowKit Nt

theorem plusW_le (a b : Bool × Nat) : (plusW a b).2 ≤ a.2 + b.2 := by
  unfold plusW; split
  · simp
  · split
    · simp; omega
    · simp; omega
theorem gr_prod {x y : Nat} (hx : (dec x).size ≤ 60) (hy : (dec y).size ≤ 60) : x * y < 10 ^ 120 := by
  have h1 := dec_lt x
  have h2 := dec_lt y
  have h3 : 10 ^ (dec x).size ≤ 10 ^ 60 := Nat.pow_le_pow_right (by omega) hx
  have h4 : 10 ^ (dec y).size ≤ 10 ^ 60 := Nat.pow_le_pow_right (by omega) hy
  calc x * y < 10 ^ 60 * 10 ^ 60 := Nat.mul_lt_mul'' (by omega) (by omega)
    _ = 10 ^ 120 := by rw [← Nat.pow_add]
theorem gr_small {n : Nat} (h : n < 10 ^ 121) : (gr n).length ≤ 121 := by
  apply dec_gr
  rw [dec_len]; exact txl_len_le (by omega) (by omega) h
theorem gr_prod_len {x y : Nat} (hx : (dec x).size ≤ 60) (hy : (dec y).size ≤ 60) : (gr (x * y)).length ≤ 121 := gr_small (Nat.lt_of_lt_of_le (gr_prod hx hy) (Nat.pow_le_pow_right (by omega) (by omega)))
theorem gr_plusW {n1 n2 : Bool} {x1 y1 x2 y2 : Nat} (h1 : (dec x1).size ≤ 60) (h2 : (dec y1).size ≤ 60) (h3 : (dec x2).size ≤ 60) (h4 : (dec y2).size ≤ 60) : (gr (plusW (n1, x1 * y2) (n2, x2 * y1)).2).length ≤ 121 := by
  apply gr_small
  have ha := gr_prod h1 h4
  have hb := gr_prod h3 h2
  have hp := plusW_le (n1, x1 * y2) (n2, x2 * y1)
  have : (10 : Nat) ^ 121 = 10 * 10 ^ 120 := by rw [Nat.pow_succ, Nat.mul_comm]
  rw [this]
  generalize (10 : Nat) ^ 120 = p at *
  simp only at hp
  omega

/-- an answer of the field: the number, and 0, or nothing, and a code -/
def ansC (o : Option (Bool × Nat × Nat)) (c : Int) : Value := .tuple #[numO o, .int .i64 c]
def codeOf (o : Option (Bool × Nat × Nat)) : Int := if o.isSome then 0 else 3


set_option maxRecDepth 100000 in
set_option maxHeartbeats 2000000 in
theorem numWork_no (n1 n2 : Bool) (u1 d1 u2 d2 : List UInt8) (f : Value) (w : World) (hl1 : u1.length ≤ 1000) (hl2 : d1.length ≤ 1000) (hl3 : u2.length ≤ 1000) (hl4 : d2.length ≤ 1000) (h : (okM n1 u1 d1 && okM n2 u2 d2) = false) (hT : Tens w) :
    Calls Tryd.prog 60 #[.agg #[.bool n1, .string (B u1), .string (B d1)], .agg #[.bool n2, .string (B u2), .string (B d2)], f] w fun e w' => e = .returned (ansC none 1) ∧ Below w.heap.size w w' := by
  have h1 := fun w hT => implNumOk_c n1 u1 d1 w (by omega) (by omega) hT
  have h2 := fun w hT => implNumOk_c n2 u2 d2 w (by omega) (by omega) hT
  unfold numB at h1 h2
  -- both numbers are boxed, the answer's box behind them
  have HW := hide ((((Below.refl w.heap.size w).alloc (Nat.le_refl _) (.cells #[.bool n1, .string (B u1), .string (B d1)] 26)).alloc (by simp) (.cells #[.bool n2, .string (B u2), .string (B d2)] 26)).alloc (by simp; omega) (.cells #[.bool false, .string ⟨#[]⟩, .string ⟨#[]⟩] 26))
  have HA := hide (((AtC.new w #[.bool n1, .string (B u1), .string (B d1)] 26).alloc (.cells #[.bool n2, .string (B u2), .string (B d2)] 26)).alloc (.cells #[.bool false, .string ⟨#[]⟩, .string ⟨#[]⟩] 26))
  have HB := hide ((AtC.new (w.alloc (.cells #[.bool n1, .string (B u1), .string (B d1)] 26)) #[.bool n2, .string (B u2), .string (B d2)] 26).alloc (.cells #[.bool false, .string ⟨#[]⟩, .string ⟨#[]⟩] 26))
  have HC := hide (AtC.new ((w.alloc (.cells #[.bool n1, .string (B u1), .string (B d1)] 26)).alloc (.cells #[.bool n2, .string (B u2), .string (B d2)] 26)) #[.bool false, .string ⟨#[]⟩, .string ⟨#[]⟩] 26)
  rw [World.size_alloc] at HB
  rw [World.size_alloc, World.size_alloc] at HC
  have HT := hide hT
  clear hT
  cases hk : okM n1 u1 d1 with
  | false =>
    rw [hk] at h1
    have H1 := hide h1
    clear h h1 h2 hk
    go_enter Tryd.func60, Tryd.ntmps60
    go_wp2_with fail
    have h := unhide H1 _ ((unhide HT).below (unhide HW))
    refine h.mono ?_
    clear h
    rintro e w1 ⟨rfl, hb1⟩
    have Hb1 := hide hb1
    -- w1 the world, (unhide Hb1) what is kept since W0 (Below (W0).heap.size W0 w1)
    have hA := (unhide HA).below (unhide Hb1)
    have hB := (unhide HB).below (unhide Hb1)
    have hC := (unhide HC).below (unhide Hb1)
    have a0 : (w1).cell? ⟨w.heap.size, 0, none⟩ = some (.bool n1) := hA.c 0
    have a1 : (w1).cell? ⟨w.heap.size, 1, none⟩ = some (.string (B u1)) := hA.c 1
    have a2 : (w1).cell? ⟨w.heap.size, 2, none⟩ = some (.string (B d1)) := hA.c 2
    have b0 : (w1).cell? ⟨w.heap.size + 1, 0, none⟩ = some (.bool n2) := hB.c 0
    have b1 : (w1).cell? ⟨w.heap.size + 1, 1, none⟩ = some (.string (B u2)) := hB.c 1
    have b2 : (w1).cell? ⟨w.heap.size + 1, 2, none⟩ = some (.string (B d2)) := hB.c 2
    have c0 : (w1).cell? ⟨w.heap.size + 1 + 1, 0, none⟩ = some (.bool false) := hC.c 0
    have c1 : (w1).cell? ⟨w.heap.size + 1 + 1, 1, none⟩ = some (.string ⟨#[]⟩) := hC.c 1
    have c2 : (w1).cell? ⟨w.heap.size + 1 + 1, 2, none⟩ = some (.string ⟨#[]⟩) := hC.c 2
    have cf := hC.f
    have hs := hC.lt
    clear hA hB hC
    clear hb1
    go_wp2
    have hcc := And.intro c0 (And.intro c1 c2)
    refine bodyPost_ret (v := ansC none 1) (by simp [results, Tryd.results60, go_sem, hcc, ansC, numO, noNum, numV]) rfl ⟨rfl, ?_⟩
    refine ((unhide HW).trans ((unhide Hb1).mono (unhide HW).size)).trans ?_
    repeat (first | exact Below.refl _ _ | refine Below.setCell ?_ (by first | exact Nat.le_refl _ | exact Nat.le_succ _ | (simp; done) | (simp; omega)) _ | refine Below.alloc ?_ (by first | exact Nat.le_refl _ | (simp; done) | (simp; omega)) _)
  | true =>
    rw [hk, Bool.true_and] at h
    rw [hk] at h1
    rw [h] at h2
    have H1 := hide h1
    have H2 := hide h2
    clear h h1 h2 hk
    go_enter Tryd.func60, Tryd.ntmps60
    go_wp2_with fail
    have h := unhide H1 _ ((unhide HT).below (unhide HW))
    refine h.mono ?_
    clear h
    rintro e w1 ⟨rfl, hb1⟩
    have Hb1 := hide hb1
    have HW1 := hide ((unhide HW).trans (hb1.mono (unhide HW).size))
    -- w1 the world, (unhide Hb1) what is kept since W0 (Below (W0).heap.size W0 w1)
    have hA := (unhide HA).below (unhide Hb1)
    have hB := (unhide HB).below (unhide Hb1)
    have hC := (unhide HC).below (unhide Hb1)
    have a0 : (w1).cell? ⟨w.heap.size, 0, none⟩ = some (.bool n1) := hA.c 0
    have a1 : (w1).cell? ⟨w.heap.size, 1, none⟩ = some (.string (B u1)) := hA.c 1
    have a2 : (w1).cell? ⟨w.heap.size, 2, none⟩ = some (.string (B d1)) := hA.c 2
    have b0 : (w1).cell? ⟨w.heap.size + 1, 0, none⟩ = some (.bool n2) := hB.c 0
    have b1 : (w1).cell? ⟨w.heap.size + 1, 1, none⟩ = some (.string (B u2)) := hB.c 1
    have b2 : (w1).cell? ⟨w.heap.size + 1, 2, none⟩ = some (.string (B d2)) := hB.c 2
    have c0 : (w1).cell? ⟨w.heap.size + 1 + 1, 0, none⟩ = some (.bool false) := hC.c 0
    have c1 : (w1).cell? ⟨w.heap.size + 1 + 1, 1, none⟩ = some (.string ⟨#[]⟩) := hC.c 1
    have c2 : (w1).cell? ⟨w.heap.size + 1 + 1, 2, none⟩ = some (.string ⟨#[]⟩) := hC.c 2
    have cf := hC.f
    have hs := hC.lt
    clear hA hB hC
    clear hb1
    go_wp2_with fail
    have h := unhide H2 w1 ((unhide HT).below (unhide HW1))
    refine h.mono ?_
    clear h
    rintro e w2 ⟨rfl, hb2⟩
    clear a0 a1 a2 b0 b1 b2 c0 c1 c2 cf hs
    have Hb2 := hide ((unhide Hb1).trans (hb2.mono (unhide Hb1).size))
    -- w2 the world, (unhide Hb2) what is kept since W0 (Below (W0).heap.size W0 w2)
    have hA := (unhide HA).below (unhide Hb2)
    have hB := (unhide HB).below (unhide Hb2)
    have hC := (unhide HC).below (unhide Hb2)
    have a0 : (w2).cell? ⟨w.heap.size, 0, none⟩ = some (.bool n1) := hA.c 0
    have a1 : (w2).cell? ⟨w.heap.size, 1, none⟩ = some (.string (B u1)) := hA.c 1
    have a2 : (w2).cell? ⟨w.heap.size, 2, none⟩ = some (.string (B d1)) := hA.c 2
    have b0 : (w2).cell? ⟨w.heap.size + 1, 0, none⟩ = some (.bool n2) := hB.c 0
    have b1 : (w2).cell? ⟨w.heap.size + 1, 1, none⟩ = some (.string (B u2)) := hB.c 1
    have b2 : (w2).cell? ⟨w.heap.size + 1, 2, none⟩ = some (.string (B d2)) := hB.c 2
    have c0 : (w2).cell? ⟨w.heap.size + 1 + 1, 0, none⟩ = some (.bool false) := hC.c 0
    have c1 : (w2).cell? ⟨w.heap.size + 1 + 1, 1, none⟩ = some (.string ⟨#[]⟩) := hC.c 1
    have c2 : (w2).cell? ⟨w.heap.size + 1 + 1, 2, none⟩ = some (.string ⟨#[]⟩) := hC.c 2
    have cf := hC.f
    have hs := hC.lt
    clear hA hB hC
    clear hb2
    go_wp2
    have hcc := And.intro c0 (And.intro c1 c2)
    refine bodyPost_ret (v := ansC none 1) (by simp [results, Tryd.results60, go_sem, hcc, ansC, numO, noNum, numV]) rfl ⟨rfl, ?_⟩
    refine ((unhide HW).trans ((unhide Hb2).mono (unhide HW).size)).trans ?_
    repeat (first | exact Below.refl _ _ | refine Below.setCell ?_ (by first | exact Nat.le_refl _ | exact Nat.le_succ _ | (simp; done) | (simp; omega)) _ | refine Below.alloc ?_ (by first | exact Nat.le_refl _ | (simp; done) | (simp; omega)) _)
end Go.Proofs.YtchginjabaobfaaDoor
namespace Go.Proofs.YtchginjabaobfaaDoor
open Go.RowKit Nt

theorem digN_sg {d : Nat} (h : d < 16) : digN (sg d) = d := by
  unfold digN
  rw [sg_toNat h]
  by_cases h10 : d < 10
  · rw [if_pos h10, if_pos (by omega)]; omega
  · rw [if_neg h10, if_neg (by omega), if_pos (by omega)]; omega

theorem rdN_txl {b : Nat} (hb2 : 2 ≤ b) (hb16 : b ≤ 16) (n : Nat) : rdN b (txl b n) = n := by
  induction n using Nat.strongRecOn with
  | _ n ih =>
    by_cases h : n < b
    · rw [txl_one b hb2 n h]; show 0 * b + digN (sg n) = n; rw [digN_sg (by omega)]; omega
    · have hm : n % b < b := Nat.mod_lt _ (by omega)
      rw [txl_step b hb2 n (by omega), rdN_snoc, ih (n / b) (Nat.div_lt_self (by omega) (by omega)), digN_sg (by omega)]
      exact Nat.div_add_mod' n b

theorem txl_digits {b : Nat} (hb2 : 2 ≤ b) (n : Nat) : ∀ c ∈ txl b n, ∃ d, d < b ∧ c = sg d := by
  intro c hc
  unfold txl at hc
  split at hc
  · simp at hc; exact ⟨0, by omega, by rw [hc]; rfl⟩
  · simp at hc
    obtain ⟨d, hd, rfl⟩ := hc
    exact ⟨d, dg_lt hb2 n d hd, rfl⟩

theorem okN_txl {b : Nat} (hb2 : 2 ≤ b) (hb16 : b ≤ 16) (n : Nat) : okN b (txl b n) = true := by
  apply okN_good (txl_length_pos hb2 n)
  intro c hc
  obtain ⟨d, hd, rfl⟩ := txl_digits hb2 n c hc
  rw [digN_sg (by omega)]; exact hd

theorem sg_ge {d : Nat} (h : d < 16) : 48 ≤ (sg d).toNat := by rw [sg_toNat h]; split <;> omega

theorem txl_ne {b : Nat} (hb2 : 2 ≤ b) (hb16 : b ≤ 16) (n : Nat) {c : UInt8} (hc : c.toNat < 48) : ∀ x ∈ txl b n, x ≠ c := by
  intro x hx
  obtain ⟨d, hd, rfl⟩ := txl_digits hb2 n x hx
  intro h
  have := sg_ge (d := d) (by omega)
  rw [h] at this; omega

theorem find_txl {b : Nat} (hb2 : 2 ≤ b) (hb16 : b ≤ 16) (n : Nat) {c : UInt8} (hc : c.toNat < 48) : findB c (txl b n) = none :=
  findB_none fun _ hj => txl_ne hb2 hb16 n hc _ (List.getElem_mem hj)

theorem find_over {b : Nat} (hb2 : 2 ≤ b) (hb16 : b ≤ 16) (n : Nat) (r : List UInt8) : findB 47 (txl b n ++ 47 :: r) = some (txl b n).length := by
  apply findB_some (by simp)
  · simp
  · intro j hj hlt
    rw [List.getElem_append_left hlt]
    exact txl_ne hb2 hb16 n (by decide) _ (List.getElem_mem hlt)

theorem lowest_co {neg : Bool} {a q : Nat} (hq : q ≠ 0) (hg : Nat.gcd a q = 1) (ha : (dec a).size ≤ 60) (hqs : (dec q).size ≤ 60) (hn : neg = true → a ≠ 0) : lowest neg a q = some (neg, a, q) := by
  unfold lowest
  rw [hg, Nat.div_one, Nat.div_one, if_neg (by omega)]
  cases neg with
  | false => rfl
  | true => simp [hn rfl]

theorem body_print {neg : Bool} {a q b : Nat} (hb2 : 2 ≤ b) (hb16 : b ≤ 16) (hq : q ≠ 0) (hg : Nat.gcd a q = 1) (ha : (dec a).size ≤ 60) (hqs : (dec q).size ≤ 60) (hn : neg = true → a ≠ 0) :
    bodyM neg b (txl b a ++ (if q = 1 then [] else 47 :: txl b q)) = some (neg, a, q) := by
  by_cases h1 : q = 1
  · subst h1
    rw [if_pos rfl, List.append_nil]
    unfold bodyM
    rw [find_txl hb2 hb16 a (by decide), find_txl hb2 hb16 a (by decide)]
    show plainM neg b (txl b a) = _
    unfold plainM
    rw [okN_txl hb2 hb16, rdN_txl hb2 hb16]
    exact lowest_co hq hg ha hqs hn
  · rw [if_neg h1]
    unfold bodyM
    rw [find_over hb2 hb16 a]
    show overM neg b _ _ = _
    rw [List.take_left' rfl, show (txl b a ++ 47 :: txl b q).drop ((txl b a).length + 1) = txl b q from by simp [List.drop_append, List.drop_eq_nil_of_le]]
    unfold overM
    rw [okN_txl hb2 hb16, okN_txl hb2 hb16, rdN_txl hb2 hb16, rdN_txl hb2 hb16]
    exact lowest_co hq hg ha hqs hn

theorem sign_print {neg : Bool} {a q b : Nat} (hb2 : 2 ≤ b) (hb16 : b ≤ 16) (hq : q ≠ 0) (hg : Nat.gcd a q = 1) (ha : (dec a).size ≤ 60) (hqs : (dec q).size ≤ 60) (hn : neg = true → a ≠ 0) :
    signB b (prM neg a q b) = some (neg, a, q) := by
  have hb := body_print hb2 hb16 hq hg ha hqs hn
  unfold prM
  cases neg with
  | true => simpa [signB] using hb
  | false =>
    rw [if_neg (by simp), List.nil_append]
    have hne : 0 < (txl b a).length := txl_length_pos hb2 a
    have h45 := txl_ne hb2 hb16 a (c := 45) (by decide)
    have h43 := txl_ne hb2 hb16 a (c := 43) (by decide)
    revert hb hne h45 h43
    cases txl b a with
    | nil => intro _ h; simp at h
    | cons c t =>
      intro hb _ h45 h43
      rw [List.cons_append] at hb ⊢
      show (if c = 45 then _ else if c = 43 then _ else _) = _
      rw [if_neg (h45 c (by simp)), if_neg (h43 c (by simp))]
      exact hb

theorem parse_print {neg : Bool} {u d : List UInt8} {b : Nat} (hok : okM neg u d = true) (hb4 : b = 2 ∨ b = 8 ∨ b = 10 ∨ b = 16) (hl : (printM neg u d b).length ≤ 240) :
    parseM (printM neg u d b) b = some (neg, valDec u, valDec d) := by
  have hr : isRadix (b : Int) = true := by rcases hb4 with rfl | rfl | rfl | rfl <;> rfl
  obtain ⟨h3, h4, hu, hd, hd0, hn0, hg⟩ := ok_parts hok
  have e : printM neg u d b = prM neg (valDec u) (valDec d) b := by unfold printM; rw [hok, hr]; simp
  rw [parse_yes _ b hb4 hl, e]
  exact sign_print (by omega) (by omega) hd0 hg (by rw [dec_len, ← isDec_val h3]; exact hu) (by rw [dec_len, ← isDec_val h4]; exact hd) hn0

theorem okM_mk {neg : Bool} {u d : List UInt8} (h1 : u.length ≤ 60) (h2 : d.length ≤ 60) (h3 : isDec u = true) (h4 : isDec d = true) (h5 : valDec d ≠ 0) (h6 : neg = true → valDec u ≠ 0) (h7 : Nat.gcd (valDec u) (valDec d) = 1) : okM neg u d = true := by
  unfold okM
  simp only [Bool.and_eq_true, decide_eq_true_eq, Bool.not_eq_true', Bool.and_eq_false_iff, decide_eq_false_iff_not]
  refine ⟨⟨⟨⟨⟨⟨h1, h2⟩, h3⟩, h4⟩, h5⟩, ?_⟩, h7⟩
  cases neg with
  | false => exact .inl rfl
  | true => exact .inr (h6 rfl)

theorem lowest_ok {neg n : Bool} {u d x y : Nat} (h : lowest neg u d = some (n, x, y)) : okM n (txl 10 x) (txl 10 y) = true := by
  unfold lowest at h
  split at h
  · cases h
  · rename_i hh
    simp only [Option.some.injEq, Prod.mk.injEq] at h
    obtain ⟨rfl, rfl, rfl⟩ := h
    have hd : d ≠ 0 := fun hd => hh (.inl hd)
    have h1 : ¬ 60 < (dec (u / Nat.gcd u d)).size := fun k => hh (.inr (.inl k))
    have h2 : ¬ 60 < (dec (d / Nat.gcd u d)).size := fun k => hh (.inr (.inr k))
    rw [dec_len] at h1 h2
    have hgp : 0 < Nat.gcd u d := Nat.gcd_pos_of_pos_right _ (by omega)
    have hdd : d / Nat.gcd u d ≠ 0 := by
      have := Nat.div_pos (Nat.le_of_dvd (by omega) (Nat.gcd_dvd_right u d)) hgp
      omega
    have hco : Nat.gcd (u / Nat.gcd u d) (d / Nat.gcd u d) = 1 := Nat.coprime_div_gcd_div_gcd hgp
    refine okM_mk (by omega) (by omega) (isDec_txl _) (isDec_txl _) (by rw [valDec_txl]; exact hdd) ?_ (by rw [valDec_txl, valDec_txl]; exact hco)
    intro hh
    rw [valDec_txl]
    intro h0
    rw [h0] at hh
    simp at hh

theorem body_lowest {neg : Bool} {b : Nat} {l : List UInt8} {p : Bool × Nat × Nat} (h : bodyM neg b l = some p) : ∃ u d, lowest neg u d = some p := by
  unfold bodyM overM pointM plainM at h
  split at h
  · split at h
    · exact ⟨_, _, h⟩
    · cases h
  · split at h
    · split at h
      · split at h
        · exact ⟨_, _, h⟩
        · cases h
      · split at h
        · exact ⟨_, _, h⟩
        · cases h
    · split at h
      · exact ⟨_, _, h⟩
      · cases h

theorem parse_ok {l : List UInt8} {r : Int} {n : Bool} {x y : Nat} (h : parseM l r = some (n, x, y)) : okM n (txl 10 x) (txl 10 y) = true := by
  have key : ∀ neg b l, bodyM neg b l = some (n, x, y) → okM n (txl 10 x) (txl 10 y) = true := by
    intro neg b l h
    obtain ⟨u, d, h⟩ := body_lowest h
    exact lowest_ok h
  unfold parseM at h
  split at h
  · unfold signB at h
    split at h
    · exact key _ _ _ h
    · split at h
      · exact key _ _ _ h
      · split at h
        · exact key _ _ _ h
        · exact key _ _ _ h
  · cases h

theorem noNum_B : noNum = numB false [] [] := rfl
theorem numV_B (n : Bool) (x y : Nat) : numV n (dec x) (dec y) = numB n (txl 10 x) (txl 10 y) := rfl

/-- an answer as fields -/
def ansN (o : Option (Bool × Nat × Nat)) : Bool := match o with | some (n, _, _) => n | none => false
def ansU (o : Option (Bool × Nat × Nat)) : List UInt8 := match o with | some (_, u, _) => txl 10 u | none => []
def ansD (o : Option (Bool × Nat × Nat)) : List UInt8 := match o with | some (_, _, d) => txl 10 d | none => []
theorem numO_B (o : Option (Bool × Nat × Nat)) : numO o = numB (ansN o) (ansU o) (ansD o) := by
  cases o with
  | none => rfl
  | some p => rfl
theorem okM_ans (l : List UInt8) (r : Int) : okM (ansN (parseM l r)) (ansU (parseM l r)) (ansD (parseM l r)) = (parseM l r).isSome := by
  cases h : parseM l r with
  | none => rfl
  | some p => obtain ⟨n, x, y⟩ := p; exact parse_ok h
theorem ans_len (l : List UInt8) (r : Int) : (ansU (parseM l r)).length ≤ 60 ∧ (ansD (parseM l r)).length ≤ 60 := by
  cases h : parseM l r with
  | none => exact ⟨by simp [ansU], by simp [ansD]⟩
  | some p =>
    obtain ⟨n, x, y⟩ := p
    have := ok_parts (parse_ok h)
    exact ⟨this.2.2.1, this.2.2.2.1⟩

theorem intV_B (i : Int) : intV i = numB (decide (i < 0)) (txl 10 i.natAbs) (txl 10 1) := rfl
theorem int_ok {i : Int} (h0 : -9223372036854775808 ≤ i) (h1 : i ≤ 9223372036854775807) : okM (decide (i < 0)) (txl 10 i.natAbs) (txl 10 1) = true := by
  have hl : (txl 10 i.natAbs).length ≤ 60 := txl_len_le (by omega) (by omega) (Nat.lt_of_le_of_lt (show i.natAbs ≤ 9223372036854775808 by omega) (by decide))
  refine okM_mk hl (by decide) (isDec_txl _) (isDec_txl _) (by rw [valDec_txl]; omega) ?_ (by rw [valDec_txl, valDec_txl]; exact Nat.gcd_one_right _)
  intro hi
  rw [valDec_txl]
  have := of_decide_eq_true hi
  omega
end Go.Proofs.YtchginjabaobfaaDoor
namespace Go.Proofs.YtchginjabaobfaaDoor
open Go.RowKit Nt

theorem AtC.st0 {w : World} {b : Nat} {x y z s : Value} {T : TypeId} (h : AtC w b #[x, y, z, s] T) (u : Value) : AtC (w.setCell ⟨b, 0, none⟩ u) b #[u, y, z, s] T := by
  show (w.heap.modify b _)[b]? = _
  rw [Array.getElem?_modify, if_pos rfl, show w.heap[b]? = _ from h]; rfl
theorem AtC.st1 {w : World} {b : Nat} {x y z s : Value} {T : TypeId} (h : AtC w b #[x, y, z, s] T) (u : Value) : AtC (w.setCell ⟨b, 1, none⟩ u) b #[x, u, z, s] T := by
  show (w.heap.modify b _)[b]? = _
  rw [Array.getElem?_modify, if_pos rfl, show w.heap[b]? = _ from h]; rfl
theorem AtC.st2 {w : World} {b : Nat} {x y z s : Value} {T : TypeId} (h : AtC w b #[x, y, z, s] T) (u : Value) : AtC (w.setCell ⟨b, 2, none⟩ u) b #[x, y, u, s] T := by
  show (w.heap.modify b _)[b]? = _
  rw [Array.getElem?_modify, if_pos rfl, show w.heap[b]? = _ from h]; rfl
theorem AtC.st3 {w : World} {b : Nat} {x y z s : Value} {T : TypeId} (h : AtC w b #[x, y, z, s] T) (u : Value) : AtC (w.setCell ⟨b, 3, none⟩ u) b #[x, y, z, u] T := by
  show (w.heap.modify b _)[b]? = _
  rw [Array.getElem?_modify, if_pos rfl, show w.heap[b]? = _ from h]; rfl
theorem AtC.m0 {w : World} {b : Nat} {x y z s : Value} {T : TypeId} (h : AtC w b #[x, y, z, s] T) : w.cell? ⟨b, 0, none⟩ = some x := h.c 0
theorem AtC.m1 {w : World} {b : Nat} {x y z s : Value} {T : TypeId} (h : AtC w b #[x, y, z, s] T) : w.cell? ⟨b, 1, none⟩ = some y := h.c 1
theorem AtC.m2 {w : World} {b : Nat} {x y z s : Value} {T : TypeId} (h : AtC w b #[x, y, z, s] T) : w.cell? ⟨b, 2, none⟩ = some z := h.c 2
theorem AtC.m3 {w : World} {b : Nat} {x y z s : Value} {T : TypeId} (h : AtC w b #[x, y, z, s] T) : w.cell? ⟨b, 3, none⟩ = some s := h.c 3
theorem AtC.n0 {w : World} {b : Nat} {x y z : Value} {T : TypeId} (h : AtC w b #[x, y, z] T) : w.cell? ⟨b, 0, none⟩ = some x := h.c 0
theorem AtC.n1 {w : World} {b : Nat} {x y z : Value} {T : TypeId} (h : AtC w b #[x, y, z] T) : w.cell? ⟨b, 1, none⟩ = some y := h.c 1
theorem AtC.n2 {w : World} {b : Nat} {x y z : Value} {T : TypeId} (h : AtC w b #[x, y, z] T) : w.cell? ⟨b, 2, none⟩ = some z := h.c 2
theorem AtC.put4 {w : World} {b : Nat} {x y z s : Value} {T : TypeId} (h : AtC w b #[x, y, z, s] T) (u v t r : Value) : AtC ((((w.setCell ⟨b, 0, none⟩ u).setCell ⟨b, 1, none⟩ v).setCell ⟨b, 2, none⟩ t).setCell ⟨b, 3, none⟩ r) b #[u, v, t, r] T :=
  (((h.st0 u).st1 v).st2 t).st3 r
theorem below_set4 {B : Nat} {a w : World} (h : Below B a w) {b : Nat} (hb : B ≤ b) (u v t r : Value) : Below B a ((((w.setCell ⟨b, 0, none⟩ u).setCell ⟨b, 1, none⟩ v).setCell ⟨b, 2, none⟩ t).setCell ⟨b, 3, none⟩ r) :=
  (((h.setCell (p := ⟨b, 0, none⟩) hb u).setCell (p := ⟨b, 1, none⟩) hb v).setCell (p := ⟨b, 2, none⟩) hb t).setCell (p := ⟨b, 3, none⟩) hb r
/-- the fraction's box, empty -/
abbrev noFrac : Obj := .cells #[.bool false, .slice none 0 0, .bool false, .slice none 0 0] 128
theorem below_al {B : Nat} {a w : World} (h : Below B a w) (hB : B ≤ a.heap.size) (o : Obj) : Below B a (w.alloc o) := h.alloc (Nat.le_trans hB h.size) o

/-- behind the region of numWork: the fraction lies in a box of its own -/
def Made (w2 : World) (R : Bool × Nat) (q : Nat) (s8 : Value) (wx : World) : Prop :=
  ∃ g vp vc up uc, s8 = .pointer (some ⟨g, 0, none⟩) ∧ AtC wx g #[.bool R.1, .slice vp (gr R.2).length vc, .bool false, .slice up (gr q).length uc] 128 ∧ isNat wx (.slice vp (gr R.2).length vc) R.2 ∧ isNat wx (.slice up (gr q).length uc) q ∧ Below w2.heap.size w2 wx

theorem made_new {w2 w5 : World} {R : Bool × Nat} {q base : Nat} {vp up : Option Addr} {vc uc : Nat} (hv : isNatB w5 base (.slice vp (gr R.2).length vc) R.2) (hu : isNatB w5 base (.slice up (gr q).length uc) q) (hK : Below w2.heap.size w2 w5) :
    Made w2 R q (.pointer (some ⟨w5.heap.size, 0, none⟩)) (w5.alloc (.cells #[.bool R.1, .slice vp (gr R.2).length vc, .bool false, .slice up (gr q).length uc] 128)) :=
  ⟨_, vp, vc, up, uc, rfl, AtC.new _ _ _, isNat_below hv.nat (below_al (Below.refl _ _) (Nat.le_refl _) _), isNat_below hu.nat (below_al (Below.refl _ _) (Nat.le_refl _) _), below_al hK (Nat.le_refl _) _⟩
theorem made_old {w2 w5 : World} {R : Bool × Nat} {q base b : Nat} {vp up : Option Addr} {vc uc : Nat} {x y z s : Value} (hM : AtC w5 b #[x, y, z, s] 128) (h2 : w2.heap.size ≤ b) (hb : b < base) (hv : isNatB w5 base (.slice vp (gr R.2).length vc) R.2) (hu : isNatB w5 base (.slice up (gr q).length uc) q) (hK : Below w2.heap.size w2 w5) :
    Made w2 R q (.pointer (some ⟨b, 0, none⟩)) ((((w5.setCell ⟨b, 0, none⟩ (.bool R.1)).setCell ⟨b, 1, none⟩ (.slice vp (gr R.2).length vc)).setCell ⟨b, 2, none⟩ (.bool false)).setCell ⟨b, 3, none⟩ (.slice up (gr q).length uc)) :=
  ⟨b, vp, vc, up, uc, rfl, hM.put4 _ _ _ _, (isNatB_set4 hv hb).nat, (isNatB_set4 hu hb).nat, below_set4 hK h2 _ _ _ _⟩

-- numWork, both ok: workSum_c the name; aboveSum what is above; bothSum_c its numBoth; (plusW (n1, x1 * y2) (n2, x2 * y1)) what comes above; (by omega) (by omega) (by omega) (by omega) (by omega) (by omega) bounds; gr_plusW sx1 sy1 sx2 sy2 its size
set_option maxRecDepth 100000 in
set_option maxHeartbeats 4000000 in
theorem workSum_c (n1 n2 : Bool) (x1 y1 x2 y2 : Nat) (w : World) (hok1 : okM n1 (txl 10 x1) (txl 10 y1) = true) (hok2 : okM n2 (txl 10 x2) (txl 10 y2) = true) (hT : Tens w) :
    Calls Tryd.prog 60 #[.agg #[.bool n1, .string (dec x1), .string (dec y1)], .agg #[.bool n2, .string (dec x2), .string (dec y2)], .func (.func 61) #[] #[]] w fun e w' => e = .returned (ansC (lowest (plusW (n1, x1 * y2) (n2, x2 * y1)).1 (plusW (n1, x1 * y2) (n2, x2 * y1)).2 (y1 * y2)) (codeOf (lowest (plusW (n1, x1 * y2) (n2, x2 * y1)).1 (plusW (n1, x1 * y2) (n2, x2 * y1)).2 (y1 * y2)))) ∧ Below w.heap.size w w' := by
  have hp1 := ok_parts hok1
  have hp2 := ok_parts hok2
  have sx1 : (dec x1).size ≤ 60 := by rw [dec_len]; exact hp1.2.2.1
  have sy1 : (dec y1).size ≤ 60 := by rw [dec_len]; exact hp1.2.2.2.1
  have sx2 : (dec x2).size ≤ 60 := by rw [dec_len]; exact hp2.2.2.1
  have sy2 : (dec y2).size ≤ 60 := by rw [dec_len]; exact hp2.2.2.2.1
  have hy1 : y1 ≠ 0 := by have := hp1.2.2.2.2.1; rwa [valDec_txl] at this
  have hy2 : y2 ≠ 0 := by have := hp2.2.2.2.2.1; rwa [valDec_txl] at this
  have hyy : 0 < y1 * y2 := Nat.mul_pos (by omega) (by omega)
  have gx1 := dec_gr sx1
  have gy1 := dec_gr sy1
  have gx2 := dec_gr sx2
  have gy2 := dec_gr sy2
  have gp1 := gr_prod_len sx1 sy2
  have gp2 := gr_prod_len sx2 sy1
  have gpq := gr_prod_len sy1 sy2
  have gR : (gr (plusW (n1, x1 * y2) (n2, x2 * y1)).2).length ≤ 121 := gr_plusW sx1 sy1 sx2 sy2
  have h1 := fun w hT => implNumOk_c n1 (txl 10 x1) (txl 10 y1) w (by have := hp1.2.2.1; omega) (by have := hp1.2.2.2.1; omega) hT
  have h2 := fun w hT => implNumOk_c n2 (txl 10 x2) (txl 10 y2) w (by have := hp2.2.2.1; omega) (by have := hp2.2.2.2.1; omega) hT
  rw [hok1] at h1
  rw [hok2] at h2
  have H1 : Hid (∀ w, Tens w → Calls Tryd.prog 9 #[.agg #[.bool n1, .string (dec x1), .string (dec y1)]] w fun e w' => e = .returned (.bool true) ∧ Below w.heap.size w w') := h1
  have H2 : Hid (∀ w, Tens w → Calls Tryd.prog 9 #[.agg #[.bool n2, .string (dec x2), .string (dec y2)]] w fun e w' => e = .returned (.bool true) ∧ Below w.heap.size w w') := h2
  have HT := hide hT
  clear h1 h2 hp1 hp2 hok1 hok2 hT hy1 hy2
  have HW := hide ((((Below.refl w.heap.size w).alloc (Nat.le_refl _) (.cells #[.bool n1, .string (dec x1), .string (dec y1)] 26)).alloc (by simp) (.cells #[.bool n2, .string (dec x2), .string (dec y2)] 26)).alloc (by simp; omega) (.cells #[.bool false, .string ⟨#[]⟩, .string ⟨#[]⟩] 26))
  have HA := hide (((AtC.new w #[.bool n1, .string (dec x1), .string (dec y1)] 26).alloc (.cells #[.bool n2, .string (dec x2), .string (dec y2)] 26)).alloc (.cells #[.bool false, .string ⟨#[]⟩, .string ⟨#[]⟩] 26))
  have HB := hide ((AtC.new (w.alloc (.cells #[.bool n1, .string (dec x1), .string (dec y1)] 26)) #[.bool n2, .string (dec x2), .string (dec y2)] 26).alloc (.cells #[.bool false, .string ⟨#[]⟩, .string ⟨#[]⟩] 26))
  have HC := hide (AtC.new ((w.alloc (.cells #[.bool n1, .string (dec x1), .string (dec y1)] 26)).alloc (.cells #[.bool n2, .string (dec x2), .string (dec y2)] 26)) #[.bool false, .string ⟨#[]⟩, .string ⟨#[]⟩] 26)
  rw [World.size_alloc] at HB
  rw [World.size_alloc, World.size_alloc] at HC
  go_enter Tryd.func60, Tryd.ntmps60
  go_wp2_with fail
  refine (unhide H1 _ ((unhide HT).below (unhide HW))).mono ?_
  rintro e w1 ⟨rfl, hb1⟩
  have hA1 := (unhide HA).below hb1
  have hB1 := (unhide HB).below hb1
  have HC1 := hide ((unhide HC).below hb1)
  have a10 : w1.cell? ⟨w.heap.size, 0, none⟩ = some (.bool n1) := hA1.c 0
  have a11 : w1.cell? ⟨w.heap.size, 1, none⟩ = some (.string (dec x1)) := hA1.c 1
  have a12 : w1.cell? ⟨w.heap.size, 2, none⟩ = some (.string (dec y1)) := hA1.c 2
  have b10 : w1.cell? ⟨w.heap.size + 1, 0, none⟩ = some (.bool n2) := hB1.c 0
  have b11 : w1.cell? ⟨w.heap.size + 1, 1, none⟩ = some (.string (dec x2)) := hB1.c 1
  have b12 : w1.cell? ⟨w.heap.size + 1, 2, none⟩ = some (.string (dec y2)) := hB1.c 2
  have HA1 := hide hA1
  have HB1 := hide hB1
  have HW1 := hide ((unhide HW).trans (hb1.mono (unhide HW).size))
  clear hb1 hA1 hB1
  go_wp2_with fail
  refine (unhide H2 w1 ((unhide HT).below (unhide HW1))).mono ?_
  rintro e w2 ⟨rfl, hb2⟩
  have hA2 := (unhide HA1).below hb2
  have hB2 := (unhide HB1).below hb2
  have HC2 := hide ((unhide HC1).below hb2)
  have a20 : w2.cell? ⟨w.heap.size, 0, none⟩ = some (.bool n1) := hA2.c 0
  have a21 : w2.cell? ⟨w.heap.size, 1, none⟩ = some (.string (dec x1)) := hA2.c 1
  have a22 : w2.cell? ⟨w.heap.size, 2, none⟩ = some (.string (dec y1)) := hA2.c 2
  have b20 : w2.cell? ⟨w.heap.size + 1, 0, none⟩ = some (.bool n2) := hB2.c 0
  have b21 : w2.cell? ⟨w.heap.size + 1, 1, none⟩ = some (.string (dec x2)) := hB2.c 1
  have b22 : w2.cell? ⟨w.heap.size + 1, 2, none⟩ = some (.string (dec y2)) := hB2.c 2
  have HA2 := hide hA2
  have HB2 := hide hB2
  have HW2 := hide ((unhide HW1).trans (hb2.mono (unhide HW1).size))
  have HKd := hide (Below.refl w2.heap.size w2).drew
  have HKa := hide (below_al (Below.refl w2.heap.size w2) (Nat.le_refl _) noFrac).drew
  have HT2 := hide ((unhide HT).below (unhide HW2))
  have hs2 := (unhide HC2).lt
  clear hb2 hA2 hB2 HA1 HB1 HC1 a10 a11 a12 b10 b11 b12
  go_upto_region 3 with fail
  go_cut [8] from 11 (fun s8 wx => Made w2 (plusW (n1, x1 * y2) (n2, x2 * y1)) (y1 * y2) s8 wx)
  case first =>
    go_region_held3 (fun w' => w'.cell? ⟨w.heap.size, 0, none⟩ = some (.bool n1) ∧ w'.cell? ⟨w.heap.size, 1, none⟩ = some (.string (dec x1)) ∧ w'.cell? ⟨w.heap.size, 2, none⟩ = some (.string (dec y1)) ∧ w'.cell? ⟨w.heap.size + 1, 0, none⟩ = some (.bool n2) ∧ w'.cell? ⟨w.heap.size + 1, 1, none⟩ = some (.string (dec x2)) ∧ w'.cell? ⟨w.heap.size + 1, 2, none⟩ = some (.string (dec y2))) (((try dsimp only); (repeat' apply And.intro) <;> (first | with_reducible assumption | (rw [far4 (by first | (simp; done) | (simp; omega) | omega)]; with_reducible assumption) | with_reducible exact (unhide HA2).drew.n0 | with_reducible exact (unhide HA2).drew.n1 | with_reducible exact (unhide HA2).drew.n2 | with_reducible exact (unhide HB2).drew.n0 | with_reducible exact (unhide HB2).drew.n1 | with_reducible exact (unhide HB2).drew.n2 | with_reducible exact ((unhide HA2).alloc _).drew.n0 | with_reducible exact ((unhide HA2).alloc _).drew.n1 | with_reducible exact ((unhide HA2).alloc _).drew.n2 | with_reducible exact ((unhide HB2).alloc _).drew.n0 | with_reducible exact ((unhide HB2).alloc _).drew.n1 | with_reducible exact ((unhide HB2).alloc _).drew.n2 | with_reducible exact ((unhide HA3).alloc _).n0 | with_reducible exact ((unhide HA3).alloc _).n1 | with_reducible exact ((unhide HA3).alloc _).n2 | with_reducible exact ((unhide HB3).alloc _).n0 | with_reducible exact ((unhide HB3).alloc _).n1 | with_reducible exact ((unhide HB3).alloc _).n2 | with_reducible exact ((unhide HA4).alloc _).n0 | with_reducible exact ((unhide HA4).alloc _).n1 | with_reducible exact ((unhide HA4).alloc _).n2 | with_reducible exact ((unhide HB4).alloc _).n0 | with_reducible exact ((unhide HB4).alloc _).n1 | with_reducible exact ((unhide HB4).alloc _).n2 | with_reducible exact ((unhide HA5).alloc _).n0 | with_reducible exact ((unhide HA5).alloc _).n1 | with_reducible exact ((unhide HA5).alloc _).n2 | with_reducible exact ((unhide HB5).alloc _).n0 | with_reducible exact ((unhide HB5).alloc _).n1 | with_reducible exact ((unhide HB5).alloc _).n2 | (rw [far4 (by first | (simp; done) | (simp; omega) | omega)]; with_reducible exact ((unhide HA5).alloc _).n0) | (rw [far4 (by first | (simp; done) | (simp; omega) | omega)]; with_reducible exact ((unhide HA5).alloc _).n1) | (rw [far4 (by first | (simp; done) | (simp; omega) | omega)]; with_reducible exact ((unhide HA5).alloc _).n2) | (rw [far4 (by first | (simp; done) | (simp; omega) | omega)]; with_reducible exact ((unhide HB5).alloc _).n0) | (rw [far4 (by first | (simp; done) | (simp; omega) | omega)]; with_reducible exact ((unhide HB5).alloc _).n1) | (rw [far4 (by first | (simp; done) | (simp; omega) | omega)]; with_reducible exact ((unhide HB5).alloc _).n2)))) (first | (go_at_call_of 106 (dec x1); refine (fractionOf_c n1 x1 y1 _ sx1 sy1 (by first | exact (unhide HT2).below (unhide HKd) | exact (unhide HT2).below (unhide HKa))).mono ?_; rintro e w3 ⟨⟨v, u, rfl, hv, hu⟩, hb3⟩; obtain ⟨vp1, vc1, rfl⟩ := own_slice hv; obtain ⟨up1, uc1, rfl⟩ := own_slice hu; have HK3 : Hid (Below w2.heap.size w2 w3) := (by first | exact (unhide HKd).trans (hb3.mono (unhide HKd).size) | exact (unhide HKa).trans (hb3.mono (unhide HKa).size)); have k3 := (unhide HK3).size; have HM3 := (by first | exact hide ((AtC.new w2 #[.bool false, .slice none 0 0, .bool false, .slice none 0 0] 128).drew.below hb3) | exact trivial : _); have HA3 := hide ((unhide HA2).below (unhide HK3)); have HB3 := hide ((unhide HB2).below (unhide HK3)); have a30 : w3.cell? ⟨w.heap.size, 0, none⟩ = some (.bool n1) := (unhide HA3).c 0; have a31 : w3.cell? ⟨w.heap.size, 1, none⟩ = some (.string (dec x1)) := (unhide HA3).c 1; have a32 : w3.cell? ⟨w.heap.size, 2, none⟩ = some (.string (dec y1)) := (unhide HA3).c 2; have b30 : w3.cell? ⟨w.heap.size + 1, 0, none⟩ = some (.bool n2) := (unhide HB3).c 0; have b31 : w3.cell? ⟨w.heap.size + 1, 1, none⟩ = some (.string (dec x2)) := (unhide HB3).c 1; have b32 : w3.cell? ⟨w.heap.size + 1, 2, none⟩ = some (.string (dec y2)) := (unhide HB3).c 2; have Hv1 := hide hv.nat; have Hu1 := hide hu.nat; clear hv hu hb3; unfold fracV) | (go_at_call_of 106 (dec x2); refine (fractionOf_c n2 x2 y2 _ sx2 sy2 (by first | exact (unhide HT2).below (unhide HK3) | exact (unhide HT2).below (below_al (unhide HK3) (Nat.le_refl _) _))).mono ?_; rintro e w4 ⟨⟨v, u, rfl, hv, hu⟩, hb4⟩; obtain ⟨vp2, vc2, rfl⟩ := own_slice hv; obtain ⟨up2, uc2, rfl⟩ := own_slice hu; have HK34 : Hid (Below w3.heap.size w3 w4) := (by first | exact hb4 | exact (below_al (Below.refl _ _) (Nat.le_refl _) _).trans (hb4.mono (below_al (Below.refl _ _) (Nat.le_refl _) _).size)); have HK4 := hide ((unhide HK3).trans ((unhide HK34).mono (unhide HK3).size)); have k4 := (unhide HK34).size; have HM4 := (by first | exact hide ((unhide HM3).below (unhide HK34)) | exact hide ((AtC.new w3 #[.bool false, .slice none 0 0, .bool false, .slice none 0 0] 128).below hb4) | exact trivial : _); have HA4 := hide ((unhide HA2).below (unhide HK4)); have HB4 := hide ((unhide HB2).below (unhide HK4)); have a40 : w4.cell? ⟨w.heap.size, 0, none⟩ = some (.bool n1) := (unhide HA4).c 0; have a41 : w4.cell? ⟨w.heap.size, 1, none⟩ = some (.string (dec x1)) := (unhide HA4).c 1; have a42 : w4.cell? ⟨w.heap.size, 2, none⟩ = some (.string (dec y1)) := (unhide HA4).c 2; have b40 : w4.cell? ⟨w.heap.size + 1, 0, none⟩ = some (.bool n2) := (unhide HB4).c 0; have b41 : w4.cell? ⟨w.heap.size + 1, 1, none⟩ = some (.string (dec x2)) := (unhide HB4).c 1; have b42 : w4.cell? ⟨w.heap.size + 1, 2, none⟩ = some (.string (dec y2)) := (unhide HB4).c 2; have Hv1' := hide (isNat_below (unhide Hv1) (unhide HK34)); have Hu1' := hide (isNat_below (unhide Hu1) (unhide HK34)); have Hv2 := hide hv.nat; have Hu2 := hide hu.nat; clear hv hu hb4; unfold fracV) | (go_at_call 105; refine (bothSum_c n1 n2 (.slice vp1 (gr x1).length vc1) (.slice up1 (gr y1).length uc1) (.slice vp2 (gr x2).length vc2) (.slice up2 (gr y2).length uc2) x1 y1 x2 y2 _ (by first | exact unhide Hv1' | exact isNat_below (unhide Hv1') (below_al (Below.refl _ _) (Nat.le_refl _) _)) (by first | exact unhide Hu1' | exact isNat_below (unhide Hu1') (below_al (Below.refl _ _) (Nat.le_refl _) _)) (by first | exact unhide Hv2 | exact isNat_below (unhide Hv2) (below_al (Below.refl _ _) (Nat.le_refl _) _)) (by first | exact unhide Hu2 | exact isNat_below (unhide Hu2) (below_al (Below.refl _ _) (Nat.le_refl _) _)) (by omega) (by omega) (by omega) (by omega) (by omega) (by omega)).mono ?_; rintro e w5 ⟨⟨v, u, rfl, hv, hu⟩, hb5⟩; obtain ⟨vp, vc, rfl⟩ := own_slice hv; obtain ⟨up, uc, rfl⟩ := own_slice hu; have HK45 : Hid (Below w4.heap.size w4 w5) := (by first | exact hb5 | exact (below_al (Below.refl _ _) (Nat.le_refl _) _).trans (hb5.mono (below_al (Below.refl _ _) (Nat.le_refl _) _).size)); have HK5 := hide ((unhide HK4).trans ((unhide HK45).mono (unhide HK4).size)); have k5 := (unhide HK45).size; have ml4 := (by first | exact (unhide HM4).lt | exact trivial : _); have HM5 := (by first | exact hide ((unhide HM4).below (unhide HK45)) | exact hide ((AtC.new w4 #[.bool false, .slice none 0 0, .bool false, .slice none 0 0] 128).below hb5) | exact trivial : _); have HA5 := hide ((unhide HA2).below (unhide HK5)); have HB5 := hide ((unhide HB2).below (unhide HK5)); have a50 : w5.cell? ⟨w.heap.size, 0, none⟩ = some (.bool n1) := (unhide HA5).c 0; have a51 : w5.cell? ⟨w.heap.size, 1, none⟩ = some (.string (dec x1)) := (unhide HA5).c 1; have a52 : w5.cell? ⟨w.heap.size, 2, none⟩ = some (.string (dec y1)) := (unhide HA5).c 2; have b50 : w5.cell? ⟨w.heap.size + 1, 0, none⟩ = some (.bool n2) := (unhide HB5).c 0; have b51 : w5.cell? ⟨w.heap.size + 1, 1, none⟩ = some (.string (dec x2)) := (unhide HB5).c 1; have b52 : w5.cell? ⟨w.heap.size + 1, 2, none⟩ = some (.string (dec y2)) := (unhide HB5).c 2; have m0 := (by first | exact (unhide HM5).m0 | exact trivial : _); have m1 := (by first | exact (unhide HM5).m1 | exact trivial : _); have m2 := (by first | exact (unhide HM5).m2 | exact trivial : _); have m3 := (by first | exact (unhide HM5).m3 | exact trivial : _); have mf := (by first | exact (unhide HM5).f | exact trivial : _); have ml := (by first | exact (unhide HM5).lt | exact trivial : _); have Hv := hide hv; have Hu := hide hu; clear hv hu hb5; unfold fracV))
    all_goals
      go_wp2_with fail
      go_meet
    · exact made_new (unhide Hv) (unhide Hu) (unhide HK5)
    · exact made_old (unhide HM5) (by omega) (by simp) (unhide Hv) (unhide Hu) (unhide HK5)
    · exact made_old (unhide HM5) (by omega) ml4 (unhide Hv) (unhide Hu) (unhide HK5)
    · exact made_old (unhide HM5) (by omega) ml4 (unhide Hv) (unhide Hu) (unhide HK5)
  case rest =>
  obtain ⟨g, vp, vc, up, uc, rfl, hM, hv, hu, hK⟩ := hcut
  have hC := (unhide HC2).below hK
  have c0 := hC.n0
  have c1 := hC.n1
  have c2 := hC.n2
  have cf := hC.f
  have cl := hC.lt
  have g0 := hM.m0
  have g1 := hM.m1
  have g2 := hM.m2
  have g3 := hM.m3
  have HWc := hide ((unhide HW2).trans (hK.mono (unhide HW2).size))
  have HCc := hide hC
  have Hv := hide hv
  have Hu := hide hu
  have HTc := hide ((unhide HT2).below hK)
  clear hC hM hv hu hK a20 a21 a22 b20 b21 b22 HKd HKa HA2 HB2 HC2 HT2 H1 H2 HA HB HC HW
  go_wp2_with fail
  obtain ⟨o, ho⟩ : ∃ o, lowest (plusW (n1, x1 * y2) (n2, x2 * y1)).1 (plusW (n1, x1 * y2) (n2, x2 * y1)).2 (y1 * y2) = o := ⟨_, rfl⟩
  refine (numLowest_c _ _ _ _ _ wc (unhide Hv) (unhide Hu) hyy (by omega) (by omega) (unhide HTc)).mono ?_
  rintro e w6 ⟨rfl, hb6⟩
  have hC := (unhide HCc).below hb6
  clear c0 c1 c2 cf cl g0 g1 g2 g3
  have c0 := hC.n0
  have c1 := hC.n1
  have c2 := hC.n2
  have cf := hC.f
  have cl := hC.lt
  have HC6 := hide hC
  have HW6 := hide ((unhide HWc).trans (hb6.mono (unhide HWc).size))
  clear hC hb6
  rw [ho]
  have Ho := hide ho
  clear ho
  cases o with
  | none =>
    unfold numAns numO noNum numV
    go_wp2
    refine bodyPost_ret (v := ansC none 3) (by simp [results, Tryd.results60, go_sem, c0, c1, c2, cl, ansC, numO, noNum, numV]) rfl ⟨by rw [unhide Ho]; rfl, ?_⟩
    refine (unhide HW6).trans ?_
    repeat (first | exact Below.refl _ _ | refine Below.setCell ?_ (by first | exact Nat.le_refl _ | exact Nat.le_succ _ | (simp; done) | (simp; omega)) _ | refine Below.alloc ?_ (by first | exact Nat.le_refl _ | (simp; done) | (simp; omega)) _)
  | some p =>
    obtain ⟨pn, pu, pd⟩ := p
    unfold numAns numO numV
    go_wp2
    refine bodyPost_ret (v := ansC (some (pn, pu, pd)) 0) (by simp [results, Tryd.results60, go_sem, c0, c1, c2, cl, ansC, numO, numV]) rfl ⟨by rw [unhide Ho]; rfl, ?_⟩
    refine (unhide HW6).trans ?_
    repeat (first | exact Below.refl _ _ | refine Below.setCell ?_ (by first | exact Nat.le_refl _ | exact Nat.le_succ _ | (simp; done) | (simp; omega)) _ | refine Below.alloc ?_ (by first | exact Nat.le_refl _ | (simp; done) | (simp; omega)) _)
end Go.Proofs.YtchginjabaobfaaDoor
namespace Go.Proofs.YtchginjabaobfaaDoor
open Go.RowKit Nt

-- numWork, both ok: workLeft_c the name; aboveLeft what is above; bothLeft_c its numBoth; (plusW (n1, x1 * y2) (!n2, x2 * y1)) what comes above; (by omega) (by omega) (by omega) (by omega) (by omega) (by omega) bounds; gr_plusW sx1 sy1 sx2 sy2 its size
set_option maxRecDepth 100000 in
set_option maxHeartbeats 4000000 in
theorem workLeft_c (n1 n2 : Bool) (x1 y1 x2 y2 : Nat) (w : World) (hok1 : okM n1 (txl 10 x1) (txl 10 y1) = true) (hok2 : okM n2 (txl 10 x2) (txl 10 y2) = true) (hT : Tens w) :
    Calls Tryd.prog 60 #[.agg #[.bool n1, .string (dec x1), .string (dec y1)], .agg #[.bool n2, .string (dec x2), .string (dec y2)], .func (.func 66) #[] #[]] w fun e w' => e = .returned (ansC (lowest (plusW (n1, x1 * y2) (!n2, x2 * y1)).1 (plusW (n1, x1 * y2) (!n2, x2 * y1)).2 (y1 * y2)) (codeOf (lowest (plusW (n1, x1 * y2) (!n2, x2 * y1)).1 (plusW (n1, x1 * y2) (!n2, x2 * y1)).2 (y1 * y2)))) ∧ Below w.heap.size w w' := by
  have hp1 := ok_parts hok1
  have hp2 := ok_parts hok2
  have sx1 : (dec x1).size ≤ 60 := by rw [dec_len]; exact hp1.2.2.1
  have sy1 : (dec y1).size ≤ 60 := by rw [dec_len]; exact hp1.2.2.2.1
  have sx2 : (dec x2).size ≤ 60 := by rw [dec_len]; exact hp2.2.2.1
  have sy2 : (dec y2).size ≤ 60 := by rw [dec_len]; exact hp2.2.2.2.1
  have hy1 : y1 ≠ 0 := by have := hp1.2.2.2.2.1; rwa [valDec_txl] at this
  have hy2 : y2 ≠ 0 := by have := hp2.2.2.2.2.1; rwa [valDec_txl] at this
  have hyy : 0 < y1 * y2 := Nat.mul_pos (by omega) (by omega)
  have gx1 := dec_gr sx1
  have gy1 := dec_gr sy1
  have gx2 := dec_gr sx2
  have gy2 := dec_gr sy2
  have gp1 := gr_prod_len sx1 sy2
  have gp2 := gr_prod_len sx2 sy1
  have gpq := gr_prod_len sy1 sy2
  have gR : (gr (plusW (n1, x1 * y2) (!n2, x2 * y1)).2).length ≤ 121 := gr_plusW sx1 sy1 sx2 sy2
  have h1 := fun w hT => implNumOk_c n1 (txl 10 x1) (txl 10 y1) w (by have := hp1.2.2.1; omega) (by have := hp1.2.2.2.1; omega) hT
  have h2 := fun w hT => implNumOk_c n2 (txl 10 x2) (txl 10 y2) w (by have := hp2.2.2.1; omega) (by have := hp2.2.2.2.1; omega) hT
  rw [hok1] at h1
  rw [hok2] at h2
  have H1 : Hid (∀ w, Tens w → Calls Tryd.prog 9 #[.agg #[.bool n1, .string (dec x1), .string (dec y1)]] w fun e w' => e = .returned (.bool true) ∧ Below w.heap.size w w') := h1
  have H2 : Hid (∀ w, Tens w → Calls Tryd.prog 9 #[.agg #[.bool n2, .string (dec x2), .string (dec y2)]] w fun e w' => e = .returned (.bool true) ∧ Below w.heap.size w w') := h2
  have HT := hide hT
  clear h1 h2 hp1 hp2 hok1 hok2 hT hy1 hy2
  have HW := hide ((((Below.refl w.heap.size w).alloc (Nat.le_refl _) (.cells #[.bool n1, .string (dec x1), .string (dec y1)] 26)).alloc (by simp) (.cells #[.bool n2, .string (dec x2), .string (dec y2)] 26)).alloc (by simp; omega) (.cells #[.bool false, .string ⟨#[]⟩, .string ⟨#[]⟩] 26))
  have HA := hide (((AtC.new w #[.bool n1, .string (dec x1), .string (dec y1)] 26).alloc (.cells #[.bool n2, .string (dec x2), .string (dec y2)] 26)).alloc (.cells #[.bool false, .string ⟨#[]⟩, .string ⟨#[]⟩] 26))
  have HB := hide ((AtC.new (w.alloc (.cells #[.bool n1, .string (dec x1), .string (dec y1)] 26)) #[.bool n2, .string (dec x2), .string (dec y2)] 26).alloc (.cells #[.bool false, .string ⟨#[]⟩, .string ⟨#[]⟩] 26))
  have HC := hide (AtC.new ((w.alloc (.cells #[.bool n1, .string (dec x1), .string (dec y1)] 26)).alloc (.cells #[.bool n2, .string (dec x2), .string (dec y2)] 26)) #[.bool false, .string ⟨#[]⟩, .string ⟨#[]⟩] 26)
  rw [World.size_alloc] at HB
  rw [World.size_alloc, World.size_alloc] at HC
  go_enter Tryd.func60, Tryd.ntmps60
  go_wp2_with fail
  refine (unhide H1 _ ((unhide HT).below (unhide HW))).mono ?_
  rintro e w1 ⟨rfl, hb1⟩
  have hA1 := (unhide HA).below hb1
  have hB1 := (unhide HB).below hb1
  have HC1 := hide ((unhide HC).below hb1)
  have a10 : w1.cell? ⟨w.heap.size, 0, none⟩ = some (.bool n1) := hA1.c 0
  have a11 : w1.cell? ⟨w.heap.size, 1, none⟩ = some (.string (dec x1)) := hA1.c 1
  have a12 : w1.cell? ⟨w.heap.size, 2, none⟩ = some (.string (dec y1)) := hA1.c 2
  have b10 : w1.cell? ⟨w.heap.size + 1, 0, none⟩ = some (.bool n2) := hB1.c 0
  have b11 : w1.cell? ⟨w.heap.size + 1, 1, none⟩ = some (.string (dec x2)) := hB1.c 1
  have b12 : w1.cell? ⟨w.heap.size + 1, 2, none⟩ = some (.string (dec y2)) := hB1.c 2
  have HA1 := hide hA1
  have HB1 := hide hB1
  have HW1 := hide ((unhide HW).trans (hb1.mono (unhide HW).size))
  clear hb1 hA1 hB1
  go_wp2_with fail
  refine (unhide H2 w1 ((unhide HT).below (unhide HW1))).mono ?_
  rintro e w2 ⟨rfl, hb2⟩
  have hA2 := (unhide HA1).below hb2
  have hB2 := (unhide HB1).below hb2
  have HC2 := hide ((unhide HC1).below hb2)
  have a20 : w2.cell? ⟨w.heap.size, 0, none⟩ = some (.bool n1) := hA2.c 0
  have a21 : w2.cell? ⟨w.heap.size, 1, none⟩ = some (.string (dec x1)) := hA2.c 1
  have a22 : w2.cell? ⟨w.heap.size, 2, none⟩ = some (.string (dec y1)) := hA2.c 2
  have b20 : w2.cell? ⟨w.heap.size + 1, 0, none⟩ = some (.bool n2) := hB2.c 0
  have b21 : w2.cell? ⟨w.heap.size + 1, 1, none⟩ = some (.string (dec x2)) := hB2.c 1
  have b22 : w2.cell? ⟨w.heap.size + 1, 2, none⟩ = some (.string (dec y2)) := hB2.c 2
  have HA2 := hide hA2
  have HB2 := hide hB2
  have HW2 := hide ((unhide HW1).trans (hb2.mono (unhide HW1).size))
  have HKd := hide (Below.refl w2.heap.size w2).drew
  have HKa := hide (below_al (Below.refl w2.heap.size w2) (Nat.le_refl _) noFrac).drew
  have HT2 := hide ((unhide HT).below (unhide HW2))
  have hs2 := (unhide HC2).lt
  clear hb2 hA2 hB2 HA1 HB1 HC1 a10 a11 a12 b10 b11 b12
  go_upto_region 3 with fail
  go_cut [8] from 11 (fun s8 wx => Made w2 (plusW (n1, x1 * y2) (!n2, x2 * y1)) (y1 * y2) s8 wx)
  case first =>
    go_region_held3 (fun w' => w'.cell? ⟨w.heap.size, 0, none⟩ = some (.bool n1) ∧ w'.cell? ⟨w.heap.size, 1, none⟩ = some (.string (dec x1)) ∧ w'.cell? ⟨w.heap.size, 2, none⟩ = some (.string (dec y1)) ∧ w'.cell? ⟨w.heap.size + 1, 0, none⟩ = some (.bool n2) ∧ w'.cell? ⟨w.heap.size + 1, 1, none⟩ = some (.string (dec x2)) ∧ w'.cell? ⟨w.heap.size + 1, 2, none⟩ = some (.string (dec y2))) (((try dsimp only); (repeat' apply And.intro) <;> (first | with_reducible assumption | (rw [far4 (by first | (simp; done) | (simp; omega) | omega)]; with_reducible assumption) | with_reducible exact (unhide HA2).drew.n0 | with_reducible exact (unhide HA2).drew.n1 | with_reducible exact (unhide HA2).drew.n2 | with_reducible exact (unhide HB2).drew.n0 | with_reducible exact (unhide HB2).drew.n1 | with_reducible exact (unhide HB2).drew.n2 | with_reducible exact ((unhide HA2).alloc _).drew.n0 | with_reducible exact ((unhide HA2).alloc _).drew.n1 | with_reducible exact ((unhide HA2).alloc _).drew.n2 | with_reducible exact ((unhide HB2).alloc _).drew.n0 | with_reducible exact ((unhide HB2).alloc _).drew.n1 | with_reducible exact ((unhide HB2).alloc _).drew.n2 | with_reducible exact ((unhide HA3).alloc _).n0 | with_reducible exact ((unhide HA3).alloc _).n1 | with_reducible exact ((unhide HA3).alloc _).n2 | with_reducible exact ((unhide HB3).alloc _).n0 | with_reducible exact ((unhide HB3).alloc _).n1 | with_reducible exact ((unhide HB3).alloc _).n2 | with_reducible exact ((unhide HA4).alloc _).n0 | with_reducible exact ((unhide HA4).alloc _).n1 | with_reducible exact ((unhide HA4).alloc _).n2 | with_reducible exact ((unhide HB4).alloc _).n0 | with_reducible exact ((unhide HB4).alloc _).n1 | with_reducible exact ((unhide HB4).alloc _).n2 | with_reducible exact ((unhide HA5).alloc _).n0 | with_reducible exact ((unhide HA5).alloc _).n1 | with_reducible exact ((unhide HA5).alloc _).n2 | with_reducible exact ((unhide HB5).alloc _).n0 | with_reducible exact ((unhide HB5).alloc _).n1 | with_reducible exact ((unhide HB5).alloc _).n2 | (rw [far4 (by first | (simp; done) | (simp; omega) | omega)]; with_reducible exact ((unhide HA5).alloc _).n0) | (rw [far4 (by first | (simp; done) | (simp; omega) | omega)]; with_reducible exact ((unhide HA5).alloc _).n1) | (rw [far4 (by first | (simp; done) | (simp; omega) | omega)]; with_reducible exact ((unhide HA5).alloc _).n2) | (rw [far4 (by first | (simp; done) | (simp; omega) | omega)]; with_reducible exact ((unhide HB5).alloc _).n0) | (rw [far4 (by first | (simp; done) | (simp; omega) | omega)]; with_reducible exact ((unhide HB5).alloc _).n1) | (rw [far4 (by first | (simp; done) | (simp; omega) | omega)]; with_reducible exact ((unhide HB5).alloc _).n2)))) (first | (go_at_call_of 106 (dec x1); refine (fractionOf_c n1 x1 y1 _ sx1 sy1 (by first | exact (unhide HT2).below (unhide HKd) | exact (unhide HT2).below (unhide HKa))).mono ?_; rintro e w3 ⟨⟨v, u, rfl, hv, hu⟩, hb3⟩; obtain ⟨vp1, vc1, rfl⟩ := own_slice hv; obtain ⟨up1, uc1, rfl⟩ := own_slice hu; have HK3 : Hid (Below w2.heap.size w2 w3) := (by first | exact (unhide HKd).trans (hb3.mono (unhide HKd).size) | exact (unhide HKa).trans (hb3.mono (unhide HKa).size)); have k3 := (unhide HK3).size; have HM3 := (by first | exact hide ((AtC.new w2 #[.bool false, .slice none 0 0, .bool false, .slice none 0 0] 128).drew.below hb3) | exact trivial : _); have HA3 := hide ((unhide HA2).below (unhide HK3)); have HB3 := hide ((unhide HB2).below (unhide HK3)); have a30 : w3.cell? ⟨w.heap.size, 0, none⟩ = some (.bool n1) := (unhide HA3).c 0; have a31 : w3.cell? ⟨w.heap.size, 1, none⟩ = some (.string (dec x1)) := (unhide HA3).c 1; have a32 : w3.cell? ⟨w.heap.size, 2, none⟩ = some (.string (dec y1)) := (unhide HA3).c 2; have b30 : w3.cell? ⟨w.heap.size + 1, 0, none⟩ = some (.bool n2) := (unhide HB3).c 0; have b31 : w3.cell? ⟨w.heap.size + 1, 1, none⟩ = some (.string (dec x2)) := (unhide HB3).c 1; have b32 : w3.cell? ⟨w.heap.size + 1, 2, none⟩ = some (.string (dec y2)) := (unhide HB3).c 2; have Hv1 := hide hv.nat; have Hu1 := hide hu.nat; clear hv hu hb3; unfold fracV) | (go_at_call_of 106 (dec x2); refine (fractionOf_c n2 x2 y2 _ sx2 sy2 (by first | exact (unhide HT2).below (unhide HK3) | exact (unhide HT2).below (below_al (unhide HK3) (Nat.le_refl _) _))).mono ?_; rintro e w4 ⟨⟨v, u, rfl, hv, hu⟩, hb4⟩; obtain ⟨vp2, vc2, rfl⟩ := own_slice hv; obtain ⟨up2, uc2, rfl⟩ := own_slice hu; have HK34 : Hid (Below w3.heap.size w3 w4) := (by first | exact hb4 | exact (below_al (Below.refl _ _) (Nat.le_refl _) _).trans (hb4.mono (below_al (Below.refl _ _) (Nat.le_refl _) _).size)); have HK4 := hide ((unhide HK3).trans ((unhide HK34).mono (unhide HK3).size)); have k4 := (unhide HK34).size; have HM4 := (by first | exact hide ((unhide HM3).below (unhide HK34)) | exact hide ((AtC.new w3 #[.bool false, .slice none 0 0, .bool false, .slice none 0 0] 128).below hb4) | exact trivial : _); have HA4 := hide ((unhide HA2).below (unhide HK4)); have HB4 := hide ((unhide HB2).below (unhide HK4)); have a40 : w4.cell? ⟨w.heap.size, 0, none⟩ = some (.bool n1) := (unhide HA4).c 0; have a41 : w4.cell? ⟨w.heap.size, 1, none⟩ = some (.string (dec x1)) := (unhide HA4).c 1; have a42 : w4.cell? ⟨w.heap.size, 2, none⟩ = some (.string (dec y1)) := (unhide HA4).c 2; have b40 : w4.cell? ⟨w.heap.size + 1, 0, none⟩ = some (.bool n2) := (unhide HB4).c 0; have b41 : w4.cell? ⟨w.heap.size + 1, 1, none⟩ = some (.string (dec x2)) := (unhide HB4).c 1; have b42 : w4.cell? ⟨w.heap.size + 1, 2, none⟩ = some (.string (dec y2)) := (unhide HB4).c 2; have Hv1' := hide (isNat_below (unhide Hv1) (unhide HK34)); have Hu1' := hide (isNat_below (unhide Hu1) (unhide HK34)); have Hv2 := hide hv.nat; have Hu2 := hide hu.nat; clear hv hu hb4; unfold fracV) | (go_at_call 105; refine (bothLeft_c n1 n2 (.slice vp1 (gr x1).length vc1) (.slice up1 (gr y1).length uc1) (.slice vp2 (gr x2).length vc2) (.slice up2 (gr y2).length uc2) x1 y1 x2 y2 _ (by first | exact unhide Hv1' | exact isNat_below (unhide Hv1') (below_al (Below.refl _ _) (Nat.le_refl _) _)) (by first | exact unhide Hu1' | exact isNat_below (unhide Hu1') (below_al (Below.refl _ _) (Nat.le_refl _) _)) (by first | exact unhide Hv2 | exact isNat_below (unhide Hv2) (below_al (Below.refl _ _) (Nat.le_refl _) _)) (by first | exact unhide Hu2 | exact isNat_below (unhide Hu2) (below_al (Below.refl _ _) (Nat.le_refl _) _)) (by omega) (by omega) (by omega) (by omega) (by omega) (by omega)).mono ?_; rintro e w5 ⟨⟨v, u, rfl, hv, hu⟩, hb5⟩; obtain ⟨vp, vc, rfl⟩ := own_slice hv; obtain ⟨up, uc, rfl⟩ := own_slice hu; have HK45 : Hid (Below w4.heap.size w4 w5) := (by first | exact hb5 | exact (below_al (Below.refl _ _) (Nat.le_refl _) _).trans (hb5.mono (below_al (Below.refl _ _) (Nat.le_refl _) _).size)); have HK5 := hide ((unhide HK4).trans ((unhide HK45).mono (unhide HK4).size)); have k5 := (unhide HK45).size; have ml4 := (by first | exact (unhide HM4).lt | exact trivial : _); have HM5 := (by first | exact hide ((unhide HM4).below (unhide HK45)) | exact hide ((AtC.new w4 #[.bool false, .slice none 0 0, .bool false, .slice none 0 0] 128).below hb5) | exact trivial : _); have HA5 := hide ((unhide HA2).below (unhide HK5)); have HB5 := hide ((unhide HB2).below (unhide HK5)); have a50 : w5.cell? ⟨w.heap.size, 0, none⟩ = some (.bool n1) := (unhide HA5).c 0; have a51 : w5.cell? ⟨w.heap.size, 1, none⟩ = some (.string (dec x1)) := (unhide HA5).c 1; have a52 : w5.cell? ⟨w.heap.size, 2, none⟩ = some (.string (dec y1)) := (unhide HA5).c 2; have b50 : w5.cell? ⟨w.heap.size + 1, 0, none⟩ = some (.bool n2) := (unhide HB5).c 0; have b51 : w5.cell? ⟨w.heap.size + 1, 1, none⟩ = some (.string (dec x2)) := (unhide HB5).c 1; have b52 : w5.cell? ⟨w.heap.size + 1, 2, none⟩ = some (.string (dec y2)) := (unhide HB5).c 2; have m0 := (by first | exact (unhide HM5).m0 | exact trivial : _); have m1 := (by first | exact (unhide HM5).m1 | exact trivial : _); have m2 := (by first | exact (unhide HM5).m2 | exact trivial : _); have m3 := (by first | exact (unhide HM5).m3 | exact trivial : _); have mf := (by first | exact (unhide HM5).f | exact trivial : _); have ml := (by first | exact (unhide HM5).lt | exact trivial : _); have Hv := hide hv; have Hu := hide hu; clear hv hu hb5; unfold fracV))
    all_goals
      go_wp2_with fail
      go_meet
    · exact made_new (unhide Hv) (unhide Hu) (unhide HK5)
    · exact made_old (unhide HM5) (by omega) (by simp) (unhide Hv) (unhide Hu) (unhide HK5)
    · exact made_old (unhide HM5) (by omega) ml4 (unhide Hv) (unhide Hu) (unhide HK5)
    · exact made_old (unhide HM5) (by omega) ml4 (unhide Hv) (unhide Hu) (unhide HK5)
  case rest =>
  obtain ⟨g, vp, vc, up, uc, rfl, hM, hv, hu, hK⟩ := hcut
  have hC := (unhide HC2).below hK
  have c0 := hC.n0
  have c1 := hC.n1
  have c2 := hC.n2
  have cf := hC.f
  have cl := hC.lt
  have g0 := hM.m0
  have g1 := hM.m1
  have g2 := hM.m2
  have g3 := hM.m3
  have HWc := hide ((unhide HW2).trans (hK.mono (unhide HW2).size))
  have HCc := hide hC
  have Hv := hide hv
  have Hu := hide hu
  have HTc := hide ((unhide HT2).below hK)
  clear hC hM hv hu hK a20 a21 a22 b20 b21 b22 HKd HKa HA2 HB2 HC2 HT2 H1 H2 HA HB HC HW
  go_wp2_with fail
  obtain ⟨o, ho⟩ : ∃ o, lowest (plusW (n1, x1 * y2) (!n2, x2 * y1)).1 (plusW (n1, x1 * y2) (!n2, x2 * y1)).2 (y1 * y2) = o := ⟨_, rfl⟩
  refine (numLowest_c _ _ _ _ _ wc (unhide Hv) (unhide Hu) hyy (by omega) (by omega) (unhide HTc)).mono ?_
  rintro e w6 ⟨rfl, hb6⟩
  have hC := (unhide HCc).below hb6
  clear c0 c1 c2 cf cl g0 g1 g2 g3
  have c0 := hC.n0
  have c1 := hC.n1
  have c2 := hC.n2
  have cf := hC.f
  have cl := hC.lt
  have HC6 := hide hC
  have HW6 := hide ((unhide HWc).trans (hb6.mono (unhide HWc).size))
  clear hC hb6
  rw [ho]
  have Ho := hide ho
  clear ho
  cases o with
  | none =>
    unfold numAns numO noNum numV
    go_wp2
    refine bodyPost_ret (v := ansC none 3) (by simp [results, Tryd.results60, go_sem, c0, c1, c2, cl, ansC, numO, noNum, numV]) rfl ⟨by rw [unhide Ho]; rfl, ?_⟩
    refine (unhide HW6).trans ?_
    repeat (first | exact Below.refl _ _ | refine Below.setCell ?_ (by first | exact Nat.le_refl _ | exact Nat.le_succ _ | (simp; done) | (simp; omega)) _ | refine Below.alloc ?_ (by first | exact Nat.le_refl _ | (simp; done) | (simp; omega)) _)
  | some p =>
    obtain ⟨pn, pu, pd⟩ := p
    unfold numAns numO numV
    go_wp2
    refine bodyPost_ret (v := ansC (some (pn, pu, pd)) 0) (by simp [results, Tryd.results60, go_sem, c0, c1, c2, cl, ansC, numO, numV]) rfl ⟨by rw [unhide Ho]; rfl, ?_⟩
    refine (unhide HW6).trans ?_
    repeat (first | exact Below.refl _ _ | refine Below.setCell ?_ (by first | exact Nat.le_refl _ | exact Nat.le_succ _ | (simp; done) | (simp; omega)) _ | refine Below.alloc ?_ (by first | exact Nat.le_refl _ | (simp; done) | (simp; omega)) _)
end Go.Proofs.YtchginjabaobfaaDoor
namespace Go.Proofs.YtchginjabaobfaaDoor
open Go.RowKit Nt

-- numWork, both ok: workProduct_c the name; aboveProduct what is above; bothProduct_c its numBoth; ((n1 != n2, x1 * x2) : Bool × Nat) what comes above; (by omega) (by omega) (by omega) (by omega) bounds; (by exact gr_prod_len sx1 sx2) its size
set_option maxRecDepth 100000 in
set_option maxHeartbeats 4000000 in
theorem workProduct_c (n1 n2 : Bool) (x1 y1 x2 y2 : Nat) (w : World) (hok1 : okM n1 (txl 10 x1) (txl 10 y1) = true) (hok2 : okM n2 (txl 10 x2) (txl 10 y2) = true) (hT : Tens w) :
    Calls Tryd.prog 60 #[.agg #[.bool n1, .string (dec x1), .string (dec y1)], .agg #[.bool n2, .string (dec x2), .string (dec y2)], .func (.func 63) #[] #[]] w fun e w' => e = .returned (ansC (lowest ((n1 != n2, x1 * x2) : Bool × Nat).1 ((n1 != n2, x1 * x2) : Bool × Nat).2 (y1 * y2)) (codeOf (lowest ((n1 != n2, x1 * x2) : Bool × Nat).1 ((n1 != n2, x1 * x2) : Bool × Nat).2 (y1 * y2)))) ∧ Below w.heap.size w w' := by
  have hp1 := ok_parts hok1
  have hp2 := ok_parts hok2
  have sx1 : (dec x1).size ≤ 60 := by rw [dec_len]; exact hp1.2.2.1
  have sy1 : (dec y1).size ≤ 60 := by rw [dec_len]; exact hp1.2.2.2.1
  have sx2 : (dec x2).size ≤ 60 := by rw [dec_len]; exact hp2.2.2.1
  have sy2 : (dec y2).size ≤ 60 := by rw [dec_len]; exact hp2.2.2.2.1
  have hy1 : y1 ≠ 0 := by have := hp1.2.2.2.2.1; rwa [valDec_txl] at this
  have hy2 : y2 ≠ 0 := by have := hp2.2.2.2.2.1; rwa [valDec_txl] at this
  have hyy : 0 < y1 * y2 := Nat.mul_pos (by omega) (by omega)
  have gx1 := dec_gr sx1
  have gy1 := dec_gr sy1
  have gx2 := dec_gr sx2
  have gy2 := dec_gr sy2
  have gp1 := gr_prod_len sx1 sy2
  have gp2 := gr_prod_len sx2 sy1
  have gpq := gr_prod_len sy1 sy2
  have gR : (gr ((n1 != n2, x1 * x2) : Bool × Nat).2).length ≤ 121 := (by exact gr_prod_len sx1 sx2)
  have h1 := fun w hT => implNumOk_c n1 (txl 10 x1) (txl 10 y1) w (by have := hp1.2.2.1; omega) (by have := hp1.2.2.2.1; omega) hT
  have h2 := fun w hT => implNumOk_c n2 (txl 10 x2) (txl 10 y2) w (by have := hp2.2.2.1; omega) (by have := hp2.2.2.2.1; omega) hT
  rw [hok1] at h1
  rw [hok2] at h2
  have H1 : Hid (∀ w, Tens w → Calls Tryd.prog 9 #[.agg #[.bool n1, .string (dec x1), .string (dec y1)]] w fun e w' => e = .returned (.bool true) ∧ Below w.heap.size w w') := h1
  have H2 : Hid (∀ w, Tens w → Calls Tryd.prog 9 #[.agg #[.bool n2, .string (dec x2), .string (dec y2)]] w fun e w' => e = .returned (.bool true) ∧ Below w.heap.size w w') := h2
  have HT := hide hT
  clear h1 h2 hp1 hp2 hok1 hok2 hT hy1 hy2
  have HW := hide ((((Below.refl w.heap.size w).alloc (Nat.le_refl _) (.cells #[.bool n1, .string (dec x1), .string (dec y1)] 26)).alloc (by simp) (.cells #[.bool n2, .string (dec x2), .string (dec y2)] 26)).alloc (by simp; omega) (.cells #[.bool false, .string ⟨#[]⟩, .string ⟨#[]⟩] 26))
  have HA := hide (((AtC.new w #[.bool n1, .string (dec x1), .string (dec y1)] 26).alloc (.cells #[.bool n2, .string (dec x2), .string (dec y2)] 26)).alloc (.cells #[.bool false, .string ⟨#[]⟩, .string ⟨#[]⟩] 26))
  have HB := hide ((AtC.new (w.alloc (.cells #[.bool n1, .string (dec x1), .string (dec y1)] 26)) #[.bool n2, .string (dec x2), .string (dec y2)] 26).alloc (.cells #[.bool false, .string ⟨#[]⟩, .string ⟨#[]⟩] 26))
  have HC := hide (AtC.new ((w.alloc (.cells #[.bool n1, .string (dec x1), .string (dec y1)] 26)).alloc (.cells #[.bool n2, .string (dec x2), .string (dec y2)] 26)) #[.bool false, .string ⟨#[]⟩, .string ⟨#[]⟩] 26)
  rw [World.size_alloc] at HB
  rw [World.size_alloc, World.size_alloc] at HC
  go_enter Tryd.func60, Tryd.ntmps60
  go_wp2_with fail
  refine (unhide H1 _ ((unhide HT).below (unhide HW))).mono ?_
  rintro e w1 ⟨rfl, hb1⟩
  have hA1 := (unhide HA).below hb1
  have hB1 := (unhide HB).below hb1
  have HC1 := hide ((unhide HC).below hb1)
  have a10 : w1.cell? ⟨w.heap.size, 0, none⟩ = some (.bool n1) := hA1.c 0
  have a11 : w1.cell? ⟨w.heap.size, 1, none⟩ = some (.string (dec x1)) := hA1.c 1
  have a12 : w1.cell? ⟨w.heap.size, 2, none⟩ = some (.string (dec y1)) := hA1.c 2
  have b10 : w1.cell? ⟨w.heap.size + 1, 0, none⟩ = some (.bool n2) := hB1.c 0
  have b11 : w1.cell? ⟨w.heap.size + 1, 1, none⟩ = some (.string (dec x2)) := hB1.c 1
  have b12 : w1.cell? ⟨w.heap.size + 1, 2, none⟩ = some (.string (dec y2)) := hB1.c 2
  have HA1 := hide hA1
  have HB1 := hide hB1
  have HW1 := hide ((unhide HW).trans (hb1.mono (unhide HW).size))
  clear hb1 hA1 hB1
  go_wp2_with fail
  refine (unhide H2 w1 ((unhide HT).below (unhide HW1))).mono ?_
  rintro e w2 ⟨rfl, hb2⟩
  have hA2 := (unhide HA1).below hb2
  have hB2 := (unhide HB1).below hb2
  have HC2 := hide ((unhide HC1).below hb2)
  have a20 : w2.cell? ⟨w.heap.size, 0, none⟩ = some (.bool n1) := hA2.c 0
  have a21 : w2.cell? ⟨w.heap.size, 1, none⟩ = some (.string (dec x1)) := hA2.c 1
  have a22 : w2.cell? ⟨w.heap.size, 2, none⟩ = some (.string (dec y1)) := hA2.c 2
  have b20 : w2.cell? ⟨w.heap.size + 1, 0, none⟩ = some (.bool n2) := hB2.c 0
  have b21 : w2.cell? ⟨w.heap.size + 1, 1, none⟩ = some (.string (dec x2)) := hB2.c 1
  have b22 : w2.cell? ⟨w.heap.size + 1, 2, none⟩ = some (.string (dec y2)) := hB2.c 2
  have HA2 := hide hA2
  have HB2 := hide hB2
  have HW2 := hide ((unhide HW1).trans (hb2.mono (unhide HW1).size))
  have HKd := hide (Below.refl w2.heap.size w2).drew
  have HKa := hide (below_al (Below.refl w2.heap.size w2) (Nat.le_refl _) noFrac).drew
  have HT2 := hide ((unhide HT).below (unhide HW2))
  have hs2 := (unhide HC2).lt
  clear hb2 hA2 hB2 HA1 HB1 HC1 a10 a11 a12 b10 b11 b12
  go_upto_region 3 with fail
  go_cut [8] from 11 (fun s8 wx => Made w2 ((n1 != n2, x1 * x2) : Bool × Nat) (y1 * y2) s8 wx)
  case first =>
    go_region_held3 (fun w' => w'.cell? ⟨w.heap.size, 0, none⟩ = some (.bool n1) ∧ w'.cell? ⟨w.heap.size, 1, none⟩ = some (.string (dec x1)) ∧ w'.cell? ⟨w.heap.size, 2, none⟩ = some (.string (dec y1)) ∧ w'.cell? ⟨w.heap.size + 1, 0, none⟩ = some (.bool n2) ∧ w'.cell? ⟨w.heap.size + 1, 1, none⟩ = some (.string (dec x2)) ∧ w'.cell? ⟨w.heap.size + 1, 2, none⟩ = some (.string (dec y2))) (((try dsimp only); (repeat' apply And.intro) <;> (first | with_reducible assumption | (rw [far4 (by first | (simp; done) | (simp; omega) | omega)]; with_reducible assumption) | with_reducible exact (unhide HA2).drew.n0 | with_reducible exact (unhide HA2).drew.n1 | with_reducible exact (unhide HA2).drew.n2 | with_reducible exact (unhide HB2).drew.n0 | with_reducible exact (unhide HB2).drew.n1 | with_reducible exact (unhide HB2).drew.n2 | with_reducible exact ((unhide HA2).alloc _).drew.n0 | with_reducible exact ((unhide HA2).alloc _).drew.n1 | with_reducible exact ((unhide HA2).alloc _).drew.n2 | with_reducible exact ((unhide HB2).alloc _).drew.n0 | with_reducible exact ((unhide HB2).alloc _).drew.n1 | with_reducible exact ((unhide HB2).alloc _).drew.n2 | with_reducible exact ((unhide HA3).alloc _).n0 | with_reducible exact ((unhide HA3).alloc _).n1 | with_reducible exact ((unhide HA3).alloc _).n2 | with_reducible exact ((unhide HB3).alloc _).n0 | with_reducible exact ((unhide HB3).alloc _).n1 | with_reducible exact ((unhide HB3).alloc _).n2 | with_reducible exact ((unhide HA4).alloc _).n0 | with_reducible exact ((unhide HA4).alloc _).n1 | with_reducible exact ((unhide HA4).alloc _).n2 | with_reducible exact ((unhide HB4).alloc _).n0 | with_reducible exact ((unhide HB4).alloc _).n1 | with_reducible exact ((unhide HB4).alloc _).n2 | with_reducible exact ((unhide HA5).alloc _).n0 | with_reducible exact ((unhide HA5).alloc _).n1 | with_reducible exact ((unhide HA5).alloc _).n2 | with_reducible exact ((unhide HB5).alloc _).n0 | with_reducible exact ((unhide HB5).alloc _).n1 | with_reducible exact ((unhide HB5).alloc _).n2 | (rw [far4 (by first | (simp; done) | (simp; omega) | omega)]; with_reducible exact ((unhide HA5).alloc _).n0) | (rw [far4 (by first | (simp; done) | (simp; omega) | omega)]; with_reducible exact ((unhide HA5).alloc _).n1) | (rw [far4 (by first | (simp; done) | (simp; omega) | omega)]; with_reducible exact ((unhide HA5).alloc _).n2) | (rw [far4 (by first | (simp; done) | (simp; omega) | omega)]; with_reducible exact ((unhide HB5).alloc _).n0) | (rw [far4 (by first | (simp; done) | (simp; omega) | omega)]; with_reducible exact ((unhide HB5).alloc _).n1) | (rw [far4 (by first | (simp; done) | (simp; omega) | omega)]; with_reducible exact ((unhide HB5).alloc _).n2)))) (first | (go_at_call_of 106 (dec x1); refine (fractionOf_c n1 x1 y1 _ sx1 sy1 (by first | exact (unhide HT2).below (unhide HKd) | exact (unhide HT2).below (unhide HKa))).mono ?_; rintro e w3 ⟨⟨v, u, rfl, hv, hu⟩, hb3⟩; obtain ⟨vp1, vc1, rfl⟩ := own_slice hv; obtain ⟨up1, uc1, rfl⟩ := own_slice hu; have HK3 : Hid (Below w2.heap.size w2 w3) := (by first | exact (unhide HKd).trans (hb3.mono (unhide HKd).size) | exact (unhide HKa).trans (hb3.mono (unhide HKa).size)); have k3 := (unhide HK3).size; have HM3 := (by first | exact hide ((AtC.new w2 #[.bool false, .slice none 0 0, .bool false, .slice none 0 0] 128).drew.below hb3) | exact trivial : _); have HA3 := hide ((unhide HA2).below (unhide HK3)); have HB3 := hide ((unhide HB2).below (unhide HK3)); have a30 : w3.cell? ⟨w.heap.size, 0, none⟩ = some (.bool n1) := (unhide HA3).c 0; have a31 : w3.cell? ⟨w.heap.size, 1, none⟩ = some (.string (dec x1)) := (unhide HA3).c 1; have a32 : w3.cell? ⟨w.heap.size, 2, none⟩ = some (.string (dec y1)) := (unhide HA3).c 2; have b30 : w3.cell? ⟨w.heap.size + 1, 0, none⟩ = some (.bool n2) := (unhide HB3).c 0; have b31 : w3.cell? ⟨w.heap.size + 1, 1, none⟩ = some (.string (dec x2)) := (unhide HB3).c 1; have b32 : w3.cell? ⟨w.heap.size + 1, 2, none⟩ = some (.string (dec y2)) := (unhide HB3).c 2; have Hv1 := hide hv.nat; have Hu1 := hide hu.nat; clear hv hu hb3; unfold fracV) | (go_at_call_of 106 (dec x2); refine (fractionOf_c n2 x2 y2 _ sx2 sy2 (by first | exact (unhide HT2).below (unhide HK3) | exact (unhide HT2).below (below_al (unhide HK3) (Nat.le_refl _) _))).mono ?_; rintro e w4 ⟨⟨v, u, rfl, hv, hu⟩, hb4⟩; obtain ⟨vp2, vc2, rfl⟩ := own_slice hv; obtain ⟨up2, uc2, rfl⟩ := own_slice hu; have HK34 : Hid (Below w3.heap.size w3 w4) := (by first | exact hb4 | exact (below_al (Below.refl _ _) (Nat.le_refl _) _).trans (hb4.mono (below_al (Below.refl _ _) (Nat.le_refl _) _).size)); have HK4 := hide ((unhide HK3).trans ((unhide HK34).mono (unhide HK3).size)); have k4 := (unhide HK34).size; have HM4 := (by first | exact hide ((unhide HM3).below (unhide HK34)) | exact hide ((AtC.new w3 #[.bool false, .slice none 0 0, .bool false, .slice none 0 0] 128).below hb4) | exact trivial : _); have HA4 := hide ((unhide HA2).below (unhide HK4)); have HB4 := hide ((unhide HB2).below (unhide HK4)); have a40 : w4.cell? ⟨w.heap.size, 0, none⟩ = some (.bool n1) := (unhide HA4).c 0; have a41 : w4.cell? ⟨w.heap.size, 1, none⟩ = some (.string (dec x1)) := (unhide HA4).c 1; have a42 : w4.cell? ⟨w.heap.size, 2, none⟩ = some (.string (dec y1)) := (unhide HA4).c 2; have b40 : w4.cell? ⟨w.heap.size + 1, 0, none⟩ = some (.bool n2) := (unhide HB4).c 0; have b41 : w4.cell? ⟨w.heap.size + 1, 1, none⟩ = some (.string (dec x2)) := (unhide HB4).c 1; have b42 : w4.cell? ⟨w.heap.size + 1, 2, none⟩ = some (.string (dec y2)) := (unhide HB4).c 2; have Hv1' := hide (isNat_below (unhide Hv1) (unhide HK34)); have Hu1' := hide (isNat_below (unhide Hu1) (unhide HK34)); have Hv2 := hide hv.nat; have Hu2 := hide hu.nat; clear hv hu hb4; unfold fracV) | (go_at_call 105; refine (bothProduct_c n1 n2 (.slice vp1 (gr x1).length vc1) (.slice up1 (gr y1).length uc1) (.slice vp2 (gr x2).length vc2) (.slice up2 (gr y2).length uc2) x1 y1 x2 y2 _ (by first | exact unhide Hv1' | exact isNat_below (unhide Hv1') (below_al (Below.refl _ _) (Nat.le_refl _) _)) (by first | exact unhide Hu1' | exact isNat_below (unhide Hu1') (below_al (Below.refl _ _) (Nat.le_refl _) _)) (by first | exact unhide Hv2 | exact isNat_below (unhide Hv2) (below_al (Below.refl _ _) (Nat.le_refl _) _)) (by first | exact unhide Hu2 | exact isNat_below (unhide Hu2) (below_al (Below.refl _ _) (Nat.le_refl _) _)) (by omega) (by omega) (by omega) (by omega)).mono ?_; rintro e w5 ⟨⟨v, u, rfl, hv, hu⟩, hb5⟩; obtain ⟨vp, vc, rfl⟩ := own_slice hv; obtain ⟨up, uc, rfl⟩ := own_slice hu; have HK45 : Hid (Below w4.heap.size w4 w5) := (by first | exact hb5 | exact (below_al (Below.refl _ _) (Nat.le_refl _) _).trans (hb5.mono (below_al (Below.refl _ _) (Nat.le_refl _) _).size)); have HK5 := hide ((unhide HK4).trans ((unhide HK45).mono (unhide HK4).size)); have k5 := (unhide HK45).size; have ml4 := (by first | exact (unhide HM4).lt | exact trivial : _); have HM5 := (by first | exact hide ((unhide HM4).below (unhide HK45)) | exact hide ((AtC.new w4 #[.bool false, .slice none 0 0, .bool false, .slice none 0 0] 128).below hb5) | exact trivial : _); have HA5 := hide ((unhide HA2).below (unhide HK5)); have HB5 := hide ((unhide HB2).below (unhide HK5)); have a50 : w5.cell? ⟨w.heap.size, 0, none⟩ = some (.bool n1) := (unhide HA5).c 0; have a51 : w5.cell? ⟨w.heap.size, 1, none⟩ = some (.string (dec x1)) := (unhide HA5).c 1; have a52 : w5.cell? ⟨w.heap.size, 2, none⟩ = some (.string (dec y1)) := (unhide HA5).c 2; have b50 : w5.cell? ⟨w.heap.size + 1, 0, none⟩ = some (.bool n2) := (unhide HB5).c 0; have b51 : w5.cell? ⟨w.heap.size + 1, 1, none⟩ = some (.string (dec x2)) := (unhide HB5).c 1; have b52 : w5.cell? ⟨w.heap.size + 1, 2, none⟩ = some (.string (dec y2)) := (unhide HB5).c 2; have m0 := (by first | exact (unhide HM5).m0 | exact trivial : _); have m1 := (by first | exact (unhide HM5).m1 | exact trivial : _); have m2 := (by first | exact (unhide HM5).m2 | exact trivial : _); have m3 := (by first | exact (unhide HM5).m3 | exact trivial : _); have mf := (by first | exact (unhide HM5).f | exact trivial : _); have ml := (by first | exact (unhide HM5).lt | exact trivial : _); have Hv := hide hv; have Hu := hide hu; clear hv hu hb5; unfold fracV))
    all_goals
      go_wp2_with fail
      go_meet
    · exact made_new (unhide Hv) (unhide Hu) (unhide HK5)
    · exact made_old (unhide HM5) (by omega) (by simp) (unhide Hv) (unhide Hu) (unhide HK5)
    · exact made_old (unhide HM5) (by omega) ml4 (unhide Hv) (unhide Hu) (unhide HK5)
    · exact made_old (unhide HM5) (by omega) ml4 (unhide Hv) (unhide Hu) (unhide HK5)
  case rest =>
  obtain ⟨g, vp, vc, up, uc, rfl, hM, hv, hu, hK⟩ := hcut
  have hC := (unhide HC2).below hK
  have c0 := hC.n0
  have c1 := hC.n1
  have c2 := hC.n2
  have cf := hC.f
  have cl := hC.lt
  have g0 := hM.m0
  have g1 := hM.m1
  have g2 := hM.m2
  have g3 := hM.m3
  have HWc := hide ((unhide HW2).trans (hK.mono (unhide HW2).size))
  have HCc := hide hC
  have Hv := hide hv
  have Hu := hide hu
  have HTc := hide ((unhide HT2).below hK)
  clear hC hM hv hu hK a20 a21 a22 b20 b21 b22 HKd HKa HA2 HB2 HC2 HT2 H1 H2 HA HB HC HW
  go_wp2_with fail
  obtain ⟨o, ho⟩ : ∃ o, lowest ((n1 != n2, x1 * x2) : Bool × Nat).1 ((n1 != n2, x1 * x2) : Bool × Nat).2 (y1 * y2) = o := ⟨_, rfl⟩
  refine (numLowest_c _ _ _ _ _ wc (unhide Hv) (unhide Hu) hyy (by omega) (by omega) (unhide HTc)).mono ?_
  rintro e w6 ⟨rfl, hb6⟩
  have hC := (unhide HCc).below hb6
  clear c0 c1 c2 cf cl g0 g1 g2 g3
  have c0 := hC.n0
  have c1 := hC.n1
  have c2 := hC.n2
  have cf := hC.f
  have cl := hC.lt
  have HC6 := hide hC
  have HW6 := hide ((unhide HWc).trans (hb6.mono (unhide HWc).size))
  clear hC hb6
  rw [ho]
  have Ho := hide ho
  clear ho
  cases o with
  | none =>
    unfold numAns numO noNum numV
    go_wp2
    refine bodyPost_ret (v := ansC none 3) (by simp [results, Tryd.results60, go_sem, c0, c1, c2, cl, ansC, numO, noNum, numV]) rfl ⟨by rw [unhide Ho]; rfl, ?_⟩
    refine (unhide HW6).trans ?_
    repeat (first | exact Below.refl _ _ | refine Below.setCell ?_ (by first | exact Nat.le_refl _ | exact Nat.le_succ _ | (simp; done) | (simp; omega)) _ | refine Below.alloc ?_ (by first | exact Nat.le_refl _ | (simp; done) | (simp; omega)) _)
  | some p =>
    obtain ⟨pn, pu, pd⟩ := p
    unfold numAns numO numV
    go_wp2
    refine bodyPost_ret (v := ansC (some (pn, pu, pd)) 0) (by simp [results, Tryd.results60, go_sem, c0, c1, c2, cl, ansC, numO, numV]) rfl ⟨by rw [unhide Ho]; rfl, ?_⟩
    refine (unhide HW6).trans ?_
    repeat (first | exact Below.refl _ _ | refine Below.setCell ?_ (by first | exact Nat.le_refl _ | exact Nat.le_succ _ | (simp; done) | (simp; omega)) _ | refine Below.alloc ?_ (by first | exact Nat.le_refl _ | (simp; done) | (simp; omega)) _)
end Go.Proofs.YtchginjabaobfaaDoor
namespace Go.Proofs.YtchginjabaobfaaDoor
open Go.RowKit Nt

set_option maxRecDepth 100000 in
set_option maxHeartbeats 1000000 in
theorem l3Answer_c (neg : Bool) (u d : Nat) (w : World) (hsu : (dec u).size ≤ 50000) (hsd : (dec d).size ≤ 50000) :
    Calls Tryd.prog 107 #[.bool neg, .string (dec u), .string (dec d)] w fun e w' => e = .returned (ansC (lowest neg u d) (codeOf (lowest neg u d))) ∧ Below w.heap.size w w' := by
  have HA := hide (AtC.new w #[.bool false, .string ⟨#[]⟩, .string ⟨#[]⟩] 26)
  have HW := hide ((Below.refl w.heap.size w).alloc (Nat.le_refl _) (.cells #[.bool false, .string ⟨#[]⟩, .string ⟨#[]⟩] 26))
  go_enter Tryd.func107, Tryd.ntmps107
  go_wp2_with fail
  have h := l2Make_c neg u d (w.alloc (.cells #[.bool false, .string ⟨#[]⟩, .string ⟨#[]⟩] 26)) hsu hsd
  refine h.mono ?_
  clear h
  rintro e w1 ⟨rfl, hb1⟩
  have hA := (unhide HA).below hb1
  have c0 : w1.cell? ⟨w.heap.size, 0, none⟩ = some (.bool false) := hA.c 0
  have c1 : w1.cell? ⟨w.heap.size, 1, none⟩ = some (.string ⟨#[]⟩) := hA.c 1
  have c2 : w1.cell? ⟨w.heap.size, 2, none⟩ = some (.string ⟨#[]⟩) := hA.c 2
  have cf := hA.f
  have hs := hA.lt
  have Hfin := hide ((unhide HW).trans (hb1.mono (unhide HW).size))
  clear hA hb1
  cases hlo : lowest neg u d with
  | none =>
    have Hlo := hide hlo
    clear hlo
    rw [show numAns none = .tuple #[.agg #[.bool false, .string ⟨#[]⟩, .string ⟨#[]⟩], .bool false] from rfl]
    go_wp2
    have hcc := And.intro c0 (And.intro c1 (And.intro c2 hs))
    refine bodyPost_ret (v := ansC none 3) (by simp [results, Tryd.results107, go_sem, hcc, ansC, numO, noNum, numV]) rfl ⟨by rw [unhide Hlo]; rfl, ?_⟩
    refine (unhide Hfin).trans ?_
    repeat (first | exact Below.refl _ _ | refine Below.setCell ?_ (by first | exact Nat.le_refl _ | exact Nat.le_succ _ | (simp; done) | (simp; omega)) _ | refine Below.alloc ?_ (by first | exact Nat.le_refl _ | (simp; done) | (simp; omega)) _)
  | some r =>
    obtain ⟨nn, x, y⟩ := r
    have Hlo := hide hlo
    clear hlo
    rw [show numAns (some (nn, x, y)) = .tuple #[.agg #[.bool nn, .string (dec x), .string (dec y)], .bool true] from rfl]
    go_wp2
    have hcc := And.intro c0 (And.intro c1 (And.intro c2 hs))
    refine bodyPost_ret (v := ansC (some (nn, x, y)) 0) (by simp [results, Tryd.results107, go_sem, hcc, ansC, numO, numV]) rfl ⟨by rw [unhide Hlo]; rfl, ?_⟩
    refine (unhide Hfin).trans ?_
    repeat (first | exact Below.refl _ _ | refine Below.setCell ?_ (by first | exact Nat.le_refl _ | exact Nat.le_succ _ | (simp; done) | (simp; omega)) _ | refine Below.alloc ?_ (by first | exact Nat.le_refl _ | (simp; done) | (simp; omega)) _)

set_option maxRecDepth 100000 in
set_option maxHeartbeats 1000000 in
theorem l3Neg_c (neg : Bool) (us ds : ByteArray) (w : World) :
    Calls Tryd.prog 104 #[.agg #[.bool neg, .string us, .string ds]] w fun e w' => e = .returned (.agg #[.bool (!neg && us.toList != [48]), .string us, .string ds]) ∧ Below w.heap.size w w' := by
  have HW := hide (((Below.refl w.heap.size w).alloc (Nat.le_refl _) (.cells #[.bool neg, .string us, .string ds] 26)).alloc (by simp) (.cells #[.bool false, .string ⟨#[]⟩, .string ⟨#[]⟩] 26))
  cases neg with
  | true =>
    go_enter Tryd.func104, Tryd.ntmps104
    go_wp2
    refine bodyPost_ret (v := .agg #[.bool false, .string us, .string ds]) (by simp [results, Tryd.results104, go_sem]) rfl ⟨rfl, ?_⟩
    refine (Below.refl _ _).trans ?_
    repeat (first | exact Below.refl _ _ | refine Below.setCell ?_ (by first | exact Nat.le_refl _ | exact Nat.le_succ _ | (simp; done) | (simp; omega)) _ | refine Below.alloc ?_ (by first | exact Nat.le_refl _ | (simp; done) | (simp; omega)) _)
  | false =>
    go_enter Tryd.func104, Tryd.ntmps104
    go_wp2
    refine bodyPost_ret (v := .agg #[.bool (us.toList != [48]), .string us, .string ds]) (by simp [results, Tryd.results104, go_sem]; cases h : (us.toList == [48]) <;> simp [bne, h]) rfl ⟨by simp, ?_⟩
    refine (Below.refl _ _).trans ?_
    repeat (first | exact Below.refl _ _ | refine Below.setCell ?_ (by first | exact Nat.le_refl _ | exact Nat.le_succ _ | (simp; done) | (simp; omega)) _ | refine Below.alloc ?_ (by first | exact Nat.le_refl _ | (simp; done) | (simp; omega)) _)
end Go.Proofs.YtchginjabaobfaaDoor
