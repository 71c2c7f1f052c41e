/- A part of the proof, put together out of smaller texts: each piece says what it is for. -/
import Derived.Test.YtchginjabaobfaaDoorM1
import Derived.Test.YtchginjabaobfaaDoorRows
import Derived.Handy
import Derived.Laws.CopyOwn
namespace Go.Proofs.YtchginjabaobfaaDoor
open Go.RowKit Nt



theorem AtC.put2 {w : World} {b : Nat} {x y : Value} {T : TypeId} (h : AtC w b #[x, y] T) (u v : Value) : AtC ((w.setCell ⟨b, 0, none⟩ u).setCell ⟨b, 1, none⟩ v) b #[u, v] T := by
  have h1 : (w.setCell ⟨b, 0, none⟩ u).heap[b]? = some (.cells #[u, y] T (0, 0)) := by
    show (w.heap.modify b _)[b]? = _
    rw [Array.getElem?_modify, if_pos rfl, show w.heap[b]? = _ from h]
    rfl
  show ((w.setCell ⟨b, 0, none⟩ u).heap.modify b _)[b]? = _
  rw [Array.getElem?_modify, if_pos rfl, h1]
  rfl
theorem AtC.far2 {w : World} {b c : Nat} {cs : Array Value} {T : TypeId} (h : AtC w b cs T) (hc : b ≠ c) (u v : Value) (i j : Nat) : AtC ((w.setCell ⟨c, i, none⟩ u).setCell ⟨c, j, none⟩ v) b cs T := by
  unfold AtC; rw [Below.heap_setCell _ _ _ _ hc, Below.heap_setCell _ _ _ _ hc]; exact h

theorem plusW_same (n : Bool) (x y : Nat) : plusW (n, x) (n, y) = (n, x + y) := by simp [plusW]
theorem plusW_lt {n m : Bool} (h : n ≠ m) {x y : Nat} (hl : x < y) : plusW (n, x) (m, y) = (m, y - x) := by simp [plusW, h, hl]
theorem plusW_ge {n m : Bool} (h : n ≠ m) {x y : Nat} (hl : ¬ x < y) : plusW (n, x) (m, y) = (n, x - y) := by simp [plusW, h, hl]

set_option maxRecDepth 100000 in
set_option maxHeartbeats 2000000 in
theorem wPlus_same (n m : Bool) (v u : Value) (x y : Nat) (w : World) (hnm : n = m) (hx : isNat w v x) (hy : isNat w u y) (hsx : (gr x).length ≤ 1000000) (hsy : (gr y).length ≤ 1000000) :
    Calls Tryd.prog 203 #[wholeV n v, wholeV m u] w fun e w' => (∃ z, e = .returned z ∧ isWholeB w' w.heap.size z (plusW (n, x) (m, y))) ∧ Below w.heap.size w w' := by
  have hp : plusW (n, x) (m, y) = (n, x + y) := by rw [← hnm, plusW_same]
  rw [hp]
  clear hp
  have hb : (n == m) = true := by rw [hnm]; simp
  -- the two signed numbers in their boxes, the answer's box behind them
  obtain ⟨p, cap, rfl⟩ := own_slice hx
  obtain ⟨q, cap2, rfl⟩ := own_slice hy
  obtain ⟨lx, hlx⟩ : ∃ l, (gr x).length = l := ⟨_, rfl⟩
  obtain ⟨ly, hly⟩ : ∃ l, (gr y).length = l := ⟨_, rfl⟩
  rw [hlx] at hx
  rw [hly] at hy
  rw [hlx, hly]
  have hW : Below w.heap.size w (((w.alloc (.cells #[.bool n, .slice p lx cap] 88)).alloc (.cells #[.bool m, .slice q ly cap2] 88)).alloc (.cells #[.bool false, .slice none 0 0] 88)) :=
    (((Below.refl _ _).alloc (Nat.le_refl _) _).alloc (by simp) _).alloc (by simp; omega) _
  have Hx0 := hide hx
  have Hy0 := hide hy
  have Hx := hide (isNat_below hx hW)
  have Hy := hide (isNat_below hy hW)
  have HW := hide hW
  have HA := hide (((AtC.new w #[.bool n, .slice p lx cap] 88).alloc (.cells #[.bool m, .slice q ly cap2] 88)).alloc (.cells #[.bool false, .slice none 0 0] 88))
  have HB := hide ((AtC.new (w.alloc (.cells #[.bool n, .slice p lx cap] 88)) #[.bool m, .slice q ly cap2] 88).alloc (.cells #[.bool false, .slice none 0 0] 88))
  have HC := hide (AtC.new ((w.alloc (.cells #[.bool n, .slice p lx cap] 88)).alloc (.cells #[.bool m, .slice q ly cap2] 88)) #[.bool false, .slice none 0 0] 88)
  have Hl := hide (And.intro hlx hly)
  clear hx hy hW hlx hly
  rw [World.size_alloc] at HB
  rw [World.size_alloc, World.size_alloc] at HC
  unfold wholeV
  clear hnm
  go_enter Tryd.func203, Tryd.ntmps203
  go_wp2
  go_region_held3 (fun w' => w'.cell? ⟨w.heap.size, 0, none⟩ = some (.bool n) ∧ w'.cell? ⟨w.heap.size, 1, none⟩ = some (.slice p lx cap) ∧ w'.cell? ⟨w.heap.size + 1, 0, none⟩ = some (.bool m) ∧ w'.cell? ⟨w.heap.size + 1, 1, none⟩ = some (.slice q ly cap2)) (((try dsimp only); (repeat' apply And.intro) <;> (first | assumption | (rw [far2 (by first | (simp; done) | (simp; omega))]; assumption) | go_keep))) (first | (go_at_call 200; refine (plus_c x y _ _ _ (by first | exact unhide Hx) (by first | exact unhide Hy) hsx hsy).mono ?_; rintro e w1 ⟨⟨z, rfl, hz⟩, hb1⟩; obtain ⟨zp, zc, rfl⟩ := own_slice hz; have hA := (unhide HA).drew.below hb1; have hB := (unhide HB).drew.below hb1; have hC := (unhide HC).drew.below hb1; have a0 : w1.cell? ⟨w.heap.size, 0, none⟩ = some (.bool n) := hA.c 0; have a1 : w1.cell? ⟨w.heap.size, 1, none⟩ = some (.slice p lx cap) := hA.c 1; have b0 : w1.cell? ⟨w.heap.size + 1, 0, none⟩ = some (.bool m) := hB.c 0; have b1 : w1.cell? ⟨w.heap.size + 1, 1, none⟩ = some (.slice q ly cap2) := hB.c 1; have c0 : w1.cell? ⟨w.heap.size + 1 + 1, 0, none⟩ = some (.bool false) := hC.c 0; have c1 : w1.cell? ⟨w.heap.size + 1 + 1, 1, none⟩ = some (.slice none 0 0) := hC.c 1; have cf := hC.f; have Hz := hide hz; have Hb1 := hide hb1; clear hA hB hC hz hb1))
  have hfin : Below w.heap.size w w1 := (unhide HW).drew.trans ((unhide Hb1).mono (unhide HW).drew.size)
  have hs := (unhide HC).drew.below (unhide Hb1) |>.lt
  have Hfin := hide hfin
  clear hfin
  go_wp2
  refine bodyPost_ret (v := .agg #[.bool n, .slice zp (gr (x + y)).length zc]) (by simp [results, Tryd.results203, go_sem, c0, c1]) rfl ⟨⟨_, rfl, ⟨_, rfl, ?_⟩⟩, ?_⟩
  · have h0 := unhide Hz
    have h1 := isNatB_set h0 (b := w.heap.size + 1 + 1) (i := 0) (u := .bool n) (by simp)
    exact own_base (isNatB_set h1 (b := w.heap.size + 1 + 1) (i := 1) (by simp)) (by simp; omega)
  · exact ((unhide Hfin).setCell (by show w.heap.size ≤ w.heap.size + 1 + 1; omega) _).setCell (by show w.heap.size ≤ w.heap.size + 1 + 1; omega) _

set_option maxRecDepth 100000 in
set_option maxHeartbeats 2000000 in
theorem wPlus_ge (n m : Bool) (v u : Value) (x y : Nat) (w : World) (hnm : n ≠ m) (hl : ¬ x < y) (hx : isNat w v x) (hy : isNat w u y) (hsx : (gr x).length ≤ 1000000) (hsy : (gr y).length ≤ 1000000) :
    Calls Tryd.prog 203 #[wholeV n v, wholeV m u] w fun e w' => (∃ z, e = .returned z ∧ isWholeB w' w.heap.size z (plusW (n, x) (m, y))) ∧ Below w.heap.size w w' := by
  rw [plusW_ge hnm hl]
  have hb : (n == m) = false := by simp [hnm]
  have hd : decide (x < y) = false := decide_eq_false hl
  have hle : y ≤ x := by omega
  -- the two signed numbers in their boxes, the answer's box behind them
  obtain ⟨p, cap, rfl⟩ := own_slice hx
  obtain ⟨q, cap2, rfl⟩ := own_slice hy
  obtain ⟨lx, hlx⟩ : ∃ l, (gr x).length = l := ⟨_, rfl⟩
  obtain ⟨ly, hly⟩ : ∃ l, (gr y).length = l := ⟨_, rfl⟩
  rw [hlx] at hx
  rw [hly] at hy
  rw [hlx, hly]
  have hW : Below w.heap.size w (((w.alloc (.cells #[.bool n, .slice p lx cap] 88)).alloc (.cells #[.bool m, .slice q ly cap2] 88)).alloc (.cells #[.bool false, .slice none 0 0] 88)) :=
    (((Below.refl _ _).alloc (Nat.le_refl _) _).alloc (by simp) _).alloc (by simp; omega) _
  have Hx0 := hide hx
  have Hy0 := hide hy
  have Hx := hide (isNat_below hx hW)
  have Hy := hide (isNat_below hy hW)
  have HW := hide hW
  have HA := hide (((AtC.new w #[.bool n, .slice p lx cap] 88).alloc (.cells #[.bool m, .slice q ly cap2] 88)).alloc (.cells #[.bool false, .slice none 0 0] 88))
  have HB := hide ((AtC.new (w.alloc (.cells #[.bool n, .slice p lx cap] 88)) #[.bool m, .slice q ly cap2] 88).alloc (.cells #[.bool false, .slice none 0 0] 88))
  have HC := hide (AtC.new ((w.alloc (.cells #[.bool n, .slice p lx cap] 88)).alloc (.cells #[.bool m, .slice q ly cap2] 88)) #[.bool false, .slice none 0 0] 88)
  have Hl := hide (And.intro hlx hly)
  clear hx hy hW hlx hly
  rw [World.size_alloc] at HB
  rw [World.size_alloc, World.size_alloc] at HC
  unfold wholeV
  clear hnm hl
  go_enter Tryd.func203, Tryd.ntmps203
  go_wp2_with fail
  have h := less_c x y (.slice p lx cap) (.slice q ly cap2) _ (unhide Hx) (unhide Hy) (by omega) (by omega)
  refine h.mono ?_
  clear h
  rw [hd]
  rintro e w0 ⟨rfl, hb0⟩
  have hA0 := (unhide HA).below hb0
  have hB0 := (unhide HB).below hb0
  have hC0 := (unhide HC).below hb0
  have HW0 := hide ((unhide HW).trans (hb0.mono (unhide HW).size))
  have ca0 := hA0.c 0
  have ca1 := hA0.c 1
  have cb0 := hB0.c 0
  have cb1 := hB0.c 1
  have fa := hA0.f
  have fb := hB0.f
  simp at ca0 ca1 cb0 cb1
  have HA0 := hide hA0
  have HB0 := hide hB0
  have HC0 := hide hC0
  clear hA0 hB0 hC0 hb0
  -- the last region of plus where the signs differ: w0 the world, HA0 HB0 HC0 what stands in the boxes there (AtC, hidden), HW0 what is kept below, minus_c x y _ _ _ (by exact isNat_below (unhide Hx0) (unhide HW0).drew) (by exact isNat_below (unhide Hy0) (unhide HW0).drew) hle hsx contract, n the sign told, x - y the number told, w'.cell? ⟨w.heap.size, 0, none⟩ = some (.bool n) ∧ w'.cell? ⟨w.heap.size, 1, none⟩ = some (.slice p lx cap) ∧ w'.cell? ⟨w.heap.size + 1, 0, none⟩ = some (.bool m) ∧ w'.cell? ⟨w.heap.size + 1, 1, none⟩ = some (.slice q ly cap2) the cells' fact S
  go_wp2
  go_region_held3 (fun w' => w'.cell? ⟨w.heap.size, 0, none⟩ = some (.bool n) ∧ w'.cell? ⟨w.heap.size, 1, none⟩ = some (.slice p lx cap) ∧ w'.cell? ⟨w.heap.size + 1, 0, none⟩ = some (.bool m) ∧ w'.cell? ⟨w.heap.size + 1, 1, none⟩ = some (.slice q ly cap2)) (((try dsimp only); (repeat' apply And.intro) <;> (first | assumption | (rw [far2 (by first | (simp; done) | (simp; omega))]; assumption) | go_keep))) (first | (go_at_call 205; refine (minus_c x y _ _ _ (by exact isNat_below (unhide Hx0) (unhide HW0).drew) (by exact isNat_below (unhide Hy0) (unhide HW0).drew) hle hsx).mono ?_; rintro e w1 ⟨⟨z, rfl, hz⟩, hb1⟩; obtain ⟨zp, zc, rfl⟩ := own_slice hz; have hA := (unhide HA0).drew.below hb1; have hB := (unhide HB0).drew.below hb1; have hC := (unhide HC0).drew.below hb1; have a0 := hA.c 0; have a1 := hA.c 1; have b0 := hB.c 0; have b1 := hB.c 1; simp at a0 a1 b0 b1; have c0 : w1.cell? ⟨w.heap.size + 1 + 1, 0, none⟩ = some (.bool false) := hC.c 0; have c1 : w1.cell? ⟨w.heap.size + 1 + 1, 1, none⟩ = some (.slice none 0 0) := hC.c 1; have cf := hC.f; have Hz := hide hz; have Hb1 := hide hb1; clear hA hB hC hz hb1))
  have hbig : w.heap.size + 1 + 1 < (w0).heap.size := (unhide HC0).lt
  have hfin : Below w.heap.size w w1 := (unhide HW0).drew.trans ((unhide Hb1).mono (unhide HW0).drew.size)
  have hs := (unhide HC0).drew.below (unhide Hb1) |>.lt
  have Hfin := hide hfin
  clear hfin
  go_wp2
  refine bodyPost_ret (v := .agg #[.bool n, .slice zp (gr (x - y)).length zc]) (by simp [results, Tryd.results203, go_sem, c0, c1]) rfl ⟨⟨_, rfl, ⟨_, rfl, ?_⟩⟩, ?_⟩
  · have h0 := unhide Hz
    have h1 := isNatB_set h0 (b := w.heap.size + 1 + 1) (i := 0) (u := .bool n) (by simpa using hbig)
    exact own_base (isNatB_set h1 (b := w.heap.size + 1 + 1) (i := 1) (by simpa using hbig)) (by simp; omega)
  · exact ((unhide Hfin).setCell (by show w.heap.size ≤ w.heap.size + 1 + 1; omega) _).setCell (by show w.heap.size ≤ w.heap.size + 1 + 1; omega) _

set_option maxRecDepth 100000 in
set_option maxHeartbeats 2000000 in
theorem wPlus_lt (n m : Bool) (v u : Value) (x y : Nat) (w : World) (hnm : n ≠ m) (hl : x < y) (hx : isNat w v x) (hy : isNat w u y) (hsx : (gr x).length ≤ 1000000) (hsy : (gr y).length ≤ 1000000) :
    Calls Tryd.prog 203 #[wholeV n v, wholeV m u] w fun e w' => (∃ z, e = .returned z ∧ isWholeB w' w.heap.size z (plusW (n, x) (m, y))) ∧ Below w.heap.size w w' := by
  rw [plusW_lt hnm hl]
  have hb : (n == m) = false := by simp [hnm]
  have hd : decide (x < y) = true := decide_eq_true hl
  have hle : x ≤ y := by omega
  -- the two signed numbers in their boxes, the answer's box behind them
  obtain ⟨p, cap, rfl⟩ := own_slice hx
  obtain ⟨q, cap2, rfl⟩ := own_slice hy
  obtain ⟨lx, hlx⟩ : ∃ l, (gr x).length = l := ⟨_, rfl⟩
  obtain ⟨ly, hly⟩ : ∃ l, (gr y).length = l := ⟨_, rfl⟩
  rw [hlx] at hx
  rw [hly] at hy
  rw [hlx, hly]
  have hW : Below w.heap.size w (((w.alloc (.cells #[.bool n, .slice p lx cap] 88)).alloc (.cells #[.bool m, .slice q ly cap2] 88)).alloc (.cells #[.bool false, .slice none 0 0] 88)) :=
    (((Below.refl _ _).alloc (Nat.le_refl _) _).alloc (by simp) _).alloc (by simp; omega) _
  have Hx0 := hide hx
  have Hy0 := hide hy
  have Hx := hide (isNat_below hx hW)
  have Hy := hide (isNat_below hy hW)
  have HW := hide hW
  have HA := hide (((AtC.new w #[.bool n, .slice p lx cap] 88).alloc (.cells #[.bool m, .slice q ly cap2] 88)).alloc (.cells #[.bool false, .slice none 0 0] 88))
  have HB := hide ((AtC.new (w.alloc (.cells #[.bool n, .slice p lx cap] 88)) #[.bool m, .slice q ly cap2] 88).alloc (.cells #[.bool false, .slice none 0 0] 88))
  have HC := hide (AtC.new ((w.alloc (.cells #[.bool n, .slice p lx cap] 88)).alloc (.cells #[.bool m, .slice q ly cap2] 88)) #[.bool false, .slice none 0 0] 88)
  have Hl := hide (And.intro hlx hly)
  clear hx hy hW hlx hly
  rw [World.size_alloc] at HB
  rw [World.size_alloc, World.size_alloc] at HC
  unfold wholeV
  clear hnm hl
  go_enter Tryd.func203, Tryd.ntmps203
  go_wp2_with fail
  have h := less_c x y (.slice p lx cap) (.slice q ly cap2) _ (unhide Hx) (unhide Hy) (by omega) (by omega)
  refine h.mono ?_
  clear h
  rw [hd]
  rintro e w0 ⟨rfl, hb0⟩
  have hA0 := (unhide HA).below hb0
  have hB0 := (unhide HB).below hb0
  have hC0 := (unhide HC).below hb0
  have HW0 := hide ((unhide HW).trans (hb0.mono (unhide HW).size))
  have ca0 := hA0.c 0
  have ca1 := hA0.c 1
  have cb0 := hB0.c 0
  have cb1 := hB0.c 1
  have fa := hA0.f
  have fb := hB0.f
  simp at ca0 ca1 cb0 cb1
  have HA0 := hide ((hA0.put2 (.bool m) (.slice q ly cap2)).far2 (c := w.heap.size + 1) (by omega) (.bool n) (.slice p lx cap) 0 1)
  have HB0 := hide ((hB0.far2 (c := w.heap.size) (by omega) (.bool m) (.slice q ly cap2) 0 1).put2 (.bool n) (.slice p lx cap))
  have HC0 := hide ((hC0.far2 (c := w.heap.size) (by omega) (.bool m) (.slice q ly cap2) 0 1).far2 (c := w.heap.size + 1) (by omega) (.bool n) (.slice p lx cap) 0 1)
  have HW1 := hide (((((unhide HW0).setCell (p := ⟨w.heap.size, 0, none⟩) (Nat.le_refl _) (.bool m)).setCell (p := ⟨w.heap.size, 1, none⟩) (Nat.le_refl _) (.slice q ly cap2)).setCell (p := ⟨w.heap.size + 1, 0, none⟩) (by show w.heap.size ≤ w.heap.size + 1; omega) (.bool n)).setCell (p := ⟨w.heap.size + 1, 1, none⟩) (by show w.heap.size ≤ w.heap.size + 1; omega) (.slice p lx cap))
  clear hA0 hB0 hC0 hb0
  go_wp2
  clear ca0 ca1 cb0 cb1 fa fb
  generalize (((w0.setCell ⟨w.heap.size, 0, none⟩ (.bool m)).setCell ⟨w.heap.size, 1, none⟩ (.slice q ly cap2)).setCell ⟨w.heap.size + 1, 0, none⟩ (.bool n)).setCell ⟨w.heap.size + 1, 1, none⟩ (.slice p lx cap) = W1 at *
  have ca0 := (unhide HA0).c 0
  have ca1 := (unhide HA0).c 1
  have cb0 := (unhide HB0).c 0
  have cb1 := (unhide HB0).c 1
  simp at ca0 ca1 cb0 cb1
  -- the last region of plus where the signs differ: W1 the world, HA0 HB0 HC0 what stands in the boxes there (AtC, hidden), HW1 what is kept below, minus_c y x _ _ _ (by exact isNat_below (unhide Hy0) (unhide HW1).drew) (by exact isNat_below (unhide Hx0) (unhide HW1).drew) hle hsy contract, m the sign told, y - x the number told, w'.cell? ⟨w.heap.size, 0, none⟩ = some (.bool m) ∧ w'.cell? ⟨w.heap.size, 1, none⟩ = some (.slice q ly cap2) ∧ w'.cell? ⟨w.heap.size + 1, 0, none⟩ = some (.bool n) ∧ w'.cell? ⟨w.heap.size + 1, 1, none⟩ = some (.slice p lx cap) the cells' fact S
  go_wp2
  go_region_held3 (fun w' => w'.cell? ⟨w.heap.size, 0, none⟩ = some (.bool m) ∧ w'.cell? ⟨w.heap.size, 1, none⟩ = some (.slice q ly cap2) ∧ w'.cell? ⟨w.heap.size + 1, 0, none⟩ = some (.bool n) ∧ w'.cell? ⟨w.heap.size + 1, 1, none⟩ = some (.slice p lx cap)) (((try dsimp only); (repeat' apply And.intro) <;> (first | assumption | (rw [far2 (by first | (simp; done) | (simp; omega))]; assumption) | go_keep))) (first | (go_at_call 205; refine (minus_c y x _ _ _ (by exact isNat_below (unhide Hy0) (unhide HW1).drew) (by exact isNat_below (unhide Hx0) (unhide HW1).drew) hle hsy).mono ?_; rintro e w1 ⟨⟨z, rfl, hz⟩, hb1⟩; obtain ⟨zp, zc, rfl⟩ := own_slice hz; have hA := (unhide HA0).drew.below hb1; have hB := (unhide HB0).drew.below hb1; have hC := (unhide HC0).drew.below hb1; have a0 := hA.c 0; have a1 := hA.c 1; have b0 := hB.c 0; have b1 := hB.c 1; simp at a0 a1 b0 b1; have c0 : w1.cell? ⟨w.heap.size + 1 + 1, 0, none⟩ = some (.bool false) := hC.c 0; have c1 : w1.cell? ⟨w.heap.size + 1 + 1, 1, none⟩ = some (.slice none 0 0) := hC.c 1; have cf := hC.f; have Hz := hide hz; have Hb1 := hide hb1; clear hA hB hC hz hb1))
  have hbig : w.heap.size + 1 + 1 < (W1).heap.size := (unhide HC0).lt
  have hfin : Below w.heap.size w w1 := (unhide HW1).drew.trans ((unhide Hb1).mono (unhide HW1).drew.size)
  have hs := (unhide HC0).drew.below (unhide Hb1) |>.lt
  have Hfin := hide hfin
  clear hfin
  go_wp2
  refine bodyPost_ret (v := .agg #[.bool m, .slice zp (gr (y - x)).length zc]) (by simp [results, Tryd.results203, go_sem, c0, c1]) rfl ⟨⟨_, rfl, ⟨_, rfl, ?_⟩⟩, ?_⟩
  · have h0 := unhide Hz
    have h1 := isNatB_set h0 (b := w.heap.size + 1 + 1) (i := 0) (u := .bool m) (by simpa using hbig)
    exact own_base (isNatB_set h1 (b := w.heap.size + 1 + 1) (i := 1) (by simpa using hbig)) (by simp; omega)
  · exact ((unhide Hfin).setCell (by show w.heap.size ≤ w.heap.size + 1 + 1; omega) _).setCell (by show w.heap.size ≤ w.heap.size + 1 + 1; omega) _

theorem wPlus_c (n m : Bool) (v u : Value) (x y : Nat) (w : World) (hx : isNat w v x) (hy : isNat w u y) (hsx : (gr x).length ≤ 1000000) (hsy : (gr y).length ≤ 1000000) :
    Calls Tryd.prog 203 #[wholeV n v, wholeV m u] w fun e w' => (∃ z, e = .returned z ∧ isWholeB w' w.heap.size z (plusW (n, x) (m, y))) ∧ Below w.heap.size w w' := by
  by_cases hnm : n = m
  · exact wPlus_same n m v u x y w hnm hx hy hsx hsy
  · by_cases hl : x < y
    · exact wPlus_lt n m v u x y w hnm hl hx hy hsx hsy
    · exact wPlus_ge n m v u x y w hnm hl hx hy hsx hsy
end Go.Proofs.YtchginjabaobfaaDoor
namespace Go.Proofs.YtchginjabaobfaaDoor
open Go.RowKit Nt

/-- a fraction: what is above and below, each with a sign -/
def fracV (n m : Bool) (v u : Value) : Value := .agg #[.bool n, v, .bool m, u]

theorem meth_times (W : World) (a b : Value) : (method 231 88 (.agg #[a, b]) "loop.example/sistab/impl.times").run Tryd.prog W = .ok (204, .agg #[a, b]) W := by kernel_rfl
theorem meth_plus (W : World) (a b : Value) : (method 231 88 (.agg #[a, b]) "loop.example/sistab/impl.plus").run Tryd.prog W = .ok (203, .agg #[a, b]) W := by kernel_rfl
theorem meth_negated (W : World) (a b : Value) : (method 231 88 (.agg #[a, b]) "loop.example/sistab/impl.negated").run Tryd.prog W = .ok (202, .agg #[a, b]) W := by kernel_rfl



set_option maxRecDepth 100000 in
set_option maxHeartbeats 2000000 in
theorem aboveProduct_c (n1 m1 n2 m2 : Bool) (v1 u1 v2 u2 : Value) (x1 y1 x2 y2 : Nat) (w : World) (hx1 : isNat w v1 x1) (hy1 : isNat w u1 y1) (hx2 : isNat w v2 x2) (hy2 : isNat w u2 y2) (hs1 : (gr x1).length ≤ 1000000) (hs2 : (gr x2).length ≤ 1000000) :
    Calls Tryd.prog 63 #[fracV n1 m1 v1 u1, fracV n2 m2 v2 u2] w fun e w' => (∃ z, e = .returned z ∧ isWholeB w' w.heap.size z (n1 != n2, x1 * x2)) ∧ Below w.heap.size w w' := by
  -- two fractions in their boxes, the answer's box behind them
  obtain ⟨p1, e1, rfl⟩ := own_slice hx1
  obtain ⟨q1, e3, rfl⟩ := own_slice hy1
  obtain ⟨p2, e2, rfl⟩ := own_slice hx2
  obtain ⟨q2, e4, rfl⟩ := own_slice hy2
  have Hx1 := hide hx1
  have Hx2 := hide hx2
  have Hy1 := hide hy1
  have Hy2 := hide hy2
  obtain ⟨lx1, hlx1⟩ : ∃ l, (gr x1).length = l := ⟨_, rfl⟩
  obtain ⟨lx2, hlx2⟩ : ∃ l, (gr x2).length = l := ⟨_, rfl⟩
  obtain ⟨ly1, hly1⟩ : ∃ l, (gr y1).length = l := ⟨_, rfl⟩
  obtain ⟨ly2, hly2⟩ : ∃ l, (gr y2).length = l := ⟨_, rfl⟩
  rw [hlx1] at Hx1
  rw [hlx2] at Hx2
  rw [hly1] at Hy1
  rw [hly2] at Hy2
  rw [hlx1, hlx2, hly1, hly2]
  have Hl := hide (And.intro hlx1 (And.intro hlx2 (And.intro hly1 hly2)))
  have HW := hide ((((Below.refl w.heap.size w).alloc (Nat.le_refl _) (.cells #[.bool n1, .slice p1 lx1 e1, .bool m1, .slice q1 ly1 e3] 128)).alloc (by simp) (.cells #[.bool n2, .slice p2 lx2 e2, .bool m2, .slice q2 ly2 e4] 128)).alloc (by simp; omega) (.cells #[.bool false, .slice none 0 0] 88))
  have HA := hide (((AtC.new w #[.bool n1, .slice p1 lx1 e1, .bool m1, .slice q1 ly1 e3] 128).alloc (.cells #[.bool n2, .slice p2 lx2 e2, .bool m2, .slice q2 ly2 e4] 128)).alloc (.cells #[.bool false, .slice none 0 0] 88))
  have HB := hide ((AtC.new (w.alloc (.cells #[.bool n1, .slice p1 lx1 e1, .bool m1, .slice q1 ly1 e3] 128)) #[.bool n2, .slice p2 lx2 e2, .bool m2, .slice q2 ly2 e4] 128).alloc (.cells #[.bool false, .slice none 0 0] 88))
  have HC := hide (AtC.new ((w.alloc (.cells #[.bool n1, .slice p1 lx1 e1, .bool m1, .slice q1 ly1 e3] 128)).alloc (.cells #[.bool n2, .slice p2 lx2 e2, .bool m2, .slice q2 ly2 e4] 128)) #[.bool false, .slice none 0 0] 88)
  rw [World.size_alloc] at HB
  rw [World.size_alloc, World.size_alloc] at HC
  clear hx1 hx2 hy1 hy2 hlx1 hlx2 hly1 hly2
  unfold fracV
  go_enter Tryd.func63, Tryd.ntmps63
  go_wp2_with fail
  have h := wTimes_c n1 n2 (.slice p1 lx1 e1) (.slice p2 lx2 e2) x1 x2 _ (isNat_below (unhide Hx1) (unhide HW)) (isNat_below (unhide Hx2) (unhide HW)) (by omega) (by omega)
  unfold wholeV at h
  refine h.mono ?_
  clear h
  rintro e w1 ⟨⟨z, rfl, ⟨zv, rfl, hz⟩⟩, hb1⟩
  obtain ⟨zp, zc, rfl⟩ := own_slice hz
  have hC := (unhide HC).below hb1
  have c0 : w1.cell? ⟨w.heap.size + 1 + 1, 0, none⟩ = some (.bool false) := hC.c 0
  have c1 : w1.cell? ⟨w.heap.size + 1 + 1, 1, none⟩ = some (.slice none 0 0) := hC.c 1
  have cf := hC.f
  have hs := hC.lt
  have Hz := hide hz
  have Hfin := hide ((unhide HW).trans (hb1.mono (unhide HW).size))
  clear hC hz hb1
  unfold wholeV
  go_wp2
  -- impl.aboveProduct[loop.example/sistab/impl.numWhole] the function, (n1 != n2) the sign, (x1 * x2) the number
  refine bodyPost_ret (v := .agg #[.bool (n1 != n2), .slice zp (gr (x1 * x2)).length zc]) (by simp [results, Tryd.results63, go_sem, c0, c1]) rfl ⟨⟨_, rfl, ⟨_, rfl, ?_⟩⟩, ?_⟩
  · have h0 := unhide Hz
    have h1 := isNatB_set h0 (b := w.heap.size + 1 + 1) (i := 0) (u := .bool (n1 != n2)) (by first | (simp; done) | omega | (simp; omega))
    exact own_base (isNatB_set h1 (b := w.heap.size + 1 + 1) (i := 1) (by first | omega | (simp; done) | (simp; omega))) (by first | omega | (simp; omega))
  · exact ((unhide Hfin).setCell (by show w.heap.size ≤ w.heap.size + 1 + 1; omega) _).setCell (by show w.heap.size ≤ w.heap.size + 1 + 1; omega) _

set_option maxRecDepth 100000 in
set_option maxHeartbeats 4000000 in
theorem aboveSum_c (n1 m1 n2 m2 : Bool) (v1 u1 v2 u2 : Value) (x1 y1 x2 y2 : Nat) (w : World) (hx1 : isNat w v1 x1) (hy1 : isNat w u1 y1) (hx2 : isNat w v2 x2) (hy2 : isNat w u2 y2) (hs1 : (gr x1).length ≤ 1000000) (hs2 : (gr x2).length ≤ 1000000) (ht1 : (gr y1).length ≤ 1000000) (ht2 : (gr y2).length ≤ 1000000)
    (hp1 : (gr (x1 * y2)).length ≤ 1000000) (hp2 : (gr (x2 * y1)).length ≤ 1000000) :
    Calls Tryd.prog 61 #[fracV n1 m1 v1 u1, fracV n2 m2 v2 u2] w fun e w' => (∃ z, e = .returned z ∧ isWholeB w' w.heap.size z (plusW (n1 != m2, x1 * y2) (n2 != m1, x2 * y1))) ∧ Below w.heap.size w w' := by
  have hmt := meth_times
  have hmp := meth_plus
  -- two fractions in their boxes, the answer's box behind them
  obtain ⟨p1, e1, rfl⟩ := own_slice hx1
  obtain ⟨q1, e3, rfl⟩ := own_slice hy1
  obtain ⟨p2, e2, rfl⟩ := own_slice hx2
  obtain ⟨q2, e4, rfl⟩ := own_slice hy2
  have Hx1 := hide hx1
  have Hx2 := hide hx2
  have Hy1 := hide hy1
  have Hy2 := hide hy2
  obtain ⟨lx1, hlx1⟩ : ∃ l, (gr x1).length = l := ⟨_, rfl⟩
  obtain ⟨lx2, hlx2⟩ : ∃ l, (gr x2).length = l := ⟨_, rfl⟩
  obtain ⟨ly1, hly1⟩ : ∃ l, (gr y1).length = l := ⟨_, rfl⟩
  obtain ⟨ly2, hly2⟩ : ∃ l, (gr y2).length = l := ⟨_, rfl⟩
  rw [hlx1] at Hx1
  rw [hlx2] at Hx2
  rw [hly1] at Hy1
  rw [hly2] at Hy2
  rw [hlx1, hlx2, hly1, hly2]
  have Hl := hide (And.intro hlx1 (And.intro hlx2 (And.intro hly1 hly2)))
  have HW := hide ((((Below.refl w.heap.size w).alloc (Nat.le_refl _) (.cells #[.bool n1, .slice p1 lx1 e1, .bool m1, .slice q1 ly1 e3] 128)).alloc (by simp) (.cells #[.bool n2, .slice p2 lx2 e2, .bool m2, .slice q2 ly2 e4] 128)).alloc (by simp; omega) (.cells #[.bool false, .slice none 0 0] 88))
  have HA := hide (((AtC.new w #[.bool n1, .slice p1 lx1 e1, .bool m1, .slice q1 ly1 e3] 128).alloc (.cells #[.bool n2, .slice p2 lx2 e2, .bool m2, .slice q2 ly2 e4] 128)).alloc (.cells #[.bool false, .slice none 0 0] 88))
  have HB := hide ((AtC.new (w.alloc (.cells #[.bool n1, .slice p1 lx1 e1, .bool m1, .slice q1 ly1 e3] 128)) #[.bool n2, .slice p2 lx2 e2, .bool m2, .slice q2 ly2 e4] 128).alloc (.cells #[.bool false, .slice none 0 0] 88))
  have HC := hide (AtC.new ((w.alloc (.cells #[.bool n1, .slice p1 lx1 e1, .bool m1, .slice q1 ly1 e3] 128)).alloc (.cells #[.bool n2, .slice p2 lx2 e2, .bool m2, .slice q2 ly2 e4] 128)) #[.bool false, .slice none 0 0] 88)
  rw [World.size_alloc] at HB
  rw [World.size_alloc, World.size_alloc] at HC
  clear hx1 hx2 hy1 hy2 hlx1 hlx2 hly1 hly2
  unfold fracV
  go_enter Tryd.func61, Tryd.ntmps61
  go_wp2
  go_region_held3 (fun w' => w'.cell? ⟨w.heap.size, 0, none⟩ = some (.bool n1) ∧ w'.cell? ⟨w.heap.size, 1, none⟩ = some (.slice p1 lx1 e1) ∧ w'.cell? ⟨w.heap.size, 2, none⟩ = some (.bool m1) ∧ w'.cell? ⟨w.heap.size, 3, none⟩ = some (.slice q1 ly1 e3) ∧ w'.cell? ⟨w.heap.size + 1, 0, none⟩ = some (.bool n2) ∧ w'.cell? ⟨w.heap.size + 1, 1, none⟩ = some (.slice p2 lx2 e2) ∧ w'.cell? ⟨w.heap.size + 1, 2, none⟩ = some (.bool m2) ∧ w'.cell? ⟨w.heap.size + 1, 3, none⟩ = some (.slice q2 ly2 e4)) (((try dsimp only); (repeat' apply And.intro) <;> (first | assumption | (rw [far2 (by first | (simp; done) | (simp; omega))]; assumption) | go_keep))) (first | (go_at_call_of 204 p1; refine (wTimes_c n1 m2 (.slice p1 lx1 e1) (.slice q2 ly2 e4) x1 y2 _ (by exact isNat_below (unhide Hx1) (unhide HW).drew) (by exact isNat_below (unhide Hy2) (unhide HW).drew) (by omega) (by omega)).mono ?_; rintro e w1 ⟨⟨z, rfl, ⟨zv, rfl, hz⟩⟩, hb1⟩; obtain ⟨zp1, zc1, rfl⟩ := own_slice hz; have hA1 := ((unhide HA).drew).below hb1; have hB1 := ((unhide HB).drew).below hb1; have hC1 := ((unhide HC).drew).below hb1; have a10 : w1.cell? ⟨w.heap.size, 0, none⟩ = some (.bool n1) := hA1.c 0; have a11 : w1.cell? ⟨w.heap.size, 1, none⟩ = some (.slice p1 lx1 e1) := hA1.c 1; have a12 : w1.cell? ⟨w.heap.size, 2, none⟩ = some (.bool m1) := hA1.c 2; have a13 : w1.cell? ⟨w.heap.size, 3, none⟩ = some (.slice q1 ly1 e3) := hA1.c 3; have b10 : w1.cell? ⟨w.heap.size + 1, 0, none⟩ = some (.bool n2) := hB1.c 0; have b11 : w1.cell? ⟨w.heap.size + 1, 1, none⟩ = some (.slice p2 lx2 e2) := hB1.c 1; have b12 : w1.cell? ⟨w.heap.size + 1, 2, none⟩ = some (.bool m2) := hB1.c 2; have b13 : w1.cell? ⟨w.heap.size + 1, 3, none⟩ = some (.slice q2 ly2 e4) := hB1.c 3; have HA1 := hide hA1; have HB1 := hide hB1; have HC1 := hide hC1; have Hz1 := hide hz.nat; have HW1 := hide ((unhide HW).drew.trans (hb1.mono (unhide HW).drew.size)); clear hA1 hB1 hC1 hz hb1; unfold wholeV) | (go_at_call_of 204 p2; refine (wTimes_c n2 m1 (.slice p2 lx2 e2) (.slice q1 ly1 e3) x2 y1 _ (by exact isNat_below (unhide Hx2) (unhide HW1)) (by exact isNat_below (unhide Hy1) (unhide HW1)) (by omega) (by omega)).mono ?_; rintro e w2 ⟨⟨z, rfl, ⟨zv, rfl, hz⟩⟩, hb2⟩; obtain ⟨zp2, zc2, rfl⟩ := own_slice hz; have hA2 := (unhide HA1).below hb2; have hB2 := (unhide HB1).below hb2; have hC2 := (unhide HC1).below hb2; have a20 : w2.cell? ⟨w.heap.size, 0, none⟩ = some (.bool n1) := hA2.c 0; have a21 : w2.cell? ⟨w.heap.size, 1, none⟩ = some (.slice p1 lx1 e1) := hA2.c 1; have a22 : w2.cell? ⟨w.heap.size, 2, none⟩ = some (.bool m1) := hA2.c 2; have a23 : w2.cell? ⟨w.heap.size, 3, none⟩ = some (.slice q1 ly1 e3) := hA2.c 3; have b20 : w2.cell? ⟨w.heap.size + 1, 0, none⟩ = some (.bool n2) := hB2.c 0; have b21 : w2.cell? ⟨w.heap.size + 1, 1, none⟩ = some (.slice p2 lx2 e2) := hB2.c 1; have b22 : w2.cell? ⟨w.heap.size + 1, 2, none⟩ = some (.bool m2) := hB2.c 2; have b23 : w2.cell? ⟨w.heap.size + 1, 3, none⟩ = some (.slice q2 ly2 e4) := hB2.c 3; have HA2 := hide hA2; have HB2 := hide hB2; have HC2 := hide hC2; have Hz1' := hide (isNat_below (unhide Hz1) hb2); have Hz2 := hide hz.nat; have HW2 := hide ((unhide HW1).trans (hb2.mono (unhide HW1).size)); clear hA2 hB2 hC2 hz hb2; unfold wholeV) | (go_at_call 203; refine (wPlus_c (n1 != m2) (n2 != m1) (.slice zp1 (gr (x1 * y2)).length zc1) (.slice zp2 (gr (x2 * y1)).length zc2) (x1 * y2) (x2 * y1) _ (by exact unhide Hz1') (by exact unhide Hz2) (by omega) (by omega)).mono ?_; rintro e w3 ⟨⟨z, rfl, ⟨zv, rfl, hz⟩⟩, hb3⟩; obtain ⟨zp, zc, rfl⟩ := own_slice hz; have hA3 := (unhide HA2).below hb3; have hB3 := (unhide HB2).below hb3; have hC3 := (unhide HC2).below hb3; have a30 : w3.cell? ⟨w.heap.size, 0, none⟩ = some (.bool n1) := hA3.c 0; have a31 : w3.cell? ⟨w.heap.size, 1, none⟩ = some (.slice p1 lx1 e1) := hA3.c 1; have a32 : w3.cell? ⟨w.heap.size, 2, none⟩ = some (.bool m1) := hA3.c 2; have a33 : w3.cell? ⟨w.heap.size, 3, none⟩ = some (.slice q1 ly1 e3) := hA3.c 3; have b30 : w3.cell? ⟨w.heap.size + 1, 0, none⟩ = some (.bool n2) := hB3.c 0; have b31 : w3.cell? ⟨w.heap.size + 1, 1, none⟩ = some (.slice p2 lx2 e2) := hB3.c 1; have b32 : w3.cell? ⟨w.heap.size + 1, 2, none⟩ = some (.bool m2) := hB3.c 2; have b33 : w3.cell? ⟨w.heap.size + 1, 3, none⟩ = some (.slice q2 ly2 e4) := hB3.c 3; have HA3 := hide hA3; have HB3 := hide hB3; have HC3 := hide hC3; have c0 : w3.cell? ⟨w.heap.size + 1 + 1, 0, none⟩ = some (.bool false) := hC3.c 0; have c1 : w3.cell? ⟨w.heap.size + 1 + 1, 1, none⟩ = some (.slice none 0 0) := hC3.c 1; have cf := hC3.f; have hs := hC3.lt; have hs2 := (unhide HC2).lt; have Hz := hide hz; have Hfin := hide ((unhide HW2).trans (hb3.mono (unhide HW2).size)); clear hA3 hB3 hC3 hz hb3; unfold wholeV))
  go_wp2
  -- impl.aboveSum[loop.example/sistab/impl.numWhole] the function, (plusW (n1 != m2, x1 * y2) (n2 != m1, x2 * y1)).1 the sign, (plusW (n1 != m2, x1 * y2) (n2 != m1, x2 * y1)).2 the number
  refine bodyPost_ret (v := .agg #[.bool (plusW (n1 != m2, x1 * y2) (n2 != m1, x2 * y1)).1, .slice zp (gr (plusW (n1 != m2, x1 * y2) (n2 != m1, x2 * y1)).2).length zc]) (by simp [results, Tryd.results61, go_sem, c0, c1]) rfl ⟨⟨_, rfl, ⟨_, rfl, ?_⟩⟩, ?_⟩
  · have h0 := unhide Hz
    have h1 := isNatB_set h0 (b := w.heap.size + 1 + 1) (i := 0) (u := .bool (plusW (n1 != m2, x1 * y2) (n2 != m1, x2 * y1)).1) (by first | (simp; done) | omega | (simp; omega))
    exact own_base (isNatB_set h1 (b := w.heap.size + 1 + 1) (i := 1) (by first | omega | (simp; done) | (simp; omega))) (by first | omega | (simp; omega))
  · exact ((unhide Hfin).setCell (by show w.heap.size ≤ w.heap.size + 1 + 1; omega) _).setCell (by show w.heap.size ≤ w.heap.size + 1 + 1; omega) _

set_option maxRecDepth 100000 in
set_option maxHeartbeats 4000000 in
theorem aboveLeft_c (n1 m1 n2 m2 : Bool) (v1 u1 v2 u2 : Value) (x1 y1 x2 y2 : Nat) (w : World) (hx1 : isNat w v1 x1) (hy1 : isNat w u1 y1) (hx2 : isNat w v2 x2) (hy2 : isNat w u2 y2) (hs1 : (gr x1).length ≤ 1000000) (hs2 : (gr x2).length ≤ 1000000) (ht1 : (gr y1).length ≤ 1000000) (ht2 : (gr y2).length ≤ 1000000)
    (hp1 : (gr (x1 * y2)).length ≤ 1000000) (hp2 : (gr (x2 * y1)).length ≤ 1000000) :
    Calls Tryd.prog 66 #[fracV n1 m1 v1 u1, fracV n2 m2 v2 u2] w fun e w' => (∃ z, e = .returned z ∧ isWholeB w' w.heap.size z (plusW (n1 != m2, x1 * y2) (!(n2 != m1), x2 * y1))) ∧ Below w.heap.size w w' := by
  have hmt := meth_times
  have hmp := meth_plus
  have hmn := meth_negated
  -- two fractions in their boxes, the answer's box behind them
  obtain ⟨p1, e1, rfl⟩ := own_slice hx1
  obtain ⟨q1, e3, rfl⟩ := own_slice hy1
  obtain ⟨p2, e2, rfl⟩ := own_slice hx2
  obtain ⟨q2, e4, rfl⟩ := own_slice hy2
  have Hx1 := hide hx1
  have Hx2 := hide hx2
  have Hy1 := hide hy1
  have Hy2 := hide hy2
  obtain ⟨lx1, hlx1⟩ : ∃ l, (gr x1).length = l := ⟨_, rfl⟩
  obtain ⟨lx2, hlx2⟩ : ∃ l, (gr x2).length = l := ⟨_, rfl⟩
  obtain ⟨ly1, hly1⟩ : ∃ l, (gr y1).length = l := ⟨_, rfl⟩
  obtain ⟨ly2, hly2⟩ : ∃ l, (gr y2).length = l := ⟨_, rfl⟩
  rw [hlx1] at Hx1
  rw [hlx2] at Hx2
  rw [hly1] at Hy1
  rw [hly2] at Hy2
  rw [hlx1, hlx2, hly1, hly2]
  have Hl := hide (And.intro hlx1 (And.intro hlx2 (And.intro hly1 hly2)))
  have HW := hide ((((Below.refl w.heap.size w).alloc (Nat.le_refl _) (.cells #[.bool n1, .slice p1 lx1 e1, .bool m1, .slice q1 ly1 e3] 128)).alloc (by simp) (.cells #[.bool n2, .slice p2 lx2 e2, .bool m2, .slice q2 ly2 e4] 128)).alloc (by simp; omega) (.cells #[.bool false, .slice none 0 0] 88))
  have HA := hide (((AtC.new w #[.bool n1, .slice p1 lx1 e1, .bool m1, .slice q1 ly1 e3] 128).alloc (.cells #[.bool n2, .slice p2 lx2 e2, .bool m2, .slice q2 ly2 e4] 128)).alloc (.cells #[.bool false, .slice none 0 0] 88))
  have HB := hide ((AtC.new (w.alloc (.cells #[.bool n1, .slice p1 lx1 e1, .bool m1, .slice q1 ly1 e3] 128)) #[.bool n2, .slice p2 lx2 e2, .bool m2, .slice q2 ly2 e4] 128).alloc (.cells #[.bool false, .slice none 0 0] 88))
  have HC := hide (AtC.new ((w.alloc (.cells #[.bool n1, .slice p1 lx1 e1, .bool m1, .slice q1 ly1 e3] 128)).alloc (.cells #[.bool n2, .slice p2 lx2 e2, .bool m2, .slice q2 ly2 e4] 128)) #[.bool false, .slice none 0 0] 88)
  rw [World.size_alloc] at HB
  rw [World.size_alloc, World.size_alloc] at HC
  clear hx1 hx2 hy1 hy2 hlx1 hlx2 hly1 hly2
  unfold fracV
  go_enter Tryd.func66, Tryd.ntmps66
  go_wp2
  go_region_held3 (fun w' => w'.cell? ⟨w.heap.size, 0, none⟩ = some (.bool n1) ∧ w'.cell? ⟨w.heap.size, 1, none⟩ = some (.slice p1 lx1 e1) ∧ w'.cell? ⟨w.heap.size, 2, none⟩ = some (.bool m1) ∧ w'.cell? ⟨w.heap.size, 3, none⟩ = some (.slice q1 ly1 e3) ∧ w'.cell? ⟨w.heap.size + 1, 0, none⟩ = some (.bool n2) ∧ w'.cell? ⟨w.heap.size + 1, 1, none⟩ = some (.slice p2 lx2 e2) ∧ w'.cell? ⟨w.heap.size + 1, 2, none⟩ = some (.bool m2) ∧ w'.cell? ⟨w.heap.size + 1, 3, none⟩ = some (.slice q2 ly2 e4)) (((try dsimp only); (repeat' apply And.intro) <;> (first | assumption | (rw [far2 (by first | (simp; done) | (simp; omega))]; assumption) | go_keep))) (first | (go_at_call_of 204 p1; refine (wTimes_c n1 m2 (.slice p1 lx1 e1) (.slice q2 ly2 e4) x1 y2 _ (by exact isNat_below (unhide Hx1) (unhide HW).drew) (by exact isNat_below (unhide Hy2) (unhide HW).drew) (by omega) (by omega)).mono ?_; rintro e w1 ⟨⟨z, rfl, ⟨zv, rfl, hz⟩⟩, hb1⟩; obtain ⟨zp1, zc1, rfl⟩ := own_slice hz; have hA1 := ((unhide HA).drew).below hb1; have hB1 := ((unhide HB).drew).below hb1; have hC1 := ((unhide HC).drew).below hb1; have a10 : w1.cell? ⟨w.heap.size, 0, none⟩ = some (.bool n1) := hA1.c 0; have a11 : w1.cell? ⟨w.heap.size, 1, none⟩ = some (.slice p1 lx1 e1) := hA1.c 1; have a12 : w1.cell? ⟨w.heap.size, 2, none⟩ = some (.bool m1) := hA1.c 2; have a13 : w1.cell? ⟨w.heap.size, 3, none⟩ = some (.slice q1 ly1 e3) := hA1.c 3; have b10 : w1.cell? ⟨w.heap.size + 1, 0, none⟩ = some (.bool n2) := hB1.c 0; have b11 : w1.cell? ⟨w.heap.size + 1, 1, none⟩ = some (.slice p2 lx2 e2) := hB1.c 1; have b12 : w1.cell? ⟨w.heap.size + 1, 2, none⟩ = some (.bool m2) := hB1.c 2; have b13 : w1.cell? ⟨w.heap.size + 1, 3, none⟩ = some (.slice q2 ly2 e4) := hB1.c 3; have HA1 := hide hA1; have HB1 := hide hB1; have HC1 := hide hC1; have Hz1 := hide hz.nat; have HW1 := hide ((unhide HW).drew.trans (hb1.mono (unhide HW).drew.size)); clear hA1 hB1 hC1 hz hb1; unfold wholeV) | (go_at_call_of 204 p2; refine (wTimes_c n2 m1 (.slice p2 lx2 e2) (.slice q1 ly1 e3) x2 y1 _ (by exact isNat_below (unhide Hx2) (unhide HW1)) (by exact isNat_below (unhide Hy1) (unhide HW1)) (by omega) (by omega)).mono ?_; rintro e w2 ⟨⟨z, rfl, ⟨zv, rfl, hz⟩⟩, hb2⟩; obtain ⟨zp2, zc2, rfl⟩ := own_slice hz; have hA2 := (unhide HA1).below hb2; have hB2 := (unhide HB1).below hb2; have hC2 := (unhide HC1).below hb2; have a20 : w2.cell? ⟨w.heap.size, 0, none⟩ = some (.bool n1) := hA2.c 0; have a21 : w2.cell? ⟨w.heap.size, 1, none⟩ = some (.slice p1 lx1 e1) := hA2.c 1; have a22 : w2.cell? ⟨w.heap.size, 2, none⟩ = some (.bool m1) := hA2.c 2; have a23 : w2.cell? ⟨w.heap.size, 3, none⟩ = some (.slice q1 ly1 e3) := hA2.c 3; have b20 : w2.cell? ⟨w.heap.size + 1, 0, none⟩ = some (.bool n2) := hB2.c 0; have b21 : w2.cell? ⟨w.heap.size + 1, 1, none⟩ = some (.slice p2 lx2 e2) := hB2.c 1; have b22 : w2.cell? ⟨w.heap.size + 1, 2, none⟩ = some (.bool m2) := hB2.c 2; have b23 : w2.cell? ⟨w.heap.size + 1, 3, none⟩ = some (.slice q2 ly2 e4) := hB2.c 3; have HA2 := hide hA2; have HB2 := hide hB2; have HC2 := hide hC2; have Hz1' := hide (isNat_below (unhide Hz1) hb2); have Hz2 := hide hz.nat; have HW2 := hide ((unhide HW1).trans (hb2.mono (unhide HW1).size)); clear hA2 hB2 hC2 hz hb2; unfold wholeV) | (go_at_call 202; refine (wNeg_c (n2 != m1) (.slice zp2 (gr (x2 * y1)).length zc2) (x2 * y1) _ (by exact unhide Hz2)).mono ?_; rintro e w4 ⟨⟨z, rfl, ⟨zv, rfl, hz⟩⟩, hb4⟩; obtain ⟨zp4, zc4, rfl⟩ := own_slice hz; have hA4 := (unhide HA2).below hb4; have hB4 := (unhide HB2).below hb4; have hC4 := (unhide HC2).below hb4; have a40 : w4.cell? ⟨w.heap.size, 0, none⟩ = some (.bool n1) := hA4.c 0; have a41 : w4.cell? ⟨w.heap.size, 1, none⟩ = some (.slice p1 lx1 e1) := hA4.c 1; have a42 : w4.cell? ⟨w.heap.size, 2, none⟩ = some (.bool m1) := hA4.c 2; have a43 : w4.cell? ⟨w.heap.size, 3, none⟩ = some (.slice q1 ly1 e3) := hA4.c 3; have b40 : w4.cell? ⟨w.heap.size + 1, 0, none⟩ = some (.bool n2) := hB4.c 0; have b41 : w4.cell? ⟨w.heap.size + 1, 1, none⟩ = some (.slice p2 lx2 e2) := hB4.c 1; have b42 : w4.cell? ⟨w.heap.size + 1, 2, none⟩ = some (.bool m2) := hB4.c 2; have b43 : w4.cell? ⟨w.heap.size + 1, 3, none⟩ = some (.slice q2 ly2 e4) := hB4.c 3; have HA4 := hide hA4; have HB4 := hide hB4; have HC4 := hide hC4; have Hz1n := hide (isNat_below (unhide Hz1') hb4); have Hz4 := hide hz; have HW4 := hide ((unhide HW2).trans (hb4.mono (unhide HW2).size)); clear hA4 hB4 hC4 hz hb4; unfold wholeV) | (go_at_call 203; refine (wPlus_c (n1 != m2) (!(n2 != m1)) (.slice zp1 (gr (x1 * y2)).length zc1) (.slice zp4 (gr (x2 * y1)).length zc4) (x1 * y2) (x2 * y1) _ (by exact unhide Hz1n) (by exact unhide Hz4) (by omega) (by omega)).mono ?_; rintro e w3 ⟨⟨z, rfl, ⟨zv, rfl, hz⟩⟩, hb3⟩; obtain ⟨zp, zc, rfl⟩ := own_slice hz; have hA3 := (unhide HA4).below hb3; have hB3 := (unhide HB4).below hb3; have hC3 := (unhide HC4).below hb3; have a30 : w3.cell? ⟨w.heap.size, 0, none⟩ = some (.bool n1) := hA3.c 0; have a31 : w3.cell? ⟨w.heap.size, 1, none⟩ = some (.slice p1 lx1 e1) := hA3.c 1; have a32 : w3.cell? ⟨w.heap.size, 2, none⟩ = some (.bool m1) := hA3.c 2; have a33 : w3.cell? ⟨w.heap.size, 3, none⟩ = some (.slice q1 ly1 e3) := hA3.c 3; have b30 : w3.cell? ⟨w.heap.size + 1, 0, none⟩ = some (.bool n2) := hB3.c 0; have b31 : w3.cell? ⟨w.heap.size + 1, 1, none⟩ = some (.slice p2 lx2 e2) := hB3.c 1; have b32 : w3.cell? ⟨w.heap.size + 1, 2, none⟩ = some (.bool m2) := hB3.c 2; have b33 : w3.cell? ⟨w.heap.size + 1, 3, none⟩ = some (.slice q2 ly2 e4) := hB3.c 3; have HA3 := hide hA3; have HB3 := hide hB3; have HC3 := hide hC3; have c0 : w3.cell? ⟨w.heap.size + 1 + 1, 0, none⟩ = some (.bool false) := hC3.c 0; have c1 : w3.cell? ⟨w.heap.size + 1 + 1, 1, none⟩ = some (.slice none 0 0) := hC3.c 1; have cf := hC3.f; have hs := hC3.lt; have hs2 := (unhide HC4).lt; have Hz := hide hz; have Hfin := hide ((unhide HW4).trans (hb3.mono (unhide HW4).size)); clear hA3 hB3 hC3 hz hb3; unfold wholeV))
  go_wp2
  -- impl.aboveLeft[loop.example/sistab/impl.numWhole] the function, (plusW (n1 != m2, x1 * y2) (!(n2 != m1), x2 * y1)).1 the sign, (plusW (n1 != m2, x1 * y2) (!(n2 != m1), x2 * y1)).2 the number
  refine bodyPost_ret (v := .agg #[.bool (plusW (n1 != m2, x1 * y2) (!(n2 != m1), x2 * y1)).1, .slice zp (gr (plusW (n1 != m2, x1 * y2) (!(n2 != m1), x2 * y1)).2).length zc]) (by simp [results, Tryd.results66, go_sem, c0, c1]) rfl ⟨⟨_, rfl, ⟨_, rfl, ?_⟩⟩, ?_⟩
  · have h0 := unhide Hz
    have h1 := isNatB_set h0 (b := w.heap.size + 1 + 1) (i := 0) (u := .bool (plusW (n1 != m2, x1 * y2) (!(n2 != m1), x2 * y1)).1) (by first | (simp; done) | omega | (simp; omega))
    exact own_base (isNatB_set h1 (b := w.heap.size + 1 + 1) (i := 1) (by first | omega | (simp; done) | (simp; omega))) (by first | omega | (simp; omega))
  · exact ((unhide Hfin).setCell (by show w.heap.size ≤ w.heap.size + 1 + 1; omega) _).setCell (by show w.heap.size ≤ w.heap.size + 1 + 1; omega) _
end Go.Proofs.YtchginjabaobfaaDoor
namespace Go.Proofs.YtchginjabaobfaaDoor
open Go.RowKit Nt

/-- k groups from the i-th on, as a number -/
def win (L : List Nat) (i k : Nat) : Nat := ofd 1000000000 ((L.drop i).take k)

theorem win_zero (L : List Nat) (i : Nat) : win L i 0 = 0 := by simp [win, ofd]
theorem win_succ (L : List Nat) (i k : Nat) (h : i + k < L.length) : win L i (k + 1) = win L i k + 1000000000 ^ k * L[i + k] := by
  unfold win
  have hl : (L.drop i).length = L.length - i := List.length_drop
  rw [List.take_succ_eq_append_getElem (by omega), ofd_snoc, List.length_take, Nat.min_eq_left (by omega), List.getElem_drop]
theorem win_set (L : List Nat) (i k j d : Nat) (h : i + k ≤ j) : win (L.set j d) i k = win L i k := by
  unfold win
  congr 1
  apply List.ext_getElem
  · simp
  · intro t h1 h2
    simp only [List.getElem_take, List.getElem_drop]
    rw [List.getElem_set_ne]
    simp only [List.length_take, List.length_drop] at h2
    omega

theorem win_put (L : List Nat) (i k d : Nat) (h : i + k < L.length) : win (L.set (i + k) d) i (k + 1) = win L i k + 1000000000 ^ k * d := by
  rw [win_succ _ _ _ (by simpa using h), win_set _ _ _ _ _ (Nat.le_refl _), List.getElem_set_self]

theorem grownBy_trans {w a b : World} {g : Nat} (h : w.grownBy a (some g)) (k : a.grownBy b (some g)) : w.grownBy b (some g) :=
  ⟨k.os.trans h.os, k.tape.trans h.tape, k.output.trans h.output, Nat.le_trans h.size k.size, fun j hj hne => (k.block j (Nat.lt_of_lt_of_le hj h.size) hne).trans (h.block j hj hne)⟩

theorem store_u64 {w wr : World} {base e g N cap : Nat} {L : List Nat} (hown : wr.ownsRow base e 1 (.slice (some ⟨g, 0, none⟩) N cap) N (u64s L)) (hgr : w.grownBy wr (some g)) (j d : Nat) (v : Int) (hv : v = (d : Int)) :
    (wr.setCell ⟨g, j, none⟩ (.int .u64 v)).ownsRow base e 1 (.slice (some ⟨g, 0, none⟩) N cap) N (u64s (L.set j d)) ∧ w.grownBy (wr.setCell ⟨g, j, none⟩ (.int .u64 v)) (some g) := by
  have h := hown.stored j (.int .u64 v)
  rw [u64s_set _ _ d _ hv] at h
  exact ⟨h.1, grownBy_trans hgr h.2⟩

/-- a list in whose window alone something has turned -/
def sameOut (L L' : List Nat) (i k : Nat) : Prop := L'.length = L.length ∧ (∀ d ∈ L', d < 1000000000) ∧ ∀ t (h : t < L.length) (h' : t < L'.length), t < i ∨ i + k ≤ t → L'[t] = L[t]

theorem sameOut_refl {L : List Nat} (h : ∀ d ∈ L, d < 1000000000) (i k : Nat) : sameOut L L i k := ⟨rfl, h, fun _ _ _ _ => rfl⟩
theorem sameOut_set {L L' : List Nat} {i k d : Nat} (h : sameOut L L' i k) (hd : d < 1000000000) : sameOut L (L'.set (i + k) d) i (k + 1) := by
  refine ⟨by simpa using h.1, set_all h.2.1 hd, ?_⟩
  intro t h1 h2 ht
  rw [List.getElem_set_ne (by omega)]
  exact h.2.2 t h1 (by simpa using h2) (by omega)

/-- one group of a take-off -/
theorem takeoff_step {X Y V q o o' y x d : Nat} {j : Nat} (h : X + q * Y = V + o * 1000000000 ^ j) (he : d + (o + y * q) = x + o' * 1000000000) :
    X + 1000000000 ^ j * d + q * (Y + 1000000000 ^ j * y) = V + 1000000000 ^ j * x + o' * 1000000000 ^ (j + 1) := by
  rw [Nat.pow_succ]
  generalize 1000000000 ^ j = p at *
  have h2 := congrArg (p * ·) he
  simp only [Nat.mul_add] at h2
  rw [Nat.mul_add, show q * (p * y) = p * (y * q) from by rw [Nat.mul_left_comm, Nat.mul_comm q y], show o' * (p * 1000000000) = p * (o' * 1000000000) from by rw [Nat.mul_left_comm]]
  rw [Nat.mul_comm o p] at h
  omega

theorem takeoff_fit {y q o : Nat} (hy : y < 1000000000) (hq : q < 1000000000) (ho : o < 1000000000) : o + y * q ≤ 999999999 * 1000000000 := by
  have : y * q ≤ 999999999 * 999999999 := Nat.mul_le_mul (by omega) (by omega)
  omega

set_option maxRecDepth 100000 in
set_option maxHeartbeats 2000000 in
theorem takeOff_c (L ys : List Nat) (g gb i m N cap capb q base : Nat) (w : World) (hm : ys.length = m) (hNl : L.length = N) (hN : N ≤ 2000000) (hi : i + m + 1 ≤ N) (hcap : m + 1 ≤ cap)
    (hL : w.ownsRow base 80 1 (.slice (some ⟨g, 0, none⟩) N N) N (u64s L)) (hY : w.ownsRow 0 80 1 (.slice (some ⟨gb, 0, none⟩) m capb) m (u64s ys)) (hgg : gb ≠ g)
    (hLd : ∀ d ∈ L, d < 1000000000) (hYd : ∀ d ∈ ys, d < 1000000000) (hq : q < 1000000000) :
    Calls Tryd.prog 134 #[.slice (some ⟨g, i, none⟩) (m + 1) cap, .slice (some ⟨gb, 0, none⟩) m capb, .int .u64 q] w fun e w' =>
      ∃ (neg : Bool) (L' : List Nat), e = .returned (.bool neg) ∧ w'.ownsRow base 80 1 (.slice (some ⟨g, 0, none⟩) N N) N (u64s L') ∧ w.grownBy w' (some g) ∧ sameOut L L' i (m + 1) ∧
        win L' i (m + 1) + q * ofd 1000000000 ys = win L i (m + 1) + (if neg then 1000000000 ^ (m + 1) else 0) := by
  have HLd := hide hLd
  have HYd := hide hYd
  have HL := hide hL
  have HY := hide hY
  clear hLd hYd hL hY
  go_enter Tryd.func134, Tryd.ntmps134
  go_wp2
  go_loopw [7, 13] (fun ow j wr => ∃ (k o : Nat) (L' : List Nat), k ≤ m ∧ ow = .int .u64 o ∧ o < 1000000000 ∧ j = .int .i64 k ∧ wr.ownsRow base 80 1 (.slice (some ⟨g, 0, none⟩) N N) N (u64s L') ∧ w.grownBy wr (some g) ∧
      Hid (sameOut L L' i k) ∧ Hid (win L' i k + q * ofd 1000000000 (ys.take k) = win L i k + o * 1000000000 ^ k))
    (fun _ j _ => m - (intOf j).toNat)
  case atStart =>
    exact ⟨0, 0, L, Nat.zero_le _, rfl, by omega, rfl, unhide HL, World.grownBy.refl _ _, hide (sameOut_refl (unhide HLd) _ _), hide (by simp [win_zero, ofd])⟩
  case round =>
    obtain ⟨k, o, L', hk, rfl, ho, rfl, hown, hgr, hso, hval⟩ := hrel
    by_cases hlt : k < m
    · have hL'l : L'.length = N := (unhide hso).1.trans hNl
      have hcy := (unhide HY).kept hgr (.inr (by simp [Value.ownBlock]; omega))
      have hcy := hcy.cellAt k (by omega)
      rw [u64s_get _ _ (by omega)] at hcy
      have hcx := hown.cellAt (i + k) (by omega)
      rw [u64s_get _ _ (by omega)] at hcx
      have hfr := hown.frozenAt (i + k)
      have hy9 : ys[k]'(by omega) < 1000000000 := unhide HYd _ (List.getElem_mem _)
      have hx9 : L'[i + k]'(by omega) < 1000000000 := (unhide hso).2.1 _ (List.getElem_mem _)
      have hxL : L[i + k]'(by omega) = L'[i + k]'(by omega) := ((unhide hso).2.2 (i + k) (by omega) (by omega) (.inr (Nat.le_refl _))).symm
      have hwin := win_succ L i k (by omega)
      have hofd : ofd 1000000000 (ys.take (k + 1)) = ofd 1000000000 (ys.take k) + 1000000000 ^ k * ys[k]'(by omega) := by
        rw [List.take_succ_eq_append_getElem (by omega), ofd_snoc, List.length_take, Nat.min_eq_left (by omega)]
      rw [hxL] at hwin
      generalize ys[k]'(by omega) = y at *
      generalize L'[i + k]'(by omega) = x at *
      have hfit := takeoff_fit hy9 hq ho
      have Hwin := hide hwin
      have Hofd := hide hofd
      have hstep := fun d o' => @takeoff_step (win L' i k) (ofd 1000000000 (ys.take k)) (win L i k) q o o' y x d k (unhide hval)
      generalize hpp : y * q = pp at *
      have hppI : (y : Int) * q = pp := by rw [← hpp]; simp
      have Hstep := hide hstep
      clear hwin hofd hstep hxL hpp
      obtain ⟨t, ht⟩ : ∃ d : Nat, ((o : Int) + pp) % 1000000000 = d := ⟨(o + pp) % 1000000000, by omega⟩
      obtain ⟨c, hc⟩ : ∃ d : Nat, ((o : Int) + pp) / 1000000000 = d := ⟨(o + pp) / 1000000000, by omega⟩
      have hkI : (k : Int) < (m : Int) + 1 := by omega
      have hkI2 : (k : Int) < (m : Int) := by omega
      by_cases hbr : (x : Int) < t
      · obtain ⟨d, hd⟩ : ∃ d : Nat, (x : Int) + 1000000000 - t = d := ⟨x + 1000000000 - t, by omega⟩
        have hst1 := store_u64 hown hgr (i + k) (x + 1000000000) ((x : Int) + 1000000000) (by simp)
        have hst2 := store_u64 hst1.1 hst1.2 (i + k) d ((x : Int) + 1000000000 - t) hd
        rw [List.set_set] at hst2
        have Hst := hide hst2
        have HD := hide hd
        clear hst1 hst2 hd
        go_wp2
        go_roundw
        case rel =>
          refine ⟨k + 1, c + 1, L'.set (i + k) d, by omega, rfl, by omega, by go_num, (unhide Hst).1, (unhide Hst).2, hide (sameOut_set (unhide hso) (by have := unhide HD; omega)), ?_⟩
          show _ = _
          rw [win_put _ _ _ _ (by omega), unhide Hofd, unhide Hwin]
          exact unhide Hstep d (c + 1) (by have := unhide HD; omega)
        case measure => simp [intOf]; omega
      · obtain ⟨d, hd⟩ : ∃ d : Nat, (x : Int) - t = d := ⟨x - t, by omega⟩
        have hst2 := store_u64 hown hgr (i + k) d ((x : Int) - t) hd
        have Hst := hide hst2
        have HD := hide hd
        clear hst2 hd
        go_wp2
        go_roundw
        case rel =>
          refine ⟨k + 1, c, L'.set (i + k) d, by omega, by rw [hc], by omega, by go_num, (unhide Hst).1, (unhide Hst).2, hide (sameOut_set (unhide hso) (by have := unhide HD; omega)), ?_⟩
          show _ = _
          rw [win_put _ _ _ _ (by omega), unhide Hofd, unhide Hwin]
          exact unhide Hstep d c (by have := unhide HD; omega)
        case measure => simp [intOf]; omega
    · have hkm : k = m := by omega
      subst hkm
      have hL'l : L'.length = N := (unhide hso).1.trans hNl
      have hcx := hown.cellAt (i + k) (by omega)
      rw [u64s_get _ _ (by omega)] at hcx
      have hfr := hown.frozenAt (i + k)
      have hx9 : L'[i + k]'(by omega) < 1000000000 := (unhide hso).2.1 _ (List.getElem_mem _)
      have hxL : L[i + k]'(by omega) = L'[i + k]'(by omega) := ((unhide hso).2.2 (i + k) (by omega) (by omega) (.inr (Nat.le_refl _))).symm
      have hwin := win_succ L i k (by omega)
      rw [hxL] at hwin
      generalize L'[i + k]'(by omega) = x at *
      have Hwin := hide hwin
      have hval' := unhide hval
      rw [← hm, List.take_length, hm] at hval'
      have Hval := hide hval'
      clear hwin hxL hval'
      have hkI : (k : Int) < (k : Int) + 1 := by omega
      by_cases hge : o ≤ x
      · obtain ⟨d, hd⟩ : ∃ d : Nat, (x : Int) - o = d := ⟨x - o, by omega⟩
        have hst2 := store_u64 hown hgr (i + k) d ((x : Int) - o) hd
        have Hst := hide hst2
        have HD := hide hd
        clear hst2 hd
        go_wp2
        go_ret
        refine ⟨false, L'.set (i + k) d, rfl, (unhide Hst).1, (unhide Hst).2, sameOut_set (unhide hso) (by have := unhide HD; omega), ?_⟩
        rw [win_put _ _ _ _ (by omega), unhide Hwin]
        have h1 := unhide Hval
        have h2 : x = d + o := by have := unhide HD; omega
        rw [h2, Nat.mul_add]
        rw [Nat.mul_comm o] at h1
        simp only [Bool.false_eq_true, if_false]
        omega
      · obtain ⟨d, hd⟩ : ∃ d : Nat, (x : Int) + (1000000000 - o) = d := ⟨x + (1000000000 - o), by omega⟩
        have hst2 := store_u64 hown hgr (i + k) d ((x : Int) + (1000000000 - o)) hd
        have Hst := hide hst2
        have HD := hide hd
        clear hst2 hd
        go_wp2
        go_ret
        refine ⟨true, L'.set (i + k) d, rfl, (unhide Hst).1, (unhide Hst).2, sameOut_set (unhide hso) (by have := unhide HD; omega), ?_⟩
        rw [win_put _ _ _ _ (by omega), unhide Hwin]
        have h1 := unhide Hval
        have h2 : d + o = x + 1000000000 := by have := unhide HD; omega
        have h3 := congrArg (1000000000 ^ k * ·) h2
        simp only [Nat.mul_add] at h3
        rw [Nat.mul_comm o] at h1
        rw [Nat.pow_succ]
        simp only [if_true]
        omega
end Go.Proofs.YtchginjabaobfaaDoor
namespace Go.Proofs.YtchginjabaobfaaDoor
open Go.RowKit Nt

theorem putback_step {X Y V c c' y x d : Nat} {j : Nat} (h : X + c * 1000000000 ^ j = V + Y) (he : d + 1000000000 * c' = c + (x + y)) :
    X + 1000000000 ^ j * d + c' * 1000000000 ^ (j + 1) = V + 1000000000 ^ j * x + (Y + 1000000000 ^ j * y) := by
  rw [Nat.pow_succ]
  generalize 1000000000 ^ j = p at *
  have h2 := congrArg (p * ·) he
  simp only [Nat.mul_add] at h2
  rw [show c' * (p * 1000000000) = p * (1000000000 * c') from by rw [Nat.mul_left_comm, Nat.mul_comm c']]
  rw [Nat.mul_comm c p] at h
  omega

theorem own_drewN {w : World} {base : Nat} {e : TypeId} {size : Nat} {v : Value} {n : Nat} {xs : List Value} (h : w.ownsRow base e size v n xs) (k : Nat) : (w.drewN k).ownsRow base e size v n xs := h
theorem grownBy_drewN {w wr : World} {r : Option Nat} (h : w.grownBy wr r) (k : Nat) : w.grownBy (wr.drewN k) r := ⟨h.os, h.tape, h.output, h.size, h.block⟩

set_option maxRecDepth 100000 in
set_option maxHeartbeats 2000000 in
theorem putBack_c (L ys : List Nat) (g gb i m N cap capb base : Nat) (w : World) (hm : ys.length = m) (hNl : L.length = N) (hN : N ≤ 2000000) (hi : i + m + 1 ≤ N) (hcap : m + 1 ≤ cap)
    (hL : w.ownsRow base 80 1 (.slice (some ⟨g, 0, none⟩) N N) N (u64s L)) (hY : w.ownsRow 0 80 1 (.slice (some ⟨gb, 0, none⟩) m capb) m (u64s ys)) (hgg : gb ≠ g)
    (hLd : ∀ d ∈ L, d < 1000000000) (hYd : ∀ d ∈ ys, d < 1000000000) :
    Calls Tryd.prog 135 #[.slice (some ⟨g, i, none⟩) (m + 1) cap, .slice (some ⟨gb, 0, none⟩) m capb] w fun e w' =>
      ∃ (up : Bool) (L' : List Nat), e = .returned (.bool up) ∧ w'.ownsRow base 80 1 (.slice (some ⟨g, 0, none⟩) N N) N (u64s L') ∧ w.grownBy w' (some g) ∧ sameOut L L' i (m + 1) ∧
        win L' i (m + 1) + (if up then 1000000000 ^ (m + 1) else 0) = win L i (m + 1) + ofd 1000000000 ys := by
  have HLd := hide hLd
  have HYd := hide hYd
  have HL := hide hL
  have HY := hide hY
  clear hLd hYd hL hY
  go_enter Tryd.func135, Tryd.ntmps135
  go_wp2
  go_loopw [5, 10] (fun cy j wr => ∃ (k c : Nat) (L' : List Nat), k ≤ m ∧ cy = .int .u64 c ∧ c ≤ 1 ∧ j = .int .i64 k ∧ wr.ownsRow base 80 1 (.slice (some ⟨g, 0, none⟩) N N) N (u64s L') ∧ w.grownBy wr (some g) ∧
      Hid (sameOut L L' i k) ∧ Hid (win L' i k + c * 1000000000 ^ k = win L i k + ofd 1000000000 (ys.take k)))
    (fun _ j _ => m - (intOf j).toNat)
  case atStart =>
    exact ⟨0, 0, L, Nat.zero_le _, rfl, by omega, rfl, unhide HL, World.grownBy.refl _ _, hide (sameOut_refl (unhide HLd) _ _), hide (by simp [win_zero, ofd])⟩
  case round =>
    obtain ⟨k, c, L', hk, rfl, hc, rfl, hown, hgr, hso, hval⟩ := hrel
    by_cases hlt : k < m
    · have hL'l : L'.length = N := (unhide hso).1.trans hNl
      have hcy := (unhide HY).kept hgr (.inr (by simp [Value.ownBlock]; omega))
      have hcy := hcy.cellAt k (by omega)
      rw [u64s_get _ _ (by omega)] at hcy
      have hcx := hown.cellAt (i + k) (by omega)
      rw [u64s_get _ _ (by omega)] at hcx
      have hfr := hown.frozenAt (i + k)
      have hy9 : ys[k]'(by omega) < 1000000000 := unhide HYd _ (List.getElem_mem _)
      have hx9 : L'[i + k]'(by omega) < 1000000000 := (unhide hso).2.1 _ (List.getElem_mem _)
      have hxL : L[i + k]'(by omega) = L'[i + k]'(by omega) := ((unhide hso).2.2 (i + k) (by omega) (by omega) (.inr (Nat.le_refl _))).symm
      have hwin := win_succ L i k (by omega)
      have hofd : ofd 1000000000 (ys.take (k + 1)) = ofd 1000000000 (ys.take k) + 1000000000 ^ k * ys[k]'(by omega) := by
        rw [List.take_succ_eq_append_getElem (by omega), ofd_snoc, List.length_take, Nat.min_eq_left (by omega)]
      rw [hxL] at hwin
      generalize ys[k]'(by omega) = y at *
      generalize L'[i + k]'(by omega) = x at *
      have Hwin := hide hwin
      have Hofd := hide hofd
      have hstep := fun d c' => @putback_step (win L' i k) (ofd 1000000000 (ys.take k)) (win L i k) c c' y x d k (unhide hval)
      have Hstep := hide hstep
      clear hwin hofd hstep hxL
      obtain ⟨d, hd⟩ : ∃ d : Nat, ((c : Int) + (x + y)) % 1000000000 = d := ⟨(c + (x + y)) % 1000000000, by omega⟩
      obtain ⟨c2, hc2⟩ : ∃ d : Nat, ((c : Int) + (x + y)) / 1000000000 = d := ⟨(c + (x + y)) / 1000000000, by omega⟩
      have hkI : (k : Int) < (m : Int) + 1 := by omega
      have hkI2 : (k : Int) < (m : Int) := by omega
      have hdl : d < 1000000000 := by omega
      have hsum : Hid (d + 1000000000 * c2 = c + (x + y)) := by show _ = _; omega
      have hc21 : c2 ≤ 1 := by omega
      have hst := fun nq => store_u64 (own_drewN hown nq) (grownBy_drewN hgr nq) (i + k) d (d : Int) rfl
      have Hst := hide hst
      clear hst
      go_wp2
      go_quiet (fail)
      go_wp2
      go_roundw
      case rel =>
        refine ⟨k + 1, c2, L'.set (i + k) d, by omega, by rw [hc2], hc21, by go_num, (unhide Hst nq).1, (unhide Hst nq).2, hide (sameOut_set (unhide hso) hdl), ?_⟩
        show _ = _
        rw [win_put _ _ _ _ (by omega), unhide Hofd, unhide Hwin]
        exact unhide Hstep d c2 (unhide hsum)
      case measure => simp [intOf]; omega
    · have hkm : k = m := by omega
      subst hkm
      have hL'l : L'.length = N := (unhide hso).1.trans hNl
      have hcx := hown.cellAt (i + k) (by omega)
      rw [u64s_get _ _ (by omega)] at hcx
      have hfr := hown.frozenAt (i + k)
      have hx9 : L'[i + k]'(by omega) < 1000000000 := (unhide hso).2.1 _ (List.getElem_mem _)
      have hxL : L[i + k]'(by omega) = L'[i + k]'(by omega) := ((unhide hso).2.2 (i + k) (by omega) (by omega) (.inr (Nat.le_refl _))).symm
      have hwin := win_succ L i k (by omega)
      rw [hxL] at hwin
      generalize L'[i + k]'(by omega) = x at *
      have Hwin := hide hwin
      have hval' := unhide hval
      rw [← hm, List.take_length, hm] at hval'
      have Hval := hide hval'
      clear hwin hxL hval'
      have hkI : (k : Int) < (k : Int) + 1 := by omega
      obtain ⟨d, hd⟩ : ∃ d : Nat, ((c : Int) + x) % 1000000000 = d := ⟨(c + x) % 1000000000, by omega⟩
      have hdl : d < 1000000000 := by omega
      have hst := store_u64 hown hgr (i + k) d (d : Int) rfl
      have Hst := hide hst
      clear hst
      by_cases hup : c + x = 1000000000
      · have hq : ((c : Int) + x == 1000000000) = true := by rw [beq_iff_eq]; omega
        have Hup := hide hup
        clear hup
        go_wp2
        go_ret
        refine ⟨true, L'.set (i + k) d, rfl, (unhide Hst).1, (unhide Hst).2, sameOut_set (unhide hso) hdl, ?_⟩
        rw [win_put _ _ _ _ (by omega), unhide Hwin]
        have h1 := unhide Hval
        have h2 : d = 0 := by have := unhide Hup; omega
        have h3 := congrArg (1000000000 ^ k * ·) (unhide Hup)
        simp only [Nat.mul_add] at h3
        rw [Nat.mul_comm c] at h1
        rw [Nat.pow_succ, h2]
        simp only [if_true]
        omega
      · have hq : ((c : Int) + x == 1000000000) = false := by rw [beq_eq_false_iff_ne]; omega
        have Hup := hide hup
        clear hup
        go_wp2
        go_ret
        refine ⟨false, L'.set (i + k) d, rfl, (unhide Hst).1, (unhide Hst).2, sameOut_set (unhide hso) hdl, ?_⟩
        rw [win_put _ _ _ _ (by omega), unhide Hwin]
        have h1 := unhide Hval
        have h2 : d = c + x := by have := unhide Hup; omega
        rw [h2, Nat.mul_add]
        rw [Nat.mul_comm c] at h1
        simp only [Bool.false_eq_true, if_false]
        omega
end Go.Proofs.YtchginjabaobfaaDoor
namespace Go.Proofs.YtchginjabaobfaaDoor
open Go.RowKit Nt

theorem ofd_take_drop (b : Nat) (l : List Nat) (k : Nat) (h : k ≤ l.length) : ofd b l = ofd b (l.take k) + b ^ k * ofd b (l.drop k) := by
  conv => lhs; rw [← List.take_append_drop k l]
  rw [ofd_append, List.length_take, Nat.min_eq_left h]

theorem top_zero {l : List Nat} {m : Nat} (h : ofd 1000000000 l < 1000000000 ^ m) (hm : m ≤ l.length) : ofd 1000000000 (l.drop m) = 0 ∧ ofd 1000000000 l = ofd 1000000000 (l.take m) := by
  have e := ofd_take_drop 1000000000 l m hm
  rcases Nat.eq_zero_or_pos (ofd 1000000000 (l.drop m)) with h0 | h0
  · exact ⟨h0, by rw [e, h0]; simp⟩
  · have := Nat.mul_le_mul_left (1000000000 ^ m) h0
    omega

theorem guess_ge {V Y top yl p : Nat} (hV : V < (top + 1) * p) (hY : yl * p ≤ Y) (hyl : 0 < yl) : V / Y ≤ top / yl := by
  rw [Nat.le_div_iff_mul_le hyl]
  have h1 : V / Y * (yl * p) ≤ V := Nat.le_trans (Nat.mul_le_mul_left _ hY) (Nat.div_mul_le_self V Y)
  rw [← Nat.mul_assoc] at h1
  have h2 : V / Y * yl * p < (top + 1) * p := by omega
  have := Nat.lt_of_mul_lt_mul_right h2
  omega

/-- what stands at the window and above is below the window's room -/
theorem over_V {L : List Nat} {i m Y : Nat} (hl : i + m + 1 ≤ L.length) (hd : ∀ d ∈ L, d < 1000000000) (hR : ofd 1000000000 (L.drop (i + 1)) < Y) (hY : Y < 1000000000 ^ m) :
    ofd 1000000000 (L.drop i) = win L i (m + 1) ∧ ofd 1000000000 (L.drop (i + m + 1)) = 0 ∧ win L i (m + 1) < 1000000000 * Y := by
  have hi : i < L.length := by omega
  have e : L.drop i = L[i] :: L.drop (i + 1) := List.drop_eq_getElem_cons hi
  have hx : L[i] < 1000000000 := hd _ (List.getElem_mem hi)
  have hV : ofd 1000000000 (L.drop i) < 1000000000 * Y := by
    rw [e]; simp only [ofd]
    have := Nat.mul_le_mul_left 1000000000 (Nat.succ_le_of_lt hR)
    rw [Nat.mul_succ] at this
    omega
  have hV2 : ofd 1000000000 (L.drop i) < 1000000000 ^ (m + 1) := by
    rw [Nat.pow_succ, Nat.mul_comm]
    exact Nat.lt_of_lt_of_le hV (Nat.mul_le_mul_left _ (Nat.le_of_lt hY))
  have ht := top_zero hV2 (by simp; omega)
  rw [List.drop_drop] at ht
  refine ⟨ht.2, ?_, ?_⟩
  · rw [show i + m + 1 = i + (m + 1) from by omega]; exact ht.1
  · rw [← show ofd 1000000000 (L.drop i) = win L i (m + 1) from ht.2]; exact hV

theorem sameOut_take {L L' : List Nat} {i k : Nat} (h : sameOut L L' i k) : L'.take i = L.take i := by
  apply List.ext_getElem
  · simp [h.1]
  · intro t h1 h2
    simp only [List.getElem_take]
    have : t < i := by simp at h1; omega
    exact h.2.2 t _ _ (.inl this)
theorem sameOut_drop {L L' : List Nat} {i k : Nat} (h : sameOut L L' i k) : L'.drop (i + k) = L.drop (i + k) := by
  apply List.ext_getElem
  · simp [h.1]
  · intro t h1 h2
    simp only [List.getElem_drop]
    exact h.2.2 _ _ _ (.inr (by omega))

theorem over_core (b T p li Y D R W q : Nat) (h : li + b * R = W + q * Y) : T + p * li + p * b * (Y * D + R) = T + p * (Y * (q + b * D) + W) := by
  have key : li + b * (Y * D + R) = Y * (q + b * D) + W := by
    rw [Nat.mul_add, Nat.mul_add, Nat.mul_left_comm Y, Nat.mul_comm Y q]
    omega
  rw [← key, Nat.mul_add p, Nat.mul_assoc, Nat.add_assoc]

theorem over_step_b (b : Nat) {L L' O : List Nat} {i Y X q W V : Nat} (hi : i < L.length) (hO : i < O.length)
    (hinv : X = ofd b (L.take (i + 1)) + b ^ (i + 1) * (Y * ofd b (O.drop (i + 1)) + ofd b (L.drop (i + 1))))
    (hV : ofd b (L.drop i) = V) (htk : L'.take i = L.take i) (hW : ofd b (L'.drop i) = W) (hw : W + q * Y = V) :
    X = ofd b (L'.take i) + b ^ i * (Y * ofd b ((O.set i q).drop i) + ofd b (L'.drop i)) := by
  have e : L.drop i = L[i] :: L.drop (i + 1) := List.drop_eq_getElem_cons hi
  rw [e] at hV
  simp only [ofd] at hV
  rw [hW, htk, List.drop_eq_getElem_cons (l := O.set i q) (by simpa using hO), List.getElem_set_self, List.drop_set_of_lt (by omega)]
  simp only [ofd]
  rw [hinv, List.take_succ_eq_append_getElem hi, ofd_snoc, List.length_take, Nat.min_eq_left (by omega), Nat.pow_succ]
  exact over_core b _ _ _ _ _ _ _ _ (hV.trans hw.symm)

theorem over_rest (b : Nat) {L L' : List Nat} {i k : Nat} (hl : i + k ≤ L'.length) (hdr : L'.drop (i + k) = L.drop (i + k)) (h0 : ofd b (L.drop (i + k)) = 0) : ofd b (L'.drop i) = ofd b ((L'.drop i).take k) := by
  rw [ofd_take_drop b (L'.drop i) k (by simp; omega), List.drop_drop, hdr, h0, Nat.mul_zero, Nat.add_zero]

theorem over_step {L L' O : List Nat} {i m Y X q : Nat} (hl : i + m + 1 ≤ L.length) (hO : i < O.length) (hd : ∀ d ∈ L, d < 1000000000) (hY : Y < 1000000000 ^ m)
    (hinv : X = ofd 1000000000 (L.take (i + 1)) + 1000000000 ^ (i + 1) * (Y * ofd 1000000000 (O.drop (i + 1)) + ofd 1000000000 (L.drop (i + 1)))) (hR : ofd 1000000000 (L.drop (i + 1)) < Y)
    (hso : sameOut L L' i (m + 1)) (hw : win L' i (m + 1) + q * Y = win L i (m + 1)) (hlt : win L' i (m + 1) < Y) :
    X = ofd 1000000000 (L'.take i) + 1000000000 ^ i * (Y * ofd 1000000000 ((O.set i q).drop i) + ofd 1000000000 (L'.drop i)) ∧ ofd 1000000000 (L'.drop i) < Y := by
  obtain ⟨h1, h2, _⟩ := over_V hl hd hR hY
  have hL' : ofd 1000000000 (L'.drop i) = win L' i (m + 1) :=
    over_rest 1000000000 (by have := hso.1; omega) (sameOut_drop hso) h2
  have hi : i < L.length := Nat.lt_of_lt_of_le (Nat.lt_of_le_of_lt (Nat.le_add_right i m) (Nat.lt_succ_self _)) hl
  exact ⟨over_step_b 1000000000 hi hO hinv h1 (sameOut_take hso) hL' hw, hL' ▸ hlt⟩

/-- the guess, once it takes off no more than there is -/
theorem over_exact {V Y W q : Nat} (hw : W + q * Y = V) (hq : V / Y ≤ q) (hY : 0 < Y) : W < Y := by
  have h1 : q ≤ V / Y := by
    rw [Nat.le_div_iff_mul_le hY]; omega
  have : q = V / Y := by omega
  have h2 := Nat.div_add_mod V Y
  rw [← this, Nat.mul_comm] at h2
  have := Nat.mod_lt V hY
  omega

theorem over_more {V Y W q p : Nat} (hw : W + q * Y = V + p) (hW : W < p) : V / Y < q := by
  have hY : 0 < Y := by
    rcases Nat.eq_zero_or_pos Y with h | h
    · subst h; simp at hw; omega
    · exact h
  rw [Nat.div_lt_iff_lt_mul hY]
  omega

theorem win_lt {L : List Nat} (hd : ∀ d ∈ L, d < 1000000000) (i k : Nat) (h : i + k ≤ L.length) : win L i k < 1000000000 ^ k := by
  have := ofd_lt (b := 1000000000) ((L.drop i).take k) (fun d hd' => hd d (List.mem_of_mem_drop (List.mem_of_mem_take hd')))
  rw [List.length_take, List.length_drop, Nat.min_eq_left (by omega)] at this
  exact this

/-- the two groups ahead of a window, and what is below them -/
theorem win_top {L : List Nat} (hd : ∀ d ∈ L, d < 1000000000) (i m : Nat) (h : i + (m + 1) < L.length) :
    win L i (m + 1 + 1) < (L[i + (m + 1)] * 1000000000 + L[i + m] + 1) * 1000000000 ^ m := by
  rw [win_succ L i (m + 1) h, win_succ L i m (by omega), Nat.pow_succ]
  have := win_lt hd i m (by omega)
  generalize L[i + (m + 1)] = a
  generalize L[i + m] = b
  generalize 1000000000 ^ m = p at *
  rw [Nat.add_mul, Nat.add_mul, Nat.mul_assoc a, Nat.mul_comm p b, Nat.mul_comm p 1000000000, Nat.mul_comm (1000000000 * p) a]
  omega

theorem top_le {ys : List Nat} {m : Nat} (h : ys.length = m + 1) : ys[m] * 1000000000 ^ m ≤ ofd 1000000000 ys := by
  have := ofd_ge 1000000000 ys m (by omega)
  rw [Nat.mul_comm]; exact this

/-- the scale -/
theorem scale_pos {y : Nat} (h : y < 1000000000) : 0 < 1000000000 / (y + 1) := Nat.div_pos (by omega) (by omega)
theorem scale_lt {y : Nat} (h : 0 < y) : 1000000000 / (y + 1) < 1000000000 := Nat.div_lt_self (by omega) (by omega)

/-- made greater, it has as many groups -/
theorem scaled_len {y s m : Nat} {ys : List Nat} (hy : ys = gr y) (hm : ys.length = m + 1) (hs : 1000000000 / (ys[m] + 1) = s) (hs0 : 0 < s) : (gr (y * s)).length = m + 1 ∧ y * s < 1000000000 ^ (m + 1) := by
  have hyd : ∀ d ∈ ys, d < 1000000000 := by rw [hy]; exact gr_lt y
  have hyo : ofd 1000000000 ys = y := by rw [hy]; exact gr_ofd y
  have h1 : y < (ys[m] + 1) * 1000000000 ^ m := by
    have e := ofd_split 1000000000 ys m (by omega)
    rw [show ys.drop (m + 1) = [] from List.drop_eq_nil_of_le (by omega)] at e
    simp only [ofd, Nat.mul_zero, Nat.add_zero] at e
    have h2 := ofd_lt (b := 1000000000) (ys.take m) (fun d hd => hyd d (List.mem_of_mem_take hd))
    rw [List.length_take, Nat.min_eq_left (by omega)] at h2
    rw [hyo] at e
    rw [Nat.add_mul, e, Nat.mul_comm]
    omega
  have h3 : (ys[m] + 1) * s ≤ 1000000000 := by rw [← hs, Nat.mul_comm]; exact Nat.div_mul_le_self _ _
  have h4 : y * s < 1000000000 ^ (m + 1) := by
    have h5 : y * s < (ys[m] + 1) * 1000000000 ^ m * s := Nat.mul_lt_mul_of_pos_right h1 hs0
    rw [Nat.mul_right_comm] at h5
    have h6 : (ys[m] + 1) * s * 1000000000 ^ m ≤ 1000000000 * 1000000000 ^ m := Nat.mul_le_mul_right _ h3
    rw [Nat.pow_succ, Nat.mul_comm (1000000000 ^ m)]
    omega
  refine ⟨?_, h4⟩
  have h7 : (gr (y * s)).length ≤ m + 1 := dg_len_le (by omega) h4
  have h8 : (gr y).length ≤ (gr (y * s)).length := gr_len_le (Nat.le_mul_of_pos_right y hs0)
  rw [← hy] at h8
  omega

theorem pow_len_le {y m : Nat} (h : (gr y).length = m + 1) : 1000000000 ^ m ≤ y := by
  rcases Nat.lt_or_ge y (1000000000 ^ m) with h1 | h1
  · have := dg_len_le (b := 1000000000) (by omega) h1
    unfold gr at h; omega
  · exact h1

/-- the beginning: what is above the first window is below the divisor -/
theorem over_start {x y s n m : Nat} {L : List Nat} (hx : (gr x).length = n) (hy : (gr y).length = m + 1) (hmn : m + 1 ≤ n) (hL : ofd 1000000000 L = x * s) (hLl : L.length = n + 1) (hs0 : 0 < s) :
    ofd 1000000000 (L.drop (n - m)) < y * s := by
  have h1 : x < 1000000000 ^ n := by rw [← hx]; exact lt_pow_dg (by omega) x
  have h2 := pow_len_le hy
  have e := ofd_take_drop 1000000000 L (n - m) (by omega)
  rw [hL] at e
  have h3 : 1000000000 ^ (n - m) * ofd 1000000000 (L.drop (n - m)) ≤ x * s := by omega
  have h4 : x * s < 1000000000 ^ n * s := Nat.mul_lt_mul_of_pos_right h1 hs0
  have h5 : 1000000000 ^ n * s = 1000000000 ^ (n - m) * (1000000000 ^ m * s) := by
    rw [← Nat.mul_assoc, ← Nat.pow_add]; congr 2; omega
  have h6 : 1000000000 ^ (n - m) * (1000000000 ^ m * s) ≤ 1000000000 ^ (n - m) * (y * s) := Nat.mul_le_mul_left _ (Nat.mul_le_mul_right _ h2)
  have h7 : 1000000000 ^ (n - m) * ofd 1000000000 (L.drop (n - m)) < 1000000000 ^ (n - m) * (y * s) := by omega
  exact Nat.lt_of_mul_lt_mul_left h7

/-- the end -/
theorem over_end {x y s Q R : Nat} (h : x * s = y * s * Q + R) (hR : R < y * s) (hs : 0 < s) : x / y = Q ∧ R / s = x % y := by
  have hy : 0 < y := by
    rcases Nat.eq_zero_or_pos y with h0 | h0
    · subst h0; simp at hR
    · exact h0
  have hQ : x / y = Q := by
    have h1 : x * s / (y * s) = Q := (ow_end h hR).1
    rwa [Nat.mul_div_mul_right _ _ hs] at h1
  refine ⟨hQ, ?_⟩
  have h2 : x * s % (y * s) = R := (ow_end h hR).2
  rw [Nat.mul_mod_mul_right] at h2
  rw [← h2, Nat.mul_div_cancel _ hs]
end Go.Proofs.YtchginjabaobfaaDoor
namespace Go.Proofs.YtchginjabaobfaaDoor
open Go.RowKit Nt

theorem timesPlus_z (x f : Nat) (v : Value) (w : World) (hx : isNat w v x) (hs : (gr x).length ≤ 1000000) (hf : f < 1000000000) :
    Calls Tryd.prog 132 #[v, .int .u64 f, .int .u64 0] w fun e w' => (∃ v', e = .returned v' ∧ isNatB w' w.heap.size v' (x * f)) ∧ Below w.heap.size w w' := by
  have := timesPlus_c x f 0 v w hx hs hf (by omega)
  simpa using this

/-- the integer in a cell -/
def cellN (w : World) (b j : Nat) : Nat := match w.cell? ⟨b, j, none⟩ with
  | some v => (intOf v).toNat
  | none => 0
theorem cellN_of {w : World} {b j d : Nat} (h : w.cell? ⟨b, j, none⟩ = some (.int .u64 (d : Int))) : cellN w b j = d := by
  unfold cellN; rw [h]; rfl
theorem own_drew {w : World} {base : Nat} {e : TypeId} {size : Nat} {v : Value} {n : Nat} {xs : List Value} (h : w.ownsRow base e size v n xs) : w.drew.ownsRow base e size v n xs := h

theorem sameOut_trans {L L1 L2 : List Nat} {i k : Nat} (h : sameOut L L1 i k) (h' : sameOut L1 L2 i k) : sameOut L L2 i k := by
  refine ⟨h'.1.trans h.1, h'.2.1, ?_⟩
  intro t h1 h2 ht
  rw [h'.2.2 t (by rw [h.1]; exact h1) h2 ht]
  exact h.2.2 t h1 _ ht

theorem putback_close {W W' V Y q p : Nat} {up : Bool} (h : W + (q + 1) * Y = V + if true then p else 0) (h' : W' + (if up then p else 0) = W + Y) : W' + q * Y = V + if (!up) then p else 0 := by
  rw [Nat.add_mul] at h
  cases up <;> simp at h h' ⊢ <;> omega

theorem pad_ofd (l : List Nat) (k : Nat) (b : Nat) : ofd b (l ++ List.replicate k 0) = ofd b l := by
  rw [ofd_append, ofd_replicate_zero]; simp

set_option maxRecDepth 100000 in
set_option maxHeartbeats 1000000 in
theorem over_small (x y : Nat) (v u : Value) (w : World) (hx : isNat w v x) (hy : isNat w u y) (hsx : (gr x).length ≤ 1000000) (hsy : (gr y).length ≤ 1000000) (hlt : x < y) :
    Calls Tryd.prog 94 #[v, u] w fun e w' => (∃ v1 v2, e = .returned (.tuple #[v1, v2]) ∧ isNat w' v1 (x / y) ∧ isNat w' v2 (x % y)) ∧ Below w.heap.size w w' := by
  rw [Nat.div_eq_of_lt hlt, Nat.mod_eq_of_lt hlt]
  have hl := less_c x y v u w hx hy hsx hsy
  rw [decide_eq_true hlt] at hl
  have Hl := hide hl
  have Hx := hide hx
  clear hl hx hy hlt hsx hsy
  go_enter Tryd.func94, Tryd.ntmps94
  go_wp2_with fail
  refine (unhide Hl).mono ?_
  rintro e w1 ⟨rfl, hb1⟩
  go_wp2
  go_ret2
  have hbX := hb1.alloc hb1.size (.cells #[] 80)
  refine ⟨⟨_, _, rfl, ?_, own_below (unhide Hx) hbX⟩, hbX⟩
  have := World.ownsRow_made (base := 0) (e := 80) (size := 1) w1 #[] 0 (Nat.zero_le _) (by decide) (by simp)
  unfold isNat
  rw [gr_zero]
  exact this


set_option maxRecDepth 100000 in
set_option maxHeartbeats 2000000 in
theorem over_great (x y : Nat) (v u : Value) (w : World) (hx : isNat w v x) (hy : isNat w u y) (hsx : (gr x).length ≤ 1000000) (hsy : (gr y).length ≤ 1000000) (hle : y ≤ x) (hy0 : 0 < y) :
    Calls Tryd.prog 94 #[v, u] w fun e w' => (∃ v1 v2, e = .returned (.tuple #[v1, v2]) ∧ isNat w' v1 (x / y) ∧ isNat w' v2 (x % y)) ∧ Below w.heap.size w w' := by
  obtain ⟨i0, hi, hz0, hz1, hz2⟩ := info_parts Tryd.infoU64
  have hl := less_c x y v u w hx hy hsx hsy
  rw [decide_eq_false (by omega)] at hl
  have Hl := hide hl
  have Hx := hide hx
  have Hy := hide hy
  clear hl
  have hyne : gr y ≠ [] := fun h => by have := gr_nil.1 h; omega
  have hml : (gr y).length ≤ (gr x).length := gr_len_le hle
  obtain ⟨m, hm⟩ : ∃ m, (gr y).length = m + 1 := ⟨(gr y).length - 1, by have : (gr y).length ≠ 0 := fun h => hyne (List.eq_nil_of_length_eq_zero h); omega⟩
  obtain ⟨n, hn⟩ : ∃ n, (gr x).length = n := ⟨_, rfl⟩
  obtain ⟨K, hKI⟩ : ∃ K : Nat, (n : Int) - m = K := ⟨n - m, by omega⟩
  obtain ⟨gy, cy, hu, hcy, _, hgy⟩ := own_some hy (by omega)
  obtain ⟨gx, cx, hv, hcx, _, hgx⟩ := own_some hx (by omega)
  subst hu
  subst hv
  have hcell := Hy.out.cellAt m (by omega)
  rw [u64s_get _ _ (by omega)] at hcell
  have htop9 : (gr y)[m]'(by omega) < 1000000000 := gr_lt y _ (List.getElem_mem _)
  have htop0 : 0 < (gr y)[m]'(by omega) := by
    have := (dg_can (b := 1000000000) (by omega) y).2 ((gr y)[m]'(by omega)) (by
      rw [List.getLast?_eq_getElem?]
      show (gr y)[(gr y).length - 1]? = _
      rw [show (gr y).length - 1 = m from by omega]
      exact List.getElem?_eq_getElem _)
    omega
  have hsc := fun s hs hs0 => @scaled_len y s m (gr y) rfl hm hs hs0
  obtain ⟨yt, hyt⟩ : ∃ a, (gr y)[m]'(by omega) = a := ⟨_, rfl⟩
  rw [hyt] at hcell htop9 htop0
  simp only [hyt] at hsc
  have hs0 := scale_pos htop9
  have hs9 := scale_lt htop0
  obtain ⟨s, hs⟩ : ∃ s, 1000000000 / (yt + 1) = s := ⟨_, rfl⟩
  rw [hs] at hs0 hs9
  have hsc := hsc s hs hs0
  have hsI : (1000000000 : Int) / ((yt : Int) + 1) = (s : Int) := by rw [← hs]; rfl
  have Hsc := hide hsc
  have Hm := hide hm
  have Hn := hide hn
  rw [hm] at hml hsy hcy Hy Hl
  rw [hn] at hml hsx hcx Hx Hl
  rw [hm, hn]
  clear hx hy hsc hs hyt hyne hm hn
  go_enter Tryd.func94, Tryd.ntmps94
  go_wp2_with fail
  refine (unhide Hl).mono ?_
  clear Hl
  rintro e w1 ⟨rfl, hb1⟩
  have hcell1 : w1.cell? ⟨gy, m, none⟩ = some (.int .u64 (yt : Int)) := by rw [hb1.cell (p := ⟨gy, m, none⟩) hgy]; exact hcell
  go_wp2_with (refine wpList_make_full _ rfl (.tmp 31) (.tmp 31) 65 rfl w.heap.size 80 i0 (.int .u64 0) 1 Tryd.underlying65 hi hz0 hz1 .i64 .i64 ((n + 1 : Nat) : Int) ((n + 1 : Nat) : Int) (n + 1) rfl rfl rfl rfl (by rw [hz2]; omega) (by unfold maxLen; omega) hb1.size ?_; intro w2 hown2 hg2)
  have hb2 : Below w.heap.size w w2 := hb1.grown hg2 hb1.size (fun _ h => by cases h)
  have hxs9 : (gr (x * s)).length ≤ n + 1 := by
    apply dg_len_le (by omega)
    have h1 : x < 1000000000 ^ n := by have := lt_pow_dg (b := 1000000000) (by omega) x; rwa [show (dg 1000000000 x).length = n from unhide Hn] at this
    rw [Nat.pow_succ]
    exact Nat.mul_lt_mul'' h1 hs9
  refine (timesPlus_z x s _ _ (own_below (unhide Hx) hb2) (by rw [unhide Hn]; exact hsx) hs9).mono ?_
  rintro e w3 ⟨⟨v3, rfl, hv3⟩, hb3⟩
  have hown3 := own_below hown2 hb3
  have hb03 := hb2.trans (hb3.mono hb2.size)
  rw [show (madeCells (Value.int IntKind.u64 0).cells ((n + 1) * 1)).toList = u64s (List.replicate (n + 1) 0) from by
    rw [Nat.mul_one, show (Value.int IntKind.u64 0).cells = #[.int .u64 0] from rfl, toList_madeCells_one, u64s_zero]] at hown3
  have hblk := own_block_full hown3
  obtain ⟨p3, c3, hv3s⟩ := own_slice hv3
  subst hv3s
  obtain ⟨k3, hk3⟩ : ∃ k3, (gr (x * s)).length = k3 := ⟨_, rfl⟩
  have hsome := fun h => own_some hv3 h
  have hcells := fun g cap (h : Value.slice p3 (gr (x * s)).length c3 = .slice (some ⟨g, 0, none⟩) (gr (x * s)).length cap) => (h ▸ hv3 : w3.ownsRow w2.heap.size 80 1 (.slice (some ⟨g, 0, none⟩) (gr (x * s)).length cap) (gr (x * s)).length (u64s (gr (x * s)))).cells (g := g) rfl
  have hpos : 0 < (u64s (gr (x * s))).length → ∃ ad, p3 = some ad ∧ ∀ j v, (u64s (gr (x * s)))[j]? = some v → w3.cell? (ad.add j) = some v := by
    intro h
    obtain ⟨g, cap, hh, _⟩ := hsome (by rwa [u64s_length] at h)
    have h2 := hcells g cap hh
    simp only [Value.slice.injEq, true_and] at hh
    exact ⟨_, hh.1, h2⟩
  have Hblk := hide hblk
  have Hpos := hide hpos
  have hsz1 := hb1.size
  clear hblk hpos hsome hcells hown3 hown2 hg2 hb1 hb2 hb3 hv3 hcell hcell1
  have hk3l : k3 ≤ n + 1 := by omega
  have Hk3 := hide hk3
  rw [hk3]
  clear hk3
  go_wp2_with (refine wpList_copy_splice rfl (.tmp 33) (.tmp 36) 65 65 rfl 80 Tryd.underlying65 (by simp [hi, hz1]) (some ⟨w1.heap.size, 0, none⟩) p3 (n + 1) (n + 1) k3 c3 rfl rfl w1.heap.size 0 (u64s (List.replicate (n + 1) 0)) 80 (unhide Hblk) (u64s (gr (x * s))) (by rw [u64s_length, unhide Hk3]; exact (Nat.min_eq_left hk3l).symm) (fun h => ⟨rfl, unhide Hpos h⟩) (by simp [u64s]; have := unhide Hk3; omega) (u64s_one _) w.heap.size w hb03 hsz1 ?_; intro w4 hg4 hb4)
  have hrow : splice (u64s (List.replicate (n + 1) 0)) 0 (u64s (gr (x * s))) = u64s (gr (x * s) ++ List.replicate (n + 1 - k3) 0) := by
    unfold splice
    rw [List.take_zero, List.nil_append, Nat.zero_add, u64s_length, unhide Hk3, ← u64s_drop, List.drop_replicate, u64s_append]
  have hg4' := unhide hg4
  rw [hrow] at hg4'
  have hLl : (gr (x * s) ++ List.replicate (n + 1 - k3) 0).length = n + 1 := by
    rw [List.length_append, List.length_replicate, unhide Hk3]; omega
  have hLo : ofd 1000000000 (gr (x * s) ++ List.replicate (n + 1 - k3) 0) = x * s := by rw [pad_ofd, gr_ofd]
  have hLd : ∀ d ∈ gr (x * s) ++ List.replicate (n + 1 - k3) 0, d < 1000000000 := by
    intro d hd
    rcases List.mem_append.1 hd with h | h
    · exact gr_lt _ d h
    · simp at h; omega
  have hownL := own_of_block_full (base := w.heap.size) (n := n + 1) hg4' (by rw [u64s_length]; exact hLl) (by unfold maxLen; omega) hsz1
  have hgl4 : w1.heap.size < w4.heap.size := (Array.getElem?_eq_some_iff.1 hg4').1
  generalize gr (x * s) ++ List.replicate (n + 1 - k3) 0 = L0 at *
  have HLl := hide hLl
  have HLo := hide hLo
  have HLd := hide hLd
  have HownL := hide hownL
  generalize w1.heap.size = gl at *
  clear hrow hg4 hg4' hLl hLo hLd hownL Hblk Hpos hb03 hxs9
  refine (timesPlus_z y s _ _ (own_below (unhide Hy) hb4) (by rw [unhide Hm]; exact hsy) hs9).mono ?_
  rintro e w5 ⟨⟨v5, rfl, hv5⟩, hb5⟩
  have hl5 := (unhide Hsc).1
  obtain ⟨gb, cb, hv5s, hcb, hgb4, hgb5⟩ := own_some hv5 (by omega)
  subst hv5s
  rw [hl5] at hcb
  have hownL5 := own_below (unhide HownL) hb5
  have hb05 := hb4.trans (hb5.mono hb4.size)
  have hys9 := gr_lt (y * s)
  have hyso := gr_ofd (y * s)
  have hytop := (dg_can (b := 1000000000) (by omega) (y * s)).2
  rw [show dg 1000000000 (y * s) = gr (y * s) from rfl] at hytop
  have hYl := (unhide Hsc).2
  unfold isNatB at hv5
  have hpos0 : 0 < y * s := Nat.mul_pos hy0 hs0
  have hstart := fun L hL hLl => @over_start x y s n m L (unhide Hn) (unhide Hm) hml hL hLl hs0
  have Hstart := hide (hstart L0 (unhide HLo) (unhide HLl))
  obtain ⟨Y, hY⟩ : ∃ Y, y * s = Y := ⟨_, rfl⟩
  rw [hY] at hl5 hv5 hys9 hyso hYl hpos0 Hstart
  rw [hY] at hytop
  rw [show (gr (y * s)).length = m + 1 from (unhide Hsc).1]
  generalize gr Y = ys at *
  have HY := hide hY
  have Hys9 := hide hys9
  have Hytop := hide hytop
  have Hyso := hide hyso
  have HYl := hide hYl
  have Hl5 := hide hl5
  clear hys9 hyso hytop hYl hY hstart hb4 hb5 HownL hsc hl5
  go_wp2_with (refine wpList_make_full _ rfl (.tmp 44) (.tmp 44) 65 rfl w.heap.size 80 i0 (.int .u64 0) 1 Tryd.underlying65 hi hz0 hz1 .i64 .i64 K K K rfl rfl rfl rfl (by rw [hz2]; omega) (by unfold maxLen; omega) hb05.size ?_; intro w6 hown6 hg6)
  have hownO0 : w6.ownsRow w.heap.size 80 1 (.slice (some ⟨w5.heap.size, 0, none⟩) K K) K (u64s (List.replicate K 0)) := by
    simpa [Value.cells, toList_madeCells_one, u64s_zero] using hown6
  have hb56 : Below w5.heap.size w5 w6 := (Below.refl _ _).grown hg6 (Nat.le_refl _) (fun _ h => by cases h)
  have hownL6 := own_below hownL5 hb56
  have hownB6 := own_base (own_below hv5 hb56) (Nat.zero_le _)
  rw [unhide Hl5] at hownB6
  have hb06 := hb05.trans (hb56.mono hb05.size)
  have hob : w.heap.size ≤ w5.heap.size := hb05.size
  generalize w5.heap.size = bo at *
  have hglb : gl ≠ gb := by omega
  have hgbo : gb ≠ bo := by omega
  have hglo : gl ≠ bo := by omega
  have hK0 : 0 < K := by omega
  have hnK : n = m + K := by omega
  have HnK := hide hnK
  clear hown6 hg6 hv5 hownL5 hb56 hb05 hnK
  go_loopw [10] (fun i wr => ∃ (k : Nat) (L O : List Nat), k ≤ K ∧ i = .int .i64 ((k : Int) - 1) ∧ L.length = n + 1 ∧ O.length = K ∧
      wr.ownsRow w.heap.size 80 1 (.slice (some ⟨gl, 0, none⟩) (n + 1) (n + 1)) (n + 1) (u64s L) ∧ wr.ownsRow w.heap.size 80 1 (.slice (some ⟨bo, 0, none⟩) K K) K (u64s O) ∧
      wr.ownsRow 0 80 1 (.slice (some ⟨gb, 0, none⟩) (m + 1) cb) (m + 1) (u64s ys) ∧ Below w.heap.size w wr ∧ Hid (∀ d ∈ L, d < 1000000000) ∧ Hid (∀ d ∈ O, d < 1000000000) ∧
      Hid (x * s = ofd 1000000000 (L.take k) + 1000000000 ^ k * (Y * ofd 1000000000 (O.drop k) + ofd 1000000000 (L.drop k))) ∧ Hid (ofd 1000000000 (L.drop k) < Y))
    (fun i _ => ((intOf i) + 1).toNat)
  case atStart =>
    refine ⟨K, L0, List.replicate K 0, Nat.le_refl _, rfl, unhide HLl, by simp, hownL6, hownO0, hownB6, hb06, HLd, hide (by intro d hd; simp at hd; omega), ?_, ?_⟩
    · show _ = _
      rw [List.drop_of_length_le (by simp), ofd, Nat.mul_zero, Nat.zero_add, ← ofd_take_drop 1000000000 L0 K (by rw [unhide HLl]; have := unhide HnK; omega), unhide HLo]
    · show _ < _
      have := unhide Hstart
      rwa [show n - m = K from by have := unhide HnK; omega] at this
  case round =>
    clear hownL6 hownO0 hownB6 hb06
    obtain ⟨k, L, O, hk, rfl, hLl, hOl, hownL, hownO, hownB, hb, hLd, hOd, hinv, hR⟩ := hrel
    cases k with
    | zero =>
      rw [show (((0 : Nat) : Int) - 1) = -1 from rfl]
      have hinv0 : x * s = Y * ofd 1000000000 O + ofd 1000000000 L := by have := unhide hinv; simpa [ofd] using this
      have hR0 : ofd 1000000000 L < Y := by have := unhide hR; simpa using this
      have hend := over_end (x := x) (y := y) (s := s) (Q := ofd 1000000000 O) (R := ofd 1000000000 L) (by rw [unhide HY]; exact hinv0) (by rw [unhide HY]; exact hR0) hs0
      have Hend := hide hend
      have HO := hide hownO
      have hLlen := gr_len_le (Nat.le_of_lt hR0)
      have hYlen : (gr Y).length ≤ 1000000 := by rw [← unhide HY, (unhide Hsc).1]; omega
      clear hinv0 hR0 hend hinv hR hownO hownB
      go_wp2_with fail
      refine (trimmed_n L w.heap.size _ _ (by omega) (unhide hLd) (by rw [hLl]; exact hownL)).mono ?_
      rintro e w7 ⟨⟨v7, rfl, hv7⟩, rfl⟩
      have hv7n := hv7.nat
      clear hv7
      go_wp2_with fail
      refine (overWord_c (ofd 1000000000 L) s v7 _ hv7n (by omega) hs0 hs9).mono ?_
      rintro e w8 ⟨⟨v8, rfl, hv8⟩, hb8⟩
      have hO8 := own_below (unhide HO) hb8
      have hbZ := hb.trans (hb8.mono hb.size)
      rw [(unhide Hend).2] at hv8
      clear hownL hv7n
      go_wp2_with fail
      refine (trimmed_n O w.heap.size _ _ (by omega) (unhide hOd) (by rw [hOl]; exact hO8)).mono ?_
      rintro e w9 ⟨⟨v9, rfl, hv9⟩, rfl⟩
      have hv9n := hv9.nat
      rw [← (unhide Hend).1] at hv9n
      clear hv9 hO8
      go_wp2
      go_ret2
      exact ⟨⟨_, _, rfl, hv9n, hv8⟩, hbZ⟩
    | succ i =>
      rw [show (((i + 1 : Nat) : Int) - 1) = (i : Int) from by omega]
      have hin : i + (m + 1) < L.length := by have := unhide HnK; omega
      have hcT1 := hownL.cellAt (i + (m + 1)) (by omega)
      rw [u64s_get _ _ hin] at hcT1
      have hcT0 := hownL.cellAt (i + m) (by omega)
      rw [u64s_get _ _ (by omega)] at hcT0
      have hcY := hownB.cellAt m (by omega)
      rw [u64s_get _ _ (by have := unhide Hl5; omega)] at hcY
      obtain ⟨v0, hv0⟩ := own_cell_some hownO i (by omega)
      have hfO := hownO.frozenAt i
      have hiI : (i : Int) + (m + 1) < n + 1 := by have := unhide HnK; omega
      have hiK : (i : Int) < K := by omega
      have hT1 : L[i + (m + 1)]'hin < 1000000000 := unhide hLd _ (List.getElem_mem _)
      have hT0 : L[i + m]'(by omega) < 1000000000 := unhide hLd _ (List.getElem_mem _)
      have hwt := win_top (unhide hLd) i m hin
      have htl := top_le (unhide Hl5)
      have hyl0 : 0 < ys[m]'(by have := unhide Hl5; omega) := by
        have hl5 := unhide Hl5
        have := unhide Hytop (ys[m]'(by omega)) (by
          rw [List.getLast?_eq_getElem?, show ys.length - 1 = m from by omega]
          exact List.getElem?_eq_getElem _)
        omega
      have hyl9 : ys[m]'(by have := unhide Hl5; omega) < 1000000000 := unhide Hys9 _ (List.getElem_mem _)
      generalize L[i + (m + 1)]'hin = ta at *
      generalize L[i + m]'(by omega) = tb at *
      generalize ys[m]'(by have := unhide Hl5; omega) = yl at *
      have Hwt := hide hwt
      have Htl := hide htl
      clear hwt htl
      obtain ⟨q0, hq0⟩ : ∃ q : Nat, ((ta : Int) * 1000000000 + tb) / yl = q := ⟨(ta * 1000000000 + tb) / yl, rfl⟩
      have Hq0 : Hid ((ta * 1000000000 + tb) / yl = q0) := by
        show _ = _
        have : (((ta * 1000000000 + tb) / yl : Nat) : Int) = (q0 : Int) := by rw [← hq0]; rfl
        omega
      have hq0d : ((ta : Int) * 1000000000 + tb).tdiv yl = q0 := by rw [Int.tdiv_eq_ediv_of_nonneg (by omega)]; exact hq0
      have hq0le : q0 ≤ ta * 1000000000 + tb := by rw [← unhide Hq0]; exact Nat.div_le_self _ _
      have e1 := wi64 ((m : Int) + 1) (by omega) (by omega)
      have e2 : ((m : Int) + 1).toNat = m + 1 := by omega
      have e3 := wu64 ((ta : Int) * 1000000000) (by omega) (by omega)
      have e4 := wu64 ((ta : Int) * 1000000000 + tb) (by omega) (by omega)
      have e5 : i + (m + 1) + 1 - i = m + 1 + 1 := by omega
      have e6 := wu64 (q0 : Int) (by omega) (by omega)
      have hyl0I : (0 : Int) < yl := by omega
      have hyl0N : ¬ (yl : Int) = 0 := by omega
      go_wp2_with fail
      go_region
      have hV := over_V (m := m + 1) (by omega) (unhide hLd) (unhide hR) (unhide HYl)
      have hVq : win L i (m + 1 + 1) / Y ≤ 999999999 := by
        have := (Nat.div_lt_iff_lt_mul hpos0).2 hV.2.2
        omega
      have hVg : win L i (m + 1 + 1) / Y ≤ q0 := by
        have h1 := guess_ge (Y := Y) (unhide Hwt) (by rw [← unhide Hyso]; exact unhide Htl) hyl0
        rw [unhide Hq0] at h1; exact h1
      have HVq := hide hVq
      have HVg := hide hVg
      clear hV hVq hVg
      go_wp2_with fail
      ·
        obtain ⟨q1, hq1⟩ : ∃ q1 : Nat, 999999999 = q1 := ⟨_, rfl⟩
        rw [show (999999999 : Int) = (q1 : Int) from by rw [← hq1]; rfl]
        have HV1 : Hid (win L i (m + 1 + 1) / Y ≤ q1) := by rw [← hq1]; exact HVq
        have hq9 : q1 < 1000000000 := by omega
        clear hq1
        have hO1 := (hownO.stored i (.int .u64 (q1 : Int))).1
        rw [u64s_set _ _ q1 _ rfl] at hO1
        have hbW := (hb.setCell (p := ⟨bo, i, none⟩) hob (.int .u64 (q1 : Int))).drew
        have hL1 := ownsRow_setCell_other hownL (a := ⟨bo, i, none⟩) (by simp [Value.ownBlock]; omega) (.int .u64 (q1 : Int))
        have hB1 := ownsRow_setCell_other hownB (a := ⟨bo, i, none⟩) (by simp [Value.ownBlock]; omega) (.int .u64 (q1 : Int))
        refine (takeOff_c L ys gl gb i (m + 1) (n + 1) (n + 1 - i) cb q1 w.heap.size _ (unhide Hl5) hLl (by omega) (by omega) (by omega) (own_drew hL1) (own_drew hB1) (by omega) (unhide hLd) (unhide Hys9) hq9).mono ?_
        rintro e w7 ⟨neg, L1, rfl, hL7, hg7, hso7, hw7⟩
        have hO7 := (own_drew hO1).kept hg7 (.inr (by simp [Value.ownBlock]; omega))
        have hB7 := (own_drew hB1).kept hg7 (.inr (by simp [Value.ownBlock]; omega))
        have hb7 := hbW.grown hg7 hbW.size (fun k hk => by cases hk; omega)
        rw [unhide Hyso] at hw7
        have Hso7 := hide hso7
        have Hw7 := hide hw7
        clear hO1 hL1 hB1 hbW hg7 hso7 hw7
        go_wp2_with fail
        go_loopw [12] (fun bl wr => ∃ (q : Nat) (neg : Bool) (L2 : List Nat), bl = .bool neg ∧ q < 1000000000 ∧ wr.ownsRow w.heap.size 80 1 (.slice (some ⟨gl, 0, none⟩) (n + 1) (n + 1)) (n + 1) (u64s L2) ∧ wr.ownsRow w.heap.size 80 1 (.slice (some ⟨bo, 0, none⟩) K K) K (u64s (O.set i q)) ∧
            wr.ownsRow 0 80 1 (.slice (some ⟨gb, 0, none⟩) (m + 1) cb) (m + 1) (u64s ys) ∧ Below w.heap.size w wr ∧ Hid (sameOut L L2 i (m + 1 + 1)) ∧
            Hid (win L2 i (m + 1 + 1) + q * Y = win L i (m + 1 + 1) + if neg then 1000000000 ^ (m + 1 + 1) else 0) ∧ Hid (win L i (m + 1 + 1) / Y ≤ q))
          (fun _ wr => cellN wr bo i)
        case atStart => exact ⟨q1, neg, L1, rfl, hq9, hL7, hO7, hB7, hb7, Hso7, Hw7, HV1⟩
        case round =>
          clear hL7 hO7 hB7 hb7 Hso7 Hw7 HV1 hownL hownO hownB hb
          obtain ⟨q, ng, L2, rfl, hq, hL2, hO2, hB2, hb2, hso2, hw2, hV2⟩ := hrel
          cases ng with
          | false =>
            go_wp2_with fail
            go_roundw
            case rel =>
              have hw3 : win L2 i (m + 1 + 1) + q * Y = win L i (m + 1 + 1) := by have := unhide hw2; simpa using this
              have hlt3 := over_exact hw3 (unhide hV2) hpos0
              have hst := over_step (m := m + 1) (by omega) (by omega) (unhide hLd) (unhide HYl) (unhide hinv) (unhide hR) (unhide hso2) hw3 hlt3
              exact ⟨i, L2, O.set i q, by omega, rfl, (unhide hso2).1.trans hLl, by simpa using hOl, hL2, hO2, hB2, hb2, hide (unhide hso2).2.1, hide (set_all (unhide hOd) hq), hide hst.1, hide hst.2⟩
            case measure => simp [intOf]
          | true =>
            have hcO := hO2.cellAt i (by omega)
            rw [u64s_get _ _ (by simp; omega), List.getElem_set_self] at hcO
            have hfO2 := hO2.frozenAt i
            have hmore := over_more (unhide hw2) (win_lt (unhide hso2).2.1 i (m + 1 + 1) (by have := (unhide hso2).1; omega))
            have hq0' : 0 < q := Nat.lt_of_le_of_lt (Nat.zero_le _) hmore
            obtain ⟨q', rfl⟩ : ∃ q', q = q' + 1 := ⟨q - 1, by omega⟩
            have HV3 : Hid (win L i (m + 1 + 1) / Y ≤ q') := Nat.le_of_lt_succ hmore
            clear hmore
            have hO3 := (hO2.stored i (.int .u64 (q' : Int))).1
            rw [u64s_set _ _ q' _ rfl, List.set_set] at hO3
            have hbW := hb2.setCell (p := ⟨bo, i, none⟩) hob (.int .u64 (q' : Int))
            have hL3 := ownsRow_setCell_other hL2 (a := ⟨bo, i, none⟩) (by simp [Value.ownBlock]; omega) (.int .u64 (q' : Int))
            have hB3 := ownsRow_setCell_other hB2 (a := ⟨bo, i, none⟩) (by simp [Value.ownBlock]; omega) (.int .u64 (q' : Int))
            have hcq : cellN wr bo i = q' + 1 := cellN_of hcO
            have Hcq := hide hcq
            have hL2l := (unhide hso2).1.trans hLl
            have HO3 := hide hO3
            clear hL2 hO2 hB2 hb2 hcq hO3
            go_wp2_with fail
            refine (putBack_c L2 ys gl gb i (m + 1) (n + 1) (n + 1 - i) cb w.heap.size _ (unhide Hl5) hL2l (by omega) (by omega) (by omega) hL3 hB3 (by omega) (unhide hso2).2.1 (unhide Hys9)).mono ?_
            rintro e w8 ⟨up, L3, rfl, hL8, hg8, hso8, hw8⟩
            have hO8 := (unhide HO3).kept hg8 (.inr (by simp [Value.ownBlock]; omega))
            have hB8 := hB3.kept hg8 (.inr (by simp [Value.ownBlock]; omega))
            have hb8 := hbW.grown hg8 hbW.size (fun k hk => by cases hk; omega)
            have hc8 := hO8.cellAt i (by omega)
            rw [u64s_get _ _ (by simp; omega), List.getElem_set_self] at hc8
            have Hc8 := hide (cellN_of hc8)
            have Hso8 : Hid (sameOut L L3 i (m + 1 + 1)) := sameOut_trans (unhide hso2) hso8
            have Hw8 : Hid (win L3 i (m + 1 + 1) + q' * Y = win L i (m + 1 + 1) + if (!up) then 1000000000 ^ (m + 1 + 1) else 0) := by
              rw [unhide Hyso] at hw8
              exact putback_close (unhide hw2) hw8
            clear hc8 hL3 hB3 hbW hg8 hso8 hw8 hso2 hw2
            have hnot : ∀ (x : Bool) (w : World), (Op.unary .not (.bool x)).run Tryd.prog w = .ok (.bool (!x)) w := fun _ _ => rfl
            go_wp2_with fail
            go_roundw
            case rel => exact ⟨q', !up, L3, rfl, by omega, hL8, hO8, hB8, hb8, Hso8, Hw8, HV3⟩
            case measure => rw [unhide Hc8, unhide Hcq]; omega
      ·
        obtain ⟨q1, hq1⟩ : ∃ q1 : Nat, q0 = q1 := ⟨_, rfl⟩
        have hq9 : q1 < 1000000000 := by omega
        rw [hq1]
        have HV1 : Hid (win L i (m + 1 + 1) / Y ≤ q1) := by rw [← hq1]; exact HVg
        clear hq1
        have hO1 := (hownO.stored i (.int .u64 (q1 : Int))).1
        rw [u64s_set _ _ q1 _ rfl] at hO1
        have hbW := (hb.setCell (p := ⟨bo, i, none⟩) hob (.int .u64 (q1 : Int))).drew
        have hL1 := ownsRow_setCell_other hownL (a := ⟨bo, i, none⟩) (by simp [Value.ownBlock]; omega) (.int .u64 (q1 : Int))
        have hB1 := ownsRow_setCell_other hownB (a := ⟨bo, i, none⟩) (by simp [Value.ownBlock]; omega) (.int .u64 (q1 : Int))
        refine (takeOff_c L ys gl gb i (m + 1) (n + 1) (n + 1 - i) cb q1 w.heap.size _ (unhide Hl5) hLl (by omega) (by omega) (by omega) (own_drew hL1) (own_drew hB1) (by omega) (unhide hLd) (unhide Hys9) hq9).mono ?_
        rintro e w7 ⟨neg, L1, rfl, hL7, hg7, hso7, hw7⟩
        have hO7 := (own_drew hO1).kept hg7 (.inr (by simp [Value.ownBlock]; omega))
        have hB7 := (own_drew hB1).kept hg7 (.inr (by simp [Value.ownBlock]; omega))
        have hb7 := hbW.grown hg7 hbW.size (fun k hk => by cases hk; omega)
        rw [unhide Hyso] at hw7
        have Hso7 := hide hso7
        have Hw7 := hide hw7
        clear hO1 hL1 hB1 hbW hg7 hso7 hw7
        go_wp2_with fail
        go_loopw [12] (fun bl wr => ∃ (q : Nat) (neg : Bool) (L2 : List Nat), bl = .bool neg ∧ q < 1000000000 ∧ wr.ownsRow w.heap.size 80 1 (.slice (some ⟨gl, 0, none⟩) (n + 1) (n + 1)) (n + 1) (u64s L2) ∧ wr.ownsRow w.heap.size 80 1 (.slice (some ⟨bo, 0, none⟩) K K) K (u64s (O.set i q)) ∧
            wr.ownsRow 0 80 1 (.slice (some ⟨gb, 0, none⟩) (m + 1) cb) (m + 1) (u64s ys) ∧ Below w.heap.size w wr ∧ Hid (sameOut L L2 i (m + 1 + 1)) ∧
            Hid (win L2 i (m + 1 + 1) + q * Y = win L i (m + 1 + 1) + if neg then 1000000000 ^ (m + 1 + 1) else 0) ∧ Hid (win L i (m + 1 + 1) / Y ≤ q))
          (fun _ wr => cellN wr bo i)
        case atStart => exact ⟨q1, neg, L1, rfl, hq9, hL7, hO7, hB7, hb7, Hso7, Hw7, HV1⟩
        case round =>
          clear hL7 hO7 hB7 hb7 Hso7 Hw7 HV1 hownL hownO hownB hb
          obtain ⟨q, ng, L2, rfl, hq, hL2, hO2, hB2, hb2, hso2, hw2, hV2⟩ := hrel
          cases ng with
          | false =>
            go_wp2_with fail
            go_roundw
            case rel =>
              have hw3 : win L2 i (m + 1 + 1) + q * Y = win L i (m + 1 + 1) := by have := unhide hw2; simpa using this
              have hlt3 := over_exact hw3 (unhide hV2) hpos0
              have hst := over_step (m := m + 1) (by omega) (by omega) (unhide hLd) (unhide HYl) (unhide hinv) (unhide hR) (unhide hso2) hw3 hlt3
              exact ⟨i, L2, O.set i q, by omega, rfl, (unhide hso2).1.trans hLl, by simpa using hOl, hL2, hO2, hB2, hb2, hide (unhide hso2).2.1, hide (set_all (unhide hOd) hq), hide hst.1, hide hst.2⟩
            case measure => simp [intOf]
          | true =>
            have hcO := hO2.cellAt i (by omega)
            rw [u64s_get _ _ (by simp; omega), List.getElem_set_self] at hcO
            have hfO2 := hO2.frozenAt i
            have hmore := over_more (unhide hw2) (win_lt (unhide hso2).2.1 i (m + 1 + 1) (by have := (unhide hso2).1; omega))
            have hq0' : 0 < q := Nat.lt_of_le_of_lt (Nat.zero_le _) hmore
            obtain ⟨q', rfl⟩ : ∃ q', q = q' + 1 := ⟨q - 1, by omega⟩
            have HV3 : Hid (win L i (m + 1 + 1) / Y ≤ q') := Nat.le_of_lt_succ hmore
            clear hmore
            have hO3 := (hO2.stored i (.int .u64 (q' : Int))).1
            rw [u64s_set _ _ q' _ rfl, List.set_set] at hO3
            have hbW := hb2.setCell (p := ⟨bo, i, none⟩) hob (.int .u64 (q' : Int))
            have hL3 := ownsRow_setCell_other hL2 (a := ⟨bo, i, none⟩) (by simp [Value.ownBlock]; omega) (.int .u64 (q' : Int))
            have hB3 := ownsRow_setCell_other hB2 (a := ⟨bo, i, none⟩) (by simp [Value.ownBlock]; omega) (.int .u64 (q' : Int))
            have hcq : cellN wr bo i = q' + 1 := cellN_of hcO
            have Hcq := hide hcq
            have hL2l := (unhide hso2).1.trans hLl
            have HO3 := hide hO3
            clear hL2 hO2 hB2 hb2 hcq hO3
            go_wp2_with fail
            refine (putBack_c L2 ys gl gb i (m + 1) (n + 1) (n + 1 - i) cb w.heap.size _ (unhide Hl5) hL2l (by omega) (by omega) (by omega) hL3 hB3 (by omega) (unhide hso2).2.1 (unhide Hys9)).mono ?_
            rintro e w8 ⟨up, L3, rfl, hL8, hg8, hso8, hw8⟩
            have hO8 := (unhide HO3).kept hg8 (.inr (by simp [Value.ownBlock]; omega))
            have hB8 := hB3.kept hg8 (.inr (by simp [Value.ownBlock]; omega))
            have hb8 := hbW.grown hg8 hbW.size (fun k hk => by cases hk; omega)
            have hc8 := hO8.cellAt i (by omega)
            rw [u64s_get _ _ (by simp; omega), List.getElem_set_self] at hc8
            have Hc8 := hide (cellN_of hc8)
            have Hso8 : Hid (sameOut L L3 i (m + 1 + 1)) := sameOut_trans (unhide hso2) hso8
            have Hw8 : Hid (win L3 i (m + 1 + 1) + q' * Y = win L i (m + 1 + 1) + if (!up) then 1000000000 ^ (m + 1 + 1) else 0) := by
              rw [unhide Hyso] at hw8
              exact putback_close (unhide hw2) hw8
            clear hc8 hL3 hB3 hbW hg8 hso8 hw8 hso2 hw2
            have hnot : ∀ (x : Bool) (w : World), (Op.unary .not (.bool x)).run Tryd.prog w = .ok (.bool (!x)) w := fun _ _ => rfl
            go_wp2_with fail
            go_roundw
            case rel => exact ⟨q', !up, L3, rfl, by omega, hL8, hO8, hB8, hb8, Hso8, Hw8, HV3⟩
            case measure => rw [unhide Hc8, unhide Hcq]; omega
end Go.Proofs.YtchginjabaobfaaDoor
namespace Go.Proofs.YtchginjabaobfaaDoor
open Go.RowKit Nt

theorem over_c (x y : Nat) (v u : Value) (w : World) (hx : isNat w v x) (hy : isNat w u y) (hsx : (gr x).length ≤ 1000000) (hsy : (gr y).length ≤ 1000000) (hy0 : 0 < y) :
    Calls Tryd.prog 94 #[v, u] w fun e w' => (∃ v1 v2, e = .returned (.tuple #[v1, v2]) ∧ isNat w' v1 (x / y) ∧ isNat w' v2 (x % y)) ∧ Below w.heap.size w w' := by
  rcases Nat.lt_or_ge x y with h | h
  · exact over_small x y v u w hx hy hsx hsy h
  · exact over_great x y v u w hx hy hsx hsy h hy0

/-- the number that a value's cells are: a measure alone -/
def valU (w : World) : Value → Nat
  | .slice (some a) n _ => ofd 1000000000 ((List.range n).map fun j => cellN w a.block j)
  | _ => 0

theorem valU_of {w : World} {v : Value} {x : Nat} (h : isNat w v x) : valU w v = x := by
  have ho := gr_ofd x
  unfold isNat at h
  generalize gr x = xs at *
  rcases own_shape h with ⟨rfl, hn, _⟩ | ⟨g, cap, rfl, _⟩
  · have : xs = [] := List.eq_nil_of_length_eq_zero hn
    subst this
    simp [valU]; simpa [ofd] using ho
  · show ofd 1000000000 ((List.range xs.length).map fun j => cellN w g j) = x
    rw [← ho]
    congr 1
    apply List.ext_getElem
    · simp
    · intro j h1 h2
      simp only [List.getElem_map, List.getElem_range]
      apply cellN_of
      rw [h.cellAt j (by omega), u64s_get _ _ h2]

set_option maxRecDepth 100000 in
set_option maxHeartbeats 1000000 in
theorem gcd_c (x y : Nat) (v u : Value) (w : World) (hx : isNat w v x) (hy : isNat w u y) (hsx : (gr x).length ≤ 1000000) (hsy : (gr y).length ≤ 1000000) :
    Calls Tryd.prog 50 #[v, u] w fun e w' => (∃ v', e = .returned v' ∧ isNat w' v' (Nat.gcd x y)) ∧ Below w.heap.size w w' := by
  go_enter Tryd.func50, Tryd.ntmps50
  go_wp2
  go_loopw [0, 1] (fun a b wr => ∃ (x' y' : Nat), isNat wr a x' ∧ isNat wr b y' ∧ (gr x').length ≤ 1000000 ∧ (gr y').length ≤ 1000000 ∧ Below w.heap.size w wr ∧ Hid (Nat.gcd x' y' = Nat.gcd x y))
    (fun _ b wr => valU wr b)
  case atStart => exact ⟨x, y, hx, hy, hsx, hsy, Below.refl _ _, hide rfl⟩
  case round =>
    obtain ⟨x', y', hx', hy', hsx', hsy', hb, hg⟩ := hrel
    obtain ⟨p, cap, hv⟩ := own_slice hy'
    by_cases hz : y' = 0
    · subst hz
      rw [gr_zero] at hv
      subst hv
      go_wp2
      go_ret
      refine ⟨⟨_, rfl, ?_⟩, hb⟩
      rw [← unhide hg, Nat.gcd_zero_right]
      exact hx'
    · have hn0 : 0 < (gr y').length := by
        rcases Nat.eq_zero_or_pos (gr y').length with h | h
        · exact absurd (gr_nil.1 (List.eq_nil_of_length_eq_zero h)) hz
        · exact h
      have hnI : ¬ ((gr y').length : Int) ≤ 0 := by omega
      have Hy := hide hy'
      have Hx := hide hx'
      subst hv
      clear hx' hy'
      go_wp2_with fail
      refine (over_c x' y' _ _ _ (unhide Hx) (unhide Hy) hsx' hsy' (by omega)).mono ?_
      rintro e w1 ⟨⟨v1, v2, rfl, hv1, hv2⟩, hb1⟩
      have hy1 := own_below (unhide Hy) hb1
      have hlt := Nat.mod_lt x' (show 0 < y' by omega)
      have hlen := gr_len_le (Nat.le_of_lt hlt)
      have hm1 := valU_of (unhide Hy)
      have hm2 := valU_of hv2
      have Hm1 := hide hm1
      have Hm2 := hide hm2
      have HV2 := hide hv2
      have HY1 := hide hy1
      clear hm1 hm2 hv2 hv1 hy1
      go_wp2_with fail
      go_roundw
      case rel =>
        refine ⟨y', x' % y', unhide HY1, unhide HV2, hsy', by omega, hb.trans (hb1.mono hb.size), hide ?_⟩
        rw [Nat.gcd_comm y', ← Nat.gcd_rec y' x', Nat.gcd_comm, unhide hg]
      case measure =>
        rw [unhide Hm2, unhide Hm1]; exact hlt
end Go.Proofs.YtchginjabaobfaaDoor
namespace Go.Proofs.YtchginjabaobfaaDoor
open Go.RowKit Nt

theorem trim_stop_at (l : List UInt8) (k : Nat) (hk : k < l.length) (h : k + 1 < l.length → l[k] ≠ 48) : trim (l.drop k) = l.drop k := by
  apply trim_stop
  by_cases hl : k + 1 < l.length
  · right
    exact ⟨l[k], l.drop (k + 1), List.drop_eq_getElem_cons (by omega), h hl⟩
  · left; simp; omega

set_option maxHeartbeats 400000 in
theorem l1Trim_c (l : List UInt8) (w : World) (hs : l.length ≤ 1000000000) :
    Calls Tryd.prog 89 #[.string (B l)] w fun e w' => e = .returned (.string (B (trim l))) ∧ w' = w := by
  have hsz : (B l).size ≤ 1000000000 := by rw [B_size]; exact hs
  go_enter Tryd.func89, Tryd.ntmps89
  go_wp2
  go_loop [3] (fun i => ∃ k : Nat, k ≤ l.length ∧ (k = 0 ∨ k < l.length) ∧ i = .int .i64 k ∧ Hid (trim l = trim (l.drop k))) (fun i => l.length - (intOf i).toNat)
  case atStart => exact ⟨0, Nat.zero_le _, .inl rfl, rfl, rfl⟩
  case round =>
    obtain ⟨k, hk, hk', rfl, ht⟩ := hrel
    have fin : (k + 1 < l.length → ∀ h, l[k]'h ≠ 48) → (B l).extract k (B l).size = B (trim l) := by
      intro h
      rw [B_extract, B_size, List.take_length, ht.out]
      by_cases h0 : k < l.length
      · rw [trim_stop_at l k h0 (fun hh => h hh h0)]
      · have : l = [] := by apply List.eq_nil_of_length_eq_zero; omega
        subst this; simp [trim]
    have Fin := hide fin
    clear fin
    by_cases hlt : k + 1 < l.length
    · have hlt2 : k + 1 < (B l).size := by rw [B_size]; exact hlt
      go_wp2
      · have hz : l[k] = 48 := by
          have h := ‹(((B l)[k].toNat : Int) == 48) = true›
          rw [B_get] at h
          apply UInt8.toNat_inj.1
          have := beq_iff_eq.1 h
          simp only [UInt8.toNat_ofNat]
          omega
        go_round
        case rel => exact ⟨k + 1, by omega, by omega, by go_num, by show trim l = _; rw [ht.out]; exact trim_drop l k (by omega) hz⟩
        case measure => simp [intOf]; omega
      · have hz : ∀ h : k < l.length, l[k] ≠ 48 := by
          have h := beq_eq_false_iff_ne.1 ‹(((B l)[k].toNat : Int) == 48) = false›
          rw [B_get] at h
          intro hh hc
          rw [hc] at h
          exact h rfl
        go_ret
        exact ⟨ret_str (unhide Fin (fun _ h => hz h)), rfl⟩
    · have hlt2 : ¬ k + 1 < (B l).size := by rw [B_size]; exact hlt
      have hkk : k ≤ (B l).size := by rw [B_size]; exact hk
      go_wp2
      go_ret
      exact ⟨ret_str (unhide Fin (fun h => absurd h hlt)), rfl⟩

set_option maxHeartbeats 400000 in
theorem l1At_c (n k : Nat) (w : World) (hs : (dec n).size ≤ 1000000000) (hk : k ≤ 1000000000) :
    Calls Tryd.prog 102 #[.string (dec n), .int .i64 k] w fun e w' => e = .returned (.int .i64 ((n / 10 ^ k % 10 : Nat) : Int)) ∧ w' = w := by
  by_cases h : k < (dec n).size
  · have hb : (n / 10 ^ k % 10) < 10 := Nat.mod_lt _ (by omega)
    have hd : (dec n)[(dec n).size - 1 - k]'(by omega) = sg (n / 10 ^ k % 10) := by
      have h1 : k < (txl 10 n).length := by simpa [dec, txt, B_size] using h
      have := dec_at n k h1
      rw [List.getElem_reverse] at this
      rw [← this]
      simp only [dec, txt, B_get, B_size]
    have hn : ((dec n)[(dec n).size - 1 - k]'(by omega)).toNat = 48 + n / 10 ^ k % 10 := by rw [hd, sg_toNat (by omega), if_pos hb]
    generalize hg : n / 10 ^ k % 10 = d at *
    have Hn := hide hn
    clear hn hd hg
    go_enter Tryd.func102, Tryd.ntmps102
    go_wp2
    go_ret
    exact ⟨ret_int (by rw [unhide Hn]; omega), rfl⟩
  · have hz : n / 10 ^ k % 10 = 0 := by
      rw [dec_above n k (by simpa [dec, txt, B_size] using h)]
    rw [hz]
    go_enter Tryd.func102, Tryd.ntmps102
    go_wp2
    go_ret
    exact ⟨rfl, rfl⟩

theorem l1At_d (n k d : Nat) (w : World) (hd : n / 10 ^ k % 10 = d) (hs : (dec n).size ≤ 1000000000) (hk : k ≤ 1000000000) :
    Calls Tryd.prog 102 #[.string (dec n), .int .i64 k] w fun e w' => e = .returned (.int .i64 (d : Int)) ∧ w' = w := by
  subst hd; exact l1At_c n k w hs hk
end Go.Proofs.YtchginjabaobfaaDoor
namespace Go.Proofs.YtchginjabaobfaaDoor
open Go.RowKit Nt

theorem Tryd.infoInt : (Tryd.prog.info? 3).map (fun i => (i.zero, i.size, i.bytes)) = some (some (.int .i64 0), 1, 8) := by kernel_rfl
theorem Tryd.infoByte : (Tryd.prog.info? 5).map (fun i => (i.zero, i.size, i.bytes)) = some (some (.int .u8 0), 1, 1) := by kernel_rfl

/-- what 'out' holds when k digits are laid -/
def textCells (xs : List Nat) (n k : Nat) : List UInt8 := List.replicate (n - k) 0 ++ ((xs.take k).map sg).reverse

theorem textCells_set (xs : List Nat) (k : Nat) (h : k < xs.length) :
    (textCells xs xs.length k).set (xs.length - 1 - k) (sg xs[k]) = textCells xs xs.length (k + 1) := by
  unfold textCells
  have e : xs.length - k = (xs.length - 1 - k) + 1 := by omega
  rw [e, List.replicate_succ', List.append_assoc, List.set_append_right _ _ (by simp)]
  have e2 : xs.length - (k + 1) = xs.length - 1 - k := by omega
  rw [e2, List.length_replicate, Nat.sub_self, List.take_succ_eq_append_getElem h, List.map_append, List.reverse_append]
  simp

theorem textCells_all (xs : List Nat) : textCells xs xs.length xs.length = (xs.map sg).reverse := by simp [textCells]

theorem textCells_zero (xs : List Nat) : textCells xs xs.length 0 = List.replicate xs.length 0 := by simp [textCells]

/-- what the text is when all is laid -/
theorem text_end (xs : List Nat) (hd : ∀ d ∈ xs, d < 10) (hx : xs ≠ []) : trim (textCells xs xs.length xs.length) = txl 10 (ofd 10 xs) := by
  rw [textCells_all]; exact trim_rev xs hd hx

set_option maxRecDepth 100000 in
set_option maxHeartbeats 400000 in
theorem l1Text_c (xs : List Nat) (v : Value) (w : World) (hd : ∀ d ∈ xs, d < 10) (hs : xs.length ≤ 1000000000) (h : w.ownsRow 0 3 1 v xs.length (ints xs)) :
    Calls Tryd.prog 103 #[v] w fun e w' => e = .returned (.string (dec (ofd 10 xs))) ∧ Below w.heap.size w w' := by
  obtain ⟨i0, hi, hz0, hz1, hz2⟩ := info_parts Tryd.infoByte
  rcases h.2 with ⟨rfl, hn⟩ | ⟨g, cap, cur, rfl, hbg, hgg, hnc, hcm, hcs, htake⟩
  · have hx : xs = [] := List.eq_nil_of_length_eq_zero hn
    subst hx
    clear h hs hd hn
    go_enter Tryd.func103, Tryd.ntmps103
    go_wp2_with (refine wpList_make_full _ rfl (.tmp 6) (.tmp 6) 22 rfl w.heap.size 5 i0 (.int .u8 0) 1 Tryd.underlying22 hi hz0 hz1 .i64 .i64 0 0 0 rfl rfl rfl rfl (by rw [hz2]; omega) (by decide) (Nat.le_refl _) ?_; intro w1 hown1 hg1)
    have hb := (Below.refl w.heap.size w).grown hg1 (Nat.le_refl _) (fun _ h => by cases h)
    clear hown1 hg1
    refine wp_loop_rounds 1 ?_; rw [rounds_succ]
    go_wp2
    go_ret
    exact ⟨rfl, hb⟩
  · clear htake hcs hcm hgg hbg
    have Hd := hide hd
    clear hd
    go_enter Tryd.func103, Tryd.ntmps103
    go_wp2_with (refine wpList_make_full _ rfl (.tmp 6) (.tmp 6) 22 rfl w.heap.size 5 i0 (.int .u8 0) 1 Tryd.underlying22 hi hz0 hz1 .i64 .i64 xs.length xs.length xs.length rfl rfl rfl rfl (by rw [hz2]; omega) (by unfold maxLen; omega) (Nat.le_refl _) ?_; intro w1 hown1 hg1)
    go_loopw [4] (fun i wr => ∃ k : Nat, k ≤ xs.length ∧ i = .int .i64 k ∧ wr.ownsRow w.heap.size 5 1 (.slice (some ⟨w.heap.size, 0, none⟩) xs.length xs.length) xs.length ((textCells xs xs.length k).map u8v) ∧ Below w.heap.size w wr)
      (fun i _ => xs.length - (intOf i).toNat)
    case atStart =>
      refine ⟨0, Nat.zero_le _, rfl, ?_, (Below.refl _ _).grown hg1 (Nat.le_refl _) (fun _ h => by cases h)⟩
      rw [textCells_zero]
      simpa [Value.cells, toList_madeCells_one, u8v] using hown1
    case round =>
      obtain ⟨k, hk, rfl, hown, hb⟩ := hrel
      by_cases hlt : k < xs.length
      · have hc1 : wr.cell? ⟨g, k, none⟩ = some (.int .i64 (xs[k] : Nat)) := by
          rw [(own_below h hb).cellAt k (by omega)]; simp [ints, hlt]
        have hf := hown.frozenAt (xs.length - 1 - k)
        obtain ⟨v0, hv0⟩ := own_cell_some hown (xs.length - 1 - k) (by omega)
        have hst := hown.stored (xs.length - 1 - k) (u8v (sg xs[k]))
        have hdk : xs[k] < 10 := unhide Hd _ (List.getElem_mem hlt)
        rw [← List.map_set, textCells_set xs k hlt, u8v_sg hdk] at hst
        have Hst := hide hst
        clear hst
        go_wp2
        go_roundw
        case rel => exact ⟨k + 1, by omega, by go_num, (unhide Hst).1, hb.setCell (by simp) _⟩
        case measure => simp [intOf]; omega
      · have hkn : k = xs.length := by omega
        subst hkn
        by_cases hx : xs = []
        · subst hx
          go_wp2
          go_ret
          exact ⟨rfl, hb⟩
        · have hx0 : ((xs.length : Int) == 0) = false := by
            have : xs.length ≠ 0 := fun h => hx (List.eq_nil_of_length_eq_zero h)
            rw [beq_eq_false_iff_ne]; omega
          have hconv := run_conv_bytes (dst := 9) Tryd.underlying22 Tryd.underlying5 Tryd.underlying9 hown
          have Fin := hide (text_end xs (unhide Hd) hx)
          go_wp2_with (go_at_call 89; refine (l1Trim_c _ _ (by simp [textCells]; omega)).mono ?_; rintro e w' ⟨rfl, rfl⟩)
          go_ret
          exact ⟨ret_str (by rw [unhide Fin]; rfl), hb⟩
end Go.Proofs.YtchginjabaobfaaDoor
