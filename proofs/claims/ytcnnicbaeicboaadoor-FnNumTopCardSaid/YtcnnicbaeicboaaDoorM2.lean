/- A part of the proof, put together out of smaller texts. -/
import Derived.Test.YtcnnicbaeicboaaDoorM1
import Derived.Handy
import Derived.Laws.CopyOwn
import Derived.BigRegion
set_option linter.all false
set_option maxRecDepth 100000
set_option maxHeartbeats 16000000
namespace Go.Proofs.YtcnnicbaeicboaaDoor
open Go.RowKit Nt
theorem AtC.put2 {w : World} {b : Nat} {x y : Value} {T : TypeId} (h : AtC w b #[x, y] T) (u v : Value) : AtC ((w.setCell ⟨b, 0, none⟩ u).setCell ⟨b, 1, none⟩ v) b #[u, v] T := by
 have h1 : (w.setCell ⟨b, 0, none⟩ u).heap[b]? = some (.cells #[u, y] T (0, 0)) := by
  show (w.heap.modify b _)[b]? = _
  rw [Array.getElem?_modify, if_pos rfl, show w.heap[b]? = _ from h]
  rfl
 show ((w.setCell ⟨b, 0, none⟩ u).heap.modify b _)[b]? = _
 rw [Array.getElem?_modify, if_pos rfl, h1]
 rfl
theorem AtC.far2 {w : World} {b c : Nat} {cs : Array Value} {T : TypeId} (h : AtC w b cs T) (hc : b ≠ c) (u v : Value) (i j : Nat) : AtC ((w.setCell ⟨c, i, none⟩ u).setCell ⟨c, j, none⟩ v) b cs T := by
 unfold AtC; rw [Below.heap_setCell _ _ _ _ hc, Below.heap_setCell _ _ _ _ hc]; exact h
theorem vG (n : Bool) (x y : Nat) : plusW (n, x) (n, y) = (n, x + y) := by simp [plusW]
theorem ki {n m : Bool} (h : n ≠ m) {x y : Nat} (hl : x < y) : plusW (n, x) (m, y) = (m, y - x) := by simp [plusW, h, hl]
theorem kh {n m : Bool} (h : n ≠ m) {x y : Nat} (hl : ¬ x < y) : plusW (n, x) (m, y) = (n, x - y) := by simp [plusW, h, hl]
theorem xe (n m : Bool) (v u : Value) (x y : Nat) (w : World) (hnm : n = m) (hx : isNat w v x) (hy : isNat w u y) (hsx : (gr x).length ≤ 1000000) (hsy : (gr y).length ≤ 1000000) :
  Calls Tryd.prog 203 #[zC n v, zC m u] w fun e w' => (∃ z, e = .returned z ∧ qi w' w.heap.size z (plusW (n, x) (m, y))) ∧ Below w.heap.size w w' := by
 have hp : plusW (n, x) (m, y) = (n, x + y) := by rw [← hnm, vG]
 rw [hp]
 clear hp
 have hb : (n == m) = true := by rw [hnm]; simp
 obtain ⟨p, cap, rfl⟩ := zd hx
 obtain ⟨q, cap2, rfl⟩ := zd hy
 obtain ⟨lx, hlx⟩ : ∃ l, (gr x).length = l := ⟨_, rfl⟩
 obtain ⟨ly, hly⟩ : ∃ l, (gr y).length = l := ⟨_, rfl⟩
 rw [hlx] at hx
 rw [hly] at hy
 rw [hlx, hly]
 have hW : Below w.heap.size w (((w.alloc (.cells #[.bool n, .slice p lx cap] 88)).alloc (.cells #[.bool m, .slice q ly cap2] 88)).alloc (.cells #[.bool false, .slice none 0 0] 88)) :=
  (((Below.refl _ _).alloc (Nat.le_refl _) _).alloc (by simp) _).alloc (by simp; omega) _
 have Hx0 := hide hx
 have Hy0 := hide hy
 have Hx := hide (zb hx hW)
 have Hy := hide (zb hy hW)
 have HW := hide hW
 have HA := hide (((AtC.new w #[.bool n, .slice p lx cap] 88).alloc (.cells #[.bool m, .slice q ly cap2] 88)).alloc (.cells #[.bool false, .slice none 0 0] 88))
 have HB := hide ((AtC.new (w.alloc (.cells #[.bool n, .slice p lx cap] 88)) #[.bool m, .slice q ly cap2] 88).alloc (.cells #[.bool false, .slice none 0 0] 88))
 have HC := hide (AtC.new ((w.alloc (.cells #[.bool n, .slice p lx cap] 88)).alloc (.cells #[.bool m, .slice q ly cap2] 88)) #[.bool false, .slice none 0 0] 88)
 have Hl := hide (And.intro hlx hly)
 clear hx hy hW hlx hly
 rw [World.size_alloc] at HB
 rw [World.size_alloc, World.size_alloc] at HC
 unfold zC
 clear hnm
 go_enter Tryd.func203, Tryd.ntmps203
 go_wp2
 go_region_held3 (fun w' => w'.cell? ⟨w.heap.size, 0, none⟩ = some (.bool n) ∧ w'.cell? ⟨w.heap.size, 1, none⟩ = some (.slice p lx cap) ∧ w'.cell? ⟨w.heap.size + 1, 0, none⟩ = some (.bool m) ∧ w'.cell? ⟨w.heap.size + 1, 1, none⟩ = some (.slice q ly cap2)) (((try dsimp only); (repeat' apply And.intro) <;> (first | assumption | (rw [far2 (by first | (simp; done) | (simp; omega))]; assumption) | go_keep))) (first | (go_at_call 200; refine (Q1 x y _ _ _ (by first | exact za Hx) (by first | exact za Hy) hsx hsy).mono ?_; rintro e w1 ⟨⟨z, rfl, hz⟩, hb1⟩; obtain ⟨zp, zc, rfl⟩ := zd hz; have hA := (za HA).drew.below hb1; have hB := (za HB).drew.below hb1; have hC := (za HC).drew.below hb1; have a0 : w1.cell? ⟨w.heap.size, 0, none⟩ = some (.bool n) := hA.c 0; have a1 : w1.cell? ⟨w.heap.size, 1, none⟩ = some (.slice p lx cap) := hA.c 1; have b0 : w1.cell? ⟨w.heap.size + 1, 0, none⟩ = some (.bool m) := hB.c 0; have b1 : w1.cell? ⟨w.heap.size + 1, 1, none⟩ = some (.slice q ly cap2) := hB.c 1; have c0 : w1.cell? ⟨w.heap.size + 1 + 1, 0, none⟩ = some (.bool false) := hC.c 0; have c1 : w1.cell? ⟨w.heap.size + 1 + 1, 1, none⟩ = some (.slice none 0 0) := hC.c 1; have cf := hC.f; have Hz := hide hz; have Hb1 := hide hb1; clear hA hB hC hz hb1))
 have hfin : Below w.heap.size w w1 := (za HW).drew.trans ((za Hb1).mono (za HW).drew.size)
 have hs := (za HC).drew.below (za Hb1) |>.lt
 have Hfin := hide hfin
 clear hfin
 go_wp2
 refine bodyPost_ret (v := .agg #[.bool n, .slice zp (gr (x + y)).length zc]) (by simp [results, Tryd.results203, go_sem, c0, c1]) rfl ⟨⟨_, rfl, ⟨_, rfl, ?_⟩⟩, ?_⟩
 ·have h0 := za Hz
  have h1 := zB h0 (b := w.heap.size + 1 + 1) (i := 0) (u := .bool n) (by simp)
  exact zE (zB h1 (b := w.heap.size + 1 + 1) (i := 1) (by simp)) (by simp; omega)
 ·exact ((za Hfin).setCell (by show w.heap.size ≤ w.heap.size + 1 + 1; omega) _).setCell (by show w.heap.size ≤ w.heap.size + 1 + 1; omega) _
theorem Qn (n m : Bool) (v u : Value) (x y : Nat) (w : World) (hnm : n ≠ m) (hl : ¬ x < y) (hx : isNat w v x) (hy : isNat w u y) (hsx : (gr x).length ≤ 1000000) (hsy : (gr y).length ≤ 1000000) :
  Calls Tryd.prog 203 #[zC n v, zC m u] w fun e w' => (∃ z, e = .returned z ∧ qi w' w.heap.size z (plusW (n, x) (m, y))) ∧ Below w.heap.size w w' := by
 rw [kh hnm hl]
 have hb : (n == m) = false := by simp [hnm]
 have hd : decide (x < y) = false := decide_eq_false hl
 have hle : y ≤ x := by omega
 obtain ⟨p, cap, rfl⟩ := zd hx
 obtain ⟨q, cap2, rfl⟩ := zd hy
 obtain ⟨lx, hlx⟩ : ∃ l, (gr x).length = l := ⟨_, rfl⟩
 obtain ⟨ly, hly⟩ : ∃ l, (gr y).length = l := ⟨_, rfl⟩
 rw [hlx] at hx
 rw [hly] at hy
 rw [hlx, hly]
 have hW : Below w.heap.size w (((w.alloc (.cells #[.bool n, .slice p lx cap] 88)).alloc (.cells #[.bool m, .slice q ly cap2] 88)).alloc (.cells #[.bool false, .slice none 0 0] 88)) :=
  (((Below.refl _ _).alloc (Nat.le_refl _) _).alloc (by simp) _).alloc (by simp; omega) _
 have Hx0 := hide hx
 have Hy0 := hide hy
 have Hx := hide (zb hx hW)
 have Hy := hide (zb hy hW)
 have HW := hide hW
 have HA := hide (((AtC.new w #[.bool n, .slice p lx cap] 88).alloc (.cells #[.bool m, .slice q ly cap2] 88)).alloc (.cells #[.bool false, .slice none 0 0] 88))
 have HB := hide ((AtC.new (w.alloc (.cells #[.bool n, .slice p lx cap] 88)) #[.bool m, .slice q ly cap2] 88).alloc (.cells #[.bool false, .slice none 0 0] 88))
 have HC := hide (AtC.new ((w.alloc (.cells #[.bool n, .slice p lx cap] 88)).alloc (.cells #[.bool m, .slice q ly cap2] 88)) #[.bool false, .slice none 0 0] 88)
 have Hl := hide (And.intro hlx hly)
 clear hx hy hW hlx hly
 rw [World.size_alloc] at HB
 rw [World.size_alloc, World.size_alloc] at HC
 unfold zC
 clear hnm hl
 go_enter Tryd.func203, Tryd.ntmps203
 go_wp2_with fail
 have h := yJ x y (.slice p lx cap) (.slice q ly cap2) _ (za Hx) (za Hy) (by omega) (by omega)
 refine h.mono ?_
 clear h
 rw [hd]
 rintro e w0 ⟨rfl, hb0⟩
 have hA0 := (za HA).below hb0
 have hB0 := (za HB).below hb0
 have hC0 := (za HC).below hb0
 have HW0 := hide ((za HW).trans (hb0.mono (za HW).size))
 have ca0 := hA0.c 0
 have ca1 := hA0.c 1
 have cb0 := hB0.c 0
 have cb1 := hB0.c 1
 have fa := hA0.f
 have fb := hB0.f
 simp at ca0 ca1 cb0 cb1
 have HA0 := hide hA0
 have HB0 := hide hB0
 have HC0 := hide hC0
 clear hA0 hB0 hC0 hb0
 go_wp2
 go_region_held3 (fun w' => w'.cell? ⟨w.heap.size, 0, none⟩ = some (.bool n) ∧ w'.cell? ⟨w.heap.size, 1, none⟩ = some (.slice p lx cap) ∧ w'.cell? ⟨w.heap.size + 1, 0, none⟩ = some (.bool m) ∧ w'.cell? ⟨w.heap.size + 1, 1, none⟩ = some (.slice q ly cap2)) (((try dsimp only); (repeat' apply And.intro) <;> (first | assumption | (rw [far2 (by first | (simp; done) | (simp; omega))]; assumption) | go_keep))) (first | (go_at_call 205; refine (xB x y _ _ _ (by exact zb (za Hx0) (za HW0).drew) (by exact zb (za Hy0) (za HW0).drew) hle hsx).mono ?_; rintro e w1 ⟨⟨z, rfl, hz⟩, hb1⟩; obtain ⟨zp, zc, rfl⟩ := zd hz; have hA := (za HA0).drew.below hb1; have hB := (za HB0).drew.below hb1; have hC := (za HC0).drew.below hb1; have a0 := hA.c 0; have a1 := hA.c 1; have b0 := hB.c 0; have b1 := hB.c 1; simp at a0 a1 b0 b1; have c0 : w1.cell? ⟨w.heap.size + 1 + 1, 0, none⟩ = some (.bool false) := hC.c 0; have c1 : w1.cell? ⟨w.heap.size + 1 + 1, 1, none⟩ = some (.slice none 0 0) := hC.c 1; have cf := hC.f; have Hz := hide hz; have Hb1 := hide hb1; clear hA hB hC hz hb1))
 have hbig : w.heap.size + 1 + 1 < (w0).heap.size := (za HC0).lt
 have hfin : Below w.heap.size w w1 := (za HW0).drew.trans ((za Hb1).mono (za HW0).drew.size)
 have hs := (za HC0).drew.below (za Hb1) |>.lt
 have Hfin := hide hfin
 clear hfin
 go_wp2
 refine bodyPost_ret (v := .agg #[.bool n, .slice zp (gr (x - y)).length zc]) (by simp [results, Tryd.results203, go_sem, c0, c1]) rfl ⟨⟨_, rfl, ⟨_, rfl, ?_⟩⟩, ?_⟩
 ·have h0 := za Hz
  have h1 := zB h0 (b := w.heap.size + 1 + 1) (i := 0) (u := .bool n) (by simpa using hbig)
  exact zE (zB h1 (b := w.heap.size + 1 + 1) (i := 1) (by simpa using hbig)) (by simp; omega)
 ·exact ((za Hfin).setCell (by show w.heap.size ≤ w.heap.size + 1 + 1; omega) _).setCell (by show w.heap.size ≤ w.heap.size + 1 + 1; omega) _
theorem Qo (n m : Bool) (v u : Value) (x y : Nat) (w : World) (hnm : n ≠ m) (hl : x < y) (hx : isNat w v x) (hy : isNat w u y) (hsx : (gr x).length ≤ 1000000) (hsy : (gr y).length ≤ 1000000) :
  Calls Tryd.prog 203 #[zC n v, zC m u] w fun e w' => (∃ z, e = .returned z ∧ qi w' w.heap.size z (plusW (n, x) (m, y))) ∧ Below w.heap.size w w' := by
 rw [ki hnm hl]
 have hb : (n == m) = false := by simp [hnm]
 have hd : decide (x < y) = true := decide_eq_true hl
 have hle : x ≤ y := by omega
 obtain ⟨p, cap, rfl⟩ := zd hx
 obtain ⟨q, cap2, rfl⟩ := zd hy
 obtain ⟨lx, hlx⟩ : ∃ l, (gr x).length = l := ⟨_, rfl⟩
 obtain ⟨ly, hly⟩ : ∃ l, (gr y).length = l := ⟨_, rfl⟩
 rw [hlx] at hx
 rw [hly] at hy
 rw [hlx, hly]
 have hW : Below w.heap.size w (((w.alloc (.cells #[.bool n, .slice p lx cap] 88)).alloc (.cells #[.bool m, .slice q ly cap2] 88)).alloc (.cells #[.bool false, .slice none 0 0] 88)) :=
  (((Below.refl _ _).alloc (Nat.le_refl _) _).alloc (by simp) _).alloc (by simp; omega) _
 have Hx0 := hide hx
 have Hy0 := hide hy
 have Hx := hide (zb hx hW)
 have Hy := hide (zb hy hW)
 have HW := hide hW
 have HA := hide (((AtC.new w #[.bool n, .slice p lx cap] 88).alloc (.cells #[.bool m, .slice q ly cap2] 88)).alloc (.cells #[.bool false, .slice none 0 0] 88))
 have HB := hide ((AtC.new (w.alloc (.cells #[.bool n, .slice p lx cap] 88)) #[.bool m, .slice q ly cap2] 88).alloc (.cells #[.bool false, .slice none 0 0] 88))
 have HC := hide (AtC.new ((w.alloc (.cells #[.bool n, .slice p lx cap] 88)).alloc (.cells #[.bool m, .slice q ly cap2] 88)) #[.bool false, .slice none 0 0] 88)
 have Hl := hide (And.intro hlx hly)
 clear hx hy hW hlx hly
 rw [World.size_alloc] at HB
 rw [World.size_alloc, World.size_alloc] at HC
 unfold zC
 clear hnm hl
 go_enter Tryd.func203, Tryd.ntmps203
 go_wp2_with fail
 have h := yJ x y (.slice p lx cap) (.slice q ly cap2) _ (za Hx) (za Hy) (by omega) (by omega)
 refine h.mono ?_
 clear h
 rw [hd]
 rintro e w0 ⟨rfl, hb0⟩
 have hA0 := (za HA).below hb0
 have hB0 := (za HB).below hb0
 have hC0 := (za HC).below hb0
 have HW0 := hide ((za HW).trans (hb0.mono (za HW).size))
 have ca0 := hA0.c 0
 have ca1 := hA0.c 1
 have cb0 := hB0.c 0
 have cb1 := hB0.c 1
 have fa := hA0.f
 have fb := hB0.f
 simp at ca0 ca1 cb0 cb1
 have HA0 := hide ((hA0.put2 (.bool m) (.slice q ly cap2)).far2 (c := w.heap.size + 1) (by omega) (.bool n) (.slice p lx cap) 0 1)
 have HB0 := hide ((hB0.far2 (c := w.heap.size) (by omega) (.bool m) (.slice q ly cap2) 0 1).put2 (.bool n) (.slice p lx cap))
 have HC0 := hide ((hC0.far2 (c := w.heap.size) (by omega) (.bool m) (.slice q ly cap2) 0 1).far2 (c := w.heap.size + 1) (by omega) (.bool n) (.slice p lx cap) 0 1)
 have HW1 := hide (((((za HW0).setCell (p := ⟨w.heap.size, 0, none⟩) (Nat.le_refl _) (.bool m)).setCell (p := ⟨w.heap.size, 1, none⟩) (Nat.le_refl _) (.slice q ly cap2)).setCell (p := ⟨w.heap.size + 1, 0, none⟩) (by show w.heap.size ≤ w.heap.size + 1; omega) (.bool n)).setCell (p := ⟨w.heap.size + 1, 1, none⟩) (by show w.heap.size ≤ w.heap.size + 1; omega) (.slice p lx cap))
 clear hA0 hB0 hC0 hb0
 go_wp2
 clear ca0 ca1 cb0 cb1 fa fb
 generalize (((w0.setCell ⟨w.heap.size, 0, none⟩ (.bool m)).setCell ⟨w.heap.size, 1, none⟩ (.slice q ly cap2)).setCell ⟨w.heap.size + 1, 0, none⟩ (.bool n)).setCell ⟨w.heap.size + 1, 1, none⟩ (.slice p lx cap) = W1 at *
 have ca0 := (za HA0).c 0
 have ca1 := (za HA0).c 1
 have cb0 := (za HB0).c 0
 have cb1 := (za HB0).c 1
 simp at ca0 ca1 cb0 cb1
 go_wp2
 go_region_held3 (fun w' => w'.cell? ⟨w.heap.size, 0, none⟩ = some (.bool m) ∧ w'.cell? ⟨w.heap.size, 1, none⟩ = some (.slice q ly cap2) ∧ w'.cell? ⟨w.heap.size + 1, 0, none⟩ = some (.bool n) ∧ w'.cell? ⟨w.heap.size + 1, 1, none⟩ = some (.slice p lx cap)) (((try dsimp only); (repeat' apply And.intro) <;> (first | assumption | (rw [far2 (by first | (simp; done) | (simp; omega))]; assumption) | go_keep))) (first | (go_at_call 205; refine (xB y x _ _ _ (by exact zb (za Hy0) (za HW1).drew) (by exact zb (za Hx0) (za HW1).drew) hle hsy).mono ?_; rintro e w1 ⟨⟨z, rfl, hz⟩, hb1⟩; obtain ⟨zp, zc, rfl⟩ := zd hz; have hA := (za HA0).drew.below hb1; have hB := (za HB0).drew.below hb1; have hC := (za HC0).drew.below hb1; have a0 := hA.c 0; have a1 := hA.c 1; have b0 := hB.c 0; have b1 := hB.c 1; simp at a0 a1 b0 b1; have c0 : w1.cell? ⟨w.heap.size + 1 + 1, 0, none⟩ = some (.bool false) := hC.c 0; have c1 : w1.cell? ⟨w.heap.size + 1 + 1, 1, none⟩ = some (.slice none 0 0) := hC.c 1; have cf := hC.f; have Hz := hide hz; have Hb1 := hide hb1; clear hA hB hC hz hb1))
 have hbig : w.heap.size + 1 + 1 < (W1).heap.size := (za HC0).lt
 have hfin : Below w.heap.size w w1 := (za HW1).drew.trans ((za Hb1).mono (za HW1).drew.size)
 have hs := (za HC0).drew.below (za Hb1) |>.lt
 have Hfin := hide hfin
 clear hfin
 go_wp2
 refine bodyPost_ret (v := .agg #[.bool m, .slice zp (gr (y - x)).length zc]) (by simp [results, Tryd.results203, go_sem, c0, c1]) rfl ⟨⟨_, rfl, ⟨_, rfl, ?_⟩⟩, ?_⟩
 ·have h0 := za Hz
  have h1 := zB h0 (b := w.heap.size + 1 + 1) (i := 0) (u := .bool m) (by simpa using hbig)
  exact zE (zB h1 (b := w.heap.size + 1 + 1) (i := 1) (by simpa using hbig)) (by simp; omega)
 ·exact ((za Hfin).setCell (by show w.heap.size ≤ w.heap.size + 1 + 1; omega) _).setCell (by show w.heap.size ≤ w.heap.size + 1 + 1; omega) _
theorem xJ (n m : Bool) (v u : Value) (x y : Nat) (w : World) (hx : isNat w v x) (hy : isNat w u y) (hsx : (gr x).length ≤ 1000000) (hsy : (gr y).length ≤ 1000000) :
  Calls Tryd.prog 203 #[zC n v, zC m u] w fun e w' => (∃ z, e = .returned z ∧ qi w' w.heap.size z (plusW (n, x) (m, y))) ∧ Below w.heap.size w w' := by
 by_cases hnm : n = m
 ·exact xe n m v u x y w hnm hx hy hsx hsy
 ·by_cases hl : x < y
  ·exact Qo n m v u x y w hnm hl hx hy hsx hsy
  ·exact Qn n m v u x y w hnm hl hx hy hsx hsy
def fracV (n m : Bool) (v u : Value) : Value := .agg #[.bool n, v, .bool m, u]
theorem qU (W : World) (a b : Value) : (method 231 88 (.agg #[a, b]) "loop.example/sistab/impl.times").run Tryd.prog W = .ok (204, .agg #[a, b]) W := by kernel_rfl
theorem yb (W : World) (a b : Value) : (method 231 88 (.agg #[a, b]) "loop.example/sistab/impl.plus").run Tryd.prog W = .ok (203, .agg #[a, b]) W := by kernel_rfl
theorem yK (W : World) (a b : Value) : (method 231 88 (.agg #[a, b]) "loop.example/sistab/impl.negated").run Tryd.prog W = .ok (202, .agg #[a, b]) W := by kernel_rfl
theorem vr (n1 m1 n2 m2 : Bool) (v1 u1 v2 u2 : Value) (x1 y1 x2 y2 : Nat) (w : World) (hx1 : isNat w v1 x1) (hy1 : isNat w u1 y1) (hx2 : isNat w v2 x2) (hy2 : isNat w u2 y2) (hs1 : (gr x1).length ≤ 1000000) (hs2 : (gr x2).length ≤ 1000000) :
  Calls Tryd.prog 63 #[fracV n1 m1 v1 u1, fracV n2 m2 v2 u2] w fun e w' => (∃ z, e = .returned z ∧ qi w' w.heap.size z (n1 != n2, x1 * x2)) ∧ Below w.heap.size w w' := by
 obtain ⟨p1, e1, rfl⟩ := zd hx1
 obtain ⟨q1, e3, rfl⟩ := zd hy1
 obtain ⟨p2, e2, rfl⟩ := zd hx2
 obtain ⟨q2, e4, rfl⟩ := zd hy2
 have Hx1 := hide hx1
 have Hx2 := hide hx2
 have Hy1 := hide hy1
 have Hy2 := hide hy2
 obtain ⟨lx1, hlx1⟩ : ∃ l, (gr x1).length = l := ⟨_, rfl⟩
 obtain ⟨lx2, hlx2⟩ : ∃ l, (gr x2).length = l := ⟨_, rfl⟩
 obtain ⟨ly1, hly1⟩ : ∃ l, (gr y1).length = l := ⟨_, rfl⟩
 obtain ⟨ly2, hly2⟩ : ∃ l, (gr y2).length = l := ⟨_, rfl⟩
 rw [hlx1] at Hx1
 rw [hlx2] at Hx2
 rw [hly1] at Hy1
 rw [hly2] at Hy2
 rw [hlx1, hlx2, hly1, hly2]
 have Hl := hide (And.intro hlx1 (And.intro hlx2 (And.intro hly1 hly2)))
 have HW := hide ((((Below.refl w.heap.size w).alloc (Nat.le_refl _) (.cells #[.bool n1, .slice p1 lx1 e1, .bool m1, .slice q1 ly1 e3] 128)).alloc (by simp) (.cells #[.bool n2, .slice p2 lx2 e2, .bool m2, .slice q2 ly2 e4] 128)).alloc (by simp; omega) (.cells #[.bool false, .slice none 0 0] 88))
 have HA := hide (((AtC.new w #[.bool n1, .slice p1 lx1 e1, .bool m1, .slice q1 ly1 e3] 128).alloc (.cells #[.bool n2, .slice p2 lx2 e2, .bool m2, .slice q2 ly2 e4] 128)).alloc (.cells #[.bool false, .slice none 0 0] 88))
 have HB := hide ((AtC.new (w.alloc (.cells #[.bool n1, .slice p1 lx1 e1, .bool m1, .slice q1 ly1 e3] 128)) #[.bool n2, .slice p2 lx2 e2, .bool m2, .slice q2 ly2 e4] 128).alloc (.cells #[.bool false, .slice none 0 0] 88))
 have HC := hide (AtC.new ((w.alloc (.cells #[.bool n1, .slice p1 lx1 e1, .bool m1, .slice q1 ly1 e3] 128)).alloc (.cells #[.bool n2, .slice p2 lx2 e2, .bool m2, .slice q2 ly2 e4] 128)) #[.bool false, .slice none 0 0] 88)
 rw [World.size_alloc] at HB
 rw [World.size_alloc, World.size_alloc] at HC
 clear hx1 hx2 hy1 hy2 hlx1 hlx2 hly1 hly2
 unfold fracV
 go_enter Tryd.func63, Tryd.ntmps63
 go_wp2_with fail
 have h := qN n1 n2 (.slice p1 lx1 e1) (.slice p2 lx2 e2) x1 x2 _ (zb (za Hx1) (za HW)) (zb (za Hx2) (za HW)) (by omega) (by omega)
 unfold zC at h
 refine h.mono ?_
 clear h
 rintro e w1 ⟨⟨z, rfl, ⟨zv, rfl, hz⟩⟩, hb1⟩
 obtain ⟨zp, zc, rfl⟩ := zd hz
 have hC := (za HC).below hb1
 have c0 : w1.cell? ⟨w.heap.size + 1 + 1, 0, none⟩ = some (.bool false) := hC.c 0
 have c1 : w1.cell? ⟨w.heap.size + 1 + 1, 1, none⟩ = some (.slice none 0 0) := hC.c 1
 have cf := hC.f
 have hs := hC.lt
 have Hz := hide hz
 have Hfin := hide ((za HW).trans (hb1.mono (za HW).size))
 clear hC hz hb1
 unfold zC
 go_wp2
 refine bodyPost_ret (v := .agg #[.bool (n1 != n2), .slice zp (gr (x1 * x2)).length zc]) (by simp [results, Tryd.results63, go_sem, c0, c1]) rfl ⟨⟨_, rfl, ⟨_, rfl, ?_⟩⟩, ?_⟩
 ·have h0 := za Hz
  have h1 := zB h0 (b := w.heap.size + 1 + 1) (i := 0) (u := .bool (n1 != n2)) (by first | (simp; done) | omega | (simp; omega))
  exact zE (zB h1 (b := w.heap.size + 1 + 1) (i := 1) (by first | omega | (simp; done) | (simp; omega))) (by first | omega | (simp; omega))
 ·exact ((za Hfin).setCell (by show w.heap.size ≤ w.heap.size + 1 + 1; omega) _).setCell (by show w.heap.size ≤ w.heap.size + 1 + 1; omega) _
theorem ks (n1 m1 n2 m2 : Bool) (v1 u1 v2 u2 : Value) (x1 y1 x2 y2 : Nat) (w : World) (hx1 : isNat w v1 x1) (hy1 : isNat w u1 y1) (hx2 : isNat w v2 x2) (hy2 : isNat w u2 y2) (hs1 : (gr x1).length ≤ 1000000) (hs2 : (gr x2).length ≤ 1000000) (ht1 : (gr y1).length ≤ 1000000) (ht2 : (gr y2).length ≤ 1000000)
  (hp1 : (gr (x1 * y2)).length ≤ 1000000) (hp2 : (gr (x2 * y1)).length ≤ 1000000) :
  Calls Tryd.prog 61 #[fracV n1 m1 v1 u1, fracV n2 m2 v2 u2] w fun e w' => (∃ z, e = .returned z ∧ qi w' w.heap.size z (plusW (n1 != m2, x1 * y2) (n2 != m1, x2 * y1))) ∧ Below w.heap.size w w' := by
 have hmt := qU
 have hmp := yb
 obtain ⟨p1, e1, rfl⟩ := zd hx1
 obtain ⟨q1, e3, rfl⟩ := zd hy1
 obtain ⟨p2, e2, rfl⟩ := zd hx2
 obtain ⟨q2, e4, rfl⟩ := zd hy2
 have Hx1 := hide hx1
 have Hx2 := hide hx2
 have Hy1 := hide hy1
 have Hy2 := hide hy2
 obtain ⟨lx1, hlx1⟩ : ∃ l, (gr x1).length = l := ⟨_, rfl⟩
 obtain ⟨lx2, hlx2⟩ : ∃ l, (gr x2).length = l := ⟨_, rfl⟩
 obtain ⟨ly1, hly1⟩ : ∃ l, (gr y1).length = l := ⟨_, rfl⟩
 obtain ⟨ly2, hly2⟩ : ∃ l, (gr y2).length = l := ⟨_, rfl⟩
 rw [hlx1] at Hx1
 rw [hlx2] at Hx2
 rw [hly1] at Hy1
 rw [hly2] at Hy2
 rw [hlx1, hlx2, hly1, hly2]
 have Hl := hide (And.intro hlx1 (And.intro hlx2 (And.intro hly1 hly2)))
 have HW := hide ((((Below.refl w.heap.size w).alloc (Nat.le_refl _) (.cells #[.bool n1, .slice p1 lx1 e1, .bool m1, .slice q1 ly1 e3] 128)).alloc (by simp) (.cells #[.bool n2, .slice p2 lx2 e2, .bool m2, .slice q2 ly2 e4] 128)).alloc (by simp; omega) (.cells #[.bool false, .slice none 0 0] 88))
 have HA := hide (((AtC.new w #[.bool n1, .slice p1 lx1 e1, .bool m1, .slice q1 ly1 e3] 128).alloc (.cells #[.bool n2, .slice p2 lx2 e2, .bool m2, .slice q2 ly2 e4] 128)).alloc (.cells #[.bool false, .slice none 0 0] 88))
 have HB := hide ((AtC.new (w.alloc (.cells #[.bool n1, .slice p1 lx1 e1, .bool m1, .slice q1 ly1 e3] 128)) #[.bool n2, .slice p2 lx2 e2, .bool m2, .slice q2 ly2 e4] 128).alloc (.cells #[.bool false, .slice none 0 0] 88))
 have HC := hide (AtC.new ((w.alloc (.cells #[.bool n1, .slice p1 lx1 e1, .bool m1, .slice q1 ly1 e3] 128)).alloc (.cells #[.bool n2, .slice p2 lx2 e2, .bool m2, .slice q2 ly2 e4] 128)) #[.bool false, .slice none 0 0] 88)
 rw [World.size_alloc] at HB
 rw [World.size_alloc, World.size_alloc] at HC
 clear hx1 hx2 hy1 hy2 hlx1 hlx2 hly1 hly2
 unfold fracV
 go_enter Tryd.func61, Tryd.ntmps61
 go_wp2
 go_region_held3 (fun w' => w'.cell? ⟨w.heap.size, 0, none⟩ = some (.bool n1) ∧ w'.cell? ⟨w.heap.size, 1, none⟩ = some (.slice p1 lx1 e1) ∧ w'.cell? ⟨w.heap.size, 2, none⟩ = some (.bool m1) ∧ w'.cell? ⟨w.heap.size, 3, none⟩ = some (.slice q1 ly1 e3) ∧ w'.cell? ⟨w.heap.size + 1, 0, none⟩ = some (.bool n2) ∧ w'.cell? ⟨w.heap.size + 1, 1, none⟩ = some (.slice p2 lx2 e2) ∧ w'.cell? ⟨w.heap.size + 1, 2, none⟩ = some (.bool m2) ∧ w'.cell? ⟨w.heap.size + 1, 3, none⟩ = some (.slice q2 ly2 e4)) (((try dsimp only); (repeat' apply And.intro) <;> (first | assumption | (rw [far2 (by first | (simp; done) | (simp; omega))]; assumption) | go_keep))) (first | (go_at_call_of 204 p1; refine (qN n1 m2 (.slice p1 lx1 e1) (.slice q2 ly2 e4) x1 y2 _ (by exact zb (za Hx1) (za HW).drew) (by exact zb (za Hy2) (za HW).drew) (by omega) (by omega)).mono ?_; rintro e w1 ⟨⟨z, rfl, ⟨zv, rfl, hz⟩⟩, hb1⟩; obtain ⟨zp1, zc1, rfl⟩ := zd hz; have hA1 := ((za HA).drew).below hb1; have hB1 := ((za HB).drew).below hb1; have hC1 := ((za HC).drew).below hb1; have a10 : w1.cell? ⟨w.heap.size, 0, none⟩ = some (.bool n1) := hA1.c 0; have a11 : w1.cell? ⟨w.heap.size, 1, none⟩ = some (.slice p1 lx1 e1) := hA1.c 1; have a12 : w1.cell? ⟨w.heap.size, 2, none⟩ = some (.bool m1) := hA1.c 2; have a13 : w1.cell? ⟨w.heap.size, 3, none⟩ = some (.slice q1 ly1 e3) := hA1.c 3; have b10 : w1.cell? ⟨w.heap.size + 1, 0, none⟩ = some (.bool n2) := hB1.c 0; have b11 : w1.cell? ⟨w.heap.size + 1, 1, none⟩ = some (.slice p2 lx2 e2) := hB1.c 1; have b12 : w1.cell? ⟨w.heap.size + 1, 2, none⟩ = some (.bool m2) := hB1.c 2; have b13 : w1.cell? ⟨w.heap.size + 1, 3, none⟩ = some (.slice q2 ly2 e4) := hB1.c 3; have HA1 := hide hA1; have HB1 := hide hB1; have HC1 := hide hC1; have Hz1 := hide hz.nat; have HW1 := hide ((za HW).drew.trans (hb1.mono (za HW).drew.size)); clear hA1 hB1 hC1 hz hb1; unfold zC) | (go_at_call_of 204 p2; refine (qN n2 m1 (.slice p2 lx2 e2) (.slice q1 ly1 e3) x2 y1 _ (by exact zb (za Hx2) (za HW1)) (by exact zb (za Hy1) (za HW1)) (by omega) (by omega)).mono ?_; rintro e w2 ⟨⟨z, rfl, ⟨zv, rfl, hz⟩⟩, hb2⟩; obtain ⟨zp2, zc2, rfl⟩ := zd hz; have hA2 := (za HA1).below hb2; have hB2 := (za HB1).below hb2; have hC2 := (za HC1).below hb2; have a20 : w2.cell? ⟨w.heap.size, 0, none⟩ = some (.bool n1) := hA2.c 0; have a21 : w2.cell? ⟨w.heap.size, 1, none⟩ = some (.slice p1 lx1 e1) := hA2.c 1; have a22 : w2.cell? ⟨w.heap.size, 2, none⟩ = some (.bool m1) := hA2.c 2; have a23 : w2.cell? ⟨w.heap.size, 3, none⟩ = some (.slice q1 ly1 e3) := hA2.c 3; have b20 : w2.cell? ⟨w.heap.size + 1, 0, none⟩ = some (.bool n2) := hB2.c 0; have b21 : w2.cell? ⟨w.heap.size + 1, 1, none⟩ = some (.slice p2 lx2 e2) := hB2.c 1; have b22 : w2.cell? ⟨w.heap.size + 1, 2, none⟩ = some (.bool m2) := hB2.c 2; have b23 : w2.cell? ⟨w.heap.size + 1, 3, none⟩ = some (.slice q2 ly2 e4) := hB2.c 3; have HA2 := hide hA2; have HB2 := hide hB2; have HC2 := hide hC2; have Hz1' := hide (zb (za Hz1) hb2); have Hz2 := hide hz.nat; have HW2 := hide ((za HW1).trans (hb2.mono (za HW1).size)); clear hA2 hB2 hC2 hz hb2; unfold zC) | (go_at_call 203; refine (xJ (n1 != m2) (n2 != m1) (.slice zp1 (gr (x1 * y2)).length zc1) (.slice zp2 (gr (x2 * y1)).length zc2) (x1 * y2) (x2 * y1) _ (by exact za Hz1') (by exact za Hz2) (by omega) (by omega)).mono ?_; rintro e w3 ⟨⟨z, rfl, ⟨zv, rfl, hz⟩⟩, hb3⟩; obtain ⟨zp, zc, rfl⟩ := zd hz; have hA3 := (za HA2).below hb3; have hB3 := (za HB2).below hb3; have hC3 := (za HC2).below hb3; have a30 : w3.cell? ⟨w.heap.size, 0, none⟩ = some (.bool n1) := hA3.c 0; have a31 : w3.cell? ⟨w.heap.size, 1, none⟩ = some (.slice p1 lx1 e1) := hA3.c 1; have a32 : w3.cell? ⟨w.heap.size, 2, none⟩ = some (.bool m1) := hA3.c 2; have a33 : w3.cell? ⟨w.heap.size, 3, none⟩ = some (.slice q1 ly1 e3) := hA3.c 3; have b30 : w3.cell? ⟨w.heap.size + 1, 0, none⟩ = some (.bool n2) := hB3.c 0; have b31 : w3.cell? ⟨w.heap.size + 1, 1, none⟩ = some (.slice p2 lx2 e2) := hB3.c 1; have b32 : w3.cell? ⟨w.heap.size + 1, 2, none⟩ = some (.bool m2) := hB3.c 2; have b33 : w3.cell? ⟨w.heap.size + 1, 3, none⟩ = some (.slice q2 ly2 e4) := hB3.c 3; have HA3 := hide hA3; have HB3 := hide hB3; have HC3 := hide hC3; have c0 : w3.cell? ⟨w.heap.size + 1 + 1, 0, none⟩ = some (.bool false) := hC3.c 0; have c1 : w3.cell? ⟨w.heap.size + 1 + 1, 1, none⟩ = some (.slice none 0 0) := hC3.c 1; have cf := hC3.f; have hs := hC3.lt; have hs2 := (za HC2).lt; have Hz := hide hz; have Hfin := hide ((za HW2).trans (hb3.mono (za HW2).size)); clear hA3 hB3 hC3 hz hb3; unfold zC))
 go_wp2
 refine bodyPost_ret (v := .agg #[.bool (plusW (n1 != m2, x1 * y2) (n2 != m1, x2 * y1)).1, .slice zp (gr (plusW (n1 != m2, x1 * y2) (n2 != m1, x2 * y1)).2).length zc]) (by simp [results, Tryd.results61, go_sem, c0, c1]) rfl ⟨⟨_, rfl, ⟨_, rfl, ?_⟩⟩, ?_⟩
 ·have h0 := za Hz
  have h1 := zB h0 (b := w.heap.size + 1 + 1) (i := 0) (u := .bool (plusW (n1 != m2, x1 * y2) (n2 != m1, x2 * y1)).1) (by first | (simp; done) | omega | (simp; omega))
  exact zE (zB h1 (b := w.heap.size + 1 + 1) (i := 1) (by first | omega | (simp; done) | (simp; omega))) (by first | omega | (simp; omega))
 ·exact ((za Hfin).setCell (by show w.heap.size ≤ w.heap.size + 1 + 1; omega) _).setCell (by show w.heap.size ≤ w.heap.size + 1 + 1; omega) _
theorem yS (n1 m1 n2 m2 : Bool) (v1 u1 v2 u2 : Value) (x1 y1 x2 y2 : Nat) (w : World) (hx1 : isNat w v1 x1) (hy1 : isNat w u1 y1) (hx2 : isNat w v2 x2) (hy2 : isNat w u2 y2) (hs1 : (gr x1).length ≤ 1000000) (hs2 : (gr x2).length ≤ 1000000) (ht1 : (gr y1).length ≤ 1000000) (ht2 : (gr y2).length ≤ 1000000)
  (hp1 : (gr (x1 * y2)).length ≤ 1000000) (hp2 : (gr (x2 * y1)).length ≤ 1000000) :
  Calls Tryd.prog 66 #[fracV n1 m1 v1 u1, fracV n2 m2 v2 u2] w fun e w' => (∃ z, e = .returned z ∧ qi w' w.heap.size z (plusW (n1 != m2, x1 * y2) (!(n2 != m1), x2 * y1))) ∧ Below w.heap.size w w' := by
 have hmt := qU
 have hmp := yb
 have hmn := yK
 obtain ⟨p1, e1, rfl⟩ := zd hx1
 obtain ⟨q1, e3, rfl⟩ := zd hy1
 obtain ⟨p2, e2, rfl⟩ := zd hx2
 obtain ⟨q2, e4, rfl⟩ := zd hy2
 have Hx1 := hide hx1
 have Hx2 := hide hx2
 have Hy1 := hide hy1
 have Hy2 := hide hy2
 obtain ⟨lx1, hlx1⟩ : ∃ l, (gr x1).length = l := ⟨_, rfl⟩
 obtain ⟨lx2, hlx2⟩ : ∃ l, (gr x2).length = l := ⟨_, rfl⟩
 obtain ⟨ly1, hly1⟩ : ∃ l, (gr y1).length = l := ⟨_, rfl⟩
 obtain ⟨ly2, hly2⟩ : ∃ l, (gr y2).length = l := ⟨_, rfl⟩
 rw [hlx1] at Hx1
 rw [hlx2] at Hx2
 rw [hly1] at Hy1
 rw [hly2] at Hy2
 rw [hlx1, hlx2, hly1, hly2]
 have Hl := hide (And.intro hlx1 (And.intro hlx2 (And.intro hly1 hly2)))
 have HW := hide ((((Below.refl w.heap.size w).alloc (Nat.le_refl _) (.cells #[.bool n1, .slice p1 lx1 e1, .bool m1, .slice q1 ly1 e3] 128)).alloc (by simp) (.cells #[.bool n2, .slice p2 lx2 e2, .bool m2, .slice q2 ly2 e4] 128)).alloc (by simp; omega) (.cells #[.bool false, .slice none 0 0] 88))
 have HA := hide (((AtC.new w #[.bool n1, .slice p1 lx1 e1, .bool m1, .slice q1 ly1 e3] 128).alloc (.cells #[.bool n2, .slice p2 lx2 e2, .bool m2, .slice q2 ly2 e4] 128)).alloc (.cells #[.bool false, .slice none 0 0] 88))
 have HB := hide ((AtC.new (w.alloc (.cells #[.bool n1, .slice p1 lx1 e1, .bool m1, .slice q1 ly1 e3] 128)) #[.bool n2, .slice p2 lx2 e2, .bool m2, .slice q2 ly2 e4] 128).alloc (.cells #[.bool false, .slice none 0 0] 88))
 have HC := hide (AtC.new ((w.alloc (.cells #[.bool n1, .slice p1 lx1 e1, .bool m1, .slice q1 ly1 e3] 128)).alloc (.cells #[.bool n2, .slice p2 lx2 e2, .bool m2, .slice q2 ly2 e4] 128)) #[.bool false, .slice none 0 0] 88)
 rw [World.size_alloc] at HB
 rw [World.size_alloc, World.size_alloc] at HC
 clear hx1 hx2 hy1 hy2 hlx1 hlx2 hly1 hly2
 unfold fracV
 go_enter Tryd.func66, Tryd.ntmps66
 go_wp2
 go_region_held3 (fun w' => w'.cell? ⟨w.heap.size, 0, none⟩ = some (.bool n1) ∧ w'.cell? ⟨w.heap.size, 1, none⟩ = some (.slice p1 lx1 e1) ∧ w'.cell? ⟨w.heap.size, 2, none⟩ = some (.bool m1) ∧ w'.cell? ⟨w.heap.size, 3, none⟩ = some (.slice q1 ly1 e3) ∧ w'.cell? ⟨w.heap.size + 1, 0, none⟩ = some (.bool n2) ∧ w'.cell? ⟨w.heap.size + 1, 1, none⟩ = some (.slice p2 lx2 e2) ∧ w'.cell? ⟨w.heap.size + 1, 2, none⟩ = some (.bool m2) ∧ w'.cell? ⟨w.heap.size + 1, 3, none⟩ = some (.slice q2 ly2 e4)) (((try dsimp only); (repeat' apply And.intro) <;> (first | assumption | (rw [far2 (by first | (simp; done) | (simp; omega))]; assumption) | go_keep))) (first | (go_at_call_of 204 p1; refine (qN n1 m2 (.slice p1 lx1 e1) (.slice q2 ly2 e4) x1 y2 _ (by exact zb (za Hx1) (za HW).drew) (by exact zb (za Hy2) (za HW).drew) (by omega) (by omega)).mono ?_; rintro e w1 ⟨⟨z, rfl, ⟨zv, rfl, hz⟩⟩, hb1⟩; obtain ⟨zp1, zc1, rfl⟩ := zd hz; have hA1 := ((za HA).drew).below hb1; have hB1 := ((za HB).drew).below hb1; have hC1 := ((za HC).drew).below hb1; have a10 : w1.cell? ⟨w.heap.size, 0, none⟩ = some (.bool n1) := hA1.c 0; have a11 : w1.cell? ⟨w.heap.size, 1, none⟩ = some (.slice p1 lx1 e1) := hA1.c 1; have a12 : w1.cell? ⟨w.heap.size, 2, none⟩ = some (.bool m1) := hA1.c 2; have a13 : w1.cell? ⟨w.heap.size, 3, none⟩ = some (.slice q1 ly1 e3) := hA1.c 3; have b10 : w1.cell? ⟨w.heap.size + 1, 0, none⟩ = some (.bool n2) := hB1.c 0; have b11 : w1.cell? ⟨w.heap.size + 1, 1, none⟩ = some (.slice p2 lx2 e2) := hB1.c 1; have b12 : w1.cell? ⟨w.heap.size + 1, 2, none⟩ = some (.bool m2) := hB1.c 2; have b13 : w1.cell? ⟨w.heap.size + 1, 3, none⟩ = some (.slice q2 ly2 e4) := hB1.c 3; have HA1 := hide hA1; have HB1 := hide hB1; have HC1 := hide hC1; have Hz1 := hide hz.nat; have HW1 := hide ((za HW).drew.trans (hb1.mono (za HW).drew.size)); clear hA1 hB1 hC1 hz hb1; unfold zC) | (go_at_call_of 204 p2; refine (qN n2 m1 (.slice p2 lx2 e2) (.slice q1 ly1 e3) x2 y1 _ (by exact zb (za Hx2) (za HW1)) (by exact zb (za Hy1) (za HW1)) (by omega) (by omega)).mono ?_; rintro e w2 ⟨⟨z, rfl, ⟨zv, rfl, hz⟩⟩, hb2⟩; obtain ⟨zp2, zc2, rfl⟩ := zd hz; have hA2 := (za HA1).below hb2; have hB2 := (za HB1).below hb2; have hC2 := (za HC1).below hb2; have a20 : w2.cell? ⟨w.heap.size, 0, none⟩ = some (.bool n1) := hA2.c 0; have a21 : w2.cell? ⟨w.heap.size, 1, none⟩ = some (.slice p1 lx1 e1) := hA2.c 1; have a22 : w2.cell? ⟨w.heap.size, 2, none⟩ = some (.bool m1) := hA2.c 2; have a23 : w2.cell? ⟨w.heap.size, 3, none⟩ = some (.slice q1 ly1 e3) := hA2.c 3; have b20 : w2.cell? ⟨w.heap.size + 1, 0, none⟩ = some (.bool n2) := hB2.c 0; have b21 : w2.cell? ⟨w.heap.size + 1, 1, none⟩ = some (.slice p2 lx2 e2) := hB2.c 1; have b22 : w2.cell? ⟨w.heap.size + 1, 2, none⟩ = some (.bool m2) := hB2.c 2; have b23 : w2.cell? ⟨w.heap.size + 1, 3, none⟩ = some (.slice q2 ly2 e4) := hB2.c 3; have HA2 := hide hA2; have HB2 := hide hB2; have HC2 := hide hC2; have Hz1' := hide (zb (za Hz1) hb2); have Hz2 := hide hz.nat; have HW2 := hide ((za HW1).trans (hb2.mono (za HW1).size)); clear hA2 hB2 hC2 hz hb2; unfold zC) | (go_at_call 202; refine (Q4 (n2 != m1) (.slice zp2 (gr (x2 * y1)).length zc2) (x2 * y1) _ (by exact za Hz2)).mono ?_; rintro e w4 ⟨⟨z, rfl, ⟨zv, rfl, hz⟩⟩, hb4⟩; obtain ⟨zp4, zc4, rfl⟩ := zd hz; have hA4 := (za HA2).below hb4; have hB4 := (za HB2).below hb4; have hC4 := (za HC2).below hb4; have a40 : w4.cell? ⟨w.heap.size, 0, none⟩ = some (.bool n1) := hA4.c 0; have a41 : w4.cell? ⟨w.heap.size, 1, none⟩ = some (.slice p1 lx1 e1) := hA4.c 1; have a42 : w4.cell? ⟨w.heap.size, 2, none⟩ = some (.bool m1) := hA4.c 2; have a43 : w4.cell? ⟨w.heap.size, 3, none⟩ = some (.slice q1 ly1 e3) := hA4.c 3; have b40 : w4.cell? ⟨w.heap.size + 1, 0, none⟩ = some (.bool n2) := hB4.c 0; have b41 : w4.cell? ⟨w.heap.size + 1, 1, none⟩ = some (.slice p2 lx2 e2) := hB4.c 1; have b42 : w4.cell? ⟨w.heap.size + 1, 2, none⟩ = some (.bool m2) := hB4.c 2; have b43 : w4.cell? ⟨w.heap.size + 1, 3, none⟩ = some (.slice q2 ly2 e4) := hB4.c 3; have HA4 := hide hA4; have HB4 := hide hB4; have HC4 := hide hC4; have Hz1n := hide (zb (za Hz1') hb4); have Hz4 := hide hz; have HW4 := hide ((za HW2).trans (hb4.mono (za HW2).size)); clear hA4 hB4 hC4 hz hb4; unfold zC) | (go_at_call 203; refine (xJ (n1 != m2) (!(n2 != m1)) (.slice zp1 (gr (x1 * y2)).length zc1) (.slice zp4 (gr (x2 * y1)).length zc4) (x1 * y2) (x2 * y1) _ (by exact za Hz1n) (by exact za Hz4) (by omega) (by omega)).mono ?_; rintro e w3 ⟨⟨z, rfl, ⟨zv, rfl, hz⟩⟩, hb3⟩; obtain ⟨zp, zc, rfl⟩ := zd hz; have hA3 := (za HA4).below hb3; have hB3 := (za HB4).below hb3; have hC3 := (za HC4).below hb3; have a30 : w3.cell? ⟨w.heap.size, 0, none⟩ = some (.bool n1) := hA3.c 0; have a31 : w3.cell? ⟨w.heap.size, 1, none⟩ = some (.slice p1 lx1 e1) := hA3.c 1; have a32 : w3.cell? ⟨w.heap.size, 2, none⟩ = some (.bool m1) := hA3.c 2; have a33 : w3.cell? ⟨w.heap.size, 3, none⟩ = some (.slice q1 ly1 e3) := hA3.c 3; have b30 : w3.cell? ⟨w.heap.size + 1, 0, none⟩ = some (.bool n2) := hB3.c 0; have b31 : w3.cell? ⟨w.heap.size + 1, 1, none⟩ = some (.slice p2 lx2 e2) := hB3.c 1; have b32 : w3.cell? ⟨w.heap.size + 1, 2, none⟩ = some (.bool m2) := hB3.c 2; have b33 : w3.cell? ⟨w.heap.size + 1, 3, none⟩ = some (.slice q2 ly2 e4) := hB3.c 3; have HA3 := hide hA3; have HB3 := hide hB3; have HC3 := hide hC3; have c0 : w3.cell? ⟨w.heap.size + 1 + 1, 0, none⟩ = some (.bool false) := hC3.c 0; have c1 : w3.cell? ⟨w.heap.size + 1 + 1, 1, none⟩ = some (.slice none 0 0) := hC3.c 1; have cf := hC3.f; have hs := hC3.lt; have hs2 := (za HC4).lt; have Hz := hide hz; have Hfin := hide ((za HW4).trans (hb3.mono (za HW4).size)); clear hA3 hB3 hC3 hz hb3; unfold zC))
 go_wp2
 refine bodyPost_ret (v := .agg #[.bool (plusW (n1 != m2, x1 * y2) (!(n2 != m1), x2 * y1)).1, .slice zp (gr (plusW (n1 != m2, x1 * y2) (!(n2 != m1), x2 * y1)).2).length zc]) (by simp [results, Tryd.results66, go_sem, c0, c1]) rfl ⟨⟨_, rfl, ⟨_, rfl, ?_⟩⟩, ?_⟩
 ·have h0 := za Hz
  have h1 := zB h0 (b := w.heap.size + 1 + 1) (i := 0) (u := .bool (plusW (n1 != m2, x1 * y2) (!(n2 != m1), x2 * y1)).1) (by first | (simp; done) | omega | (simp; omega))
  exact zE (zB h1 (b := w.heap.size + 1 + 1) (i := 1) (by first | omega | (simp; done) | (simp; omega))) (by first | omega | (simp; omega))
 ·exact ((za Hfin).setCell (by show w.heap.size ≤ w.heap.size + 1 + 1; omega) _).setCell (by show w.heap.size ≤ w.heap.size + 1 + 1; omega) _
def win (L : List Nat) (i k : Nat) : Nat := ofd 1000000000 ((L.drop i).take k)
theorem kr (L : List Nat) (i : Nat) : win L i 0 = 0 := by simp [win, ofd]
theorem qY (L : List Nat) (i k : Nat) (h : i + k < L.length) : win L i (k + 1) = win L i k + 1000000000 ^ k * L[i + k] := by
 unfold win
 have hl : (L.drop i).length = L.length - i := List.length_drop
 rw [List.take_succ_eq_append_getElem (by omega), zG, List.length_take, Nat.min_eq_left (by omega), List.getElem_drop]
theorem QR (L : List Nat) (i k j d : Nat) (h : i + k ≤ j) : win (L.set j d) i k = win L i k := by
 unfold win
 congr 1
 apply List.ext_getElem
 ·simp
 ·intro t h1 h2
  simp only [List.getElem_take, List.getElem_drop]
  rw [List.getElem_set_ne]
  simp only [List.length_take, List.length_drop] at h2
  omega
theorem jm (L : List Nat) (i k d : Nat) (h : i + k < L.length) : win (L.set (i + k) d) i (k + 1) = win L i k + 1000000000 ^ k * d := by
 rw [qY _ _ _ (by simpa using h), QR _ _ _ _ _ (Nat.le_refl _), List.getElem_set_self]
theorem q6 {w a b : World} {g : Nat} (h : w.grownBy a (some g)) (k : a.grownBy b (some g)) : w.grownBy b (some g) :=
 ⟨k.os.trans h.os, k.tape.trans h.tape, k.output.trans h.output, Nat.le_trans h.size k.size, fun j hj hne => (k.block j (Nat.lt_of_lt_of_le hj h.size) hne).trans (h.block j hj hne)⟩
theorem qG {w wr : World} {base e g N cap : Nat} {L : List Nat} (hown : wr.ownsRow base e 1 (.slice (some ⟨g, 0, none⟩) N cap) N (u64s L)) (hgr : w.grownBy wr (some g)) (j d : Nat) (v : Int) (hv : v = (d : Int)) :
  (wr.setCell ⟨g, j, none⟩ (.int .u64 v)).ownsRow base e 1 (.slice (some ⟨g, 0, none⟩) N cap) N (u64s (L.set j d)) ∧ w.grownBy (wr.setCell ⟨g, j, none⟩ (.int .u64 v)) (some g) := by
 have h := hown.stored j (.int .u64 v)
 rw [qj _ _ d _ hv] at h
 exact ⟨h.1, q6 hgr h.2⟩
def zO (L L' : List Nat) (i k : Nat) : Prop := L'.length = L.length ∧ (∀ d ∈ L', d < 1000000000) ∧ ∀ t (h : t < L.length) (h' : t < L'.length), t < i ∨ i + k ≤ t → L'[t] = L[t]
theorem jU {L : List Nat} (h : ∀ d ∈ L, d < 1000000000) (i k : Nat) : zO L L i k := ⟨rfl, h, fun _ _ _ _ => rfl⟩
theorem qa {L L' : List Nat} {i k d : Nat} (h : zO L L' i k) (hd : d < 1000000000) : zO L (L'.set (i + k) d) i (k + 1) := by
 refine ⟨by simpa using h.1, zX h.2.1 hd, ?_⟩
 intro t h1 h2 ht
 rw [List.getElem_set_ne (by omega)]
 exact h.2.2 t h1 (by simpa using h2) (by omega)
theorem yO {X Y V q o o' y x d : Nat} {j : Nat} (h : X + q * Y = V + o * 1000000000 ^ j) (he : d + (o + y * q) = x + o' * 1000000000) :
  X + 1000000000 ^ j * d + q * (Y + 1000000000 ^ j * y) = V + 1000000000 ^ j * x + o' * 1000000000 ^ (j + 1) := by
 rw [Nat.pow_succ]
 generalize 1000000000 ^ j = p at *
 have h2 := congrArg (p * ·) he
 simp only [Nat.mul_add] at h2
 rw [Nat.mul_add, show q * (p * y) = p * (y * q) from by rw [Nat.mul_left_comm, Nat.mul_comm q y], show o' * (p * 1000000000) = p * (o' * 1000000000) from by rw [Nat.mul_left_comm]]
 rw [Nat.mul_comm o p] at h
 omega
theorem kn {y q o : Nat} (hy : y < 1000000000) (hq : q < 1000000000) (ho : o < 1000000000) : o + y * q ≤ 999999999 * 1000000000 := by
 have : y * q ≤ 999999999 * 999999999 := Nat.mul_le_mul (by omega) (by omega)
 omega
theorem yo (L ys : List Nat) (g gb i m N cap capb q base : Nat) (w : World) (hm : ys.length = m) (hNl : L.length = N) (hN : N ≤ 2000000) (hi : i + m + 1 ≤ N) (hcap : m + 1 ≤ cap)
  (hL : w.ownsRow base 80 1 (.slice (some ⟨g, 0, none⟩) N N) N (u64s L)) (hY : w.ownsRow 0 80 1 (.slice (some ⟨gb, 0, none⟩) m capb) m (u64s ys)) (hgg : gb ≠ g)
  (hLd : ∀ d ∈ L, d < 1000000000) (hYd : ∀ d ∈ ys, d < 1000000000) (hq : q < 1000000000) :
  Calls Tryd.prog 134 #[.slice (some ⟨g, i, none⟩) (m + 1) cap, .slice (some ⟨gb, 0, none⟩) m capb, .int .u64 q] w fun e w' =>
   ∃ (neg : Bool) (L' : List Nat), e = .returned (.bool neg) ∧ w'.ownsRow base 80 1 (.slice (some ⟨g, 0, none⟩) N N) N (u64s L') ∧ w.grownBy w' (some g) ∧ zO L L' i (m + 1) ∧
    win L' i (m + 1) + q * ofd 1000000000 ys = win L i (m + 1) + (if neg then 1000000000 ^ (m + 1) else 0) := by
 have HLd := hide hLd
 have HYd := hide hYd
 have HL := hide hL
 have HY := hide hY
 clear hLd hYd hL hY
 go_enter Tryd.func134, Tryd.ntmps134
 go_wp2
 go_loopw [7, 13] (fun ow j wr => ∃ (k o : Nat) (L' : List Nat), k ≤ m ∧ ow = .int .u64 o ∧ o < 1000000000 ∧ j = .int .i64 k ∧ wr.ownsRow base 80 1 (.slice (some ⟨g, 0, none⟩) N N) N (u64s L') ∧ w.grownBy wr (some g) ∧
   Hid (zO L L' i k) ∧ Hid (win L' i k + q * ofd 1000000000 (ys.take k) = win L i k + o * 1000000000 ^ k))
  (fun _ j _ => m - (intOf j).toNat)
 case atStart =>
  exact ⟨0, 0, L, Nat.zero_le _, rfl, by omega, rfl, za HL, World.grownBy.refl _ _, hide (jU (za HLd) _ _), hide (by simp [kr, ofd])⟩
 case round =>
  obtain ⟨k, o, L', hk, rfl, ho, rfl, hown, hgr, hso, hval⟩ := hrel
  by_cases hlt : k < m
  ·have hL'l : L'.length = N := (za hso).1.trans hNl
   have hcy := (za HY).kept hgr (.inr (by simp [Value.ownBlock]; omega))
   have hcy := hcy.cellAt k (by omega)
   rw [zh _ _ (by omega)] at hcy
   have hcx := hown.cellAt (i + k) (by omega)
   rw [zh _ _ (by omega)] at hcx
   have hfr := hown.frozenAt (i + k)
   have hy9 : ys[k]'(by omega) < 1000000000 := za HYd _ (List.getElem_mem _)
   have hx9 : L'[i + k]'(by omega) < 1000000000 := (za hso).2.1 _ (List.getElem_mem _)
   have hxL : L[i + k]'(by omega) = L'[i + k]'(by omega) := ((za hso).2.2 (i + k) (by omega) (by omega) (.inr (Nat.le_refl _))).symm
   have hwin := qY L i k (by omega)
   have hofd : ofd 1000000000 (ys.take (k + 1)) = ofd 1000000000 (ys.take k) + 1000000000 ^ k * ys[k]'(by omega) := by
    rw [List.take_succ_eq_append_getElem (by omega), zG, List.length_take, Nat.min_eq_left (by omega)]
   rw [hxL] at hwin
   generalize ys[k]'(by omega) = y at *
   generalize L'[i + k]'(by omega) = x at *
   have hfit := kn hy9 hq ho
   have Hwin := hide hwin
   have Hofd := hide hofd
   have hstep := fun d o' => @yO (win L' i k) (ofd 1000000000 (ys.take k)) (win L i k) q o o' y x d k (za hval)
   generalize hpp : y * q = pp at *
   have hppI : (y : Int) * q = pp := by rw [← hpp]; simp
   have Hstep := hide hstep
   clear hwin hofd hstep hxL hpp
   obtain ⟨t, ht⟩ : ∃ d : Nat, ((o : Int) + pp) % 1000000000 = d := ⟨(o + pp) % 1000000000, by omega⟩
   obtain ⟨c, hc⟩ : ∃ d : Nat, ((o : Int) + pp) / 1000000000 = d := ⟨(o + pp) / 1000000000, by omega⟩
   have hkI : (k : Int) < (m : Int) + 1 := by omega
   have hkI2 : (k : Int) < (m : Int) := by omega
   by_cases hbr : (x : Int) < t
   ·obtain ⟨d, hd⟩ : ∃ d : Nat, (x : Int) + 1000000000 - t = d := ⟨x + 1000000000 - t, by omega⟩
    have hst1 := qG hown hgr (i + k) (x + 1000000000) ((x : Int) + 1000000000) (by simp)
    have hst2 := qG hst1.1 hst1.2 (i + k) d ((x : Int) + 1000000000 - t) hd
    rw [List.set_set] at hst2
    have Hst := hide hst2
    have HD := hide hd
    clear hst1 hst2 hd
    go_wp2
    go_roundw
    case rel =>
     refine ⟨k + 1, c + 1, L'.set (i + k) d, by omega, rfl, by omega, by go_num, (za Hst).1, (za Hst).2, hide (qa (za hso) (by have := za HD; omega)), ?_⟩
     show _ = _
     rw [jm _ _ _ _ (by omega), za Hofd, za Hwin]
     exact za Hstep d (c + 1) (by have := za HD; omega)
    case measure => simp [intOf]; omega
   ·obtain ⟨d, hd⟩ : ∃ d : Nat, (x : Int) - t = d := ⟨x - t, by omega⟩
    have hst2 := qG hown hgr (i + k) d ((x : Int) - t) hd
    have Hst := hide hst2
    have HD := hide hd
    clear hst2 hd
    go_wp2
    go_roundw
    case rel =>
     refine ⟨k + 1, c, L'.set (i + k) d, by omega, by rw [hc], by omega, by go_num, (za Hst).1, (za Hst).2, hide (qa (za hso) (by have := za HD; omega)), ?_⟩
     show _ = _
     rw [jm _ _ _ _ (by omega), za Hofd, za Hwin]
     exact za Hstep d c (by have := za HD; omega)
    case measure => simp [intOf]; omega
  ·have hkm : k = m := by omega
   subst hkm
   have hL'l : L'.length = N := (za hso).1.trans hNl
   have hcx := hown.cellAt (i + k) (by omega)
   rw [zh _ _ (by omega)] at hcx
   have hfr := hown.frozenAt (i + k)
   have hx9 : L'[i + k]'(by omega) < 1000000000 := (za hso).2.1 _ (List.getElem_mem _)
   have hxL : L[i + k]'(by omega) = L'[i + k]'(by omega) := ((za hso).2.2 (i + k) (by omega) (by omega) (.inr (Nat.le_refl _))).symm
   have hwin := qY L i k (by omega)
   rw [hxL] at hwin
   generalize L'[i + k]'(by omega) = x at *
   have Hwin := hide hwin
   have hval' := za hval
   rw [← hm, List.take_length, hm] at hval'
   have Hval := hide hval'
   clear hwin hxL hval'
   have hkI : (k : Int) < (k : Int) + 1 := by omega
   by_cases hge : o ≤ x
   ·obtain ⟨d, hd⟩ : ∃ d : Nat, (x : Int) - o = d := ⟨x - o, by omega⟩
    have hst2 := qG hown hgr (i + k) d ((x : Int) - o) hd
    have Hst := hide hst2
    have HD := hide hd
    clear hst2 hd
    go_wp2
    go_ret
    refine ⟨false, L'.set (i + k) d, rfl, (za Hst).1, (za Hst).2, qa (za hso) (by have := za HD; omega), ?_⟩
    rw [jm _ _ _ _ (by omega), za Hwin]
    have h1 := za Hval
    have h2 : x = d + o := by have := za HD; omega
    rw [h2, Nat.mul_add]
    rw [Nat.mul_comm o] at h1
    simp only [Bool.false_eq_true, if_false]
    omega
   ·obtain ⟨d, hd⟩ : ∃ d : Nat, (x : Int) + (1000000000 - o) = d := ⟨x + (1000000000 - o), by omega⟩
    have hst2 := qG hown hgr (i + k) d ((x : Int) + (1000000000 - o)) hd
    have Hst := hide hst2
    have HD := hide hd
    clear hst2 hd
    go_wp2
    go_ret
    refine ⟨true, L'.set (i + k) d, rfl, (za Hst).1, (za Hst).2, qa (za hso) (by have := za HD; omega), ?_⟩
    rw [jm _ _ _ _ (by omega), za Hwin]
    have h1 := za Hval
    have h2 : d + o = x + 1000000000 := by have := za HD; omega
    have h3 := congrArg (1000000000 ^ k * ·) h2
    simp only [Nat.mul_add] at h3
    rw [Nat.mul_comm o] at h1
    rw [Nat.pow_succ]
    simp only [if_true]
    omega
theorem yL {X Y V c c' y x d : Nat} {j : Nat} (h : X + c * 1000000000 ^ j = V + Y) (he : d + 1000000000 * c' = c + (x + y)) :
  X + 1000000000 ^ j * d + c' * 1000000000 ^ (j + 1) = V + 1000000000 ^ j * x + (Y + 1000000000 ^ j * y) := by
 rw [Nat.pow_succ]
 generalize 1000000000 ^ j = p at *
 have h2 := congrArg (p * ·) he
 simp only [Nat.mul_add] at h2
 rw [show c' * (p * 1000000000) = p * (1000000000 * c') from by rw [Nat.mul_left_comm, Nat.mul_comm c']]
 rw [Nat.mul_comm c p] at h
 omega
theorem yf {w : World} {base : Nat} {e : TypeId} {size : Nat} {v : Value} {n : Nat} {xs : List Value} (h : w.ownsRow base e size v n xs) (k : Nat) : (w.drewN k).ownsRow base e size v n xs := h
theorem vP {w wr : World} {r : Option Nat} (h : w.grownBy wr r) (k : Nat) : w.grownBy (wr.drewN k) r := ⟨h.os, h.tape, h.output, h.size, h.block⟩
theorem yn (L ys : List Nat) (g gb i m N cap capb base : Nat) (w : World) (hm : ys.length = m) (hNl : L.length = N) (hN : N ≤ 2000000) (hi : i + m + 1 ≤ N) (hcap : m + 1 ≤ cap)
  (hL : w.ownsRow base 80 1 (.slice (some ⟨g, 0, none⟩) N N) N (u64s L)) (hY : w.ownsRow 0 80 1 (.slice (some ⟨gb, 0, none⟩) m capb) m (u64s ys)) (hgg : gb ≠ g)
  (hLd : ∀ d ∈ L, d < 1000000000) (hYd : ∀ d ∈ ys, d < 1000000000) :
  Calls Tryd.prog 135 #[.slice (some ⟨g, i, none⟩) (m + 1) cap, .slice (some ⟨gb, 0, none⟩) m capb] w fun e w' =>
   ∃ (up : Bool) (L' : List Nat), e = .returned (.bool up) ∧ w'.ownsRow base 80 1 (.slice (some ⟨g, 0, none⟩) N N) N (u64s L') ∧ w.grownBy w' (some g) ∧ zO L L' i (m + 1) ∧
    win L' i (m + 1) + (if up then 1000000000 ^ (m + 1) else 0) = win L i (m + 1) + ofd 1000000000 ys := by
 have HLd := hide hLd
 have HYd := hide hYd
 have HL := hide hL
 have HY := hide hY
 clear hLd hYd hL hY
 go_enter Tryd.func135, Tryd.ntmps135
 go_wp2
 go_loopw [5, 10] (fun cy j wr => ∃ (k c : Nat) (L' : List Nat), k ≤ m ∧ cy = .int .u64 c ∧ c ≤ 1 ∧ j = .int .i64 k ∧ wr.ownsRow base 80 1 (.slice (some ⟨g, 0, none⟩) N N) N (u64s L') ∧ w.grownBy wr (some g) ∧
   Hid (zO L L' i k) ∧ Hid (win L' i k + c * 1000000000 ^ k = win L i k + ofd 1000000000 (ys.take k)))
  (fun _ j _ => m - (intOf j).toNat)
 case atStart =>
  exact ⟨0, 0, L, Nat.zero_le _, rfl, by omega, rfl, za HL, World.grownBy.refl _ _, hide (jU (za HLd) _ _), hide (by simp [kr, ofd])⟩
 case round =>
  obtain ⟨k, c, L', hk, rfl, hc, rfl, hown, hgr, hso, hval⟩ := hrel
  by_cases hlt : k < m
  ·have hL'l : L'.length = N := (za hso).1.trans hNl
   have hcy := (za HY).kept hgr (.inr (by simp [Value.ownBlock]; omega))
   have hcy := hcy.cellAt k (by omega)
   rw [zh _ _ (by omega)] at hcy
   have hcx := hown.cellAt (i + k) (by omega)
   rw [zh _ _ (by omega)] at hcx
   have hfr := hown.frozenAt (i + k)
   have hy9 : ys[k]'(by omega) < 1000000000 := za HYd _ (List.getElem_mem _)
   have hx9 : L'[i + k]'(by omega) < 1000000000 := (za hso).2.1 _ (List.getElem_mem _)
   have hxL : L[i + k]'(by omega) = L'[i + k]'(by omega) := ((za hso).2.2 (i + k) (by omega) (by omega) (.inr (Nat.le_refl _))).symm
   have hwin := qY L i k (by omega)
   have hofd : ofd 1000000000 (ys.take (k + 1)) = ofd 1000000000 (ys.take k) + 1000000000 ^ k * ys[k]'(by omega) := by
    rw [List.take_succ_eq_append_getElem (by omega), zG, List.length_take, Nat.min_eq_left (by omega)]
   rw [hxL] at hwin
   generalize ys[k]'(by omega) = y at *
   generalize L'[i + k]'(by omega) = x at *
   have Hwin := hide hwin
   have Hofd := hide hofd
   have hstep := fun d c' => @yL (win L' i k) (ofd 1000000000 (ys.take k)) (win L i k) c c' y x d k (za hval)
   have Hstep := hide hstep
   clear hwin hofd hstep hxL
   obtain ⟨d, hd⟩ : ∃ d : Nat, ((c : Int) + (x + y)) % 1000000000 = d := ⟨(c + (x + y)) % 1000000000, by omega⟩
   obtain ⟨c2, hc2⟩ : ∃ d : Nat, ((c : Int) + (x + y)) / 1000000000 = d := ⟨(c + (x + y)) / 1000000000, by omega⟩
   have hkI : (k : Int) < (m : Int) + 1 := by omega
   have hkI2 : (k : Int) < (m : Int) := by omega
   have hdl : d < 1000000000 := by omega
   have hsum : Hid (d + 1000000000 * c2 = c + (x + y)) := by show _ = _; omega
   have hc21 : c2 ≤ 1 := by omega
   have hst := fun nq => qG (yf hown nq) (vP hgr nq) (i + k) d (d : Int) rfl
   have Hst := hide hst
   clear hst
   go_wp2
   go_quiet (fail)
   go_wp2
   go_roundw
   case rel =>
    refine ⟨k + 1, c2, L'.set (i + k) d, by omega, by rw [hc2], hc21, by go_num, (za Hst nq).1, (za Hst nq).2, hide (qa (za hso) hdl), ?_⟩
    show _ = _
    rw [jm _ _ _ _ (by omega), za Hofd, za Hwin]
    exact za Hstep d c2 (za hsum)
   case measure => simp [intOf]; omega
  ·have hkm : k = m := by omega
   subst hkm
   have hL'l : L'.length = N := (za hso).1.trans hNl
   have hcx := hown.cellAt (i + k) (by omega)
   rw [zh _ _ (by omega)] at hcx
   have hfr := hown.frozenAt (i + k)
   have hx9 : L'[i + k]'(by omega) < 1000000000 := (za hso).2.1 _ (List.getElem_mem _)
   have hxL : L[i + k]'(by omega) = L'[i + k]'(by omega) := ((za hso).2.2 (i + k) (by omega) (by omega) (.inr (Nat.le_refl _))).symm
   have hwin := qY L i k (by omega)
   rw [hxL] at hwin
   generalize L'[i + k]'(by omega) = x at *
   have Hwin := hide hwin
   have hval' := za hval
   rw [← hm, List.take_length, hm] at hval'
   have Hval := hide hval'
   clear hwin hxL hval'
   have hkI : (k : Int) < (k : Int) + 1 := by omega
   obtain ⟨d, hd⟩ : ∃ d : Nat, ((c : Int) + x) % 1000000000 = d := ⟨(c + x) % 1000000000, by omega⟩
   have hdl : d < 1000000000 := by omega
   have hst := qG hown hgr (i + k) d (d : Int) rfl
   have Hst := hide hst
   clear hst
   by_cases hup : c + x = 1000000000
   ·have hq : ((c : Int) + x == 1000000000) = true := by rw [beq_iff_eq]; omega
    have Hup := hide hup
    clear hup
    go_wp2
    go_ret
    refine ⟨true, L'.set (i + k) d, rfl, (za Hst).1, (za Hst).2, qa (za hso) hdl, ?_⟩
    rw [jm _ _ _ _ (by omega), za Hwin]
    have h1 := za Hval
    have h2 : d = 0 := by have := za Hup; omega
    have h3 := congrArg (1000000000 ^ k * ·) (za Hup)
    simp only [Nat.mul_add] at h3
    rw [Nat.mul_comm c] at h1
    rw [Nat.pow_succ, h2]
    simp only [if_true]
    omega
   ·have hq : ((c : Int) + x == 1000000000) = false := by rw [beq_eq_false_iff_ne]; omega
    have Hup := hide hup
    clear hup
    go_wp2
    go_ret
    refine ⟨false, L'.set (i + k) d, rfl, (za Hst).1, (za Hst).2, qa (za hso) hdl, ?_⟩
    rw [jm _ _ _ _ (by omega), za Hwin]
    have h1 := za Hval
    have h2 : d = c + x := by have := za Hup; omega
    rw [h2, Nat.mul_add]
    rw [Nat.mul_comm c] at h1
    simp only [Bool.false_eq_true, if_false]
    omega
theorem qI (b : Nat) (l : List Nat) (k : Nat) (h : k ≤ l.length) : ofd b l = ofd b (l.take k) + b ^ k * ofd b (l.drop k) := by
 conv => lhs; rw [← List.take_append_drop k l]
 rw [qF, List.length_take, Nat.min_eq_left h]
theorem Ql {l : List Nat} {m : Nat} (h : ofd 1000000000 l < 1000000000 ^ m) (hm : m ≤ l.length) : ofd 1000000000 (l.drop m) = 0 ∧ ofd 1000000000 l = ofd 1000000000 (l.take m) := by
 have e := qI 1000000000 l m hm
 rcases Nat.eq_zero_or_pos (ofd 1000000000 (l.drop m)) with h0 | h0
 ·exact ⟨h0, by rw [e, h0]; simp⟩
 ·have := Nat.mul_le_mul_left (1000000000 ^ m) h0
  omega
theorem ZT {V Y top yl p : Nat} (hV : V < (top + 1) * p) (hY : yl * p ≤ Y) (hyl : 0 < yl) : V / Y ≤ top / yl := by
 rw [Nat.le_div_iff_mul_le hyl]
 have h1 : V / Y * (yl * p) ≤ V := Nat.le_trans (Nat.mul_le_mul_left _ hY) (Nat.div_mul_le_self V Y)
 rw [← Nat.mul_assoc] at h1
 have h2 : V / Y * yl * p < (top + 1) * p := by omega
 have := Nat.lt_of_mul_lt_mul_right h2
 omega
theorem Qd {L : List Nat} {i m Y : Nat} (hl : i + m + 1 ≤ L.length) (hd : ∀ d ∈ L, d < 1000000000) (hR : ofd 1000000000 (L.drop (i + 1)) < Y) (hY : Y < 1000000000 ^ m) :
  ofd 1000000000 (L.drop i) = win L i (m + 1) ∧ ofd 1000000000 (L.drop (i + m + 1)) = 0 ∧ win L i (m + 1) < 1000000000 * Y := by
 have hi : i < L.length := by omega
 have e : L.drop i = L[i] :: L.drop (i + 1) := List.drop_eq_getElem_cons hi
 have hx : L[i] < 1000000000 := hd _ (List.getElem_mem hi)
 have hV : ofd 1000000000 (L.drop i) < 1000000000 * Y := by
  rw [e]; simp only [ofd]
  have := Nat.mul_le_mul_left 1000000000 (Nat.succ_le_of_lt hR)
  rw [Nat.mul_succ] at this
  omega
 have hV2 : ofd 1000000000 (L.drop i) < 1000000000 ^ (m + 1) := by
  rw [Nat.pow_succ, Nat.mul_comm]
  exact Nat.lt_of_lt_of_le hV (Nat.mul_le_mul_left _ (Nat.le_of_lt hY))
 have ht := Ql hV2 (by simp; omega)
 rw [List.drop_drop] at ht
 refine ⟨ht.2, ?_, ?_⟩
 ·rw [show i + m + 1 = i + (m + 1) from by omega]; exact ht.1
 ·rw [← show ofd 1000000000 (L.drop i) = win L i (m + 1) from ht.2]; exact hV
theorem yN {L L' : List Nat} {i k : Nat} (h : zO L L' i k) : L'.take i = L.take i := by
 apply List.ext_getElem
 ·simp [h.1]
 ·intro t h1 h2
  simp only [List.getElem_take]
  have : t < i := by simp at h1; omega
  exact h.2.2 t _ _ (.inl this)
theorem yM {L L' : List Nat} {i k : Nat} (h : zO L L' i k) : L'.drop (i + k) = L.drop (i + k) := by
 apply List.ext_getElem
 ·simp [h.1]
 ·intro t h1 h2
  simp only [List.getElem_drop]
  exact h.2.2 _ _ _ (.inr (by omega))
theorem Zc (b T p li Y D R W q : Nat) (h : li + b * R = W + q * Y) : T + p * li + p * b * (Y * D + R) = T + p * (Y * (q + b * D) + W) := by
 have key : li + b * (Y * D + R) = Y * (q + b * D) + W := by
  rw [Nat.mul_add, Nat.mul_add, Nat.mul_left_comm Y, Nat.mul_comm Y q]
  omega
 rw [← key, Nat.mul_add p, Nat.mul_assoc, Nat.add_assoc]
theorem ke (b : Nat) {L L' O : List Nat} {i Y X q W V : Nat} (hi : i < L.length) (hO : i < O.length)
  (hinv : X = ofd b (L.take (i + 1)) + b ^ (i + 1) * (Y * ofd b (O.drop (i + 1)) + ofd b (L.drop (i + 1))))
  (hV : ofd b (L.drop i) = V) (htk : L'.take i = L.take i) (hW : ofd b (L'.drop i) = W) (hw : W + q * Y = V) :
  X = ofd b (L'.take i) + b ^ i * (Y * ofd b ((O.set i q).drop i) + ofd b (L'.drop i)) := by
 have e : L.drop i = L[i] :: L.drop (i + 1) := List.drop_eq_getElem_cons hi
 rw [e] at hV
 simp only [ofd] at hV
 rw [hW, htk, List.drop_eq_getElem_cons (l := O.set i q) (by simpa using hO), List.getElem_set_self, List.drop_set_of_lt (by omega)]
 simp only [ofd]
 rw [hinv, List.take_succ_eq_append_getElem hi, zG, List.length_take, Nat.min_eq_left (by omega), Nat.pow_succ]
 exact Zc b _ _ _ _ _ _ _ _ (hV.trans hw.symm)
theorem Zd (b : Nat) {L L' : List Nat} {i k : Nat} (hl : i + k ≤ L'.length) (hdr : L'.drop (i + k) = L.drop (i + k)) (h0 : ofd b (L.drop (i + k)) = 0) : ofd b (L'.drop i) = ofd b ((L'.drop i).take k) := by
 rw [qI b (L'.drop i) k (by simp; omega), List.drop_drop, hdr, h0, Nat.mul_zero, Nat.add_zero]
theorem ye {L L' O : List Nat} {i m Y X q : Nat} (hl : i + m + 1 ≤ L.length) (hO : i < O.length) (hd : ∀ d ∈ L, d < 1000000000) (hY : Y < 1000000000 ^ m)
  (hinv : X = ofd 1000000000 (L.take (i + 1)) + 1000000000 ^ (i + 1) * (Y * ofd 1000000000 (O.drop (i + 1)) + ofd 1000000000 (L.drop (i + 1)))) (hR : ofd 1000000000 (L.drop (i + 1)) < Y)
  (hso : zO L L' i (m + 1)) (hw : win L' i (m + 1) + q * Y = win L i (m + 1)) (hlt : win L' i (m + 1) < Y) :
  X = ofd 1000000000 (L'.take i) + 1000000000 ^ i * (Y * ofd 1000000000 ((O.set i q).drop i) + ofd 1000000000 (L'.drop i)) ∧ ofd 1000000000 (L'.drop i) < Y := by
 obtain ⟨h1, h2, _⟩ := Qd hl hd hR hY
 have hL' : ofd 1000000000 (L'.drop i) = win L' i (m + 1) :=
  Zd 1000000000 (by have := hso.1; omega) (yM hso) h2
 have hi : i < L.length := Nat.lt_of_lt_of_le (Nat.lt_of_le_of_lt (Nat.le_add_right i m) (Nat.lt_succ_self _)) hl
 exact ⟨ke 1000000000 hi hO hinv h1 (yN hso) hL' hw, hL' ▸ hlt⟩
theorem vE {V Y W q : Nat} (hw : W + q * Y = V) (hq : V / Y ≤ q) (hY : 0 < Y) : W < Y := by
 have h1 : q ≤ V / Y := by
  rw [Nat.le_div_iff_mul_le hY]; omega
 have : q = V / Y := by omega
 have h2 := Nat.div_add_mod V Y
 rw [← this, Nat.mul_comm] at h2
 have := Nat.mod_lt V hY
 omega
theorem yd {V Y W q p : Nat} (hw : W + q * Y = V + p) (hW : W < p) : V / Y < q := by
 have hY : 0 < Y := by
  rcases Nat.eq_zero_or_pos Y with h | h
  ·subst h; simp at hw; omega
  ·exact h
 rw [Nat.div_lt_iff_lt_mul hY]
 omega
theorem xf {L : List Nat} (hd : ∀ d ∈ L, d < 1000000000) (i k : Nat) (h : i + k ≤ L.length) : win L i k < 1000000000 ^ k := by
 have := jt (b := 1000000000) ((L.drop i).take k) (fun d hd' => hd d (List.mem_of_mem_drop (List.mem_of_mem_take hd')))
 rw [List.length_take, List.length_drop, Nat.min_eq_left (by omega)] at this
 exact this
theorem QS {L : List Nat} (hd : ∀ d ∈ L, d < 1000000000) (i m : Nat) (h : i + (m + 1) < L.length) :
  win L i (m + 1 + 1) < (L[i + (m + 1)] * 1000000000 + L[i + m] + 1) * 1000000000 ^ m := by
 rw [qY L i (m + 1) h, qY L i m (by omega), Nat.pow_succ]
 have := xf hd i m (by omega)
 generalize L[i + (m + 1)] = a
 generalize L[i + m] = b
 generalize 1000000000 ^ m = p at *
 rw [Nat.add_mul, Nat.add_mul, Nat.mul_assoc a, Nat.mul_comm p b, Nat.mul_comm p 1000000000, Nat.mul_comm (1000000000 * p) a]
 omega
theorem Q3 {ys : List Nat} {m : Nat} (h : ys.length = m + 1) : ys[m] * 1000000000 ^ m ≤ ofd 1000000000 ys := by
 have := kO 1000000000 ys m (by omega)
 rw [Nat.mul_comm]; exact this
theorem Zj {y : Nat} (h : y < 1000000000) : 0 < 1000000000 / (y + 1) := Nat.div_pos (by omega) (by omega)
theorem Qh {y : Nat} (h : 0 < y) : 1000000000 / (y + 1) < 1000000000 := Nat.div_lt_self (by omega) (by omega)
theorem k9 {y s m : Nat} {ys : List Nat} (hy : ys = gr y) (hm : ys.length = m + 1) (hs : 1000000000 / (ys[m] + 1) = s) (hs0 : 0 < s) : (gr (y * s)).length = m + 1 ∧ y * s < 1000000000 ^ (m + 1) := by
 have hyd : ∀ d ∈ ys, d < 1000000000 := by rw [hy]; exact gr_lt y
 have hyo : ofd 1000000000 ys = y := by rw [hy]; exact z9 y
 have h1 : y < (ys[m] + 1) * 1000000000 ^ m := by
  have e := j2 1000000000 ys m (by omega)
  rw [show ys.drop (m + 1) = [] from List.drop_eq_nil_of_le (by omega)] at e
  simp only [ofd, Nat.mul_zero, Nat.add_zero] at e
  have h2 := jt (b := 1000000000) (ys.take m) (fun d hd => hyd d (List.mem_of_mem_take hd))
  rw [List.length_take, Nat.min_eq_left (by omega)] at h2
  rw [hyo] at e
  rw [Nat.add_mul, e, Nat.mul_comm]
  omega
 have h3 : (ys[m] + 1) * s ≤ 1000000000 := by rw [← hs, Nat.mul_comm]; exact Nat.div_mul_le_self _ _
 have h4 : y * s < 1000000000 ^ (m + 1) := by
  have h5 : y * s < (ys[m] + 1) * 1000000000 ^ m * s := Nat.mul_lt_mul_of_pos_right h1 hs0
  rw [Nat.mul_right_comm] at h5
  have h6 : (ys[m] + 1) * s * 1000000000 ^ m ≤ 1000000000 * 1000000000 ^ m := Nat.mul_le_mul_right _ h3
  rw [Nat.pow_succ, Nat.mul_comm (1000000000 ^ m)]
  omega
 refine ⟨?_, h4⟩
 have h7 : (gr (y * s)).length ≤ m + 1 := qr (by omega) h4
 have h8 : (gr y).length ≤ (gr (y * s)).length := qs (Nat.le_mul_of_pos_right y hs0)
 rw [← hy] at h8
 omega
theorem kZ {y m : Nat} (h : (gr y).length = m + 1) : 1000000000 ^ m ≤ y := by
 rcases Nat.lt_or_ge y (1000000000 ^ m) with h1 | h1
 ·have := qr (b := 1000000000) (by omega) h1
  unfold gr at h; omega
 ·exact h1
theorem kT {x y s n m : Nat} {L : List Nat} (hx : (gr x).length = n) (hy : (gr y).length = m + 1) (hmn : m + 1 ≤ n) (hL : ofd 1000000000 L = x * s) (hLl : L.length = n + 1) (hs0 : 0 < s) :
  ofd 1000000000 (L.drop (n - m)) < y * s := by
 have h1 : x < 1000000000 ^ n := by rw [← hx]; exact qE (by omega) x
 have h2 := kZ hy
 have e := qI 1000000000 L (n - m) (by omega)
 rw [hL] at e
 have h3 : 1000000000 ^ (n - m) * ofd 1000000000 (L.drop (n - m)) ≤ x * s := by omega
 have h4 : x * s < 1000000000 ^ n * s := Nat.mul_lt_mul_of_pos_right h1 hs0
 have h5 : 1000000000 ^ n * s = 1000000000 ^ (n - m) * (1000000000 ^ m * s) := by
  rw [← Nat.mul_assoc, ← Nat.pow_add]; congr 2; omega
 have h6 : 1000000000 ^ (n - m) * (1000000000 ^ m * s) ≤ 1000000000 ^ (n - m) * (y * s) := Nat.mul_le_mul_left _ (Nat.mul_le_mul_right _ h2)
 have h7 : 1000000000 ^ (n - m) * ofd 1000000000 (L.drop (n - m)) < 1000000000 ^ (n - m) * (y * s) := by omega
 exact Nat.lt_of_mul_lt_mul_left h7
theorem Qe {x y s Q R : Nat} (h : x * s = y * s * Q + R) (hR : R < y * s) (hs : 0 < s) : x / y = Q ∧ R / s = x % y := by
 have hy : 0 < y := by
  rcases Nat.eq_zero_or_pos y with h0 | h0
  ·subst h0; simp at hR
  ·exact h0
 have hQ : x / y = Q := by
  have h1 : x * s / (y * s) = Q := (kU h hR).1
  rwa [Nat.mul_div_mul_right _ _ hs] at h1
 refine ⟨hQ, ?_⟩
 have h2 : x * s % (y * s) = R := (kU h hR).2
 rw [Nat.mul_mod_mul_right] at h2
 rw [← h2, Nat.mul_div_cancel _ hs]
theorem j8 (x f : Nat) (v : Value) (w : World) (hx : isNat w v x) (hs : (gr x).length ≤ 1000000) (hf : f < 1000000000) :
  Calls Tryd.prog 132 #[v, .int .u64 f, .int .u64 0] w fun e w' => (∃ v', e = .returned v' ∧ isNatB w' w.heap.size v' (x * f)) ∧ Below w.heap.size w w' := by
 have := ko x f 0 v w hx hs hf (by omega)
 simpa using this
def cellN (w : World) (b j : Nat) : Nat := match w.cell? ⟨b, j, none⟩ with
 | some v => (intOf v).toNat
 | none => 0
theorem jp {w : World} {b j d : Nat} (h : w.cell? ⟨b, j, none⟩ = some (.int .u64 (d : Int))) : cellN w b j = d := by
 unfold cellN; rw [h]; rfl
theorem qL {w : World} {base : Nat} {e : TypeId} {size : Nat} {v : Value} {n : Nat} {xs : List Value} (h : w.ownsRow base e size v n xs) : w.drew.ownsRow base e size v n xs := h
theorem jE {L L1 L2 : List Nat} {i k : Nat} (h : zO L L1 i k) (h' : zO L1 L2 i k) : zO L L2 i k := by
 refine ⟨h'.1.trans h.1, h'.2.1, ?_⟩
 intro t h1 h2 ht
 rw [h'.2.2 t (by rw [h.1]; exact h1) h2 ht]
 exact h.2.2 t h1 _ ht
theorem jD {W W' V Y q p : Nat} {up : Bool} (h : W + (q + 1) * Y = V + if true then p else 0) (h' : W' + (if up then p else 0) = W + Y) : W' + q * Y = V + if (!up) then p else 0 := by
 rw [Nat.add_mul] at h
 cases up <;> simp at h h' ⊢ <;> omega
theorem QJ (l : List Nat) (k : Nat) (b : Nat) : ofd b (l ++ List.replicate k 0) = ofd b l := by
 rw [qF, zL]; simp
theorem kS (x y : Nat) (v u : Value) (w : World) (hx : isNat w v x) (hy : isNat w u y) (hsx : (gr x).length ≤ 1000000) (hsy : (gr y).length ≤ 1000000) (hlt : x < y) :
  Calls Tryd.prog 94 #[v, u] w fun e w' => (∃ v1 v2, e = .returned (.tuple #[v1, v2]) ∧ isNat w' v1 (x / y) ∧ isNat w' v2 (x % y)) ∧ Below w.heap.size w w' := by
 rw [Nat.div_eq_of_lt hlt, Nat.mod_eq_of_lt hlt]
 have hl := yJ x y v u w hx hy hsx hsy
 rw [decide_eq_true hlt] at hl
 have Hl := hide hl
 have Hx := hide hx
 clear hl hx hy hlt hsx hsy
 go_enter Tryd.func94, Tryd.ntmps94
 go_wp2_with fail
 refine (za Hl).mono ?_
 rintro e w1 ⟨rfl, hb1⟩
 go_wp2
 go_ret2
 have hbX := hb1.alloc hb1.size (.cells #[] 80)
 refine ⟨⟨_, _, rfl, ?_, zl (za Hx) hbX⟩, hbX⟩
 have := World.ownsRow_made (base := 0) (e := 80) (size := 1) w1 #[] 0 (Nat.zero_le _) (by decide) (by simp)
 unfold isNat
 rw [vf]
 exact this
theorem kR (x y : Nat) (v u : Value) (w : World) (hx : isNat w v x) (hy : isNat w u y) (hsx : (gr x).length ≤ 1000000) (hsy : (gr y).length ≤ 1000000) (hle : y ≤ x) (hy0 : 0 < y) :
  Calls Tryd.prog 94 #[v, u] w fun e w' => (∃ v1 v2, e = .returned (.tuple #[v1, v2]) ∧ isNat w' v1 (x / y) ∧ isNat w' v2 (x % y)) ∧ Below w.heap.size w w' := by
 obtain ⟨i0, hi, hz0, hz1, hz2⟩ := info_parts Tryd.infoU64
 have hl := yJ x y v u w hx hy hsx hsy
 rw [decide_eq_false (by omega)] at hl
 have Hl := hide hl
 have Hx := hide hx
 have Hy := hide hy
 clear hl
 have hyne : gr y ≠ [] := fun h => by have := jY.1 h; omega
 have hml : (gr y).length ≤ (gr x).length := qs hle
 obtain ⟨m, hm⟩ : ∃ m, (gr y).length = m + 1 := ⟨(gr y).length - 1, by have : (gr y).length ≠ 0 := fun h => hyne (List.eq_nil_of_length_eq_zero h); omega⟩
 obtain ⟨n, hn⟩ : ∃ n, (gr x).length = n := ⟨_, rfl⟩
 obtain ⟨K, hKI⟩ : ∃ K : Nat, (n : Int) - m = K := ⟨n - m, by omega⟩
 obtain ⟨gy, cy, hu, hcy, _, hgy⟩ := zU hy (by omega)
 obtain ⟨gx, cx, hv, hcx, _, hgx⟩ := zU hx (by omega)
 subst hu
 subst hv
 have hcell := Hy.out.cellAt m (by omega)
 rw [zh _ _ (by omega)] at hcell
 have htop9 : (gr y)[m]'(by omega) < 1000000000 := gr_lt y _ (List.getElem_mem _)
 have htop0 : 0 < (gr y)[m]'(by omega) := by
  have := (ZL (b := 1000000000) (by omega) y).2 ((gr y)[m]'(by omega)) (by
   rw [List.getLast?_eq_getElem?]
   show (gr y)[(gr y).length - 1]? = _
   rw [show (gr y).length - 1 = m from by omega]
   exact List.getElem?_eq_getElem _)
  omega
 have hsc := fun s hs hs0 => @k9 y s m (gr y) rfl hm hs hs0
 obtain ⟨yt, hyt⟩ : ∃ a, (gr y)[m]'(by omega) = a := ⟨_, rfl⟩
 rw [hyt] at hcell htop9 htop0
 simp only [hyt] at hsc
 have hs0 := Zj htop9
 have hs9 := Qh htop0
 obtain ⟨s, hs⟩ : ∃ s, 1000000000 / (yt + 1) = s := ⟨_, rfl⟩
 rw [hs] at hs0 hs9
 have hsc := hsc s hs hs0
 have hsI : (1000000000 : Int) / ((yt : Int) + 1) = (s : Int) := by rw [← hs]; rfl
 have Hsc := hide hsc
 have Hm := hide hm
 have Hn := hide hn
 rw [hm] at hml hsy hcy Hy Hl
 rw [hn] at hml hsx hcx Hx Hl
 rw [hm, hn]
 clear hx hy hsc hs hyt hyne hm hn
 go_enter Tryd.func94, Tryd.ntmps94
 go_wp2_with fail
 refine (za Hl).mono ?_
 clear Hl
 rintro e w1 ⟨rfl, hb1⟩
 have hcell1 : w1.cell? ⟨gy, m, none⟩ = some (.int .u64 (yt : Int)) := by rw [hb1.cell (p := ⟨gy, m, none⟩) hgy]; exact hcell
 go_wp2_with (refine wpList_make_full _ rfl (.tmp 31) (.tmp 31) 65 rfl w.heap.size 80 i0 (.int .u64 0) 1 Tryd.underlying65 hi hz0 hz1 .i64 .i64 ((n + 1 : Nat) : Int) ((n + 1 : Nat) : Int) (n + 1) rfl rfl rfl rfl (by rw [hz2]; omega) (by unfold maxLen; omega) hb1.size ?_; intro w2 hown2 hg2)
 have hb2 : Below w.heap.size w w2 := hb1.grown hg2 hb1.size (fun _ h => by cases h)
 have hxs9 : (gr (x * s)).length ≤ n + 1 := by
  apply qr (by omega)
  have h1 : x < 1000000000 ^ n := by have := qE (b := 1000000000) (by omega) x; rwa [show (dg 1000000000 x).length = n from za Hn] at this
  rw [Nat.pow_succ]
  exact Nat.mul_lt_mul'' h1 hs9
 refine (j8 x s _ _ (zl (za Hx) hb2) (by rw [za Hn]; exact hsx) hs9).mono ?_
 rintro e w3 ⟨⟨v3, rfl, hv3⟩, hb3⟩
 have hown3 := zl hown2 hb3
 have hb03 := hb2.trans (hb3.mono hb2.size)
 rw [show (madeCells (Value.int IntKind.u64 0).cells ((n + 1) * 1)).toList = u64s (List.replicate (n + 1) 0) from by
  rw [Nat.mul_one, show (Value.int IntKind.u64 0).cells = #[.int .u64 0] from rfl, toList_madeCells_one, qh]] at hown3
 have hblk := qV hown3
 obtain ⟨p3, c3, hv3s⟩ := zd hv3
 subst hv3s
 obtain ⟨k3, hk3⟩ : ∃ k3, (gr (x * s)).length = k3 := ⟨_, rfl⟩
 have hsome := fun h => zU hv3 h
 have hcells := fun g cap (h : Value.slice p3 (gr (x * s)).length c3 = .slice (some ⟨g, 0, none⟩) (gr (x * s)).length cap) => (h ▸ hv3 : w3.ownsRow w2.heap.size 80 1 (.slice (some ⟨g, 0, none⟩) (gr (x * s)).length cap) (gr (x * s)).length (u64s (gr (x * s)))).cells (g := g) rfl
 have hpos : 0 < (u64s (gr (x * s))).length → ∃ ad, p3 = some ad ∧ ∀ j v, (u64s (gr (x * s)))[j]? = some v → w3.cell? (ad.add j) = some v := by
  intro h
  obtain ⟨g, cap, hh, _⟩ := hsome (by rwa [zD] at h)
  have h2 := hcells g cap hh
  simp only [Value.slice.injEq, true_and] at hh
  exact ⟨_, hh.1, h2⟩
 have Hblk := hide hblk
 have Hpos := hide hpos
 have hsz1 := hb1.size
 clear hblk hpos hsome hcells hown3 hown2 hg2 hb1 hb2 hb3 hv3 hcell hcell1
 have hk3l : k3 ≤ n + 1 := by omega
 have Hk3 := hide hk3
 rw [hk3]
 clear hk3
 go_wp2_with (refine wpList_copy_splice rfl (.tmp 33) (.tmp 36) 65 65 rfl 80 Tryd.underlying65 (by simp [hi, hz1]) (some ⟨w1.heap.size, 0, none⟩) p3 (n + 1) (n + 1) k3 c3 rfl rfl w1.heap.size 0 (u64s (List.replicate (n + 1) 0)) 80 (za Hblk) (u64s (gr (x * s))) (by rw [zD, za Hk3]; exact (Nat.min_eq_left hk3l).symm) (fun h => ⟨rfl, za Hpos h⟩) (by simp [u64s]; have := za Hk3; omega) (vL _) w.heap.size w hb03 hsz1 ?_; intro w4 hg4 hb4)
 have hrow : splice (u64s (List.replicate (n + 1) 0)) 0 (u64s (gr (x * s))) = u64s (gr (x * s) ++ List.replicate (n + 1 - k3) 0) := by
  unfold splice
  rw [List.take_zero, List.nil_append, Nat.zero_add, zD, za Hk3, ← j4, List.drop_replicate, jz]
 have hg4' := za hg4
 rw [hrow] at hg4'
 have hLl : (gr (x * s) ++ List.replicate (n + 1 - k3) 0).length = n + 1 := by
  rw [List.length_append, List.length_replicate, za Hk3]; omega
 have hLo : ofd 1000000000 (gr (x * s) ++ List.replicate (n + 1 - k3) 0) = x * s := by rw [QJ, z9]
 have hLd : ∀ d ∈ gr (x * s) ++ List.replicate (n + 1 - k3) 0, d < 1000000000 := by
  intro d hd
  rcases List.mem_append.1 hd with h | h
  ·exact gr_lt _ d h
  ·simp at h; omega
 have hownL := qA (base := w.heap.size) (n := n + 1) hg4' (by rw [zD]; exact hLl) (by unfold maxLen; omega) hsz1
 have hgl4 : w1.heap.size < w4.heap.size := (Array.getElem?_eq_some_iff.1 hg4').1
 generalize gr (x * s) ++ List.replicate (n + 1 - k3) 0 = L0 at *
 have HLl := hide hLl
 have HLo := hide hLo
 have HLd := hide hLd
 have HownL := hide hownL
 generalize w1.heap.size = gl at *
 clear hrow hg4 hg4' hLl hLo hLd hownL Hblk Hpos hb03 hxs9
 refine (j8 y s _ _ (zl (za Hy) hb4) (by rw [za Hm]; exact hsy) hs9).mono ?_
 rintro e w5 ⟨⟨v5, rfl, hv5⟩, hb5⟩
 have hl5 := (za Hsc).1
 obtain ⟨gb, cb, hv5s, hcb, hgb4, hgb5⟩ := zU hv5 (by omega)
 subst hv5s
 rw [hl5] at hcb
 have hownL5 := zl (za HownL) hb5
 have hb05 := hb4.trans (hb5.mono hb4.size)
 have hys9 := gr_lt (y * s)
 have hyso := z9 (y * s)
 have hytop := (ZL (b := 1000000000) (by omega) (y * s)).2
 rw [show dg 1000000000 (y * s) = gr (y * s) from rfl] at hytop
 have hYl := (za Hsc).2
 unfold isNatB at hv5
 have hpos0 : 0 < y * s := Nat.mul_pos hy0 hs0
 have hstart := fun L hL hLl => @kT x y s n m L (za Hn) (za Hm) hml hL hLl hs0
 have Hstart := hide (hstart L0 (za HLo) (za HLl))
 obtain ⟨Y, hY⟩ : ∃ Y, y * s = Y := ⟨_, rfl⟩
 rw [hY] at hl5 hv5 hys9 hyso hYl hpos0 Hstart
 rw [hY] at hytop
 rw [show (gr (y * s)).length = m + 1 from (za Hsc).1]
 generalize gr Y = ys at *
 have HY := hide hY
 have Hys9 := hide hys9
 have Hytop := hide hytop
 have Hyso := hide hyso
 have HYl := hide hYl
 have Hl5 := hide hl5
 clear hys9 hyso hytop hYl hY hstart hb4 hb5 HownL hsc hl5
 go_wp2_with (refine wpList_make_full _ rfl (.tmp 44) (.tmp 44) 65 rfl w.heap.size 80 i0 (.int .u64 0) 1 Tryd.underlying65 hi hz0 hz1 .i64 .i64 K K K rfl rfl rfl rfl (by rw [hz2]; omega) (by unfold maxLen; omega) hb05.size ?_; intro w6 hown6 hg6)
 have hownO0 : w6.ownsRow w.heap.size 80 1 (.slice (some ⟨w5.heap.size, 0, none⟩) K K) K (u64s (List.replicate K 0)) := by
  simpa [Value.cells, toList_madeCells_one, qh] using hown6
 have hb56 : Below w5.heap.size w5 w6 := (Below.refl _ _).grown hg6 (Nat.le_refl _) (fun _ h => by cases h)
 have hownL6 := zl hownL5 hb56
 have hownB6 := zE (zl hv5 hb56) (Nat.zero_le _)
 rw [za Hl5] at hownB6
 have hb06 := hb05.trans (hb56.mono hb05.size)
 have hob : w.heap.size ≤ w5.heap.size := hb05.size
 generalize w5.heap.size = bo at *
 have hglb : gl ≠ gb := by omega
 have hgbo : gb ≠ bo := by omega
 have hglo : gl ≠ bo := by omega
 have hK0 : 0 < K := by omega
 have hnK : n = m + K := by omega
 have HnK := hide hnK
 clear hown6 hg6 hv5 hownL5 hb56 hb05 hnK
 go_loopw [10] (fun i wr => ∃ (k : Nat) (L O : List Nat), k ≤ K ∧ i = .int .i64 ((k : Int) - 1) ∧ L.length = n + 1 ∧ O.length = K ∧
   wr.ownsRow w.heap.size 80 1 (.slice (some ⟨gl, 0, none⟩) (n + 1) (n + 1)) (n + 1) (u64s L) ∧ wr.ownsRow w.heap.size 80 1 (.slice (some ⟨bo, 0, none⟩) K K) K (u64s O) ∧
   wr.ownsRow 0 80 1 (.slice (some ⟨gb, 0, none⟩) (m + 1) cb) (m + 1) (u64s ys) ∧ Below w.heap.size w wr ∧ Hid (∀ d ∈ L, d < 1000000000) ∧ Hid (∀ d ∈ O, d < 1000000000) ∧
   Hid (x * s = ofd 1000000000 (L.take k) + 1000000000 ^ k * (Y * ofd 1000000000 (O.drop k) + ofd 1000000000 (L.drop k))) ∧ Hid (ofd 1000000000 (L.drop k) < Y))
  (fun i _ => ((intOf i) + 1).toNat)
 case atStart =>
  refine ⟨K, L0, List.replicate K 0, Nat.le_refl _, rfl, za HLl, by simp, hownL6, hownO0, hownB6, hb06, HLd, hide (by intro d hd; simp at hd; omega), ?_, ?_⟩
  ·show _ = _
   rw [List.drop_of_length_le (by simp), ofd, Nat.mul_zero, Nat.zero_add, ← qI 1000000000 L0 K (by rw [za HLl]; have := za HnK; omega), za HLo]
  ·show _ < _
   have := za Hstart
   rwa [show n - m = K from by have := za HnK; omega] at this
 case round =>
  clear hownL6 hownO0 hownB6 hb06
  obtain ⟨k, L, O, hk, rfl, hLl, hOl, hownL, hownO, hownB, hb, hLd, hOd, hinv, hR⟩ := hrel
  cases k with
  | zero =>
   rw [show (((0 : Nat) : Int) - 1) = -1 from rfl]
   have hinv0 : x * s = Y * ofd 1000000000 O + ofd 1000000000 L := by have := za hinv; simpa [ofd] using this
   have hR0 : ofd 1000000000 L < Y := by have := za hR; simpa using this
   have hend := Qe (x := x) (y := y) (s := s) (Q := ofd 1000000000 O) (R := ofd 1000000000 L) (by rw [za HY]; exact hinv0) (by rw [za HY]; exact hR0) hs0
   have Hend := hide hend
   have HO := hide hownO
   have hLlen := qs (Nat.le_of_lt hR0)
   have hYlen : (gr Y).length ≤ 1000000 := by rw [← za HY, (za Hsc).1]; omega
   clear hinv0 hR0 hend hinv hR hownO hownB
   go_wp2_with fail
   refine (qg L w.heap.size _ _ (by omega) (za hLd) (by rw [hLl]; exact hownL)).mono ?_
   rintro e w7 ⟨⟨v7, rfl, hv7⟩, rfl⟩
   have hv7n := hv7.nat
   clear hv7
   go_wp2_with fail
   refine (kP (ofd 1000000000 L) s v7 _ hv7n (by omega) hs0 hs9).mono ?_
   rintro e w8 ⟨⟨v8, rfl, hv8⟩, hb8⟩
   have hO8 := zl (za HO) hb8
   have hbZ := hb.trans (hb8.mono hb.size)
   rw [(za Hend).2] at hv8
   clear hownL hv7n
   go_wp2_with fail
   refine (qg O w.heap.size _ _ (by omega) (za hOd) (by rw [hOl]; exact hO8)).mono ?_
   rintro e w9 ⟨⟨v9, rfl, hv9⟩, rfl⟩
   have hv9n := hv9.nat
   rw [← (za Hend).1] at hv9n
   clear hv9 hO8
   go_wp2
   go_ret2
   exact ⟨⟨_, _, rfl, hv9n, hv8⟩, hbZ⟩
  | succ i =>
   rw [show (((i + 1 : Nat) : Int) - 1) = (i : Int) from by omega]
   have hin : i + (m + 1) < L.length := by have := za HnK; omega
   have hcT1 := hownL.cellAt (i + (m + 1)) (by omega)
   rw [zh _ _ hin] at hcT1
   have hcT0 := hownL.cellAt (i + m) (by omega)
   rw [zh _ _ (by omega)] at hcT0
   have hcY := hownB.cellAt m (by omega)
   rw [zh _ _ (by have := za Hl5; omega)] at hcY
   obtain ⟨v0, hv0⟩ := zZ hownO i (by omega)
   have hfO := hownO.frozenAt i
   have hiI : (i : Int) + (m + 1) < n + 1 := by have := za HnK; omega
   have hiK : (i : Int) < K := by omega
   have hT1 : L[i + (m + 1)]'hin < 1000000000 := za hLd _ (List.getElem_mem _)
   have hT0 : L[i + m]'(by omega) < 1000000000 := za hLd _ (List.getElem_mem _)
   have hwt := QS (za hLd) i m hin
   have htl := Q3 (za Hl5)
   have hyl0 : 0 < ys[m]'(by have := za Hl5; omega) := by
    have hl5 := za Hl5
    have := za Hytop (ys[m]'(by omega)) (by
     rw [List.getLast?_eq_getElem?, show ys.length - 1 = m from by omega]
     exact List.getElem?_eq_getElem _)
    omega
   have hyl9 : ys[m]'(by have := za Hl5; omega) < 1000000000 := za Hys9 _ (List.getElem_mem _)
   generalize L[i + (m + 1)]'hin = ta at *
   generalize L[i + m]'(by omega) = tb at *
   generalize ys[m]'(by have := za Hl5; omega) = yl at *
   have Hwt := hide hwt
   have Htl := hide htl
   clear hwt htl
   obtain ⟨q0, hq0⟩ : ∃ q : Nat, ((ta : Int) * 1000000000 + tb) / yl = q := ⟨(ta * 1000000000 + tb) / yl, rfl⟩
   have Hq0 : Hid ((ta * 1000000000 + tb) / yl = q0) := by
    show _ = _
    have : (((ta * 1000000000 + tb) / yl : Nat) : Int) = (q0 : Int) := by rw [← hq0]; rfl
    omega
   have hq0d : ((ta : Int) * 1000000000 + tb).tdiv yl = q0 := by rw [Int.tdiv_eq_ediv_of_nonneg (by omega)]; exact hq0
   have hq0le : q0 ≤ ta * 1000000000 + tb := by rw [← za Hq0]; exact Nat.div_le_self _ _
   have e1 := wi64 ((m : Int) + 1) (by omega) (by omega)
   have e2 : ((m : Int) + 1).toNat = m + 1 := by omega
   have e3 := wu64 ((ta : Int) * 1000000000) (by omega) (by omega)
   have e4 := wu64 ((ta : Int) * 1000000000 + tb) (by omega) (by omega)
   have e5 : i + (m + 1) + 1 - i = m + 1 + 1 := by omega
   have e6 := wu64 (q0 : Int) (by omega) (by omega)
   have hyl0I : (0 : Int) < yl := by omega
   have hyl0N : ¬ (yl : Int) = 0 := by omega
   go_wp2_with fail
   go_region
   have hV := Qd (m := m + 1) (by omega) (za hLd) (za hR) (za HYl)
   have hVq : win L i (m + 1 + 1) / Y ≤ 999999999 := by
    have := (Nat.div_lt_iff_lt_mul hpos0).2 hV.2.2
    omega
   have hVg : win L i (m + 1 + 1) / Y ≤ q0 := by
    have h1 := ZT (Y := Y) (za Hwt) (by rw [← za Hyso]; exact za Htl) hyl0
    rw [za Hq0] at h1; exact h1
   have HVq := hide hVq
   have HVg := hide hVg
   clear hV hVq hVg
   go_wp2_with fail
   ·
    obtain ⟨q1, hq1⟩ : ∃ q1 : Nat, 999999999 = q1 := ⟨_, rfl⟩
    rw [show (999999999 : Int) = (q1 : Int) from by rw [← hq1]; rfl]
    have HV1 : Hid (win L i (m + 1 + 1) / Y ≤ q1) := by rw [← hq1]; exact HVq
    have hq9 : q1 < 1000000000 := by omega
    clear hq1
    have hO1 := (hownO.stored i (.int .u64 (q1 : Int))).1
    rw [qj _ _ q1 _ rfl] at hO1
    have hbW := (hb.setCell (p := ⟨bo, i, none⟩) hob (.int .u64 (q1 : Int))).drew
    have hL1 := ownsRow_setCell_other hownL (a := ⟨bo, i, none⟩) (by simp [Value.ownBlock]; omega) (.int .u64 (q1 : Int))
    have hB1 := ownsRow_setCell_other hownB (a := ⟨bo, i, none⟩) (by simp [Value.ownBlock]; omega) (.int .u64 (q1 : Int))
    have h := yo L ys gl gb i (m + 1) (n + 1) (n + 1 - i) cb q1 w.heap.size _ (za Hl5) hLl (by omega) (by omega) (by omega) (qL hL1) (qL hB1) (by omega) (za hLd) (za Hys9) hq9
    refine h.mono ?_
    clear h
    rintro e w7 ⟨neg, L1, rfl, hL7, hg7, hso7, hw7⟩
    have hO7 := (qL hO1).kept hg7 (.inr (by simp [Value.ownBlock]; omega))
    have hB7 := (qL hB1).kept hg7 (.inr (by simp [Value.ownBlock]; omega))
    have hb7 := hbW.grown hg7 hbW.size (fun k hk => by cases hk; omega)
    rw [za Hyso] at hw7
    have Hso7 := hide hso7
    have Hw7 := hide hw7
    clear hO1 hL1 hB1 hbW hg7 hso7 hw7
    go_wp2_with fail
    go_loopw [12] (fun bl wr => ∃ (q : Nat) (neg : Bool) (L2 : List Nat), bl = .bool neg ∧ q < 1000000000 ∧ wr.ownsRow w.heap.size 80 1 (.slice (some ⟨gl, 0, none⟩) (n + 1) (n + 1)) (n + 1) (u64s L2) ∧ wr.ownsRow w.heap.size 80 1 (.slice (some ⟨bo, 0, none⟩) K K) K (u64s (O.set i q)) ∧
      wr.ownsRow 0 80 1 (.slice (some ⟨gb, 0, none⟩) (m + 1) cb) (m + 1) (u64s ys) ∧ Below w.heap.size w wr ∧ Hid (zO L L2 i (m + 1 + 1)) ∧
      Hid (win L2 i (m + 1 + 1) + q * Y = win L i (m + 1 + 1) + if neg then 1000000000 ^ (m + 1 + 1) else 0) ∧ Hid (win L i (m + 1 + 1) / Y ≤ q))
     (fun _ wr => cellN wr bo i)
    case atStart => exact ⟨q1, neg, L1, rfl, hq9, hL7, hO7, hB7, hb7, Hso7, Hw7, HV1⟩
    case round =>
     clear hL7 hO7 hB7 hb7 Hso7 Hw7 HV1 hownL hownO hownB hb
     obtain ⟨q, ng, L2, rfl, hq, hL2, hO2, hB2, hb2, hso2, hw2, hV2⟩ := hrel
     cases ng with
     | false =>
      go_wp2_with fail
      go_roundw
      case rel =>
       have hw3 : win L2 i (m + 1 + 1) + q * Y = win L i (m + 1 + 1) := by have := za hw2; simpa using this
       have hlt3 := vE hw3 (za hV2) hpos0
       have hst := ye (m := m + 1) (by omega) (by omega) (za hLd) (za HYl) (za hinv) (za hR) (za hso2) hw3 hlt3
       exact ⟨i, L2, O.set i q, by omega, rfl, (za hso2).1.trans hLl, by simpa using hOl, hL2, hO2, hB2, hb2, hide (za hso2).2.1, hide (zX (za hOd) hq), hide hst.1, hide hst.2⟩
      case measure => simp [intOf]
     | true =>
      have hcO := hO2.cellAt i (by omega)
      rw [zh _ _ (by simp; omega), List.getElem_set_self] at hcO
      have hfO2 := hO2.frozenAt i
      have hmore := yd (za hw2) (xf (za hso2).2.1 i (m + 1 + 1) (by have := (za hso2).1; omega))
      have hq0' : 0 < q := Nat.lt_of_le_of_lt (Nat.zero_le _) hmore
      obtain ⟨q', rfl⟩ : ∃ q', q = q' + 1 := ⟨q - 1, by omega⟩
      have HV3 : Hid (win L i (m + 1 + 1) / Y ≤ q') := Nat.le_of_lt_succ hmore
      clear hmore
      have hO3 := (hO2.stored i (.int .u64 (q' : Int))).1
      rw [qj _ _ q' _ rfl, List.set_set] at hO3
      have hbW := hb2.setCell (p := ⟨bo, i, none⟩) hob (.int .u64 (q' : Int))
      have hL3 := ownsRow_setCell_other hL2 (a := ⟨bo, i, none⟩) (by simp [Value.ownBlock]; omega) (.int .u64 (q' : Int))
      have hB3 := ownsRow_setCell_other hB2 (a := ⟨bo, i, none⟩) (by simp [Value.ownBlock]; omega) (.int .u64 (q' : Int))
      have hcq : cellN wr bo i = q' + 1 := jp hcO
      have Hcq := hide hcq
      have hL2l := (za hso2).1.trans hLl
      have HO3 := hide hO3
      clear hL2 hO2 hB2 hb2 hcq hO3
      go_wp2_with fail
      have h := yn L2 ys gl gb i (m + 1) (n + 1) (n + 1 - i) cb w.heap.size _ (za Hl5) hL2l (by omega) (by omega) (by omega) hL3 hB3 (by omega) (za hso2).2.1 (za Hys9)
      refine h.mono ?_
      clear h
      rintro e w8 ⟨up, L3, rfl, hL8, hg8, hso8, hw8⟩
      have hO8 := (za HO3).kept hg8 (.inr (by simp [Value.ownBlock]; omega))
      have hB8 := hB3.kept hg8 (.inr (by simp [Value.ownBlock]; omega))
      have hb8 := hbW.grown hg8 hbW.size (fun k hk => by cases hk; omega)
      have hc8 := hO8.cellAt i (by omega)
      rw [zh _ _ (by simp; omega), List.getElem_set_self] at hc8
      have Hc8 := hide (jp hc8)
      have Hso8 : Hid (zO L L3 i (m + 1 + 1)) := jE (za hso2) hso8
      have Hw8 : Hid (win L3 i (m + 1 + 1) + q' * Y = win L i (m + 1 + 1) + if (!up) then 1000000000 ^ (m + 1 + 1) else 0) := by
       rw [za Hyso] at hw8
       exact jD (za hw2) hw8
      clear hc8 hL3 hB3 hbW hg8 hso8 hw8 hso2 hw2
      have hnot : ∀ (x : Bool) (w : World), (Op.unary .not (.bool x)).run Tryd.prog w = .ok (.bool (!x)) w := fun _ _ => rfl
      go_wp2_with fail
      go_roundw
      case rel => exact ⟨q', !up, L3, rfl, by omega, hL8, hO8, hB8, hb8, Hso8, Hw8, HV3⟩
      case measure => rw [za Hc8, za Hcq]; omega
   ·
    obtain ⟨q1, hq1⟩ : ∃ q1 : Nat, q0 = q1 := ⟨_, rfl⟩
    have hq9 : q1 < 1000000000 := by omega
    rw [hq1]
    have HV1 : Hid (win L i (m + 1 + 1) / Y ≤ q1) := by rw [← hq1]; exact HVg
    clear hq1
    have hO1 := (hownO.stored i (.int .u64 (q1 : Int))).1
    rw [qj _ _ q1 _ rfl] at hO1
    have hbW := (hb.setCell (p := ⟨bo, i, none⟩) hob (.int .u64 (q1 : Int))).drew
    have hL1 := ownsRow_setCell_other hownL (a := ⟨bo, i, none⟩) (by simp [Value.ownBlock]; omega) (.int .u64 (q1 : Int))
    have hB1 := ownsRow_setCell_other hownB (a := ⟨bo, i, none⟩) (by simp [Value.ownBlock]; omega) (.int .u64 (q1 : Int))
    have h := yo L ys gl gb i (m + 1) (n + 1) (n + 1 - i) cb q1 w.heap.size _ (za Hl5) hLl (by omega) (by omega) (by omega) (qL hL1) (qL hB1) (by omega) (za hLd) (za Hys9) hq9
    refine h.mono ?_
    clear h
    rintro e w7 ⟨neg, L1, rfl, hL7, hg7, hso7, hw7⟩
    have hO7 := (qL hO1).kept hg7 (.inr (by simp [Value.ownBlock]; omega))
    have hB7 := (qL hB1).kept hg7 (.inr (by simp [Value.ownBlock]; omega))
    have hb7 := hbW.grown hg7 hbW.size (fun k hk => by cases hk; omega)
    rw [za Hyso] at hw7
    have Hso7 := hide hso7
    have Hw7 := hide hw7
    clear hO1 hL1 hB1 hbW hg7 hso7 hw7
    go_wp2_with fail
    go_loopw [12] (fun bl wr => ∃ (q : Nat) (neg : Bool) (L2 : List Nat), bl = .bool neg ∧ q < 1000000000 ∧ wr.ownsRow w.heap.size 80 1 (.slice (some ⟨gl, 0, none⟩) (n + 1) (n + 1)) (n + 1) (u64s L2) ∧ wr.ownsRow w.heap.size 80 1 (.slice (some ⟨bo, 0, none⟩) K K) K (u64s (O.set i q)) ∧
      wr.ownsRow 0 80 1 (.slice (some ⟨gb, 0, none⟩) (m + 1) cb) (m + 1) (u64s ys) ∧ Below w.heap.size w wr ∧ Hid (zO L L2 i (m + 1 + 1)) ∧
      Hid (win L2 i (m + 1 + 1) + q * Y = win L i (m + 1 + 1) + if neg then 1000000000 ^ (m + 1 + 1) else 0) ∧ Hid (win L i (m + 1 + 1) / Y ≤ q))
     (fun _ wr => cellN wr bo i)
    case atStart => exact ⟨q1, neg, L1, rfl, hq9, hL7, hO7, hB7, hb7, Hso7, Hw7, HV1⟩
    case round =>
     clear hL7 hO7 hB7 hb7 Hso7 Hw7 HV1 hownL hownO hownB hb
     obtain ⟨q, ng, L2, rfl, hq, hL2, hO2, hB2, hb2, hso2, hw2, hV2⟩ := hrel
     cases ng with
     | false =>
      go_wp2_with fail
      go_roundw
      case rel =>
       have hw3 : win L2 i (m + 1 + 1) + q * Y = win L i (m + 1 + 1) := by have := za hw2; simpa using this
       have hlt3 := vE hw3 (za hV2) hpos0
       have hst := ye (m := m + 1) (by omega) (by omega) (za hLd) (za HYl) (za hinv) (za hR) (za hso2) hw3 hlt3
       exact ⟨i, L2, O.set i q, by omega, rfl, (za hso2).1.trans hLl, by simpa using hOl, hL2, hO2, hB2, hb2, hide (za hso2).2.1, hide (zX (za hOd) hq), hide hst.1, hide hst.2⟩
      case measure => simp [intOf]
     | true =>
      have hcO := hO2.cellAt i (by omega)
      rw [zh _ _ (by simp; omega), List.getElem_set_self] at hcO
      have hfO2 := hO2.frozenAt i
      have hmore := yd (za hw2) (xf (za hso2).2.1 i (m + 1 + 1) (by have := (za hso2).1; omega))
      have hq0' : 0 < q := Nat.lt_of_le_of_lt (Nat.zero_le _) hmore
      obtain ⟨q', rfl⟩ : ∃ q', q = q' + 1 := ⟨q - 1, by omega⟩
      have HV3 : Hid (win L i (m + 1 + 1) / Y ≤ q') := Nat.le_of_lt_succ hmore
      clear hmore
      have hO3 := (hO2.stored i (.int .u64 (q' : Int))).1
      rw [qj _ _ q' _ rfl, List.set_set] at hO3
      have hbW := hb2.setCell (p := ⟨bo, i, none⟩) hob (.int .u64 (q' : Int))
      have hL3 := ownsRow_setCell_other hL2 (a := ⟨bo, i, none⟩) (by simp [Value.ownBlock]; omega) (.int .u64 (q' : Int))
      have hB3 := ownsRow_setCell_other hB2 (a := ⟨bo, i, none⟩) (by simp [Value.ownBlock]; omega) (.int .u64 (q' : Int))
      have hcq : cellN wr bo i = q' + 1 := jp hcO
      have Hcq := hide hcq
      have hL2l := (za hso2).1.trans hLl
      have HO3 := hide hO3
      clear hL2 hO2 hB2 hb2 hcq hO3
      go_wp2_with fail
      have h := yn L2 ys gl gb i (m + 1) (n + 1) (n + 1 - i) cb w.heap.size _ (za Hl5) hL2l (by omega) (by omega) (by omega) hL3 hB3 (by omega) (za hso2).2.1 (za Hys9)
      refine h.mono ?_
      clear h
      rintro e w8 ⟨up, L3, rfl, hL8, hg8, hso8, hw8⟩
      have hO8 := (za HO3).kept hg8 (.inr (by simp [Value.ownBlock]; omega))
      have hB8 := hB3.kept hg8 (.inr (by simp [Value.ownBlock]; omega))
      have hb8 := hbW.grown hg8 hbW.size (fun k hk => by cases hk; omega)
      have hc8 := hO8.cellAt i (by omega)
      rw [zh _ _ (by simp; omega), List.getElem_set_self] at hc8
      have Hc8 := hide (jp hc8)
      have Hso8 : Hid (zO L L3 i (m + 1 + 1)) := jE (za hso2) hso8
      have Hw8 : Hid (win L3 i (m + 1 + 1) + q' * Y = win L i (m + 1 + 1) + if (!up) then 1000000000 ^ (m + 1 + 1) else 0) := by
       rw [za Hyso] at hw8
       exact jD (za hw2) hw8
      clear hc8 hL3 hB3 hbW hg8 hso8 hw8 hso2 hw2
      have hnot : ∀ (x : Bool) (w : World), (Op.unary .not (.bool x)).run Tryd.prog w = .ok (.bool (!x)) w := fun _ _ => rfl
      go_wp2_with fail
      go_roundw
      case rel => exact ⟨q', !up, L3, rfl, by omega, hL8, hO8, hB8, hb8, Hso8, Hw8, HV3⟩
      case measure => rw [za Hc8, za Hcq]; omega
theorem kQ (x y : Nat) (v u : Value) (w : World) (hx : isNat w v x) (hy : isNat w u y) (hsx : (gr x).length ≤ 1000000) (hsy : (gr y).length ≤ 1000000) (hy0 : 0 < y) :
  Calls Tryd.prog 94 #[v, u] w fun e w' => (∃ v1 v2, e = .returned (.tuple #[v1, v2]) ∧ isNat w' v1 (x / y) ∧ isNat w' v2 (x % y)) ∧ Below w.heap.size w w' := by
 rcases Nat.lt_or_ge x y with h | h
 ·exact kS x y v u w hx hy hsx hsy h
 ·exact kR x y v u w hx hy hsx hsy h hy0
def valU (w : World) : Value → Nat
 | .slice (some a) n _ => ofd 1000000000 ((List.range n).map fun j => cellN w a.block j)
 | _ => 0
theorem xI {w : World} {v : Value} {x : Nat} (h : isNat w v x) : valU w v = x := by
 have ho := z9 x
 unfold isNat at h
 generalize gr x = xs at *
 rcases jc h with ⟨rfl, hn, _⟩ | ⟨g, cap, rfl, _⟩
 ·have : xs = [] := List.eq_nil_of_length_eq_zero hn
  subst this
  simp [valU]; simpa [ofd] using ho
 ·show ofd 1000000000 ((List.range xs.length).map fun j => cellN w g j) = x
  rw [← ho]
  congr 1
  apply List.ext_getElem
  ·simp
  ·intro j h1 h2
   simp only [List.getElem_map, List.getElem_range]
   apply jp
   rw [h.cellAt j (by omega), zh _ _ h2]
theorem gcd_c (x y : Nat) (v u : Value) (w : World) (hx : isNat w v x) (hy : isNat w u y) (hsx : (gr x).length ≤ 1000000) (hsy : (gr y).length ≤ 1000000) :
  Calls Tryd.prog 50 #[v, u] w fun e w' => (∃ v', e = .returned v' ∧ isNat w' v' (Nat.gcd x y)) ∧ Below w.heap.size w w' := by
 go_enter Tryd.func50, Tryd.ntmps50
 go_wp2
 go_loopw [0, 1] (fun a b wr => ∃ (x' y' : Nat), isNat wr a x' ∧ isNat wr b y' ∧ (gr x').length ≤ 1000000 ∧ (gr y').length ≤ 1000000 ∧ Below w.heap.size w wr ∧ Hid (Nat.gcd x' y' = Nat.gcd x y))
  (fun _ b wr => valU wr b)
 case atStart => exact ⟨x, y, hx, hy, hsx, hsy, Below.refl _ _, hide rfl⟩
 case round =>
  obtain ⟨x', y', hx', hy', hsx', hsy', hb, hg⟩ := hrel
  obtain ⟨p, cap, hv⟩ := zd hy'
  by_cases hz : y' = 0
  ·subst hz
   rw [vf] at hv
   subst hv
   go_wp2
   go_ret
   refine ⟨⟨_, rfl, ?_⟩, hb⟩
   rw [← za hg, Nat.gcd_zero_right]
   exact hx'
  ·have hn0 : 0 < (gr y').length := by
    rcases Nat.eq_zero_or_pos (gr y').length with h | h
    ·exact absurd (jY.1 (List.eq_nil_of_length_eq_zero h)) hz
    ·exact h
   have hnI : ¬ ((gr y').length : Int) ≤ 0 := by omega
   have Hy := hide hy'
   have Hx := hide hx'
   subst hv
   clear hx' hy'
   go_wp2_with fail
   refine (kQ x' y' _ _ _ (za Hx) (za Hy) hsx' hsy' (by omega)).mono ?_
   rintro e w1 ⟨⟨v1, v2, rfl, hv1, hv2⟩, hb1⟩
   have hy1 := zl (za Hy) hb1
   have hlt := Nat.mod_lt x' (show 0 < y' by omega)
   have hlen := qs (Nat.le_of_lt hlt)
   have hm1 := xI (za Hy)
   have hm2 := xI hv2
   have Hm1 := hide hm1
   have Hm2 := hide hm2
   have HV2 := hide hv2
   have HY1 := hide hy1
   clear hm1 hm2 hv2 hv1 hy1
   go_wp2_with fail
   go_roundw
   case rel =>
    refine ⟨y', x' % y', za HY1, za HV2, hsy', by omega, hb.trans (hb1.mono hb.size), hide ?_⟩
    rw [Nat.gcd_comm y', ← Nat.gcd_rec y' x', Nat.gcd_comm, za hg]
   case measure =>
    rw [za Hm2, za Hm1]; exact hlt
theorem yQ (l : List UInt8) (k : Nat) (hk : k < l.length) (h : k + 1 < l.length → l[k] ≠ 48) : trim (l.drop k) = l.drop k := by
 apply yx
 by_cases hl : k + 1 < l.length
 ·right
  exact ⟨l[k], l.drop (k + 1), List.drop_eq_getElem_cons (by omega), h hl⟩
 ·left; simp; omega
theorem jr (l : List UInt8) (w : World) (hs : l.length ≤ 1000000000) :
  Calls Tryd.prog 89 #[.string (B l)] w fun e w' => e = .returned (.string (B (trim l))) ∧ w' = w := by
 have hsz : (B l).size ≤ 1000000000 := by rw [zy]; exact hs
 go_enter Tryd.func89, Tryd.ntmps89
 go_wp2
 go_loop [3] (fun i => ∃ k : Nat, k ≤ l.length ∧ (k = 0 ∨ k < l.length) ∧ i = .int .i64 k ∧ Hid (trim l = trim (l.drop k))) (fun i => l.length - (intOf i).toNat)
 case atStart => exact ⟨0, Nat.zero_le _, .inl rfl, rfl, rfl⟩
 case round =>
  obtain ⟨k, hk, hk', rfl, ht⟩ := hrel
  have fin : (k + 1 < l.length → ∀ h, l[k]'h ≠ 48) → (B l).extract k (B l).size = B (trim l) := by
   intro h
   rw [vW, zy, List.take_length, ht.out]
   by_cases h0 : k < l.length
   ·rw [yQ l k h0 (fun hh => h hh h0)]
   ·have : l = [] := by apply List.eq_nil_of_length_eq_zero; omega
    subst this; simp [trim]
  have Fin := hide fin
  clear fin
  by_cases hlt : k + 1 < l.length
  ·have hlt2 : k + 1 < (B l).size := by rw [zy]; exact hlt
   go_wp2
   ·have hz : l[k] = 48 := by
     have h := ‹(((B l)[k].toNat : Int) == 48) = true›
     rw [B_get] at h
     apply UInt8.toNat_inj.1
     have := beq_iff_eq.1 h
     simp only [UInt8.toNat_ofNat]
     omega
    go_round
    case rel => exact ⟨k + 1, by omega, by omega, by go_num, by show trim l = _; rw [ht.out]; exact Zs l k (by omega) hz⟩
    case measure => simp [intOf]; omega
   ·have hz : ∀ h : k < l.length, l[k] ≠ 48 := by
     have h := beq_eq_false_iff_ne.1 ‹(((B l)[k].toNat : Int) == 48) = false›
     rw [B_get] at h
     intro hh hc
     rw [hc] at h
     exact h rfl
    go_ret
    exact ⟨qn (za Fin (fun _ h => hz h)), rfl⟩
  ·have hlt2 : ¬ k + 1 < (B l).size := by rw [zy]; exact hlt
   have hkk : k ≤ (B l).size := by rw [zy]; exact hk
   go_wp2
   go_ret
   exact ⟨qn (za Fin (fun h => absurd h hlt)), rfl⟩
theorem QZ (n k : Nat) (w : World) (hs : (dec n).size ≤ 1000000000) (hk : k ≤ 1000000000) :
  Calls Tryd.prog 102 #[.string (dec n), .int .i64 k] w fun e w' => e = .returned (.int .i64 ((n / 10 ^ k % 10 : Nat) : Int)) ∧ w' = w := by
 by_cases h : k < (dec n).size
 ·have hb : (n / 10 ^ k % 10) < 10 := Nat.mod_lt _ (by omega)
  have hd : (dec n)[(dec n).size - 1 - k]'(by omega) = sg (n / 10 ^ k % 10) := by
   have h1 : k < (txl 10 n).length := by simpa [dec, txt, zy] using h
   have := kA n k h1
   rw [List.getElem_reverse] at this
   rw [← this]
   simp only [dec, txt, B_get, zy]
  have hn : ((dec n)[(dec n).size - 1 - k]'(by omega)).toNat = 48 + n / 10 ^ k % 10 := by rw [hd, zY (by omega), if_pos hb]
  generalize hg : n / 10 ^ k % 10 = d at *
  have Hn := hide hn
  clear hn hd hg
  go_enter Tryd.func102, Tryd.ntmps102
  go_wp2
  go_ret
  exact ⟨jT (by rw [za Hn]; omega), rfl⟩
 ·have hz : n / 10 ^ k % 10 = 0 := by
   rw [vX n k (by simpa [dec, txt, zy] using h)]
  rw [hz]
  go_enter Tryd.func102, Tryd.ntmps102
  go_wp2
  go_ret
  exact ⟨rfl, rfl⟩
theorem q7 (n k d : Nat) (w : World) (hd : n / 10 ^ k % 10 = d) (hs : (dec n).size ≤ 1000000000) (hk : k ≤ 1000000000) :
  Calls Tryd.prog 102 #[.string (dec n), .int .i64 k] w fun e w' => e = .returned (.int .i64 (d : Int)) ∧ w' = w := by
 subst hd; exact QZ n k w hs hk
theorem Tryd.infoInt : (Tryd.prog.info? 3).map (fun i => (i.zero, i.size, i.bytes)) = some (some (.int .i64 0), 1, 8) := by kernel_rfl
theorem Tryd.infoByte : (Tryd.prog.info? 5).map (fun i => (i.zero, i.size, i.bytes)) = some (some (.int .u8 0), 1, 1) := by kernel_rfl
def z6 (xs : List Nat) (n k : Nat) : List UInt8 := List.replicate (n - k) 0 ++ ((xs.take k).map sg).reverse
theorem vU (xs : List Nat) (k : Nat) (h : k < xs.length) :
  (z6 xs xs.length k).set (xs.length - 1 - k) (sg xs[k]) = z6 xs xs.length (k + 1) := by
 unfold z6
 have e : xs.length - k = (xs.length - 1 - k) + 1 := by omega
 rw [e, List.replicate_succ', List.append_assoc, List.set_append_right _ _ (by simp)]
 have e2 : xs.length - (k + 1) = xs.length - 1 - k := by omega
 rw [e2, List.length_replicate, Nat.sub_self, List.take_succ_eq_append_getElem h, List.map_append, List.reverse_append]
 simp
theorem vT (xs : List Nat) : z6 xs xs.length xs.length = (xs.map sg).reverse := by simp [z6]
theorem vJ (xs : List Nat) : z6 xs xs.length 0 = List.replicate xs.length 0 := by simp [z6]
theorem Qk (xs : List Nat) (hd : ∀ d ∈ xs, d < 10) (hx : xs ≠ []) : trim (z6 xs xs.length xs.length) = txl 10 (ofd 10 xs) := by
 rw [vT]; exact qW xs hd hx
theorem vz (xs : List Nat) (v : Value) (w : World) (hd : ∀ d ∈ xs, d < 10) (hs : xs.length ≤ 1000000000) (h : w.ownsRow 0 3 1 v xs.length (ints xs)) :
  Calls Tryd.prog 103 #[v] w fun e w' => e = .returned (.string (dec (ofd 10 xs))) ∧ Below w.heap.size w w' := by
 obtain ⟨i0, hi, hz0, hz1, hz2⟩ := info_parts Tryd.infoByte
 rcases h.2 with ⟨rfl, hn⟩ | ⟨g, cap, cur, rfl, hbg, hgg, hnc, hcm, hcs, htake⟩
 ·have hx : xs = [] := List.eq_nil_of_length_eq_zero hn
  subst hx
  clear h hs hd hn
  go_enter Tryd.func103, Tryd.ntmps103
  go_wp2_with (refine wpList_make_full _ rfl (.tmp 6) (.tmp 6) 22 rfl w.heap.size 5 i0 (.int .u8 0) 1 Tryd.underlying22 hi hz0 hz1 .i64 .i64 0 0 0 rfl rfl rfl rfl (by rw [hz2]; omega) (by decide) (Nat.le_refl _) ?_; intro w1 hown1 hg1)
  have hb := (Below.refl w.heap.size w).grown hg1 (Nat.le_refl _) (fun _ h => by cases h)
  clear hown1 hg1
  refine wp_loop_rounds 1 ?_; rw [rounds_succ]
  go_wp2
  go_ret
  exact ⟨rfl, hb⟩
 ·clear htake hcs hcm hgg hbg
  have Hd := hide hd
  clear hd
  go_enter Tryd.func103, Tryd.ntmps103
  go_wp2_with (refine wpList_make_full _ rfl (.tmp 6) (.tmp 6) 22 rfl w.heap.size 5 i0 (.int .u8 0) 1 Tryd.underlying22 hi hz0 hz1 .i64 .i64 xs.length xs.length xs.length rfl rfl rfl rfl (by rw [hz2]; omega) (by unfold maxLen; omega) (Nat.le_refl _) ?_; intro w1 hown1 hg1)
  go_loopw [4] (fun i wr => ∃ k : Nat, k ≤ xs.length ∧ i = .int .i64 k ∧ wr.ownsRow w.heap.size 5 1 (.slice (some ⟨w.heap.size, 0, none⟩) xs.length xs.length) xs.length ((z6 xs xs.length k).map u8v) ∧ Below w.heap.size w wr)
   (fun i _ => xs.length - (intOf i).toNat)
  case atStart =>
   refine ⟨0, Nat.zero_le _, rfl, ?_, (Below.refl _ _).grown hg1 (Nat.le_refl _) (fun _ h => by cases h)⟩
   rw [vJ]
   simpa [Value.cells, toList_madeCells_one, u8v] using hown1
  case round =>
   obtain ⟨k, hk, rfl, hown, hb⟩ := hrel
   by_cases hlt : k < xs.length
   ·have hc1 : wr.cell? ⟨g, k, none⟩ = some (.int .i64 (xs[k] : Nat)) := by
     rw [(zl h hb).cellAt k (by omega)]; simp [ints, hlt]
    have hf := hown.frozenAt (xs.length - 1 - k)
    obtain ⟨v0, hv0⟩ := zZ hown (xs.length - 1 - k) (by omega)
    have hst := hown.stored (xs.length - 1 - k) (u8v (sg xs[k]))
    have hdk : xs[k] < 10 := za Hd _ (List.getElem_mem hlt)
    rw [← List.map_set, vU xs k hlt, yR hdk] at hst
    have Hst := hide hst
    clear hst
    go_wp2
    go_roundw
    case rel => exact ⟨k + 1, by omega, by go_num, (za Hst).1, hb.setCell (by simp) _⟩
    case measure => simp [intOf]; omega
   ·have hkn : k = xs.length := by omega
    subst hkn
    by_cases hx : xs = []
    ·subst hx
     go_wp2
     go_ret
     exact ⟨rfl, hb⟩
    ·have hx0 : ((xs.length : Int) == 0) = false := by
      have : xs.length ≠ 0 := fun h => hx (List.eq_nil_of_length_eq_zero h)
      rw [beq_eq_false_iff_ne]; omega
     have hconv := qB (dst := 9) Tryd.underlying22 Tryd.underlying5 Tryd.underlying9 hown
     have Fin := hide (Qk xs (za Hd) hx)
     go_wp2_with (go_at_call 89; refine (jr _ _ (by simp [z6]; omega)).mono ?_; rintro e w' ⟨rfl, rfl⟩)
     go_ret
     exact ⟨qn (by rw [za Fin]; rfl), hb⟩
theorem xC (N : Nat) (w : World) (hN : N < 18446744073709551616) :
  Calls Tryd.prog 55 #[.int .u64 N] w fun e w' => (∃ v', e = .returned v' ∧ isNat w' v' N) ∧ Below w.heap.size w w' := by
 obtain ⟨i0, hi, hz0, hz1, hz2⟩ := info_parts Tryd.infoU64
 have hlen : (gr N).length ≤ 3 := qr (by omega) (Nat.lt_of_lt_of_le hN (by decide))
 have Hlen := hide hlen
 clear hlen
 go_enter Tryd.func55, Tryd.ntmps55
 go_wp2
 go_loopw [0, 3] (fun wd v wr => ∃ (k : Nat) (xs : List Nat), wd = .int .u64 k ∧ k < 18446744073709551616 ∧ wr.ownsRow w.heap.size 80 1 v xs.length (u64s xs) ∧ Below w.heap.size w wr ∧ Hid (gr N = xs ++ gr k))
  (fun wd _ _ => (intOf wd).toNat)
 case atStart =>
  exact ⟨N, [], rfl, hN, World.ownsRow_made w #[] 0 (Nat.le_refl _) (by decide) (by simp), (Below.refl _ _).alloc (Nat.le_refl _) _, hide (by simp)⟩
 case round =>
  obtain ⟨k, xs, rfl, hk, hown, hb, hgr⟩ := hrel
  by_cases hz : 0 < k
  ·have hg := qO (b := 1000000000) (by omega) hz
   have hxl : xs.length ≤ 3 := by
    have h1 := congrArg List.length (za hgr)
    have := za Hlen
    rw [List.length_append] at h1; omega
   obtain ⟨d, hd⟩ : ∃ d : Nat, (k : Int) % 1000000000 = d := ⟨k % 1000000000, by omega⟩
   obtain ⟨q, hq⟩ : ∃ d : Nat, (k : Int) / 1000000000 = d := ⟨k / 1000000000, by omega⟩
   have hgr2 : gr N = (xs ++ [d]) ++ gr q := by
    rw [za hgr]
    unfold gr
    rw [hg, show k % 1000000000 = d from by omega, show k / 1000000000 = q from by omega]; simp
   have Hgr2 := hide hgr2
   have hw := hb.size
   clear hg hgr2
   go_wp2_with (at_builtin; refine wpList_append_own _ rfl (.tmp 9) (.tmp 12) 65 rfl w.heap.size 80 i0 (.int .u64 0) 1 8 Tryd.underlying65 hi hz0 hz1 hz2 rfl (by decide) _ _ _ rfl (hown.alloc _) ⟨wr.heap.size, 0, none⟩ 1 1 [.int .u64 d] rfl rfl (cell_one_new _ _ _) (by intro u hu; simp at hu; subst hu; rfl) (by unfold maxLen; omega) (by omega) (by simp; omega) ?_; intro v2 w2 hown2 hg2 _)
   have hbX := zV (hb.alloc hw _) (hown.alloc _) hg2 (by simp <;> omega)
   go_roundw
   case rel => exact ⟨q, xs ++ [d], rfl, by omega, by rw [List.length_append, ← Zv]; exact hown2, hbX, Hgr2⟩
   case measure => simp [intOf]; omega
  ·have hk0 : k = 0 := by omega
   subst hk0
   go_wp2
   go_ret
   refine ⟨⟨_, rfl, ?_⟩, hb⟩
   have h1 := za hgr
   rw [vf, List.append_nil] at h1
   unfold isNat
   rw [h1]
   exact zE hown (Nat.zero_le _)
def revTo (l l' : List UInt8) (k : Nat) : Prop :=
 l'.length = l.length ∧ ∀ t (h : t < l.length) (h' : t < l'.length), l'[t] = if t < k ∨ l.length - k ≤ t then l[l.length - 1 - t]'(by omega) else l[t]
theorem k8 (l : List UInt8) : revTo l l 0 := ⟨rfl, fun t h h' => by rw [if_neg (by omega)]⟩
theorem Zh {l l' : List UInt8} {k : Nat} (h : revTo l l' k) (hk : l.length ≤ 2 * k + 1) : l' = l.reverse := by
 apply List.ext_getElem
 ·simp [h.1]
 ·intro t h1 h2
  rw [List.getElem_reverse, h.2 t (by simpa using h2) h1]
  by_cases ht : t < k ∨ l.length - k ≤ t
  ·rw [if_pos ht]
  ·rw [if_neg ht]
   congr 1
   have : t < l.length := by simpa using h2
   omega
theorem k6 {l l' : List UInt8} {k : Nat} (h : revTo l l' k) (hk : 2 * k + 1 < l.length) {a b : UInt8} (ha : l'[k]? = some a) (hb : l'[l.length - 1 - k]? = some b) :
  revTo l ((l'.set k b).set (l.length - 1 - k) a) (k + 1) := by
 have hl := h.1
 have ha' : l[k]'(by omega) = a := by
  rw [List.getElem?_eq_getElem (by omega)] at ha
  have := h.2 k (by omega) (by omega)
  rw [if_neg (by omega)] at this
  rw [← this]; simpa using ha
 have hb' : l[l.length - 1 - k]'(by omega) = b := by
  rw [List.getElem?_eq_getElem (by omega)] at hb
  have := h.2 (l.length - 1 - k) (by omega) (by omega)
  rw [if_neg (by omega)] at this
  rw [← this]; simpa using hb
 refine ⟨by simpa using hl, ?_⟩
 intro t h1 h2
 by_cases h3 : t = l.length - 1 - k
 ·subst h3
  rw [List.getElem_set_self, if_pos (by omega), ← ha']
  congr 1; omega
 ·rw [List.getElem_set_ne (by omega)]
  by_cases h4 : t = k
  ·subst h4
   rw [List.getElem_set_self, if_pos (by omega), ← hb']
  ·rw [List.getElem_set_ne (by omega), h.2 t h1 (by omega)]
   by_cases h5 : t < k ∨ l.length - k ≤ t
   ·rw [if_pos h5, if_pos (by omega)]
   ·rw [if_neg h5, if_neg (by omega)]
theorem vM (l : List UInt8) (j : Nat) (h : j < l.length) : (l.map u8v)[j]? = some (.int .u8 (l[j]).toNat) := by simp [u8v, h]
theorem xH (l : List UInt8) (j : Nat) (c : UInt8) : (l.map u8v).set j (.int .u8 c.toNat) = (l.set j c).map u8v := by simp [u8v, List.map_set]
theorem Zi (l : List UInt8) (g cap base : Nat) (w : World) (hs : l.length ≤ 1000000000) (h : w.ownsRow base 5 1 (.slice (some ⟨g, 0, none⟩) l.length cap) l.length (l.map u8v)) :
  Calls Tryd.prog 101 #[.slice (some ⟨g, 0, none⟩) l.length cap] w fun e w' => e = .returned (.tuple #[]) ∧ w'.ownsRow base 5 1 (.slice (some ⟨g, 0, none⟩) l.length cap) l.length (l.reverse.map u8v) ∧ w.grownBy w' (some g) := by
 go_enter Tryd.func101, Tryd.ntmps101
 go_wp2
 go_loopw [2, 3] (fun i j wr => ∃ (k : Nat) (l' : List UInt8), 2 * k ≤ l.length + 1 ∧ i = .int .i64 k ∧ j = .int .i64 ((l.length : Int) - 1 - k) ∧ wr.ownsRow base 5 1 (.slice (some ⟨g, 0, none⟩) l.length cap) l.length (l'.map u8v) ∧ w.grownBy wr (some g) ∧ Hid (revTo l l' k))
  (fun i _ _ => l.length - (intOf i).toNat)
 case atStart => exact ⟨0, l, by omega, rfl, by go_num, h, World.grownBy.refl _ _, hide (k8 l)⟩
 case round =>
  obtain ⟨k, l', hk, rfl, rfl, hown, hg, hrev⟩ := hrel
  by_cases hlt : 2 * k + 1 < l.length
  ·have hll := (za hrev).1
   have hlI : (k : Int) < (l.length : Int) - 1 - k := by omega
   have hc0 := hown.cellAt k (by omega)
   rw [vM _ _ (by omega)] at hc0
   have hc1 := hown.cellAt (l.length - 1 - k) (by omega)
   rw [vM _ _ (by omega)] at hc1
   have hf0 := hown.frozenAt k
   have hf1 := hown.frozenAt (l.length - 1 - k)
   have hga : l'[k]? = some (l'[k]'(by omega)) := List.getElem?_eq_getElem _
   have hgb : l'[l.length - 1 - k]? = some (l'[l.length - 1 - k]'(by omega)) := List.getElem?_eq_getElem _
   have hstep := fun a b ha hb => @k6 l l' k (za hrev) hlt a b ha hb
   have hst1 := hstep _ _ hga hgb
   generalize l'[k]'(by omega) = a at *
   generalize l'[l.length - 1 - k]'(by omega) = b at *
   have hs1 := hown.stored k (.int .u8 b.toNat)
   rw [xH] at hs1
   have hs2 := hs1.1.stored (l.length - 1 - k) (.int .u8 a.toNat)
   rw [xH] at hs2
   have Hown := hide hs2.1
   have Hg := hide (q6 (q6 hg hs1.2) hs2.2)
   have Hst := hide hst1
   have e1 : ((l.length : Int) - 1 - k).toNat = l.length - 1 - k := by omega
   have hkl : (k : Int) < l.length := by omega
   have hjl : (l.length : Int) - 1 - k < l.length := by omega
   have hj0 : 0 ≤ (l.length : Int) - 1 - k := by omega
   have hne : ¬ k = l.length - 1 - k := by omega
   clear hs1 hs2 hst1 hstep hga hgb hll
   go_wp2
   go_region
   all_goals
    go_wp2
    go_roundw
    case rel => exact ⟨k + 1, (l'.set k b).set (l.length - 1 - k) a, by omega, by go_num, by go_num, za Hown, ⟨(za Hg).os, (za Hg).tape, (za Hg).output, (za Hg).size, (za Hg).block⟩, Hst⟩
    case measure => simp [intOf]; omega
  ·go_wp2
   go_end0
   have := Zh (za hrev) (by omega)
   rw [this] at hown
   exact ⟨rfl, hown, hg⟩
def big : Nat := 100000
theorem zj (n : Nat) : (dec n).size = (txl 10 n).length := by simp [dec, txt, zy]
theorem z8 (n : Nat) : n < 10 ^ (dec n).size := by rw [zj]; exact vC (by omega) n
theorem QM {a b X l : Nat} (hba : b ≤ a) (hX : X < 10 ^ (dec a).size) (h : X + b % 10 ^ (dec a).size = a % 10 ^ (dec a).size + l * 10 ^ (dec a).size) : X = a - b := by
 have ha := z8 a
 rw [Nat.mod_eq_of_lt ha, Nat.mod_eq_of_lt (by omega)] at h
 generalize 10 ^ (dec a).size = p at *
 have : l = 0 := by
  rcases Nat.eq_zero_or_pos l with h0 | h0
  ·exact h0
  ·have := Nat.mul_le_mul_right p h0
   omega
 subst this; omega
theorem yG (a b : Nat) (w : World) (hba : b ≤ a) (hs : (dec a).size ≤ 100000) :
  Calls Tryd.prog 109 #[.string (dec a), .string (dec b)] w fun e w' => e = .returned (.string (dec (a - b))) ∧ Below w.heap.size w w' := by
 obtain ⟨i0, hi, hz0, hz1, hz2⟩ := info_parts Tryd.infoInt
 have hbs : (dec b).size ≤ 1000000000 := by
  have := qb (b := 10) (by omega) (qv a) (Nat.lt_of_le_of_lt hba (z8 a))
  rw [zj b]; omega
 have Hba := hide hba
 clear hba
 go_enter Tryd.func109, Tryd.ntmps109
 go_wp2
 go_loopw [5, 6, 7] (fun v l i wr => ∃ (k c : Nat) (xs : List Nat), k ≤ (dec a).size ∧ i = .int .i64 k ∧ l = .int .i64 c ∧ c ≤ 1 ∧ xs.length = k ∧ wr.ownsRow w.heap.size 3 1 v k (ints xs) ∧ Below w.heap.size w wr ∧
   Hid (∀ d ∈ xs, d < 10) ∧ Hid (ofd 10 xs + b % 10 ^ k = a % 10 ^ k + c * 10 ^ k))
  (fun _ _ i _ => (dec a).size - (intOf i).toNat)
 case atStart =>
  exact ⟨0, 0, [], Nat.zero_le _, rfl, rfl, by omega, rfl, World.ownsRow_made w #[] 0 (Nat.le_refl _) (by decide) (by simp), (Below.refl _ _).alloc (Nat.le_refl _) _, hide (by simp), hide (by simp [ofd, Nat.mod_one])⟩
 case round =>
  obtain ⟨k, c, xs, hk, rfl, rfl, hc, hxk, hown, hb, hdg, hval⟩ := hrel
  by_cases hlt : k < (dec a).size
  ·have hak : a / 10 ^ k % 10 < 10 := Nat.mod_lt _ (by omega)
   have hbk : b / 10 ^ k % 10 < 10 := Nat.mod_lt _ (by omega)
   generalize hga : a / 10 ^ k % 10 = ak at *
   generalize hgb : b / 10 ^ k % 10 = bk at *
   have Ha := hide hga
   have Hb := hide hgb
   clear hga hgb
   go_wp2_with fail
   refine (q7 a k ak _ (za Ha) (by omega) (by omega)).mono ?_
   rintro e w1 ⟨rfl, rfl⟩
   go_wp2_with fail
   refine (q7 b k bk _ (za Hb) (by omega) (by omega)).mono ?_
   rintro e w1 ⟨rfl, rfl⟩
   by_cases hneg : (ak : Int) - bk - c < 0
   ·obtain ⟨d, hd⟩ : ∃ d : Nat, (ak : Int) - bk - c + 10 = d := ⟨((ak : Int) - bk - c + 10).toNat, by omega⟩
    have hdl : d < 10 := by omega
    have hw := hb.size
    go_wp2_with (at_builtin; refine wpList_append_own _ rfl (.tmp 29) (.tmp 31) 41 rfl w.heap.size 3 i0 (.int .i64 0) 1 8 Tryd.underlying41 hi hz0 hz1 hz2 rfl (by decide) _ _ _ rfl (hown.alloc _) ⟨w1.heap.size, 0, none⟩ 1 1 [.int .i64 d] rfl rfl (cell_one_new _ _ _) (by intro u hu; simp at hu; subst hu; rfl) (by unfold maxLen; omega) (by omega) (by simp; omega) ?_; intro v2 w2 hown2 hg2 _)
    have hbX := zV (hb.alloc hw _) (hown.alloc _) hg2 (by simp; omega)
    go_roundw
    case rel => exact ⟨k + 1, 1, xs ++ [d], by omega, by go_num, rfl, by omega, by simp [hxk], by rw [← jb]; exact hown2, hbX, q8 hdg hdl, hide (by rw [zG, hxk]; exact km (za hval) (za Ha) (za Hb) (by omega))⟩
    case measure => simp [intOf]; omega
   ·obtain ⟨d, hd⟩ : ∃ d : Nat, (ak : Int) - bk - c = d := ⟨((ak : Int) - bk - c).toNat, by omega⟩
    have hdl : d < 10 := by omega
    have hw := hb.size
    go_wp2_with (at_builtin; refine wpList_append_own _ rfl (.tmp 29) (.tmp 31) 41 rfl w.heap.size 3 i0 (.int .i64 0) 1 8 Tryd.underlying41 hi hz0 hz1 hz2 rfl (by decide) _ _ _ rfl (hown.alloc _) ⟨w1.heap.size, 0, none⟩ 1 1 [.int .i64 d] rfl rfl (cell_one_new _ _ _) (by intro u hu; simp at hu; subst hu; rfl) (by unfold maxLen; omega) (by omega) (by simp; omega) ?_; intro v2 w2 hown2 hg2 _)
    have hbX := zV (hb.alloc hw _) (hown.alloc _) hg2 (by simp; omega)
    go_roundw
    case rel => exact ⟨k + 1, 0, xs ++ [d], by omega, by go_num, rfl, by omega, by simp [hxk], by rw [← jb]; exact hown2, hbX, q8 hdg hdl, hide (by rw [zG, hxk]; exact km (za hval) (za Ha) (za Hb) (by omega))⟩
    case measure => simp [intOf]; omega
  ·go_wp2_with fail
   refine (vz xs _ _ (za hdg) (by omega) (zE (hxk ▸ hown) (Nat.zero_le _))).mono ?_
   rintro e w1 ⟨rfl, hb1⟩
   go_wp2
   go_ret
   have hkn : k = (dec a).size := by omega
   subst hkn
   exact ⟨qn (by rw [QM (za Hba) (hxk ▸ jt xs (za hdg)) (za hval)]), hb.trans (hb1.mono hb.size)⟩
theorem vv (n k : Nat) (h : (dec n).size ≤ k) : n / 10 ^ k % 10 = 0 := by
 rw [vX n k (by rw [← zj]; exact h)]
theorem Qq {a b X k : Nat} (h1 : (dec a).size ≤ k) (h2 : (dec b).size ≤ k) (h : X + 0 * 10 ^ k = a % 10 ^ k + b % 10 ^ k) : X = a + b := by
 have ha := Nat.lt_of_lt_of_le (z8 a) (Nat.pow_le_pow_right (show 0 < 10 by omega) h1)
 have hb := Nat.lt_of_lt_of_le (z8 b) (Nat.pow_le_pow_right (show 0 < 10 by omega) h2)
 rw [Nat.mod_eq_of_lt ha, Nat.mod_eq_of_lt hb] at h
 omega
theorem Qz (a b : Nat) (w : World) (hsa : (dec a).size ≤ 100000) (hsb : (dec b).size ≤ 100000) :
  Calls Tryd.prog 58 #[.string (dec a), .string (dec b)] w fun e w' => e = .returned (.string (dec (a + b))) ∧ Below w.heap.size w w' := by
 obtain ⟨i0, hi, hz0, hz1, hz2⟩ := info_parts Tryd.infoInt
 obtain ⟨M, hM1, hM2, hM3⟩ : ∃ M, (dec a).size ≤ M ∧ (dec b).size ≤ M ∧ M ≤ 100000 := ⟨max (dec a).size (dec b).size, by omega, by omega, by omega⟩
 go_enter Tryd.func58, Tryd.ntmps58
 go_wp2
 go_loopw [5, 6, 7] (fun v l i wr => ∃ (k c : Nat) (xs : List Nat), k ≤ M + 1 ∧ k + c ≤ M + 1 ∧ i = .int .i64 k ∧ l = .int .i64 c ∧ c ≤ 1 ∧ xs.length = k ∧ wr.ownsRow w.heap.size 3 1 v k (ints xs) ∧ Below w.heap.size w wr ∧
   Hid (∀ d ∈ xs, d < 10) ∧ Hid (ofd 10 xs + c * 10 ^ k = a % 10 ^ k + b % 10 ^ k))
  (fun _ _ i _ => M + 1 - (intOf i).toNat)
 case atStart =>
  exact ⟨0, 0, [], by omega, by omega, rfl, rfl, by omega, rfl, World.ownsRow_made w #[] 0 (Nat.le_refl _) (by decide) (by simp), (Below.refl _ _).alloc (Nat.le_refl _) _, hide (by simp), hide (by simp [ofd, Nat.mod_one])⟩
 case round =>
  obtain ⟨k, c, xs, hk, hkc, rfl, rfl, hc, hxk, hown, hb, hdg, hval⟩ := hrel
  have hak : a / 10 ^ k % 10 < 10 := Nat.mod_lt _ (by omega)
  have hbk : b / 10 ^ k % 10 < 10 := Nat.mod_lt _ (by omega)
  have ha0 := vv a k
  have hb0 := vv b k
  generalize hga : a / 10 ^ k % 10 = ak at *
  generalize hgb : b / 10 ^ k % 10 = bk at *
  have Ha := hide hga
  have Hb := hide hgb
  clear hga hgb
  obtain ⟨d, hd⟩ : ∃ d : Nat, ((ak : Int) + bk + c) % 10 = d := ⟨(((ak : Int) + bk + c) % 10).toNat, by omega⟩
  obtain ⟨c', hc'⟩ : ∃ d : Nat, ((ak : Int) + bk + c) / 10 = d := ⟨(((ak : Int) + bk + c) / 10).toNat, by omega⟩
  have hdl : d < 10 := by omega
  have hcl : (dec a).size ≤ k → (dec b).size ≤ k → c' = 0 := fun h1 h2 => by have := ha0 h1; have := hb0 h2; omega
  have hkM : k < (dec a).size ∨ k < (dec b).size ∨ 0 < c → k + 1 + c' ≤ M + 1 := by
   intro h
   by_cases h1 : (dec a).size ≤ k
   ·by_cases h2 : (dec b).size ≤ k
    ·have := hcl h1 h2; omega
    ·omega
   ·omega
  have HkM := hide hkM
  clear hcl hkM ha0 hb0
  by_cases h1 : k < (dec a).size
  ·have hkm := za HkM (.inl h1)
   go_wp2_with fail
   refine (q7 a k ak _ (za Ha) (by omega) (by omega)).mono ?_
   rintro e w1 ⟨rfl, rfl⟩
   go_wp2_with fail
   refine (q7 b k bk _ (za Hb) (by omega) (by omega)).mono ?_
   rintro e w1 ⟨rfl, rfl⟩
   have hw := hb.size
   go_wp2_with (at_builtin; refine wpList_append_own _ rfl (.tmp 35) (.tmp 38) 41 rfl w.heap.size 3 i0 (.int .i64 0) 1 8 Tryd.underlying41 hi hz0 hz1 hz2 rfl (by decide) _ _ _ rfl (hown.alloc _) ⟨w1.heap.size, 0, none⟩ 1 1 [.int .i64 d] rfl rfl (cell_one_new _ _ _) (by intro u hu; simp at hu; subst hu; rfl) (by unfold maxLen; omega) (by omega) (by simp; omega) ?_; intro v2 w2 hown2 hg2 _)
   have hbX := zV (hb.alloc hw _) (hown.alloc _) hg2 (by simp; omega)
   go_roundw
   case rel => exact ⟨k + 1, c', xs ++ [d], by omega, by omega, by go_num, by rw [hc'], by omega, by simp [hxk], by rw [← jb]; exact hown2, hbX, q8 hdg hdl, hide (by rw [zG, hxk]; exact vt (za hval) (za Ha) (za Hb) (by omega))⟩
   case measure => simp [intOf]; omega
  ·by_cases h2 : k < (dec b).size
   ·have hkm := za HkM (.inr (.inl h2))
    go_wp2_with fail
    refine (q7 a k ak _ (za Ha) (by omega) (by omega)).mono ?_
    rintro e w1 ⟨rfl, rfl⟩
    go_wp2_with fail
    refine (q7 b k bk _ (za Hb) (by omega) (by omega)).mono ?_
    rintro e w1 ⟨rfl, rfl⟩
    have hw := hb.size
    go_wp2_with (at_builtin; refine wpList_append_own _ rfl (.tmp 35) (.tmp 38) 41 rfl w.heap.size 3 i0 (.int .i64 0) 1 8 Tryd.underlying41 hi hz0 hz1 hz2 rfl (by decide) _ _ _ rfl (hown.alloc _) ⟨w1.heap.size, 0, none⟩ 1 1 [.int .i64 d] rfl rfl (cell_one_new _ _ _) (by intro u hu; simp at hu; subst hu; rfl) (by unfold maxLen; omega) (by omega) (by simp; omega) ?_; intro v2 w2 hown2 hg2 _)
    have hbX := zV (hb.alloc hw _) (hown.alloc _) hg2 (by simp; omega)
    go_roundw
    case rel => exact ⟨k + 1, c', xs ++ [d], by omega, by omega, by go_num, by rw [hc'], by omega, by simp [hxk], by rw [← jb]; exact hown2, hbX, q8 hdg hdl, hide (by rw [zG, hxk]; exact vt (za hval) (za Ha) (za Hb) (by omega))⟩
    case measure => simp [intOf]; omega
   ·by_cases h3 : 0 < c
    ·have hkm := za HkM (.inr (.inr h3))
     go_wp2_with fail
     refine (q7 a k ak _ (za Ha) (by omega) (by omega)).mono ?_
     rintro e w1 ⟨rfl, rfl⟩
     go_wp2_with fail
     refine (q7 b k bk _ (za Hb) (by omega) (by omega)).mono ?_
     rintro e w1 ⟨rfl, rfl⟩
     have hw := hb.size
     go_wp2_with (at_builtin; refine wpList_append_own _ rfl (.tmp 35) (.tmp 38) 41 rfl w.heap.size 3 i0 (.int .i64 0) 1 8 Tryd.underlying41 hi hz0 hz1 hz2 rfl (by decide) _ _ _ rfl (hown.alloc _) ⟨w1.heap.size, 0, none⟩ 1 1 [.int .i64 d] rfl rfl (cell_one_new _ _ _) (by intro u hu; simp at hu; subst hu; rfl) (by unfold maxLen; omega) (by omega) (by simp; omega) ?_; intro v2 w2 hown2 hg2 _)
     have hbX := zV (hb.alloc hw _) (hown.alloc _) hg2 (by simp; omega)
     go_roundw
     case rel => exact ⟨k + 1, c', xs ++ [d], by omega, by omega, by go_num, by rw [hc'], by omega, by simp [hxk], by rw [← jb]; exact hown2, hbX, q8 hdg hdl, hide (by rw [zG, hxk]; exact vt (za hval) (za Ha) (za Hb) (by omega))⟩
     case measure => simp [intOf]; omega
    ·have hc0 : c = 0 := by omega
     subst hc0
     go_wp2_with fail
     refine (vz xs _ _ (za hdg) (by omega) (zE (hxk ▸ hown) (Nat.zero_le _))).mono ?_
     rintro e w1 ⟨rfl, hb1⟩
     go_wp2
     go_ret
     exact ⟨qn (by rw [Qq (Nat.le_of_not_lt h1) (Nat.le_of_not_lt h2) (za hval)]), hb.trans (hb1.mono hb.size)⟩
end Go.Proofs.YtcnnicbaeicboaaDoor
