/- A part of the proof, put together out of smaller texts. -/
import Derived.Test.YtpbnmhnbkfnaeaaGreatDoorM5
import Derived.Handy
import Derived.Laws.CopyOwn
import Derived.BigRegion
import Derived.Lib.OthersKept
set_option linter.all false
set_option maxRecDepth 100000
set_option maxHeartbeats 32000000
namespace Go.Proofs.YtpbnmhnbkfnaeaaGreatDoor
open Go.RowKit Nt
theorem AtC.put2 {w : World} {b : Nat} {x y : Value} {T : TypeId} (h : AtC w b #[x, y] T) (u v : Value) : AtC ((w.setCell ⟨b, 0, none⟩ u).setCell ⟨b, 1, none⟩ v) b #[u, v] T := by
 have h1 : (w.setCell ⟨b, 0, none⟩ u).heap[b]? = some (.cells #[u, y] T (0, 0)) := by
  show (w.heap.modify b _)[b]? = _
  rw [Array.getElem?_modify, if_pos rfl, show w.heap[b]? = _ from h]
  rfl
 show ((w.setCell ⟨b, 0, none⟩ u).heap.modify b _)[b]? = _
 rw [Array.getElem?_modify, if_pos rfl, h1]
 rfl
theorem AtC.far2 {w : World} {b c : Nat} {cs : Array Value} {T : TypeId} (h : AtC w b cs T) (hc : b ≠ c) (u v : Value) (i j : Nat) : AtC ((w.setCell ⟨c, i, none⟩ u).setCell ⟨c, j, none⟩ v) b cs T := by
 unfold AtC; rw [Below.heap_setCell _ _ _ _ hc, Below.heap_setCell _ _ _ _ hc]; exact h
theorem Yy (n : Bool) (x y : Nat) : plusW (n, x) (n, y) = (n, x + y) := by simp [plusW]
theorem zal {n m : Bool} (h : n ≠ m) {x y : Nat} (hl : x < y) : plusW (n, x) (m, y) = (m, y - x) := by simp [plusW, h, hl]
theorem zax {n m : Bool} (h : n ≠ m) {x y : Nat} (hl : ¬ x < y) : plusW (n, x) (m, y) = (n, x - y) := by simp [plusW, h, hl]
theorem VS (n m : Bool) (v u : Value) (x y : Nat) (w : World) (hnm : n = m) (hx : isNat w v x) (hy : isNat w u y) (hsx : (gr x).length ≤ 1000000) (hsy : (gr y).length ≤ 1000000) :
  Calls Tryz.prog 189 #[zS n v, zS m u] w fun e w' => (∃ z, e = .returned z ∧ yy w' w.heap.size z (plusW (n, x) (m, y))) ∧ Below w.heap.size w w' := by
 have hp : plusW (n, x) (m, y) = (n, x + y) := by rw [← hnm, Yy]
 rw [hp]
 clear hp
 have hb : (n == m) = true := by rw [hnm]; simp
 obtain ⟨p, cap, rfl⟩ := zt hx
 obtain ⟨q, cap2, rfl⟩ := zt hy
 obtain ⟨lx, hlx⟩ : ∃ l, (gr x).length = l := ⟨_, rfl⟩
 obtain ⟨ly, hly⟩ : ∃ l, (gr y).length = l := ⟨_, rfl⟩
 rw [hlx] at hx
 rw [hly] at hy
 rw [hlx, hly]
 have hW : Below w.heap.size w (((w.alloc (.cells #[.bool n, .slice p lx cap] 183)).alloc (.cells #[.bool m, .slice q ly cap2] 183)).alloc (.cells #[.bool false, .slice none 0 0] 183)) :=
  (((Below.refl _ _).alloc (Nat.le_refl _) _).alloc (by simp) _).alloc (by simp; omega) _
 have Hx0 := hide hx
 have Hy0 := hide hy
 have Hx := hide (zo hx hW)
 have Hy := hide (zo hy hW)
 have HW := hide hW
 have HA := hide (((AtC.new w #[.bool n, .slice p lx cap] 183).alloc (.cells #[.bool m, .slice q ly cap2] 183)).alloc (.cells #[.bool false, .slice none 0 0] 183))
 have HB := hide ((AtC.new (w.alloc (.cells #[.bool n, .slice p lx cap] 183)) #[.bool m, .slice q ly cap2] 183).alloc (.cells #[.bool false, .slice none 0 0] 183))
 have HC := hide (AtC.new ((w.alloc (.cells #[.bool n, .slice p lx cap] 183)).alloc (.cells #[.bool m, .slice q ly cap2] 183)) #[.bool false, .slice none 0 0] 183)
 have Hl := hide (And.intro hlx hly)
 clear hx hy hW hlx hly
 rw [World.size_alloc] at HB
 rw [World.size_alloc, World.size_alloc] at HC
 unfold zS
 clear hnm
 go_enter Tryz.func189, Tryz.ntmps189
 go_wp2
 go_region_held3 (fun w' => w'.cell? ⟨w.heap.size, 0, none⟩ = some (.bool n) ∧ w'.cell? ⟨w.heap.size, 1, none⟩ = some (.slice p lx cap) ∧ w'.cell? ⟨w.heap.size + 1, 0, none⟩ = some (.bool m) ∧ w'.cell? ⟨w.heap.size + 1, 1, none⟩ = some (.slice q ly cap2)) (((try dsimp only); (repeat' apply And.intro) <;> (first | assumption | (rw [far2 (by first | (simp; done) | (simp; omega))]; assumption) | go_keep))) (first | (go_at_call 208; refine (zbB x y _ _ _ (by first | exact za Hx) (by first | exact za Hy) hsx hsy).mono ?_; rintro e w1 ⟨⟨z, rfl, hz⟩, hb1⟩; obtain ⟨zp, zc, rfl⟩ := zt hz; have hA := (za HA).drew.below hb1; have hB := (za HB).drew.below hb1; have hC := (za HC).drew.below hb1; have a0 : w1.cell? ⟨w.heap.size, 0, none⟩ = some (.bool n) := hA.c 0; have a1 : w1.cell? ⟨w.heap.size, 1, none⟩ = some (.slice p lx cap) := hA.c 1; have b0 : w1.cell? ⟨w.heap.size + 1, 0, none⟩ = some (.bool m) := hB.c 0; have b1 : w1.cell? ⟨w.heap.size + 1, 1, none⟩ = some (.slice q ly cap2) := hB.c 1; have c0 : w1.cell? ⟨w.heap.size + 1 + 1, 0, none⟩ = some (.bool false) := hC.c 0; have c1 : w1.cell? ⟨w.heap.size + 1 + 1, 1, none⟩ = some (.slice none 0 0) := hC.c 1; have cf := hC.f; have Hz := hide hz; have Hb1 := hide hb1; clear hA hB hC hz hb1))
 have hfin : Below w.heap.size w w1 := (za HW).drew.trans ((za Hb1).mono (za HW).drew.size)
 have hs := (za HC).drew.below (za Hb1) |>.lt
 have Hfin := hide hfin
 clear hfin
 go_wp2
 refine bodyPost_ret (v := .agg #[.bool n, .slice zp (gr (x + y)).length zc]) (by simp [results, Tryz.results189, go_sem, c0, c1]) rfl ⟨⟨_, rfl, ⟨_, rfl, ?_⟩⟩, ?_⟩
 ·have h0 := za Hz
  have h1 := qg h0 (b := w.heap.size + 1 + 1) (i := 0) (u := .bool n) (by simp)
  exact zK (qg h1 (b := w.heap.size + 1 + 1) (i := 1) (by simp)) (by simp; omega)
 ·exact ((za Hfin).setCell (by show w.heap.size ≤ w.heap.size + 1 + 1; omega) _).setCell (by show w.heap.size ≤ w.heap.size + 1 + 1; omega) _
theorem XK (n m : Bool) (v u : Value) (x y : Nat) (w : World) (hnm : n ≠ m) (hl : ¬ x < y) (hx : isNat w v x) (hy : isNat w u y) (hsx : (gr x).length ≤ 1000000) (hsy : (gr y).length ≤ 1000000) :
  Calls Tryz.prog 189 #[zS n v, zS m u] w fun e w' => (∃ z, e = .returned z ∧ yy w' w.heap.size z (plusW (n, x) (m, y))) ∧ Below w.heap.size w w' := by
 rw [zax hnm hl]
 have hb : (n == m) = false := by simp [hnm]
 have hd : decide (x < y) = false := decide_eq_false hl
 have hle : y ≤ x := by omega
 obtain ⟨p, cap, rfl⟩ := zt hx
 obtain ⟨q, cap2, rfl⟩ := zt hy
 obtain ⟨lx, hlx⟩ : ∃ l, (gr x).length = l := ⟨_, rfl⟩
 obtain ⟨ly, hly⟩ : ∃ l, (gr y).length = l := ⟨_, rfl⟩
 rw [hlx] at hx
 rw [hly] at hy
 rw [hlx, hly]
 have hW : Below w.heap.size w (((w.alloc (.cells #[.bool n, .slice p lx cap] 183)).alloc (.cells #[.bool m, .slice q ly cap2] 183)).alloc (.cells #[.bool false, .slice none 0 0] 183)) :=
  (((Below.refl _ _).alloc (Nat.le_refl _) _).alloc (by simp) _).alloc (by simp; omega) _
 have Hx0 := hide hx
 have Hy0 := hide hy
 have Hx := hide (zo hx hW)
 have Hy := hide (zo hy hW)
 have HW := hide hW
 have HA := hide (((AtC.new w #[.bool n, .slice p lx cap] 183).alloc (.cells #[.bool m, .slice q ly cap2] 183)).alloc (.cells #[.bool false, .slice none 0 0] 183))
 have HB := hide ((AtC.new (w.alloc (.cells #[.bool n, .slice p lx cap] 183)) #[.bool m, .slice q ly cap2] 183).alloc (.cells #[.bool false, .slice none 0 0] 183))
 have HC := hide (AtC.new ((w.alloc (.cells #[.bool n, .slice p lx cap] 183)).alloc (.cells #[.bool m, .slice q ly cap2] 183)) #[.bool false, .slice none 0 0] 183)
 have Hl := hide (And.intro hlx hly)
 clear hx hy hW hlx hly
 rw [World.size_alloc] at HB
 rw [World.size_alloc, World.size_alloc] at HC
 unfold zS
 clear hnm hl
 go_enter Tryz.func189, Tryz.ntmps189
 go_wp2_with fail
 have h := Jn x y (.slice p lx cap) (.slice q ly cap2) _ (za Hx) (za Hy) (by omega) (by omega)
 refine h.mono ?_
 clear h
 rw [hd]
 rintro e w0 ⟨rfl, hb0⟩
 have hA0 := (za HA).below hb0
 have hB0 := (za HB).below hb0
 have hC0 := (za HC).below hb0
 have HW0 := hide ((za HW).trans (hb0.mono (za HW).size))
 have ca0 := hA0.c 0
 have ca1 := hA0.c 1
 have cb0 := hB0.c 0
 have cb1 := hB0.c 1
 have fa := hA0.f
 have fb := hB0.f
 simp at ca0 ca1 cb0 cb1
 have HA0 := hide hA0
 have HB0 := hide hB0
 have HC0 := hide hC0
 clear hA0 hB0 hC0 hb0
 go_wp2
 go_region_held3 (fun w' => w'.cell? ⟨w.heap.size, 0, none⟩ = some (.bool n) ∧ w'.cell? ⟨w.heap.size, 1, none⟩ = some (.slice p lx cap) ∧ w'.cell? ⟨w.heap.size + 1, 0, none⟩ = some (.bool m) ∧ w'.cell? ⟨w.heap.size + 1, 1, none⟩ = some (.slice q ly cap2)) (((try dsimp only); (repeat' apply And.intro) <;> (first | assumption | (rw [far2 (by first | (simp; done) | (simp; omega))]; assumption) | go_keep))) (first | (go_at_call 209; refine (YT x y _ _ _ (by exact zo (za Hx0) (za HW0).drew) (by exact zo (za Hy0) (za HW0).drew) hle hsx).mono ?_; rintro e w1 ⟨⟨z, rfl, hz⟩, hb1⟩; obtain ⟨zp, zc, rfl⟩ := zt hz; have hA := (za HA0).drew.below hb1; have hB := (za HB0).drew.below hb1; have hC := (za HC0).drew.below hb1; have a0 := hA.c 0; have a1 := hA.c 1; have b0 := hB.c 0; have b1 := hB.c 1; simp at a0 a1 b0 b1; have c0 : w1.cell? ⟨w.heap.size + 1 + 1, 0, none⟩ = some (.bool false) := hC.c 0; have c1 : w1.cell? ⟨w.heap.size + 1 + 1, 1, none⟩ = some (.slice none 0 0) := hC.c 1; have cf := hC.f; have Hz := hide hz; have Hb1 := hide hb1; clear hA hB hC hz hb1))
 have hbig : w.heap.size + 1 + 1 < (w0).heap.size := (za HC0).lt
 have hfin : Below w.heap.size w w1 := (za HW0).drew.trans ((za Hb1).mono (za HW0).drew.size)
 have hs := (za HC0).drew.below (za Hb1) |>.lt
 have Hfin := hide hfin
 clear hfin
 go_wp2
 refine bodyPost_ret (v := .agg #[.bool n, .slice zp (gr (x - y)).length zc]) (by simp [results, Tryz.results189, go_sem, c0, c1]) rfl ⟨⟨_, rfl, ⟨_, rfl, ?_⟩⟩, ?_⟩
 ·have h0 := za Hz
  have h1 := qg h0 (b := w.heap.size + 1 + 1) (i := 0) (u := .bool n) (by simpa using hbig)
  exact zK (qg h1 (b := w.heap.size + 1 + 1) (i := 1) (by simpa using hbig)) (by simp; omega)
 ·exact ((za Hfin).setCell (by show w.heap.size ≤ w.heap.size + 1 + 1; omega) _).setCell (by show w.heap.size ≤ w.heap.size + 1 + 1; omega) _
theorem Xk (n m : Bool) (v u : Value) (x y : Nat) (w : World) (hnm : n ≠ m) (hl : x < y) (hx : isNat w v x) (hy : isNat w u y) (hsx : (gr x).length ≤ 1000000) (hsy : (gr y).length ≤ 1000000) :
  Calls Tryz.prog 189 #[zS n v, zS m u] w fun e w' => (∃ z, e = .returned z ∧ yy w' w.heap.size z (plusW (n, x) (m, y))) ∧ Below w.heap.size w w' := by
 rw [zal hnm hl]
 have hb : (n == m) = false := by simp [hnm]
 have hd : decide (x < y) = true := decide_eq_true hl
 have hle : x ≤ y := by omega
 obtain ⟨p, cap, rfl⟩ := zt hx
 obtain ⟨q, cap2, rfl⟩ := zt hy
 obtain ⟨lx, hlx⟩ : ∃ l, (gr x).length = l := ⟨_, rfl⟩
 obtain ⟨ly, hly⟩ : ∃ l, (gr y).length = l := ⟨_, rfl⟩
 rw [hlx] at hx
 rw [hly] at hy
 rw [hlx, hly]
 have hW : Below w.heap.size w (((w.alloc (.cells #[.bool n, .slice p lx cap] 183)).alloc (.cells #[.bool m, .slice q ly cap2] 183)).alloc (.cells #[.bool false, .slice none 0 0] 183)) :=
  (((Below.refl _ _).alloc (Nat.le_refl _) _).alloc (by simp) _).alloc (by simp; omega) _
 have Hx0 := hide hx
 have Hy0 := hide hy
 have Hx := hide (zo hx hW)
 have Hy := hide (zo hy hW)
 have HW := hide hW
 have HA := hide (((AtC.new w #[.bool n, .slice p lx cap] 183).alloc (.cells #[.bool m, .slice q ly cap2] 183)).alloc (.cells #[.bool false, .slice none 0 0] 183))
 have HB := hide ((AtC.new (w.alloc (.cells #[.bool n, .slice p lx cap] 183)) #[.bool m, .slice q ly cap2] 183).alloc (.cells #[.bool false, .slice none 0 0] 183))
 have HC := hide (AtC.new ((w.alloc (.cells #[.bool n, .slice p lx cap] 183)).alloc (.cells #[.bool m, .slice q ly cap2] 183)) #[.bool false, .slice none 0 0] 183)
 have Hl := hide (And.intro hlx hly)
 clear hx hy hW hlx hly
 rw [World.size_alloc] at HB
 rw [World.size_alloc, World.size_alloc] at HC
 unfold zS
 clear hnm hl
 go_enter Tryz.func189, Tryz.ntmps189
 go_wp2_with fail
 have h := Jn x y (.slice p lx cap) (.slice q ly cap2) _ (za Hx) (za Hy) (by omega) (by omega)
 refine h.mono ?_
 clear h
 rw [hd]
 rintro e w0 ⟨rfl, hb0⟩
 have hA0 := (za HA).below hb0
 have hB0 := (za HB).below hb0
 have hC0 := (za HC).below hb0
 have HW0 := hide ((za HW).trans (hb0.mono (za HW).size))
 have ca0 := hA0.c 0
 have ca1 := hA0.c 1
 have cb0 := hB0.c 0
 have cb1 := hB0.c 1
 have fa := hA0.f
 have fb := hB0.f
 simp at ca0 ca1 cb0 cb1
 have HA0 := hide ((hA0.put2 (.bool m) (.slice q ly cap2)).far2 (c := w.heap.size + 1) (by omega) (.bool n) (.slice p lx cap) 0 1)
 have HB0 := hide ((hB0.far2 (c := w.heap.size) (by omega) (.bool m) (.slice q ly cap2) 0 1).put2 (.bool n) (.slice p lx cap))
 have HC0 := hide ((hC0.far2 (c := w.heap.size) (by omega) (.bool m) (.slice q ly cap2) 0 1).far2 (c := w.heap.size + 1) (by omega) (.bool n) (.slice p lx cap) 0 1)
 have HW1 := hide (((((za HW0).setCell (p := ⟨w.heap.size, 0, none⟩) (Nat.le_refl _) (.bool m)).setCell (p := ⟨w.heap.size, 1, none⟩) (Nat.le_refl _) (.slice q ly cap2)).setCell (p := ⟨w.heap.size + 1, 0, none⟩) (by show w.heap.size ≤ w.heap.size + 1; omega) (.bool n)).setCell (p := ⟨w.heap.size + 1, 1, none⟩) (by show w.heap.size ≤ w.heap.size + 1; omega) (.slice p lx cap))
 clear hA0 hB0 hC0 hb0
 go_wp2
 clear ca0 ca1 cb0 cb1 fa fb
 generalize (((w0.setCell ⟨w.heap.size, 0, none⟩ (.bool m)).setCell ⟨w.heap.size, 1, none⟩ (.slice q ly cap2)).setCell ⟨w.heap.size + 1, 0, none⟩ (.bool n)).setCell ⟨w.heap.size + 1, 1, none⟩ (.slice p lx cap) = W1 at *
 have ca0 := (za HA0).c 0
 have ca1 := (za HA0).c 1
 have cb0 := (za HB0).c 0
 have cb1 := (za HB0).c 1
 simp at ca0 ca1 cb0 cb1
 go_wp2
 go_region_held3 (fun w' => w'.cell? ⟨w.heap.size, 0, none⟩ = some (.bool m) ∧ w'.cell? ⟨w.heap.size, 1, none⟩ = some (.slice q ly cap2) ∧ w'.cell? ⟨w.heap.size + 1, 0, none⟩ = some (.bool n) ∧ w'.cell? ⟨w.heap.size + 1, 1, none⟩ = some (.slice p lx cap)) (((try dsimp only); (repeat' apply And.intro) <;> (first | assumption | (rw [far2 (by first | (simp; done) | (simp; omega))]; assumption) | go_keep))) (first | (go_at_call 209; refine (YT y x _ _ _ (by exact zo (za Hy0) (za HW1).drew) (by exact zo (za Hx0) (za HW1).drew) hle hsy).mono ?_; rintro e w1 ⟨⟨z, rfl, hz⟩, hb1⟩; obtain ⟨zp, zc, rfl⟩ := zt hz; have hA := (za HA0).drew.below hb1; have hB := (za HB0).drew.below hb1; have hC := (za HC0).drew.below hb1; have a0 := hA.c 0; have a1 := hA.c 1; have b0 := hB.c 0; have b1 := hB.c 1; simp at a0 a1 b0 b1; have c0 : w1.cell? ⟨w.heap.size + 1 + 1, 0, none⟩ = some (.bool false) := hC.c 0; have c1 : w1.cell? ⟨w.heap.size + 1 + 1, 1, none⟩ = some (.slice none 0 0) := hC.c 1; have cf := hC.f; have Hz := hide hz; have Hb1 := hide hb1; clear hA hB hC hz hb1))
 have hbig : w.heap.size + 1 + 1 < (W1).heap.size := (za HC0).lt
 have hfin : Below w.heap.size w w1 := (za HW1).drew.trans ((za Hb1).mono (za HW1).drew.size)
 have hs := (za HC0).drew.below (za Hb1) |>.lt
 have Hfin := hide hfin
 clear hfin
 go_wp2
 refine bodyPost_ret (v := .agg #[.bool m, .slice zp (gr (y - x)).length zc]) (by simp [results, Tryz.results189, go_sem, c0, c1]) rfl ⟨⟨_, rfl, ⟨_, rfl, ?_⟩⟩, ?_⟩
 ·have h0 := za Hz
  have h1 := qg h0 (b := w.heap.size + 1 + 1) (i := 0) (u := .bool m) (by simpa using hbig)
  exact zK (qg h1 (b := w.heap.size + 1 + 1) (i := 1) (by simpa using hbig)) (by simp; omega)
 ·exact ((za Hfin).setCell (by show w.heap.size ≤ w.heap.size + 1 + 1; omega) _).setCell (by show w.heap.size ≤ w.heap.size + 1 + 1; omega) _
theorem zaA (n m : Bool) (v u : Value) (x y : Nat) (w : World) (hx : isNat w v x) (hy : isNat w u y) (hsx : (gr x).length ≤ 1000000) (hsy : (gr y).length ≤ 1000000) :
  Calls Tryz.prog 189 #[zS n v, zS m u] w fun e w' => (∃ z, e = .returned z ∧ yy w' w.heap.size z (plusW (n, x) (m, y))) ∧ Below w.heap.size w w' := by
 by_cases hnm : n = m
 ·exact VS n m v u x y w hnm hx hy hsx hsy
 ·by_cases hl : x < y
  ·exact Xk n m v u x y w hnm hl hx hy hsx hsy
  ·exact XK n m v u x y w hnm hl hx hy hsx hsy
def fracV (n m : Bool) (v u : Value) : Value := .agg #[.bool n, v, .bool m, u]
def win (L : List Nat) (i k : Nat) : Nat := ofd 1000000000 ((L.drop i).take k)
theorem JX (L : List Nat) (i : Nat) : win L i 0 = 0 := by simp [win, ofd]
theorem j5 (L : List Nat) (i k : Nat) (h : i + k < L.length) : win L i (k + 1) = win L i k + 1000000000 ^ k * L[i + k] := by
 unfold win
 have hl : (L.drop i).length = L.length - i := List.length_drop
 rw [List.take_succ_eq_append_getElem (by omega), zZ, List.length_take, Nat.min_eq_left (by omega), List.getElem_drop]
theorem za7 (L : List Nat) (i k j d : Nat) (h : i + k ≤ j) : win (L.set j d) i k = win L i k := by
 unfold win
 congr 1
 apply List.ext_getElem
 ·simp
 ·intro t h1 h2
  simp only [List.getElem_take, List.getElem_drop]
  rw [List.getElem_set_ne]
  simp only [List.length_take, List.length_drop] at h2
  omega
theorem vO (L : List Nat) (i k d : Nat) (h : i + k < L.length) : win (L.set (i + k) d) i (k + 1) = win L i k + 1000000000 ^ k * d := by
 rw [j5 _ _ _ (by simpa using h), za7 _ _ _ _ _ (Nat.le_refl _), List.getElem_set_self]
theorem vF {w a b : World} {g : Nat} (h : w.grownBy a (some g)) (k : a.grownBy b (some g)) : w.grownBy b (some g) :=
 ⟨k.os.trans h.os, k.tape.trans h.tape, k.output.trans h.output, Nat.le_trans h.size k.size, fun j hj hne => (k.block j (Nat.lt_of_lt_of_le hj h.size) hne).trans (h.block j hj hne)⟩
theorem jB {w wr : World} {base e g N cap : Nat} {L : List Nat} (hown : wr.ownsRow base e 1 (.slice (some ⟨g, 0, none⟩) N cap) N (u64s L)) (hgr : w.grownBy wr (some g)) (j d : Nat) (v : Int) (hv : v = (d : Int)) :
  (wr.setCell ⟨g, j, none⟩ (.int .u64 v)).ownsRow base e 1 (.slice (some ⟨g, 0, none⟩) N cap) N (u64s (L.set j d)) ∧ w.grownBy (wr.setCell ⟨g, j, none⟩ (.int .u64 v)) (some g) := by
 have h := hown.stored j (.int .u64 v)
 rw [qS _ _ d _ hv] at h
 exact ⟨h.1, vF hgr h.2⟩
def qp (L L' : List Nat) (i k : Nat) : Prop := L'.length = L.length ∧ (∀ d ∈ L', d < 1000000000) ∧ ∀ t (h : t < L.length) (h' : t < L'.length), t < i ∨ i + k ≤ t → L'[t] = L[t]
theorem kD {L : List Nat} (h : ∀ d ∈ L, d < 1000000000) (i k : Nat) : qp L L i k := ⟨rfl, h, fun _ _ _ _ => rfl⟩
theorem qM {L L' : List Nat} {i k d : Nat} (h : qp L L' i k) (hd : d < 1000000000) : qp L (L'.set (i + k) d) i (k + 1) := by
 refine ⟨by simpa using h.1, qy h.2.1 hd, ?_⟩
 intro t h1 h2 ht
 rw [List.getElem_set_ne (by omega)]
 exact h.2.2 t h1 (by simpa using h2) (by omega)
theorem Jd {X Y V q o o' y x d : Nat} {j : Nat} (h : X + q * Y = V + o * 1000000000 ^ j) (he : d + (o + y * q) = x + o' * 1000000000) :
  X + 1000000000 ^ j * d + q * (Y + 1000000000 ^ j * y) = V + 1000000000 ^ j * x + o' * 1000000000 ^ (j + 1) := by
 rw [Nat.pow_succ]
 generalize 1000000000 ^ j = p at *
 have h2 := congrArg (p * ·) he
 simp only [Nat.mul_add] at h2
 rw [Nat.mul_add, show q * (p * y) = p * (y * q) from by rw [Nat.mul_left_comm, Nat.mul_comm q y], show o' * (p * 1000000000) = p * (o' * 1000000000) from by rw [Nat.mul_left_comm]]
 rw [Nat.mul_comm o p] at h
 omega
theorem JM {y q o : Nat} (hy : y < 1000000000) (hq : q < 1000000000) (ho : o < 1000000000) : o + y * q ≤ 999999999 * 1000000000 := by
 have : y * q ≤ 999999999 * 999999999 := Nat.mul_le_mul (by omega) (by omega)
 omega
theorem Qj (L ys : List Nat) (g gb i m N cap capb q base : Nat) (w : World) (hm : ys.length = m) (hNl : L.length = N) (hN : N ≤ 2000000) (hi : i + m + 1 ≤ N) (hcap : m + 1 ≤ cap)
  (hL : w.ownsRow base 173 1 (.slice (some ⟨g, 0, none⟩) N N) N (u64s L)) (hY : w.ownsRow 0 173 1 (.slice (some ⟨gb, 0, none⟩) m capb) m (u64s ys)) (hgg : gb ≠ g)
  (hLd : ∀ d ∈ L, d < 1000000000) (hYd : ∀ d ∈ ys, d < 1000000000) (hq : q < 1000000000) :
  Calls Tryz.prog 203 #[.slice (some ⟨g, i, none⟩) (m + 1) cap, .slice (some ⟨gb, 0, none⟩) m capb, .int .u64 q] w fun e w' =>
   ∃ (neg : Bool) (L' : List Nat), e = .returned (.bool neg) ∧ w'.ownsRow base 173 1 (.slice (some ⟨g, 0, none⟩) N N) N (u64s L') ∧ w.grownBy w' (some g) ∧ qp L L' i (m + 1) ∧
    win L' i (m + 1) + q * ofd 1000000000 ys = win L i (m + 1) + (if neg then 1000000000 ^ (m + 1) else 0) := by
 have HLd := hide hLd
 have HYd := hide hYd
 have HL := hide hL
 have HY := hide hY
 clear hLd hYd hL hY
 go_enter Tryz.func203, Tryz.ntmps203
 go_wp2
 go_loopw [7, 13] (fun ow j wr => ∃ (k o : Nat) (L' : List Nat), k ≤ m ∧ ow = .int .u64 o ∧ o < 1000000000 ∧ j = .int .i64 k ∧ wr.ownsRow base 173 1 (.slice (some ⟨g, 0, none⟩) N N) N (u64s L') ∧ w.grownBy wr (some g) ∧
   Hid (qp L L' i k) ∧ Hid (win L' i k + q * ofd 1000000000 (ys.take k) = win L i k + o * 1000000000 ^ k))
  (fun _ j _ => m - (intOf j).toNat)
 case atStart =>
  exact ⟨0, 0, L, Nat.zero_le _, rfl, by omega, rfl, za HL, World.grownBy.refl _ _, hide (kD (za HLd) _ _), hide (by simp [JX, ofd])⟩
 case round =>
  obtain ⟨k, o, L', hk, rfl, ho, rfl, hown, hgr, hso, hval⟩ := hrel
  by_cases hlt : k < m
  ·have hL'l : L'.length = N := (za hso).1.trans hNl
   have hcy := (za HY).kept hgr (.inr (by simp [Value.ownBlock]; omega))
   have hcy := hcy.cellAt k (by omega)
   rw [zx _ _ (by omega)] at hcy
   have hcx := hown.cellAt (i + k) (by omega)
   rw [zx _ _ (by omega)] at hcx
   have hfr := hown.frozenAt (i + k)
   have hy9 : ys[k]'(by omega) < 1000000000 := za HYd _ (List.getElem_mem _)
   have hx9 : L'[i + k]'(by omega) < 1000000000 := (za hso).2.1 _ (List.getElem_mem _)
   have hxL : L[i + k]'(by omega) = L'[i + k]'(by omega) := ((za hso).2.2 (i + k) (by omega) (by omega) (.inr (Nat.le_refl _))).symm
   have hwin := j5 L i k (by omega)
   have hofd : ofd 1000000000 (ys.take (k + 1)) = ofd 1000000000 (ys.take k) + 1000000000 ^ k * ys[k]'(by omega) := by
    rw [List.take_succ_eq_append_getElem (by omega), zZ, List.length_take, Nat.min_eq_left (by omega)]
   rw [hxL] at hwin
   generalize ys[k]'(by omega) = y at *
   generalize L'[i + k]'(by omega) = x at *
   have hfit := JM hy9 hq ho
   have Hwin := hide hwin
   have Hofd := hide hofd
   have hstep := fun d o' => @Jd (win L' i k) (ofd 1000000000 (ys.take k)) (win L i k) q o o' y x d k (za hval)
   generalize hpp : y * q = pp at *
   have hppI : (y : Int) * q = pp := by rw [← hpp]; simp
   have Hstep := hide hstep
   clear hwin hofd hstep hxL hpp
   obtain ⟨t, ht⟩ : ∃ d : Nat, ((o : Int) + pp) % 1000000000 = d := ⟨(o + pp) % 1000000000, by omega⟩
   obtain ⟨c, hc⟩ : ∃ d : Nat, ((o : Int) + pp) / 1000000000 = d := ⟨(o + pp) / 1000000000, by omega⟩
   have hkI : (k : Int) < (m : Int) + 1 := by omega
   have hkI2 : (k : Int) < (m : Int) := by omega
   by_cases hbr : (x : Int) < t
   ·obtain ⟨d, hd⟩ : ∃ d : Nat, (x : Int) + 1000000000 - t = d := ⟨x + 1000000000 - t, by omega⟩
    have hst1 := jB hown hgr (i + k) (x + 1000000000) ((x : Int) + 1000000000) (by simp)
    have hst2 := jB hst1.1 hst1.2 (i + k) d ((x : Int) + 1000000000 - t) hd
    rw [List.set_set] at hst2
    have Hst := hide hst2
    have HD := hide hd
    clear hst1 hst2 hd
    go_wp2
    go_roundw
    case rel =>
     refine ⟨k + 1, c + 1, L'.set (i + k) d, by omega, rfl, by omega, by go_num, (za Hst).1, (za Hst).2, hide (qM (za hso) (by have := za HD; omega)), ?_⟩
     show _ = _
     rw [vO _ _ _ _ (by omega), za Hofd, za Hwin]
     exact za Hstep d (c + 1) (by have := za HD; omega)
    case measure => simp [intOf]; omega
   ·obtain ⟨d, hd⟩ : ∃ d : Nat, (x : Int) - t = d := ⟨x - t, by omega⟩
    have hst2 := jB hown hgr (i + k) d ((x : Int) - t) hd
    have Hst := hide hst2
    have HD := hide hd
    clear hst2 hd
    go_wp2
    go_roundw
    case rel =>
     refine ⟨k + 1, c, L'.set (i + k) d, by omega, by rw [hc], by omega, by go_num, (za Hst).1, (za Hst).2, hide (qM (za hso) (by have := za HD; omega)), ?_⟩
     show _ = _
     rw [vO _ _ _ _ (by omega), za Hofd, za Hwin]
     exact za Hstep d c (by have := za HD; omega)
    case measure => simp [intOf]; omega
  ·have hkm : k = m := by omega
   subst hkm
   have hL'l : L'.length = N := (za hso).1.trans hNl
   have hcx := hown.cellAt (i + k) (by omega)
   rw [zx _ _ (by omega)] at hcx
   have hfr := hown.frozenAt (i + k)
   have hx9 : L'[i + k]'(by omega) < 1000000000 := (za hso).2.1 _ (List.getElem_mem _)
   have hxL : L[i + k]'(by omega) = L'[i + k]'(by omega) := ((za hso).2.2 (i + k) (by omega) (by omega) (.inr (Nat.le_refl _))).symm
   have hwin := j5 L i k (by omega)
   rw [hxL] at hwin
   generalize L'[i + k]'(by omega) = x at *
   have Hwin := hide hwin
   have hval' := za hval
   rw [← hm, List.take_length, hm] at hval'
   have Hval := hide hval'
   clear hwin hxL hval'
   have hkI : (k : Int) < (k : Int) + 1 := by omega
   by_cases hge : o ≤ x
   ·obtain ⟨d, hd⟩ : ∃ d : Nat, (x : Int) - o = d := ⟨x - o, by omega⟩
    have hst2 := jB hown hgr (i + k) d ((x : Int) - o) hd
    have Hst := hide hst2
    have HD := hide hd
    clear hst2 hd
    go_wp2
    go_ret
    refine ⟨false, L'.set (i + k) d, rfl, (za Hst).1, (za Hst).2, qM (za hso) (by have := za HD; omega), ?_⟩
    rw [vO _ _ _ _ (by omega), za Hwin]
    have h1 := za Hval
    have h2 : x = d + o := by have := za HD; omega
    rw [h2, Nat.mul_add]
    rw [Nat.mul_comm o] at h1
    simp only [Bool.false_eq_true, if_false]
    omega
   ·obtain ⟨d, hd⟩ : ∃ d : Nat, (x : Int) + (1000000000 - o) = d := ⟨x + (1000000000 - o), by omega⟩
    have hst2 := jB hown hgr (i + k) d ((x : Int) + (1000000000 - o)) hd
    have Hst := hide hst2
    have HD := hide hd
    clear hst2 hd
    go_wp2
    go_ret
    refine ⟨true, L'.set (i + k) d, rfl, (za Hst).1, (za Hst).2, qM (za hso) (by have := za HD; omega), ?_⟩
    rw [vO _ _ _ _ (by omega), za Hwin]
    have h1 := za Hval
    have h2 : d + o = x + 1000000000 := by have := za HD; omega
    have h3 := congrArg (1000000000 ^ k * ·) h2
    simp only [Nat.mul_add] at h3
    rw [Nat.mul_comm o] at h1
    rw [Nat.pow_succ]
    simp only [if_true]
    omega
theorem QN {X Y V c c' y x d : Nat} {j : Nat} (h : X + c * 1000000000 ^ j = V + Y) (he : d + 1000000000 * c' = c + (x + y)) :
  X + 1000000000 ^ j * d + c' * 1000000000 ^ (j + 1) = V + 1000000000 ^ j * x + (Y + 1000000000 ^ j * y) := by
 rw [Nat.pow_succ]
 generalize 1000000000 ^ j = p at *
 have h2 := congrArg (p * ·) he
 simp only [Nat.mul_add] at h2
 rw [show c' * (p * 1000000000) = p * (1000000000 * c') from by rw [Nat.mul_left_comm, Nat.mul_comm c']]
 rw [Nat.mul_comm c p] at h
 omega
theorem QC {w : World} {base : Nat} {e : TypeId} {size : Nat} {v : Value} {n : Nat} {xs : List Value} (h : w.ownsRow base e size v n xs) (k : Nat) : (w.drewN k).ownsRow base e size v n xs := h
theorem ZZ {w wr : World} {r : Option Nat} (h : w.grownBy wr r) (k : Nat) : w.grownBy (wr.drewN k) r := ⟨h.os, h.tape, h.output, h.size, h.block⟩
theorem QB (L ys : List Nat) (g gb i m N cap capb base : Nat) (w : World) (hm : ys.length = m) (hNl : L.length = N) (hN : N ≤ 2000000) (hi : i + m + 1 ≤ N) (hcap : m + 1 ≤ cap)
  (hL : w.ownsRow base 173 1 (.slice (some ⟨g, 0, none⟩) N N) N (u64s L)) (hY : w.ownsRow 0 173 1 (.slice (some ⟨gb, 0, none⟩) m capb) m (u64s ys)) (hgg : gb ≠ g)
  (hLd : ∀ d ∈ L, d < 1000000000) (hYd : ∀ d ∈ ys, d < 1000000000) :
  Calls Tryz.prog 204 #[.slice (some ⟨g, i, none⟩) (m + 1) cap, .slice (some ⟨gb, 0, none⟩) m capb] w fun e w' =>
   ∃ (up : Bool) (L' : List Nat), e = .returned (.bool up) ∧ w'.ownsRow base 173 1 (.slice (some ⟨g, 0, none⟩) N N) N (u64s L') ∧ w.grownBy w' (some g) ∧ qp L L' i (m + 1) ∧
    win L' i (m + 1) + (if up then 1000000000 ^ (m + 1) else 0) = win L i (m + 1) + ofd 1000000000 ys := by
 have HLd := hide hLd
 have HYd := hide hYd
 have HL := hide hL
 have HY := hide hY
 clear hLd hYd hL hY
 go_enter Tryz.func204, Tryz.ntmps204
 go_wp2
 go_loopw [5, 10] (fun cy j wr => ∃ (k c : Nat) (L' : List Nat), k ≤ m ∧ cy = .int .u64 c ∧ c ≤ 1 ∧ j = .int .i64 k ∧ wr.ownsRow base 173 1 (.slice (some ⟨g, 0, none⟩) N N) N (u64s L') ∧ w.grownBy wr (some g) ∧
   Hid (qp L L' i k) ∧ Hid (win L' i k + c * 1000000000 ^ k = win L i k + ofd 1000000000 (ys.take k)))
  (fun _ j _ => m - (intOf j).toNat)
 case atStart =>
  exact ⟨0, 0, L, Nat.zero_le _, rfl, by omega, rfl, za HL, World.grownBy.refl _ _, hide (kD (za HLd) _ _), hide (by simp [JX, ofd])⟩
 case round =>
  obtain ⟨k, c, L', hk, rfl, hc, rfl, hown, hgr, hso, hval⟩ := hrel
  by_cases hlt : k < m
  ·have hL'l : L'.length = N := (za hso).1.trans hNl
   have hcy := (za HY).kept hgr (.inr (by simp [Value.ownBlock]; omega))
   have hcy := hcy.cellAt k (by omega)
   rw [zx _ _ (by omega)] at hcy
   have hcx := hown.cellAt (i + k) (by omega)
   rw [zx _ _ (by omega)] at hcx
   have hfr := hown.frozenAt (i + k)
   have hy9 : ys[k]'(by omega) < 1000000000 := za HYd _ (List.getElem_mem _)
   have hx9 : L'[i + k]'(by omega) < 1000000000 := (za hso).2.1 _ (List.getElem_mem _)
   have hxL : L[i + k]'(by omega) = L'[i + k]'(by omega) := ((za hso).2.2 (i + k) (by omega) (by omega) (.inr (Nat.le_refl _))).symm
   have hwin := j5 L i k (by omega)
   have hofd : ofd 1000000000 (ys.take (k + 1)) = ofd 1000000000 (ys.take k) + 1000000000 ^ k * ys[k]'(by omega) := by
    rw [List.take_succ_eq_append_getElem (by omega), zZ, List.length_take, Nat.min_eq_left (by omega)]
   rw [hxL] at hwin
   generalize ys[k]'(by omega) = y at *
   generalize L'[i + k]'(by omega) = x at *
   have Hwin := hide hwin
   have Hofd := hide hofd
   have hstep := fun d c' => @QN (win L' i k) (ofd 1000000000 (ys.take k)) (win L i k) c c' y x d k (za hval)
   have Hstep := hide hstep
   clear hwin hofd hstep hxL
   obtain ⟨d, hd⟩ : ∃ d : Nat, ((c : Int) + (x + y)) % 1000000000 = d := ⟨(c + (x + y)) % 1000000000, by omega⟩
   obtain ⟨c2, hc2⟩ : ∃ d : Nat, ((c : Int) + (x + y)) / 1000000000 = d := ⟨(c + (x + y)) / 1000000000, by omega⟩
   have hkI : (k : Int) < (m : Int) + 1 := by omega
   have hkI2 : (k : Int) < (m : Int) := by omega
   have hdl : d < 1000000000 := by omega
   have hsum : Hid (d + 1000000000 * c2 = c + (x + y)) := by show _ = _; omega
   have hc21 : c2 ≤ 1 := by omega
   have hst := fun nq => jB (QC hown nq) (ZZ hgr nq) (i + k) d (d : Int) rfl
   have Hst := hide hst
   clear hst
   go_wp2
   go_quiet (fail)
   go_wp2
   go_roundw
   case rel =>
    refine ⟨k + 1, c2, L'.set (i + k) d, by omega, by rw [hc2], hc21, by go_num, (za Hst nq).1, (za Hst nq).2, hide (qM (za hso) hdl), ?_⟩
    show _ = _
    rw [vO _ _ _ _ (by omega), za Hofd, za Hwin]
    exact za Hstep d c2 (za hsum)
   case measure => simp [intOf]; omega
  ·have hkm : k = m := by omega
   subst hkm
   have hL'l : L'.length = N := (za hso).1.trans hNl
   have hcx := hown.cellAt (i + k) (by omega)
   rw [zx _ _ (by omega)] at hcx
   have hfr := hown.frozenAt (i + k)
   have hx9 : L'[i + k]'(by omega) < 1000000000 := (za hso).2.1 _ (List.getElem_mem _)
   have hxL : L[i + k]'(by omega) = L'[i + k]'(by omega) := ((za hso).2.2 (i + k) (by omega) (by omega) (.inr (Nat.le_refl _))).symm
   have hwin := j5 L i k (by omega)
   rw [hxL] at hwin
   generalize L'[i + k]'(by omega) = x at *
   have Hwin := hide hwin
   have hval' := za hval
   rw [← hm, List.take_length, hm] at hval'
   have Hval := hide hval'
   clear hwin hxL hval'
   have hkI : (k : Int) < (k : Int) + 1 := by omega
   obtain ⟨d, hd⟩ : ∃ d : Nat, ((c : Int) + x) % 1000000000 = d := ⟨(c + x) % 1000000000, by omega⟩
   have hdl : d < 1000000000 := by omega
   have hst := jB hown hgr (i + k) d (d : Int) rfl
   have Hst := hide hst
   clear hst
   by_cases hup : c + x = 1000000000
   ·have hq : ((c : Int) + x == 1000000000) = true := by rw [beq_iff_eq]; omega
    have Hup := hide hup
    clear hup
    go_wp2
    go_ret
    refine ⟨true, L'.set (i + k) d, rfl, (za Hst).1, (za Hst).2, qM (za hso) hdl, ?_⟩
    rw [vO _ _ _ _ (by omega), za Hwin]
    have h1 := za Hval
    have h2 : d = 0 := by have := za Hup; omega
    have h3 := congrArg (1000000000 ^ k * ·) (za Hup)
    simp only [Nat.mul_add] at h3
    rw [Nat.mul_comm c] at h1
    rw [Nat.pow_succ, h2]
    simp only [if_true]
    omega
   ·have hq : ((c : Int) + x == 1000000000) = false := by rw [beq_eq_false_iff_ne]; omega
    have Hup := hide hup
    clear hup
    go_wp2
    go_ret
    refine ⟨false, L'.set (i + k) d, rfl, (za Hst).1, (za Hst).2, qM (za hso) hdl, ?_⟩
    rw [vO _ _ _ _ (by omega), za Hwin]
    have h1 := za Hval
    have h2 : d = c + x := by have := za Hup; omega
    rw [h2, Nat.mul_add]
    rw [Nat.mul_comm c] at h1
    simp only [Bool.false_eq_true, if_false]
    omega
theorem jI (b : Nat) (l : List Nat) (k : Nat) (h : k ≤ l.length) : ofd b l = ofd b (l.take k) + b ^ k * ofd b (l.drop k) := by
 conv => lhs; rw [← List.take_append_drop k l]
 rw [jD, List.length_take, Nat.min_eq_left h]
theorem XE {l : List Nat} {m : Nat} (h : ofd 1000000000 l < 1000000000 ^ m) (hm : m ≤ l.length) : ofd 1000000000 (l.drop m) = 0 ∧ ofd 1000000000 l = ofd 1000000000 (l.take m) := by
 have e := jI 1000000000 l m hm
 rcases Nat.eq_zero_or_pos (ofd 1000000000 (l.drop m)) with h0 | h0
 ·exact ⟨h0, by rw [e, h0]; simp⟩
 ·have := Nat.mul_le_mul_left (1000000000 ^ m) h0
  omega
theorem XB {V Y top yl p : Nat} (hV : V < (top + 1) * p) (hY : yl * p ≤ Y) (hyl : 0 < yl) : V / Y ≤ top / yl := by
 rw [Nat.le_div_iff_mul_le hyl]
 have h1 : V / Y * (yl * p) ≤ V := Nat.le_trans (Nat.mul_le_mul_left _ hY) (Nat.div_mul_le_self V Y)
 rw [← Nat.mul_assoc] at h1
 have h2 : V / Y * yl * p < (top + 1) * p := by omega
 have := Nat.lt_of_mul_lt_mul_right h2
 omega
theorem XS {L : List Nat} {i m Y : Nat} (hl : i + m + 1 ≤ L.length) (hd : ∀ d ∈ L, d < 1000000000) (hR : ofd 1000000000 (L.drop (i + 1)) < Y) (hY : Y < 1000000000 ^ m) :
  ofd 1000000000 (L.drop i) = win L i (m + 1) ∧ ofd 1000000000 (L.drop (i + m + 1)) = 0 ∧ win L i (m + 1) < 1000000000 * Y := by
 have hi : i < L.length := by omega
 have e : L.drop i = L[i] :: L.drop (i + 1) := List.drop_eq_getElem_cons hi
 have hx : L[i] < 1000000000 := hd _ (List.getElem_mem hi)
 have hV : ofd 1000000000 (L.drop i) < 1000000000 * Y := by
  rw [e]; simp only [ofd]
  have := Nat.mul_le_mul_left 1000000000 (Nat.succ_le_of_lt hR)
  rw [Nat.mul_succ] at this
  omega
 have hV2 : ofd 1000000000 (L.drop i) < 1000000000 ^ (m + 1) := by
  rw [Nat.pow_succ, Nat.mul_comm]
  exact Nat.lt_of_lt_of_le hV (Nat.mul_le_mul_left _ (Nat.le_of_lt hY))
 have ht := XE hV2 (by simp; omega)
 rw [List.drop_drop] at ht
 refine ⟨ht.2, ?_, ?_⟩
 ·rw [show i + m + 1 = i + (m + 1) from by omega]; exact ht.1
 ·rw [← show ofd 1000000000 (L.drop i) = win L i (m + 1) from ht.2]; exact hV
theorem Jt {L L' : List Nat} {i k : Nat} (h : qp L L' i k) : L'.take i = L.take i := by
 apply List.ext_getElem
 ·simp [h.1]
 ·intro t h1 h2
  simp only [List.getElem_take]
  have : t < i := by simp at h1; omega
  exact h.2.2 t _ _ (.inl this)
theorem QR {L L' : List Nat} {i k : Nat} (h : qp L L' i k) : L'.drop (i + k) = L.drop (i + k) := by
 apply List.ext_getElem
 ·simp [h.1]
 ·intro t h1 h2
  simp only [List.getElem_drop]
  exact h.2.2 _ _ _ (.inr (by omega))
theorem Ka (b T p li Y D R W q : Nat) (h : li + b * R = W + q * Y) : T + p * li + p * b * (Y * D + R) = T + p * (Y * (q + b * D) + W) := by
 have key : li + b * (Y * D + R) = Y * (q + b * D) + W := by
  rw [Nat.mul_add, Nat.mul_add, Nat.mul_left_comm Y, Nat.mul_comm Y q]
  omega
 rw [← key, Nat.mul_add p, Nat.mul_assoc, Nat.add_assoc]
theorem JE (b : Nat) {L L' O : List Nat} {i Y X q W V : Nat} (hi : i < L.length) (hO : i < O.length)
  (hinv : X = ofd b (L.take (i + 1)) + b ^ (i + 1) * (Y * ofd b (O.drop (i + 1)) + ofd b (L.drop (i + 1))))
  (hV : ofd b (L.drop i) = V) (htk : L'.take i = L.take i) (hW : ofd b (L'.drop i) = W) (hw : W + q * Y = V) :
  X = ofd b (L'.take i) + b ^ i * (Y * ofd b ((O.set i q).drop i) + ofd b (L'.drop i)) := by
 have e : L.drop i = L[i] :: L.drop (i + 1) := List.drop_eq_getElem_cons hi
 rw [e] at hV
 simp only [ofd] at hV
 rw [hW, htk, List.drop_eq_getElem_cons (l := O.set i q) (by simpa using hO), List.getElem_set_self, List.drop_set_of_lt (by omega)]
 simp only [ofd]
 rw [hinv, List.take_succ_eq_append_getElem hi, zZ, List.length_take, Nat.min_eq_left (by omega), Nat.pow_succ]
 exact Ka b _ _ _ _ _ _ _ _ (hV.trans hw.symm)
theorem KF (b : Nat) {L L' : List Nat} {i k : Nat} (hl : i + k ≤ L'.length) (hdr : L'.drop (i + k) = L.drop (i + k)) (h0 : ofd b (L.drop (i + k)) = 0) : ofd b (L'.drop i) = ofd b ((L'.drop i).take k) := by
 rw [jI b (L'.drop i) k (by simp; omega), List.drop_drop, hdr, h0, Nat.mul_zero, Nat.add_zero]
theorem Qg {L L' O : List Nat} {i m Y X q : Nat} (hl : i + m + 1 ≤ L.length) (hO : i < O.length) (hd : ∀ d ∈ L, d < 1000000000) (hY : Y < 1000000000 ^ m)
  (hinv : X = ofd 1000000000 (L.take (i + 1)) + 1000000000 ^ (i + 1) * (Y * ofd 1000000000 (O.drop (i + 1)) + ofd 1000000000 (L.drop (i + 1)))) (hR : ofd 1000000000 (L.drop (i + 1)) < Y)
  (hso : qp L L' i (m + 1)) (hw : win L' i (m + 1) + q * Y = win L i (m + 1)) (hlt : win L' i (m + 1) < Y) :
  X = ofd 1000000000 (L'.take i) + 1000000000 ^ i * (Y * ofd 1000000000 ((O.set i q).drop i) + ofd 1000000000 (L'.drop i)) ∧ ofd 1000000000 (L'.drop i) < Y := by
 obtain ⟨h1, h2, _⟩ := XS hl hd hR hY
 have hL' : ofd 1000000000 (L'.drop i) = win L' i (m + 1) :=
  KF 1000000000 (by have := hso.1; omega) (QR hso) h2
 have hi : i < L.length := Nat.lt_of_lt_of_le (Nat.lt_of_le_of_lt (Nat.le_add_right i m) (Nat.lt_succ_self _)) hl
 exact ⟨JE 1000000000 hi hO hinv h1 (Jt hso) hL' hw, hL' ▸ hlt⟩
theorem Zl {V Y W q : Nat} (hw : W + q * Y = V) (hq : V / Y ≤ q) (hY : 0 < Y) : W < Y := by
 have h1 : q ≤ V / Y := by
  rw [Nat.le_div_iff_mul_le hY]; omega
 have : q = V / Y := by omega
 have h2 := Nat.div_add_mod V Y
 rw [← this, Nat.mul_comm] at h2
 have := Nat.mod_lt V hY
 omega
theorem QF {V Y W q p : Nat} (hw : W + q * Y = V + p) (hW : W < p) : V / Y < q := by
 have hY : 0 < Y := by
  rcases Nat.eq_zero_or_pos Y with h | h
  ·subst h; simp at hw; omega
  ·exact h
 rw [Nat.div_lt_iff_lt_mul hY]
 omega
theorem Yc {L : List Nat} (hd : ∀ d ∈ L, d < 1000000000) (i k : Nat) (h : i + k ≤ L.length) : win L i k < 1000000000 ^ k := by
 have := yi (b := 1000000000) ((L.drop i).take k) (fun d hd' => hd d (List.mem_of_mem_drop (List.mem_of_mem_take hd')))
 rw [List.length_take, List.length_drop, Nat.min_eq_left (by omega)] at this
 exact this
theorem zaB {L : List Nat} (hd : ∀ d ∈ L, d < 1000000000) (i m : Nat) (h : i + (m + 1) < L.length) :
  win L i (m + 1 + 1) < (L[i + (m + 1)] * 1000000000 + L[i + m] + 1) * 1000000000 ^ m := by
 rw [j5 L i (m + 1) h, j5 L i m (by omega), Nat.pow_succ]
 have := Yc hd i m (by omega)
 generalize L[i + (m + 1)] = a
 generalize L[i + m] = b
 generalize 1000000000 ^ m = p at *
 rw [Nat.add_mul, Nat.add_mul, Nat.mul_assoc a, Nat.mul_comm p b, Nat.mul_comm p 1000000000, Nat.mul_comm (1000000000 * p) a]
 omega
theorem zbO {ys : List Nat} {m : Nat} (h : ys.length = m + 1) : ys[m] * 1000000000 ^ m ≤ ofd 1000000000 ys := by
 have := V9 1000000000 ys m (by omega)
 rw [Nat.mul_comm]; exact this
theorem Kq {y : Nat} (h : y < 1000000000) : 0 < 1000000000 / (y + 1) := Nat.div_pos (by omega) (by omega)
theorem XL {y : Nat} (h : 0 < y) : 1000000000 / (y + 1) < 1000000000 := Nat.div_lt_self (by omega) (by omega)
theorem VO {y s m : Nat} {ys : List Nat} (hy : ys = gr y) (hm : ys.length = m + 1) (hs : 1000000000 / (ys[m] + 1) = s) (hs0 : 0 < s) : (gr (y * s)).length = m + 1 ∧ y * s < 1000000000 ^ (m + 1) := by
 have hyd : ∀ d ∈ ys, d < 1000000000 := by rw [hy]; exact gr_lt y
 have hyo : ofd 1000000000 ys = y := by rw [hy]; exact qQ y
 have h1 : y < (ys[m] + 1) * 1000000000 ^ m := by
  have e := xf 1000000000 ys m (by omega)
  rw [show ys.drop (m + 1) = [] from List.drop_eq_nil_of_le (by omega)] at e
  simp only [ofd, Nat.mul_zero, Nat.add_zero] at e
  have h2 := yi (b := 1000000000) (ys.take m) (fun d hd => hyd d (List.mem_of_mem_take hd))
  rw [List.length_take, Nat.min_eq_left (by omega)] at h2
  rw [hyo] at e
  rw [Nat.add_mul, e, Nat.mul_comm]
  omega
 have h3 : (ys[m] + 1) * s ≤ 1000000000 := by rw [← hs, Nat.mul_comm]; exact Nat.div_mul_le_self _ _
 have h4 : y * s < 1000000000 ^ (m + 1) := by
  have h5 : y * s < (ys[m] + 1) * 1000000000 ^ m * s := Nat.mul_lt_mul_of_pos_right h1 hs0
  rw [Nat.mul_right_comm] at h5
  have h6 : (ys[m] + 1) * s * 1000000000 ^ m ≤ 1000000000 * 1000000000 ^ m := Nat.mul_le_mul_right _ h3
  rw [Nat.pow_succ, Nat.mul_comm (1000000000 ^ m)]
  omega
 refine ⟨?_, h4⟩
 have h7 : (gr (y * s)).length ≤ m + 1 := jW (by omega) h4
 have h8 : (gr y).length ≤ (gr (y * s)).length := jc (Nat.le_mul_of_pos_right y hs0)
 rw [← hy] at h8
 omega
theorem Ya {y m : Nat} (h : (gr y).length = m + 1) : 1000000000 ^ m ≤ y := by
 rcases Nat.lt_or_ge y (1000000000 ^ m) with h1 | h1
 ·have := jW (b := 1000000000) (by omega) h1
  unfold gr at h; omega
 ·exact h1
theorem V5 {x y s n m : Nat} {L : List Nat} (hx : (gr x).length = n) (hy : (gr y).length = m + 1) (hmn : m + 1 ≤ n) (hL : ofd 1000000000 L = x * s) (hLl : L.length = n + 1) (hs0 : 0 < s) :
  ofd 1000000000 (L.drop (n - m)) < y * s := by
 have h1 : x < 1000000000 ^ n := by rw [← hx]; exact jy (by omega) x
 have h2 := Ya hy
 have e := jI 1000000000 L (n - m) (by omega)
 rw [hL] at e
 have h3 : 1000000000 ^ (n - m) * ofd 1000000000 (L.drop (n - m)) ≤ x * s := by omega
 have h4 : x * s < 1000000000 ^ n * s := Nat.mul_lt_mul_of_pos_right h1 hs0
 have h5 : 1000000000 ^ n * s = 1000000000 ^ (n - m) * (1000000000 ^ m * s) := by
  rw [← Nat.mul_assoc, ← Nat.pow_add]; congr 2; omega
 have h6 : 1000000000 ^ (n - m) * (1000000000 ^ m * s) ≤ 1000000000 ^ (n - m) * (y * s) := Nat.mul_le_mul_left _ (Nat.mul_le_mul_right _ h2)
 have h7 : 1000000000 ^ (n - m) * ofd 1000000000 (L.drop (n - m)) < 1000000000 ^ (n - m) * (y * s) := by omega
 exact Nat.lt_of_mul_lt_mul_left h7
theorem XR {x y s Q R : Nat} (h : x * s = y * s * Q + R) (hR : R < y * s) (hs : 0 < s) : x / y = Q ∧ R / s = x % y := by
 have hy : 0 < y := by
  rcases Nat.eq_zero_or_pos y with h0 | h0
  ·subst h0; simp at hR
  ·exact h0
 have hQ : x / y = Q := by
  have h1 : x * s / (y * s) = Q := (VV h hR).1
  rwa [Nat.mul_div_mul_right _ _ hs] at h1
 refine ⟨hQ, ?_⟩
 have h2 : x * s % (y * s) = R := (VV h hR).2
 rw [Nat.mul_mod_mul_right] at h2
 rw [← h2, Nat.mul_div_cancel _ hs]
theorem xz (x f : Nat) (v : Value) (w : World) (hx : isNat w v x) (hs : (gr x).length ≤ 1000000) (hf : f < 1000000000) :
  Calls Tryz.prog 201 #[v, .int .u64 f, .int .u64 0] w fun e w' => (∃ v', e = .returned v' ∧ isNatB w' w.heap.size v' (x * f)) ∧ Below w.heap.size w w' := by
 have := xI x f 0 v w hx hs hf (by omega)
 simpa using this
def cellN (w : World) (b j : Nat) : Nat := match w.cell? ⟨b, j, none⟩ with
 | some v => (intOf v).toNat
 | none => 0
theorem yw {w : World} {b j d : Nat} (h : w.cell? ⟨b, j, none⟩ = some (.int .u64 (d : Int))) : cellN w b j = d := by
 unfold cellN; rw [h]; rfl
theorem jK {w : World} {base : Nat} {e : TypeId} {size : Nat} {v : Value} {n : Nat} {xs : List Value} (h : w.ownsRow base e size v n xs) : w.drew.ownsRow base e size v n xs := h
theorem yV {L L1 L2 : List Nat} {i k : Nat} (h : qp L L1 i k) (h' : qp L1 L2 i k) : qp L L2 i k := by
 refine ⟨h'.1.trans h.1, h'.2.1, ?_⟩
 intro t h1 h2 ht
 rw [h'.2.2 t (by rw [h.1]; exact h1) h2 ht]
 exact h.2.2 t h1 _ ht
theorem yY {W W' V Y q p : Nat} {up : Bool} (h : W + (q + 1) * Y = V + if true then p else 0) (h' : W' + (if up then p else 0) = W + Y) : W' + q * Y = V + if (!up) then p else 0 := by
 rw [Nat.add_mul] at h
 cases up <;> simp at h h' ⊢ <;> omega
theorem zbt (l : List Nat) (k : Nat) (b : Nat) : ofd b (l ++ List.replicate k 0) = ofd b l := by
 rw [jD, z6]; simp
theorem VP (x y : Nat) (v u : Value) (w : World) (hx : isNat w v x) (hy : isNat w u y) (hsx : (gr x).length ≤ 1000000) (hsy : (gr y).length ≤ 1000000) (hlt : x < y) :
  Calls Tryz.prog 183 #[v, u] w fun e w' => (∃ v1 v2, e = .returned (.tuple #[v1, v2]) ∧ isNat w' v1 (x / y) ∧ isNat w' v2 (x % y)) ∧ Below w.heap.size w w' := by
 rw [Nat.div_eq_of_lt hlt, Nat.mod_eq_of_lt hlt]
 have hl := Jn x y v u w hx hy hsx hsy
 rw [decide_eq_true hlt] at hl
 have Hl := hide hl
 have Hx := hide hx
 clear hl hx hy hlt hsx hsy
 go_enter Tryz.func183, Tryz.ntmps183
 go_wp2_with fail
 refine (za Hl).mono ?_
 rintro e w1 ⟨rfl, hb1⟩
 go_wp2
 go_ret2
 have hbX := hb1.alloc hb1.size (.cells #[] 173)
 refine ⟨⟨_, _, rfl, ?_, zr (za Hx) hbX⟩, hbX⟩
 have := World.ownsRow_made (base := 0) (e := 173) (size := 1) w1 #[] 0 (Nat.zero_le _) (by decide) (by simp)
 unfold isNat
 rw [ji]
 exact this
theorem VT (x y : Nat) (v u : Value) (w : World) (hx : isNat w v x) (hy : isNat w u y) (hsx : (gr x).length ≤ 1000000) (hsy : (gr y).length ≤ 1000000) (hle : y ≤ x) (hy0 : 0 < y) :
  Calls Tryz.prog 183 #[v, u] w fun e w' => (∃ v1 v2, e = .returned (.tuple #[v1, v2]) ∧ isNat w' v1 (x / y) ∧ isNat w' v2 (x % y)) ∧ Below w.heap.size w w' := by
 obtain ⟨i0, hi, hz0, hz1, hz2⟩ := info_parts Tryz.infoU64
 have hl := Jn x y v u w hx hy hsx hsy
 rw [decide_eq_false (by omega)] at hl
 have Hl := hide hl
 have Hx := hide hx
 have Hy := hide hy
 clear hl
 have hyne : gr y ≠ [] := fun h => by have := xh.1 h; omega
 have hml : (gr y).length ≤ (gr x).length := jc hle
 obtain ⟨m, hm⟩ : ∃ m, (gr y).length = m + 1 := ⟨(gr y).length - 1, by have : (gr y).length ≠ 0 := fun h => hyne (List.eq_nil_of_length_eq_zero h); omega⟩
 obtain ⟨n, hn⟩ : ∃ n, (gr x).length = n := ⟨_, rfl⟩
 obtain ⟨K, hKI⟩ : ∃ K : Nat, (n : Int) - m = K := ⟨n - m, by omega⟩
 obtain ⟨gy, cy, hu, hcy, _, hgy⟩ := qn hy (by omega)
 obtain ⟨gx, cx, hv, hcx, _, hgx⟩ := qn hx (by omega)
 subst hu
 subst hv
 have hcell := Hy.out.cellAt m (by omega)
 rw [zx _ _ (by omega)] at hcell
 have htop9 : (gr y)[m]'(by omega) < 1000000000 := gr_lt y _ (List.getElem_mem _)
 have htop0 : 0 < (gr y)[m]'(by omega) := by
  have := (zaw (b := 1000000000) (by omega) y).2 ((gr y)[m]'(by omega)) (by
   rw [List.getLast?_eq_getElem?]
   show (gr y)[(gr y).length - 1]? = _
   rw [show (gr y).length - 1 = m from by omega]
   exact List.getElem?_eq_getElem _)
  omega
 have hsc := fun s hs hs0 => @VO y s m (gr y) rfl hm hs hs0
 obtain ⟨yt, hyt⟩ : ∃ a, (gr y)[m]'(by omega) = a := ⟨_, rfl⟩
 rw [hyt] at hcell htop9 htop0
 simp only [hyt] at hsc
 have hs0 := Kq htop9
 have hs9 := XL htop0
 obtain ⟨s, hs⟩ : ∃ s, 1000000000 / (yt + 1) = s := ⟨_, rfl⟩
 rw [hs] at hs0 hs9
 have hsc := hsc s hs hs0
 have hsI : (1000000000 : Int) / ((yt : Int) + 1) = (s : Int) := by rw [← hs]; rfl
 have Hsc := hide hsc
 have Hm := hide hm
 have Hn := hide hn
 rw [hm] at hml hsy hcy Hy Hl
 rw [hn] at hml hsx hcx Hx Hl
 rw [hm, hn]
 clear hx hy hsc hs hyt hyne hm hn
 go_enter Tryz.func183, Tryz.ntmps183
 go_wp2_with fail
 refine (za Hl).mono ?_
 clear Hl
 rintro e w1 ⟨rfl, hb1⟩
 have hcell1 : w1.cell? ⟨gy, m, none⟩ = some (.int .u64 (yt : Int)) := by rw [hb1.cell (p := ⟨gy, m, none⟩) hgy]; exact hcell
 go_wp2_with (refine wpList_make_full _ rfl (.tmp 31) (.tmp 31) 178 rfl w.heap.size 173 i0 (.int .u64 0) 1 Tryz.underlying178 hi hz0 hz1 .i64 .i64 ((n + 1 : Nat) : Int) ((n + 1 : Nat) : Int) (n + 1) rfl rfl rfl rfl (by rw [hz2]; omega) (by unfold maxLen; omega) hb1.size ?_; intro w2 hown2 hg2)
 have hb2 : Below w.heap.size w w2 := hb1.grown hg2 hb1.size (fun _ h => by cases h)
 have hxs9 : (gr (x * s)).length ≤ n + 1 := by
  apply jW (by omega)
  have h1 : x < 1000000000 ^ n := by have := jy (b := 1000000000) (by omega) x; rwa [show (dg 1000000000 x).length = n from za Hn] at this
  rw [Nat.pow_succ]
  exact Nat.mul_lt_mul'' h1 hs9
 refine (xz x s _ _ (zr (za Hx) hb2) (by rw [za Hn]; exact hsx) hs9).mono ?_
 rintro e w3 ⟨⟨v3, rfl, hv3⟩, hb3⟩
 have hown3 := zr hown2 hb3
 have hb03 := hb2.trans (hb3.mono hb2.size)
 rw [show (madeCells (Value.int IntKind.u64 0).cells ((n + 1) * 1)).toList = u64s (List.replicate (n + 1) 0) from by
  rw [Nat.mul_one, show (Value.int IntKind.u64 0).cells = #[.int .u64 0] from rfl, toList_madeCells_one, qE]] at hown3
 have hblk := jZ hown3
 obtain ⟨p3, c3, hv3s⟩ := zt hv3
 subst hv3s
 obtain ⟨k3, hk3⟩ : ∃ k3, (gr (x * s)).length = k3 := ⟨_, rfl⟩
 have hsome := fun h => qn hv3 h
 have hcells := fun g cap (h : Value.slice p3 (gr (x * s)).length c3 = .slice (some ⟨g, 0, none⟩) (gr (x * s)).length cap) => (h ▸ hv3 : w3.ownsRow w2.heap.size 173 1 (.slice (some ⟨g, 0, none⟩) (gr (x * s)).length cap) (gr (x * s)).length (u64s (gr (x * s)))).cells (g := g) rfl
 have hpos : 0 < (u64s (gr (x * s))).length → ∃ ad, p3 = some ad ∧ ∀ j v, (u64s (gr (x * s)))[j]? = some v → w3.cell? (ad.add j) = some v := by
  intro h
  obtain ⟨g, cap, hh, _⟩ := hsome (by rwa [zQ] at h)
  have h2 := hcells g cap hh
  simp only [Value.slice.injEq, true_and] at hh
  exact ⟨_, hh.1, h2⟩
 have Hblk := hide hblk
 have Hpos := hide hpos
 have hsz1 := hb1.size
 clear hblk hpos hsome hcells hown3 hown2 hg2 hb1 hb2 hb3 hv3 hcell hcell1
 have hk3l : k3 ≤ n + 1 := by omega
 have Hk3 := hide hk3
 rw [hk3]
 clear hk3
 go_wp2_with (refine wpList_copy_splice rfl (.tmp 33) (.tmp 36) 178 178 rfl 173 Tryz.underlying178 (by simp [hi, hz1]) (some ⟨w1.heap.size, 0, none⟩) p3 (n + 1) (n + 1) k3 c3 rfl rfl w1.heap.size 0 (u64s (List.replicate (n + 1) 0)) 173 (za Hblk) (u64s (gr (x * s))) (by rw [zQ, za Hk3]; exact (Nat.min_eq_left hk3l).symm) (fun h => ⟨rfl, za Hpos h⟩) (by simp [u64s]; have := za Hk3; omega) (Zd _) w.heap.size w hb03 hsz1 ?_; intro w4 hg4 hb4)
 have hrow : splice (u64s (List.replicate (n + 1) 0)) 0 (u64s (gr (x * s))) = u64s (gr (x * s) ++ List.replicate (n + 1 - k3) 0) := by
  unfold splice
  rw [List.take_zero, List.nil_append, Nat.zero_add, zQ, za Hk3, ← xq, List.drop_replicate, yG]
 have hg4' := za hg4
 rw [hrow] at hg4'
 have hLl : (gr (x * s) ++ List.replicate (n + 1 - k3) 0).length = n + 1 := by
  rw [List.length_append, List.length_replicate, za Hk3]; omega
 have hLo : ofd 1000000000 (gr (x * s) ++ List.replicate (n + 1 - k3) 0) = x * s := by rw [zbt, qQ]
 have hLd : ∀ d ∈ gr (x * s) ++ List.replicate (n + 1 - k3) 0, d < 1000000000 := by
  intro d hd
  rcases List.mem_append.1 hd with h | h
  ·exact gr_lt _ d h
  ·simp at h; omega
 have hownL := jx (base := w.heap.size) (n := n + 1) hg4' (by rw [zQ]; exact hLl) (by unfold maxLen; omega) hsz1
 have hgl4 : w1.heap.size < w4.heap.size := (Array.getElem?_eq_some_iff.1 hg4').1
 generalize gr (x * s) ++ List.replicate (n + 1 - k3) 0 = L0 at *
 have HLl := hide hLl
 have HLo := hide hLo
 have HLd := hide hLd
 have HownL := hide hownL
 generalize w1.heap.size = gl at *
 clear hrow hg4 hg4' hLl hLo hLd hownL Hblk Hpos hb03 hxs9
 refine (xz y s _ _ (zr (za Hy) hb4) (by rw [za Hm]; exact hsy) hs9).mono ?_
 rintro e w5 ⟨⟨v5, rfl, hv5⟩, hb5⟩
 have hl5 := (za Hsc).1
 obtain ⟨gb, cb, hv5s, hcb, hgb4, hgb5⟩ := qn hv5 (by omega)
 subst hv5s
 rw [hl5] at hcb
 have hownL5 := zr (za HownL) hb5
 have hb05 := hb4.trans (hb5.mono hb4.size)
 have hys9 := gr_lt (y * s)
 have hyso := qQ (y * s)
 have hytop := (zaw (b := 1000000000) (by omega) (y * s)).2
 rw [show dg 1000000000 (y * s) = gr (y * s) from rfl] at hytop
 have hYl := (za Hsc).2
 unfold isNatB at hv5
 have hpos0 : 0 < y * s := Nat.mul_pos hy0 hs0
 have hstart := fun L hL hLl => @V5 x y s n m L (za Hn) (za Hm) hml hL hLl hs0
 have Hstart := hide (hstart L0 (za HLo) (za HLl))
 obtain ⟨Y, hY⟩ : ∃ Y, y * s = Y := ⟨_, rfl⟩
 rw [hY] at hl5 hv5 hys9 hyso hYl hpos0 Hstart
 rw [hY] at hytop
 rw [show (gr (y * s)).length = m + 1 from (za Hsc).1]
 generalize gr Y = ys at *
 have HY := hide hY
 have Hys9 := hide hys9
 have Hytop := hide hytop
 have Hyso := hide hyso
 have HYl := hide hYl
 have Hl5 := hide hl5
 clear hys9 hyso hytop hYl hY hstart hb4 hb5 HownL hsc hl5
 go_wp2_with (refine wpList_make_full _ rfl (.tmp 44) (.tmp 44) 178 rfl w.heap.size 173 i0 (.int .u64 0) 1 Tryz.underlying178 hi hz0 hz1 .i64 .i64 K K K rfl rfl rfl rfl (by rw [hz2]; omega) (by unfold maxLen; omega) hb05.size ?_; intro w6 hown6 hg6)
 have hownO0 : w6.ownsRow w.heap.size 173 1 (.slice (some ⟨w5.heap.size, 0, none⟩) K K) K (u64s (List.replicate K 0)) := by
  simpa [Value.cells, toList_madeCells_one, qE] using hown6
 have hb56 : Below w5.heap.size w5 w6 := (Below.refl _ _).grown hg6 (Nat.le_refl _) (fun _ h => by cases h)
 have hownL6 := zr hownL5 hb56
 have hownB6 := zK (zr hv5 hb56) (Nat.zero_le _)
 rw [za Hl5] at hownB6
 have hb06 := hb05.trans (hb56.mono hb05.size)
 have hob : w.heap.size ≤ w5.heap.size := hb05.size
 generalize w5.heap.size = bo at *
 have hglb : gl ≠ gb := by omega
 have hgbo : gb ≠ bo := by omega
 have hglo : gl ≠ bo := by omega
 have hK0 : 0 < K := by omega
 have hnK : n = m + K := by omega
 have HnK := hide hnK
 clear hown6 hg6 hv5 hownL5 hb56 hb05 hnK
 go_loopw [10] (fun i wr => ∃ (k : Nat) (L O : List Nat), k ≤ K ∧ i = .int .i64 ((k : Int) - 1) ∧ L.length = n + 1 ∧ O.length = K ∧
   wr.ownsRow w.heap.size 173 1 (.slice (some ⟨gl, 0, none⟩) (n + 1) (n + 1)) (n + 1) (u64s L) ∧ wr.ownsRow w.heap.size 173 1 (.slice (some ⟨bo, 0, none⟩) K K) K (u64s O) ∧
   wr.ownsRow 0 173 1 (.slice (some ⟨gb, 0, none⟩) (m + 1) cb) (m + 1) (u64s ys) ∧ Below w.heap.size w wr ∧ Hid (∀ d ∈ L, d < 1000000000) ∧ Hid (∀ d ∈ O, d < 1000000000) ∧
   Hid (x * s = ofd 1000000000 (L.take k) + 1000000000 ^ k * (Y * ofd 1000000000 (O.drop k) + ofd 1000000000 (L.drop k))) ∧ Hid (ofd 1000000000 (L.drop k) < Y))
  (fun i _ => ((intOf i) + 1).toNat)
 case atStart =>
  refine ⟨K, L0, List.replicate K 0, Nat.le_refl _, rfl, za HLl, by simp, hownL6, hownO0, hownB6, hb06, HLd, hide (by intro d hd; simp at hd; omega), ?_, ?_⟩
  ·show _ = _
   rw [List.drop_of_length_le (by simp), ofd, Nat.mul_zero, Nat.zero_add, ← jI 1000000000 L0 K (by rw [za HLl]; have := za HnK; omega), za HLo]
  ·show _ < _
   have := za Hstart
   rwa [show n - m = K from by have := za HnK; omega] at this
 case round =>
  clear hownL6 hownO0 hownB6 hb06
  obtain ⟨k, L, O, hk, rfl, hLl, hOl, hownL, hownO, hownB, hb, hLd, hOd, hinv, hR⟩ := hrel
  cases k with
  | zero =>
   rw [show (((0 : Nat) : Int) - 1) = -1 from rfl]
   have hinv0 : x * s = Y * ofd 1000000000 O + ofd 1000000000 L := by have := za hinv; simpa [ofd] using this
   have hR0 : ofd 1000000000 L < Y := by have := za hR; simpa using this
   have hend := XR (x := x) (y := y) (s := s) (Q := ofd 1000000000 O) (R := ofd 1000000000 L) (by rw [za HY]; exact hinv0) (by rw [za HY]; exact hR0) hs0
   have Hend := hide hend
   have HO := hide hownO
   have hLlen := jc (Nat.le_of_lt hR0)
   have hYlen : (gr Y).length ≤ 1000000 := by rw [← za HY, (za Hsc).1]; omega
   clear hinv0 hR0 hend hinv hR hownO hownB
   go_wp2_with fail
   refine (q8 L w.heap.size _ _ (by omega) (za hLd) (by rw [hLl]; exact hownL)).mono ?_
   rintro e w7 ⟨⟨v7, rfl, hv7⟩, rfl⟩
   have hv7n := hv7.nat
   clear hv7
   go_wp2_with fail
   refine (Yr (ofd 1000000000 L) s v7 _ hv7n (by omega) hs0 hs9).mono ?_
   rintro e w8 ⟨⟨v8, rfl, hv8⟩, hb8⟩
   have hO8 := zr (za HO) hb8
   have hbZ := hb.trans (hb8.mono hb.size)
   rw [(za Hend).2] at hv8
   clear hownL hv7n
   go_wp2_with fail
   refine (q8 O w.heap.size _ _ (by omega) (za hOd) (by rw [hOl]; exact hO8)).mono ?_
   rintro e w9 ⟨⟨v9, rfl, hv9⟩, rfl⟩
   have hv9n := hv9.nat
   rw [← (za Hend).1] at hv9n
   clear hv9 hO8
   go_wp2
   go_ret2
   exact ⟨⟨_, _, rfl, hv9n, hv8⟩, hbZ⟩
  | succ i =>
   rw [show (((i + 1 : Nat) : Int) - 1) = (i : Int) from by omega]
   have hin : i + (m + 1) < L.length := by have := za HnK; omega
   have hcT1 := hownL.cellAt (i + (m + 1)) (by omega)
   rw [zx _ _ hin] at hcT1
   have hcT0 := hownL.cellAt (i + m) (by omega)
   rw [zx _ _ (by omega)] at hcT0
   have hcY := hownB.cellAt m (by omega)
   rw [zx _ _ (by have := za Hl5; omega)] at hcY
   obtain ⟨v0, hv0⟩ := qB hownO i (by omega)
   have hfO := hownO.frozenAt i
   have hiI : (i : Int) + (m + 1) < n + 1 := by have := za HnK; omega
   have hiK : (i : Int) < K := by omega
   have hT1 : L[i + (m + 1)]'hin < 1000000000 := za hLd _ (List.getElem_mem _)
   have hT0 : L[i + m]'(by omega) < 1000000000 := za hLd _ (List.getElem_mem _)
   have hwt := zaB (za hLd) i m hin
   have htl := zbO (za Hl5)
   have hyl0 : 0 < ys[m]'(by have := za Hl5; omega) := by
    have hl5 := za Hl5
    have := za Hytop (ys[m]'(by omega)) (by
     rw [List.getLast?_eq_getElem?, show ys.length - 1 = m from by omega]
     exact List.getElem?_eq_getElem _)
    omega
   have hyl9 : ys[m]'(by have := za Hl5; omega) < 1000000000 := za Hys9 _ (List.getElem_mem _)
   generalize L[i + (m + 1)]'hin = ta at *
   generalize L[i + m]'(by omega) = tb at *
   generalize ys[m]'(by have := za Hl5; omega) = yl at *
   have Hwt := hide hwt
   have Htl := hide htl
   clear hwt htl
   obtain ⟨q0, hq0⟩ : ∃ q : Nat, ((ta : Int) * 1000000000 + tb) / yl = q := ⟨(ta * 1000000000 + tb) / yl, rfl⟩
   have Hq0 : Hid ((ta * 1000000000 + tb) / yl = q0) := by
    show _ = _
    have : (((ta * 1000000000 + tb) / yl : Nat) : Int) = (q0 : Int) := by rw [← hq0]; rfl
    omega
   have hq0d : ((ta : Int) * 1000000000 + tb).tdiv yl = q0 := by rw [Int.tdiv_eq_ediv_of_nonneg (by omega)]; exact hq0
   have hq0le : q0 ≤ ta * 1000000000 + tb := by rw [← za Hq0]; exact Nat.div_le_self _ _
   have e1 := wi64 ((m : Int) + 1) (by omega) (by omega)
   have e2 : ((m : Int) + 1).toNat = m + 1 := by omega
   have e3 := wu64 ((ta : Int) * 1000000000) (by omega) (by omega)
   have e4 := wu64 ((ta : Int) * 1000000000 + tb) (by omega) (by omega)
   have e5 : i + (m + 1) + 1 - i = m + 1 + 1 := by omega
   have e6 := wu64 (q0 : Int) (by omega) (by omega)
   have hyl0I : (0 : Int) < yl := by omega
   have hyl0N : ¬ (yl : Int) = 0 := by omega
   go_wp2_with fail
   go_region
   have hV := XS (m := m + 1) (by omega) (za hLd) (za hR) (za HYl)
   have hVq : win L i (m + 1 + 1) / Y ≤ 999999999 := by
    have := (Nat.div_lt_iff_lt_mul hpos0).2 hV.2.2
    omega
   have hVg : win L i (m + 1 + 1) / Y ≤ q0 := by
    have h1 := XB (Y := Y) (za Hwt) (by rw [← za Hyso]; exact za Htl) hyl0
    rw [za Hq0] at h1; exact h1
   have HVq := hide hVq
   have HVg := hide hVg
   clear hV hVq hVg
   go_wp2_with fail
   ·
    obtain ⟨q1, hq1⟩ : ∃ q1 : Nat, 999999999 = q1 := ⟨_, rfl⟩
    rw [show (999999999 : Int) = (q1 : Int) from by rw [← hq1]; rfl]
    have HV1 : Hid (win L i (m + 1 + 1) / Y ≤ q1) := by rw [← hq1]; exact HVq
    have hq9 : q1 < 1000000000 := by omega
    clear hq1
    have hO1 := (hownO.stored i (.int .u64 (q1 : Int))).1
    rw [qS _ _ q1 _ rfl] at hO1
    have hbW := (hb.setCell (p := ⟨bo, i, none⟩) hob (.int .u64 (q1 : Int))).drew
    have hL1 := ownsRow_setCell_other hownL (a := ⟨bo, i, none⟩) (by simp [Value.ownBlock]; omega) (.int .u64 (q1 : Int))
    have hB1 := ownsRow_setCell_other hownB (a := ⟨bo, i, none⟩) (by simp [Value.ownBlock]; omega) (.int .u64 (q1 : Int))
    have h := Qj L ys gl gb i (m + 1) (n + 1) (n + 1 - i) cb q1 w.heap.size _ (za Hl5) hLl (by omega) (by omega) (by omega) (jK hL1) (jK hB1) (by omega) (za hLd) (za Hys9) hq9
    refine h.mono ?_
    clear h
    rintro e w7 ⟨neg, L1, rfl, hL7, hg7, hso7, hw7⟩
    have hO7 := (jK hO1).kept hg7 (.inr (by simp [Value.ownBlock]; omega))
    have hB7 := (jK hB1).kept hg7 (.inr (by simp [Value.ownBlock]; omega))
    have hb7 := hbW.grown hg7 hbW.size (fun k hk => by cases hk; omega)
    rw [za Hyso] at hw7
    have Hso7 := hide hso7
    have Hw7 := hide hw7
    clear hO1 hL1 hB1 hbW hg7 hso7 hw7
    go_wp2_with fail
    go_loopw [12] (fun bl wr => ∃ (q : Nat) (neg : Bool) (L2 : List Nat), bl = .bool neg ∧ q < 1000000000 ∧ wr.ownsRow w.heap.size 173 1 (.slice (some ⟨gl, 0, none⟩) (n + 1) (n + 1)) (n + 1) (u64s L2) ∧ wr.ownsRow w.heap.size 173 1 (.slice (some ⟨bo, 0, none⟩) K K) K (u64s (O.set i q)) ∧
      wr.ownsRow 0 173 1 (.slice (some ⟨gb, 0, none⟩) (m + 1) cb) (m + 1) (u64s ys) ∧ Below w.heap.size w wr ∧ Hid (qp L L2 i (m + 1 + 1)) ∧
      Hid (win L2 i (m + 1 + 1) + q * Y = win L i (m + 1 + 1) + if neg then 1000000000 ^ (m + 1 + 1) else 0) ∧ Hid (win L i (m + 1 + 1) / Y ≤ q))
     (fun _ wr => cellN wr bo i)
    case atStart => exact ⟨q1, neg, L1, rfl, hq9, hL7, hO7, hB7, hb7, Hso7, Hw7, HV1⟩
    case round =>
     clear hL7 hO7 hB7 hb7 Hso7 Hw7 HV1 hownL hownO hownB hb
     obtain ⟨q, ng, L2, rfl, hq, hL2, hO2, hB2, hb2, hso2, hw2, hV2⟩ := hrel
     cases ng with
     | false =>
      go_wp2_with fail
      go_roundw
      case rel =>
       have hw3 : win L2 i (m + 1 + 1) + q * Y = win L i (m + 1 + 1) := by have := za hw2; simpa using this
       have hlt3 := Zl hw3 (za hV2) hpos0
       have hst := Qg (m := m + 1) (by omega) (by omega) (za hLd) (za HYl) (za hinv) (za hR) (za hso2) hw3 hlt3
       exact ⟨i, L2, O.set i q, by omega, rfl, (za hso2).1.trans hLl, by simpa using hOl, hL2, hO2, hB2, hb2, hide (za hso2).2.1, hide (qy (za hOd) hq), hide hst.1, hide hst.2⟩
      case measure => simp [intOf]
     | true =>
      have hcO := hO2.cellAt i (by omega)
      rw [zx _ _ (by simp; omega), List.getElem_set_self] at hcO
      have hfO2 := hO2.frozenAt i
      have hmore := QF (za hw2) (Yc (za hso2).2.1 i (m + 1 + 1) (by have := (za hso2).1; omega))
      have hq0' : 0 < q := Nat.lt_of_le_of_lt (Nat.zero_le _) hmore
      obtain ⟨q', rfl⟩ : ∃ q', q = q' + 1 := ⟨q - 1, by omega⟩
      have HV3 : Hid (win L i (m + 1 + 1) / Y ≤ q') := Nat.le_of_lt_succ hmore
      clear hmore
      have hO3 := (hO2.stored i (.int .u64 (q' : Int))).1
      rw [qS _ _ q' _ rfl, List.set_set] at hO3
      have hbW := hb2.setCell (p := ⟨bo, i, none⟩) hob (.int .u64 (q' : Int))
      have hL3 := ownsRow_setCell_other hL2 (a := ⟨bo, i, none⟩) (by simp [Value.ownBlock]; omega) (.int .u64 (q' : Int))
      have hB3 := ownsRow_setCell_other hB2 (a := ⟨bo, i, none⟩) (by simp [Value.ownBlock]; omega) (.int .u64 (q' : Int))
      have hcq : cellN wr bo i = q' + 1 := yw hcO
      have Hcq := hide hcq
      have hL2l := (za hso2).1.trans hLl
      have HO3 := hide hO3
      clear hL2 hO2 hB2 hb2 hcq hO3
      go_wp2_with fail
      have h := QB L2 ys gl gb i (m + 1) (n + 1) (n + 1 - i) cb w.heap.size _ (za Hl5) hL2l (by omega) (by omega) (by omega) hL3 hB3 (by omega) (za hso2).2.1 (za Hys9)
      refine h.mono ?_
      clear h
      rintro e w8 ⟨up, L3, rfl, hL8, hg8, hso8, hw8⟩
      have hO8 := (za HO3).kept hg8 (.inr (by simp [Value.ownBlock]; omega))
      have hB8 := hB3.kept hg8 (.inr (by simp [Value.ownBlock]; omega))
      have hb8 := hbW.grown hg8 hbW.size (fun k hk => by cases hk; omega)
      have hc8 := hO8.cellAt i (by omega)
      rw [zx _ _ (by simp; omega), List.getElem_set_self] at hc8
      have Hc8 := hide (yw hc8)
      have Hso8 : Hid (qp L L3 i (m + 1 + 1)) := yV (za hso2) hso8
      have Hw8 : Hid (win L3 i (m + 1 + 1) + q' * Y = win L i (m + 1 + 1) + if (!up) then 1000000000 ^ (m + 1 + 1) else 0) := by
       rw [za Hyso] at hw8
       exact yY (za hw2) hw8
      clear hc8 hL3 hB3 hbW hg8 hso8 hw8 hso2 hw2
      have hnot : ∀ (x : Bool) (w : World), (Op.unary .not (.bool x)).run Tryz.prog w = .ok (.bool (!x)) w := fun _ _ => rfl
      go_wp2_with fail
      go_roundw
      case rel => exact ⟨q', !up, L3, rfl, by omega, hL8, hO8, hB8, hb8, Hso8, Hw8, HV3⟩
      case measure => rw [za Hc8, za Hcq]; omega
   ·
    obtain ⟨q1, hq1⟩ : ∃ q1 : Nat, q0 = q1 := ⟨_, rfl⟩
    have hq9 : q1 < 1000000000 := by omega
    rw [hq1]
    have HV1 : Hid (win L i (m + 1 + 1) / Y ≤ q1) := by rw [← hq1]; exact HVg
    clear hq1
    have hO1 := (hownO.stored i (.int .u64 (q1 : Int))).1
    rw [qS _ _ q1 _ rfl] at hO1
    have hbW := (hb.setCell (p := ⟨bo, i, none⟩) hob (.int .u64 (q1 : Int))).drew
    have hL1 := ownsRow_setCell_other hownL (a := ⟨bo, i, none⟩) (by simp [Value.ownBlock]; omega) (.int .u64 (q1 : Int))
    have hB1 := ownsRow_setCell_other hownB (a := ⟨bo, i, none⟩) (by simp [Value.ownBlock]; omega) (.int .u64 (q1 : Int))
    have h := Qj L ys gl gb i (m + 1) (n + 1) (n + 1 - i) cb q1 w.heap.size _ (za Hl5) hLl (by omega) (by omega) (by omega) (jK hL1) (jK hB1) (by omega) (za hLd) (za Hys9) hq9
    refine h.mono ?_
    clear h
    rintro e w7 ⟨neg, L1, rfl, hL7, hg7, hso7, hw7⟩
    have hO7 := (jK hO1).kept hg7 (.inr (by simp [Value.ownBlock]; omega))
    have hB7 := (jK hB1).kept hg7 (.inr (by simp [Value.ownBlock]; omega))
    have hb7 := hbW.grown hg7 hbW.size (fun k hk => by cases hk; omega)
    rw [za Hyso] at hw7
    have Hso7 := hide hso7
    have Hw7 := hide hw7
    clear hO1 hL1 hB1 hbW hg7 hso7 hw7
    go_wp2_with fail
    go_loopw [12] (fun bl wr => ∃ (q : Nat) (neg : Bool) (L2 : List Nat), bl = .bool neg ∧ q < 1000000000 ∧ wr.ownsRow w.heap.size 173 1 (.slice (some ⟨gl, 0, none⟩) (n + 1) (n + 1)) (n + 1) (u64s L2) ∧ wr.ownsRow w.heap.size 173 1 (.slice (some ⟨bo, 0, none⟩) K K) K (u64s (O.set i q)) ∧
      wr.ownsRow 0 173 1 (.slice (some ⟨gb, 0, none⟩) (m + 1) cb) (m + 1) (u64s ys) ∧ Below w.heap.size w wr ∧ Hid (qp L L2 i (m + 1 + 1)) ∧
      Hid (win L2 i (m + 1 + 1) + q * Y = win L i (m + 1 + 1) + if neg then 1000000000 ^ (m + 1 + 1) else 0) ∧ Hid (win L i (m + 1 + 1) / Y ≤ q))
     (fun _ wr => cellN wr bo i)
    case atStart => exact ⟨q1, neg, L1, rfl, hq9, hL7, hO7, hB7, hb7, Hso7, Hw7, HV1⟩
    case round =>
     clear hL7 hO7 hB7 hb7 Hso7 Hw7 HV1 hownL hownO hownB hb
     obtain ⟨q, ng, L2, rfl, hq, hL2, hO2, hB2, hb2, hso2, hw2, hV2⟩ := hrel
     cases ng with
     | false =>
      go_wp2_with fail
      go_roundw
      case rel =>
       have hw3 : win L2 i (m + 1 + 1) + q * Y = win L i (m + 1 + 1) := by have := za hw2; simpa using this
       have hlt3 := Zl hw3 (za hV2) hpos0
       have hst := Qg (m := m + 1) (by omega) (by omega) (za hLd) (za HYl) (za hinv) (za hR) (za hso2) hw3 hlt3
       exact ⟨i, L2, O.set i q, by omega, rfl, (za hso2).1.trans hLl, by simpa using hOl, hL2, hO2, hB2, hb2, hide (za hso2).2.1, hide (qy (za hOd) hq), hide hst.1, hide hst.2⟩
      case measure => simp [intOf]
     | true =>
      have hcO := hO2.cellAt i (by omega)
      rw [zx _ _ (by simp; omega), List.getElem_set_self] at hcO
      have hfO2 := hO2.frozenAt i
      have hmore := QF (za hw2) (Yc (za hso2).2.1 i (m + 1 + 1) (by have := (za hso2).1; omega))
      have hq0' : 0 < q := Nat.lt_of_le_of_lt (Nat.zero_le _) hmore
      obtain ⟨q', rfl⟩ : ∃ q', q = q' + 1 := ⟨q - 1, by omega⟩
      have HV3 : Hid (win L i (m + 1 + 1) / Y ≤ q') := Nat.le_of_lt_succ hmore
      clear hmore
      have hO3 := (hO2.stored i (.int .u64 (q' : Int))).1
      rw [qS _ _ q' _ rfl, List.set_set] at hO3
      have hbW := hb2.setCell (p := ⟨bo, i, none⟩) hob (.int .u64 (q' : Int))
      have hL3 := ownsRow_setCell_other hL2 (a := ⟨bo, i, none⟩) (by simp [Value.ownBlock]; omega) (.int .u64 (q' : Int))
      have hB3 := ownsRow_setCell_other hB2 (a := ⟨bo, i, none⟩) (by simp [Value.ownBlock]; omega) (.int .u64 (q' : Int))
      have hcq : cellN wr bo i = q' + 1 := yw hcO
      have Hcq := hide hcq
      have hL2l := (za hso2).1.trans hLl
      have HO3 := hide hO3
      clear hL2 hO2 hB2 hb2 hcq hO3
      go_wp2_with fail
      have h := QB L2 ys gl gb i (m + 1) (n + 1) (n + 1 - i) cb w.heap.size _ (za Hl5) hL2l (by omega) (by omega) (by omega) hL3 hB3 (by omega) (za hso2).2.1 (za Hys9)
      refine h.mono ?_
      clear h
      rintro e w8 ⟨up, L3, rfl, hL8, hg8, hso8, hw8⟩
      have hO8 := (za HO3).kept hg8 (.inr (by simp [Value.ownBlock]; omega))
      have hB8 := hB3.kept hg8 (.inr (by simp [Value.ownBlock]; omega))
      have hb8 := hbW.grown hg8 hbW.size (fun k hk => by cases hk; omega)
      have hc8 := hO8.cellAt i (by omega)
      rw [zx _ _ (by simp; omega), List.getElem_set_self] at hc8
      have Hc8 := hide (yw hc8)
      have Hso8 : Hid (qp L L3 i (m + 1 + 1)) := yV (za hso2) hso8
      have Hw8 : Hid (win L3 i (m + 1 + 1) + q' * Y = win L i (m + 1 + 1) + if (!up) then 1000000000 ^ (m + 1 + 1) else 0) := by
       rw [za Hyso] at hw8
       exact yY (za hw2) hw8
      clear hc8 hL3 hB3 hbW hg8 hso8 hw8 hso2 hw2
      have hnot : ∀ (x : Bool) (w : World), (Op.unary .not (.bool x)).run Tryz.prog w = .ok (.bool (!x)) w := fun _ _ => rfl
      go_wp2_with fail
      go_roundw
      case rel => exact ⟨q', !up, L3, rfl, by omega, hL8, hO8, hB8, hb8, Hso8, Hw8, HV3⟩
      case measure => rw [za Hc8, za Hcq]; omega
theorem VG (x y : Nat) (v u : Value) (w : World) (hx : isNat w v x) (hy : isNat w u y) (hsx : (gr x).length ≤ 1000000) (hsy : (gr y).length ≤ 1000000) (hy0 : 0 < y) :
  Calls Tryz.prog 183 #[v, u] w fun e w' => (∃ v1 v2, e = .returned (.tuple #[v1, v2]) ∧ isNat w' v1 (x / y) ∧ isNat w' v2 (x % y)) ∧ Below w.heap.size w w' := by
 rcases Nat.lt_or_ge x y with h | h
 ·exact VP x y v u w hx hy hsx hsy h
 ·exact VT x y v u w hx hy hsx hsy h hy0
def valU (w : World) : Value → Nat
 | .slice (some a) n _ => ofd 1000000000 ((List.range n).map fun j => cellN w a.block j)
 | _ => 0
theorem YW {w : World} {v : Value} {x : Nat} (h : isNat w v x) : valU w v = x := by
 have ho := qQ x
 unfold isNat at h
 generalize gr x = xs at *
 rcases vN h with ⟨rfl, hn, _⟩ | ⟨g, cap, rfl, _⟩
 ·have : xs = [] := List.eq_nil_of_length_eq_zero hn
  subst this
  simp [valU]; simpa [ofd] using ho
 ·show ofd 1000000000 ((List.range xs.length).map fun j => cellN w g j) = x
  rw [← ho]
  congr 1
  apply List.ext_getElem
  ·simp
  ·intro j h1 h2
   simp only [List.getElem_map, List.getElem_range]
   apply yw
   rw [h.cellAt j (by omega), zx _ _ h2]
theorem gcd_c (x y : Nat) (v u : Value) (w : World) (hx : isNat w v x) (hy : isNat w u y) (hsx : (gr x).length ≤ 1000000) (hsy : (gr y).length ≤ 1000000) :
  Calls Tryz.prog 182 #[v, u] w fun e w' => (∃ v', e = .returned v' ∧ isNat w' v' (Nat.gcd x y)) ∧ Below w.heap.size w w' := by
 go_enter Tryz.func182, Tryz.ntmps182
 go_wp2
 go_loopw [0, 1] (fun a b wr => ∃ (x' y' : Nat), isNat wr a x' ∧ isNat wr b y' ∧ (gr x').length ≤ 1000000 ∧ (gr y').length ≤ 1000000 ∧ Below w.heap.size w wr ∧ Hid (Nat.gcd x' y' = Nat.gcd x y))
  (fun _ b wr => valU wr b)
 case atStart => exact ⟨x, y, hx, hy, hsx, hsy, Below.refl _ _, hide rfl⟩
 case round =>
  obtain ⟨x', y', hx', hy', hsx', hsy', hb, hg⟩ := hrel
  obtain ⟨p, cap, hv⟩ := zt hy'
  by_cases hz : y' = 0
  ·subst hz
   rw [ji] at hv
   subst hv
   go_wp2
   go_ret
   refine ⟨⟨_, rfl, ?_⟩, hb⟩
   rw [← za hg, Nat.gcd_zero_right]
   exact hx'
  ·have hn0 : 0 < (gr y').length := by
    rcases Nat.eq_zero_or_pos (gr y').length with h | h
    ·exact absurd (xh.1 (List.eq_nil_of_length_eq_zero h)) hz
    ·exact h
   have hnI : ¬ ((gr y').length : Int) ≤ 0 := by omega
   have Hy := hide hy'
   have Hx := hide hx'
   subst hv
   clear hx' hy'
   go_wp2_with fail
   refine (VG x' y' _ _ _ (za Hx) (za Hy) hsx' hsy' (by omega)).mono ?_
   rintro e w1 ⟨⟨v1, v2, rfl, hv1, hv2⟩, hb1⟩
   have hy1 := zr (za Hy) hb1
   have hlt := Nat.mod_lt x' (show 0 < y' by omega)
   have hlen := jc (Nat.le_of_lt hlt)
   have hm1 := YW (za Hy)
   have hm2 := YW hv2
   have Hm1 := hide hm1
   have Hm2 := hide hm2
   have HV2 := hide hv2
   have HY1 := hide hy1
   clear hm1 hm2 hv2 hv1 hy1
   go_wp2_with fail
   go_roundw
   case rel =>
    refine ⟨y', x' % y', za HY1, za HV2, hsy', by omega, hb.trans (hb1.mono hb.size), hide ?_⟩
    rw [Nat.gcd_comm y', ← Nat.gcd_rec y' x', Nat.gcd_comm, za hg]
   case measure =>
    rw [za Hm2, za Hm1]; exact hlt
def revTo (l l' : List UInt8) (k : Nat) : Prop :=
 l'.length = l.length ∧ ∀ t (h : t < l.length) (h' : t < l'.length), l'[t] = if t < k ∨ l.length - k ≤ t then l[l.length - 1 - t]'(by omega) else l[t]
theorem VB (l : List UInt8) : revTo l l 0 := ⟨rfl, fun t h h' => by rw [if_neg (by omega)]⟩
theorem Xh {l l' : List UInt8} {k : Nat} (h : revTo l l' k) (hk : l.length ≤ 2 * k + 1) : l' = l.reverse := by
 apply List.ext_getElem
 ·simp [h.1]
 ·intro t h1 h2
  rw [List.getElem_reverse, h.2 t (by simpa using h2) h1]
  by_cases ht : t < k ∨ l.length - k ≤ t
  ·rw [if_pos ht]
  ·rw [if_neg ht]
   congr 1
   have : t < l.length := by simpa using h2
   omega
theorem Yi {l l' : List UInt8} {k : Nat} (h : revTo l l' k) (hk : 2 * k + 1 < l.length) {a b : UInt8} (ha : l'[k]? = some a) (hb : l'[l.length - 1 - k]? = some b) :
  revTo l ((l'.set k b).set (l.length - 1 - k) a) (k + 1) := by
 have hl := h.1
 have ha' : l[k]'(by omega) = a := by
  rw [List.getElem?_eq_getElem (by omega)] at ha
  have := h.2 k (by omega) (by omega)
  rw [if_neg (by omega)] at this
  rw [← this]; simpa using ha
 have hb' : l[l.length - 1 - k]'(by omega) = b := by
  rw [List.getElem?_eq_getElem (by omega)] at hb
  have := h.2 (l.length - 1 - k) (by omega) (by omega)
  rw [if_neg (by omega)] at this
  rw [← this]; simpa using hb
 refine ⟨by simpa using hl, ?_⟩
 intro t h1 h2
 by_cases h3 : t = l.length - 1 - k
 ·subst h3
  rw [List.getElem_set_self, if_pos (by omega), ← ha']
  congr 1; omega
 ·rw [List.getElem_set_ne (by omega)]
  by_cases h4 : t = k
  ·subst h4
   rw [List.getElem_set_self, if_pos (by omega), ← hb']
  ·rw [List.getElem_set_ne (by omega), h.2 t h1 (by omega)]
   by_cases h5 : t < k ∨ l.length - k ≤ t
   ·rw [if_pos h5, if_pos (by omega)]
   ·rw [if_neg h5, if_neg (by omega)]
theorem ZB (l : List UInt8) (j : Nat) (h : j < l.length) : (l.map u8v)[j]? = some (.int .u8 (l[j]).toNat) := by simp [u8v, h]
theorem Y5 (l : List UInt8) (j : Nat) (c : UInt8) : (l.map u8v).set j (.int .u8 c.toNat) = (l.set j c).map u8v := by simp [u8v, List.map_set]
theorem QK (l : List UInt8) (g cap base : Nat) (w : World) (hs : l.length ≤ 1000000000) (h : w.ownsRow base 5 1 (.slice (some ⟨g, 0, none⟩) l.length cap) l.length (l.map u8v)) :
  Calls Tryz.prog 207 #[.slice (some ⟨g, 0, none⟩) l.length cap] w fun e w' => e = .returned (.tuple #[]) ∧ w'.ownsRow base 5 1 (.slice (some ⟨g, 0, none⟩) l.length cap) l.length (l.reverse.map u8v) ∧ w.grownBy w' (some g) := by
 go_enter Tryz.func207, Tryz.ntmps207
 go_wp2
 go_loopw [2, 3] (fun i j wr => ∃ (k : Nat) (l' : List UInt8), 2 * k ≤ l.length + 1 ∧ i = .int .i64 k ∧ j = .int .i64 ((l.length : Int) - 1 - k) ∧ wr.ownsRow base 5 1 (.slice (some ⟨g, 0, none⟩) l.length cap) l.length (l'.map u8v) ∧ w.grownBy wr (some g) ∧ Hid (revTo l l' k))
  (fun i _ _ => l.length - (intOf i).toNat)
 case atStart => exact ⟨0, l, by omega, rfl, by go_num, h, World.grownBy.refl _ _, hide (VB l)⟩
 case round =>
  obtain ⟨k, l', hk, rfl, rfl, hown, hg, hrev⟩ := hrel
  by_cases hlt : 2 * k + 1 < l.length
  ·have hll := (za hrev).1
   have hlI : (k : Int) < (l.length : Int) - 1 - k := by omega
   have hc0 := hown.cellAt k (by omega)
   rw [ZB _ _ (by omega)] at hc0
   have hc1 := hown.cellAt (l.length - 1 - k) (by omega)
   rw [ZB _ _ (by omega)] at hc1
   have hf0 := hown.frozenAt k
   have hf1 := hown.frozenAt (l.length - 1 - k)
   have hga : l'[k]? = some (l'[k]'(by omega)) := List.getElem?_eq_getElem _
   have hgb : l'[l.length - 1 - k]? = some (l'[l.length - 1 - k]'(by omega)) := List.getElem?_eq_getElem _
   have hstep := fun a b ha hb => @Yi l l' k (za hrev) hlt a b ha hb
   have hst1 := hstep _ _ hga hgb
   generalize l'[k]'(by omega) = a at *
   generalize l'[l.length - 1 - k]'(by omega) = b at *
   have hs1 := hown.stored k (.int .u8 b.toNat)
   rw [Y5] at hs1
   have hs2 := hs1.1.stored (l.length - 1 - k) (.int .u8 a.toNat)
   rw [Y5] at hs2
   have Hown := hide hs2.1
   have Hg := hide (vF (vF hg hs1.2) hs2.2)
   have Hst := hide hst1
   have e1 : ((l.length : Int) - 1 - k).toNat = l.length - 1 - k := by omega
   have hkl : (k : Int) < l.length := by omega
   have hjl : (l.length : Int) - 1 - k < l.length := by omega
   have hj0 : 0 ≤ (l.length : Int) - 1 - k := by omega
   have hne : ¬ k = l.length - 1 - k := by omega
   clear hs1 hs2 hst1 hstep hga hgb hll
   go_wp2
   go_region
   all_goals
    go_wp2
    go_roundw
    case rel => exact ⟨k + 1, (l'.set k b).set (l.length - 1 - k) a, by omega, by go_num, by go_num, za Hown, ⟨(za Hg).os, (za Hg).tape, (za Hg).output, (za Hg).size, (za Hg).block⟩, Hst⟩
    case measure => simp [intOf]; omega
  ·go_wp2
   go_end0
   have := Xh (za hrev) (by omega)
   rw [this] at hown
   exact ⟨rfl, hown, hg⟩
def plain (l : List UInt8) : Bool := isDec l && decide (l.length ≤ 60)
theorem VE {l : List UInt8} (h : 60 < l.length) : plain l = false := by
 unfold plain; rw [decide_eq_false (by omega)]; simp
theorem ZL {l : List UInt8} (h : isDec l = false) : plain l = false := by unfold plain; rw [h]; simp
theorem Vk (l : List UInt8) (pos : Nat) (h : pos < l.length) :
  (48 ≤ (l[pos]).toNat ∧ (l[pos]).toNat ≤ 57 ∧ Utf8.decode (B l) pos = ((l[pos]).toNat, 1)) ∨ (¬ (48 ≤ (l[pos]).toNat ∧ (l[pos]).toNat ≤ 57) ∧ ((Utf8.decode (B l) pos).1 < 48 ∨ 57 < (Utf8.decode (B l) pos).1)) := by
 have h2 : pos < (B l).size := by rw [zi]; exact h
 have hg : ((B l)[pos]'h2) = l[pos]'h := B_get l pos h2
 by_cases ha : (l[pos]).toNat < 128
 ·have := decode_ascii (B l) pos h2 (by rw [hg]; exact ha)
  rw [hg] at this
  by_cases hd : 48 ≤ (l[pos]).toNat ∧ (l[pos]).toNat ≤ 57
  ·exact .inl ⟨hd.1, hd.2, this⟩
  ·refine .inr ⟨hd, ?_⟩
   rw [this]
   show (l[pos]).toNat < 48 ∨ 57 < (l[pos]).toNat
   omega
 ·have := (decode_high (B l) pos h2 (by rw [hg]; omega)).1
  exact .inr ⟨by omega, .inr (by omega)⟩
theorem vP (l : List UInt8) (w : World) (hs : l.length ≤ 1000000000) :
  Calls Tryz.prog 185 #[.string (B l)] w fun e w' => e = .returned (.bool (plain l)) ∧ Below w.heap.size w w' := by
 have hI : ((B l).size : Int) = (l.length : Int) := by rw [zi]
 by_cases hz : l.length = 0
 ·have : l = [] := List.eq_nil_of_length_eq_zero hz
  subst this
  have hI0 : (((B []).size : Int) == 0) = true := by rw [hI]; rfl
  clear hI hz hs
  go_enter Tryz.func185, Tryz.ntmps185
  go_wp2
  go_ret
  exact ⟨rfl, Below.refl _ _⟩
 ·have h0 : 0 < l.length := by omega
  have h0I : (((B l).size : Int) == 0) = false := by rw [beq_eq_false_iff_ne]; omega
  by_cases h60 : 60 < l.length
  ·have h60I : (60 : Int) < ((B l).size : Int) := by omega
   rw [VE h60]
   clear hI hz h60
   go_enter Tryz.func185, Tryz.ntmps185
   go_wp2
   go_ret
   exact ⟨rfl, Below.refl _ _⟩
  ·have h60I : ¬ (60 : Int) < ((B l).size : Int) := by omega
   by_cases h1 : 1 < l.length
   ·have h1I : (1 : Int) < ((B l).size : Int) := by omega
    have hg0 : 0 < (B l).size := by omega
    have hg : ((B l)[0]'hg0).toNat = (l[0]'h0).toNat := by rw [B_get]
    by_cases hc : l[0]'h0 = 48
    ·have hq : ((((B l)[0]'hg0).toNat : Int) == 48) = true := by rw [hg, hc]; rfl
     have hf : plain l = false := by
      apply ZL
      cases hd : isDec l with
      | false => rfl
      | true =>
       unfold isDec at hd
       simp only [bne_iff_ne, Bool.and_eq_true, Bool.or_eq_true, decide_eq_true_eq] at hd
       rcases hd.2 with h2 | h2
       ·omega
       ·exact absurd (by rw [List.head?_eq_getElem?, List.getElem?_eq_getElem h0, hc]) h2
     rw [hf]
     clear hI hc hg hf hz
     go_enter Tryz.func185, Tryz.ntmps185
     go_wp2
     go_ret
     exact ⟨rfl, Below.refl _ _⟩
    ·have hq : ((((B l)[0]'hg0).toNat : Int) == 48) = false := by
      rw [hg, beq_eq_false_iff_ne]
      intro hh
      apply hc
      apply UInt8.toNat_inj.1
      simp only [UInt8.toNat_ofNat]; omega
     have hl0 : Hid (l.length ≤ 1 ∨ l.head? ≠ some 48) := .inr (by
      rw [List.head?_eq_getElem?, List.getElem?_eq_getElem h0]
      intro hh; exact hc (by simpa using hh))
     clear hI hc hg hz
     go_enter Tryz.func185, Tryz.ntmps185
     go_wp2
     go_loopw [4] (fun _ wr => ∃ pos : Nat, pos ≤ l.length ∧ wr.heap[w.heap.size]? = some (.stringIter (B l) pos) ∧ Below w.heap.size w wr ∧ Hid (∀ j (hj : j < l.length), j < pos → 48 ≤ (l[j]).toNat ∧ (l[j]).toNat ≤ 57))
      (fun _ wr => l.length - wr.iterPos w.heap.size)
     case atStart => exact ⟨0, Nat.zero_le _, World.iter_heap _ _ _, (Below.refl _ _).alloc (Nat.le_refl _) _, hide (fun j _ h => by omega)⟩
     case round =>
      obtain ⟨pos, hpl, hit, hb, hv⟩ := hrel
      have hpos0 := iterPos_of hit
      by_cases hlt : pos < l.length
      ·have hlt2 : pos < (B l).size := by rw [zi]; exact hlt
       have hnx := fun ty => Lib.run_next_any_at (P := Tryz.prog) wr w.heap.size (B l) pos ty hit hlt2
       rcases Vk l pos hlt with ⟨h1, h2, h3⟩ | ⟨h1, h2⟩
       ·rw [h3] at hnx
        have hit2 := Lib.iterAt_heap wr w.heap.size (B l) pos (pos + 1) hit
        have hb2 := Lib.below_iterAt hb (k := w.heap.size) (Nat.le_refl _) (B l) (pos + 1)
        have hpos2 := iterPos_of hit2
        have hv2 : Hid (∀ j (hj : j < l.length), j < pos + 1 → 48 ≤ (l[j]).toNat ∧ (l[j]).toNat ≤ 57) := by
         intro j hj hjk
         by_cases hjk2 : j < pos
         ·exact za hv j hj hjk2
         ·have : j = pos := by omega
          subst this; exact ⟨h1, h2⟩
        have h1I : (48 : Int) ≤ ((l[pos]'hlt).toNat : Int) := by omega
        have h2I : ((l[pos]'hlt).toNat : Int) ≤ 57 := by omega
        have Hit2 := hide hit2
        have Hp0 := hide hpos0
        have Hp2 := hide hpos2
        clear h3 hit hit2 hpos0 hpos2
        go_wp2
        go_roundw
        case rel => exact ⟨pos + 1, by omega, za Hit2, hb2, hv2⟩
        case measure => rw [za Hp0, za Hp2]; omega
       ·have hb2 := Lib.below_iterAt hb (k := w.heap.size) (Nat.le_refl _) (B l) (pos + (Utf8.decode (B l) pos).2)
        have hf := ZL (jY pos hlt h1)
        have Hf := hide hf
        generalize Utf8.decode (B l) pos = rw_ at *
        clear hf h1 hit hpos0
        rcases h2 with h2 | h2
        ·have h2I : (rw_.1 : Int) < 48 := by omega
         clear h2
         go_wp2
         go_ret
         exact ⟨zD (za Hf).symm, hb2⟩
        ·have h2I : (57 : Int) < rw_.1 := by omega
         have h3I : ¬ (rw_.1 : Int) < 48 := by omega
         clear h2
         go_wp2
         go_ret
         exact ⟨zD (za Hf).symm, hb2⟩
      ·have hlt2 : ¬ pos < (B l).size := by rw [zi]; exact hlt
       have hnx := fun ty => Lib.run_next_end_at (P := Tryz.prog) wr w.heap.size (B l) pos ty hit hlt2
       have hf : plain l = true := by
        unfold plain
        rw [vR h0 (za hl0) (fun j hj => za hv j hj (by omega)), decide_eq_true (by omega)]; rfl
       have Hf := hide hf
       clear hf hit hpos0
       go_wp2
       go_ret
       exact ⟨zD (za Hf).symm, hb⟩
   ·have h1I : ¬ (1 : Int) < ((B l).size : Int) := by omega
    have hl0 : Hid (l.length ≤ 1 ∨ l.head? ≠ some 48) := .inl (by omega)
    clear hI hz
    go_enter Tryz.func185, Tryz.ntmps185
    go_wp2
    go_loopw [4] (fun _ wr => ∃ pos : Nat, pos ≤ l.length ∧ wr.heap[w.heap.size]? = some (.stringIter (B l) pos) ∧ Below w.heap.size w wr ∧ Hid (∀ j (hj : j < l.length), j < pos → 48 ≤ (l[j]).toNat ∧ (l[j]).toNat ≤ 57))
     (fun _ wr => l.length - wr.iterPos w.heap.size)
    case atStart => exact ⟨0, Nat.zero_le _, World.iter_heap _ _ _, (Below.refl _ _).alloc (Nat.le_refl _) _, hide (fun j _ h => by omega)⟩
    case round =>
     obtain ⟨pos, hpl, hit, hb, hv⟩ := hrel
     have hpos0 := iterPos_of hit
     by_cases hlt : pos < l.length
     ·have hlt2 : pos < (B l).size := by rw [zi]; exact hlt
      have hnx := fun ty => Lib.run_next_any_at (P := Tryz.prog) wr w.heap.size (B l) pos ty hit hlt2
      rcases Vk l pos hlt with ⟨h1, h2, h3⟩ | ⟨h1, h2⟩
      ·rw [h3] at hnx
       have hit2 := Lib.iterAt_heap wr w.heap.size (B l) pos (pos + 1) hit
       have hb2 := Lib.below_iterAt hb (k := w.heap.size) (Nat.le_refl _) (B l) (pos + 1)
       have hpos2 := iterPos_of hit2
       have hv2 : Hid (∀ j (hj : j < l.length), j < pos + 1 → 48 ≤ (l[j]).toNat ∧ (l[j]).toNat ≤ 57) := by
        intro j hj hjk
        by_cases hjk2 : j < pos
        ·exact za hv j hj hjk2
        ·have : j = pos := by omega
         subst this; exact ⟨h1, h2⟩
       have h1I : (48 : Int) ≤ ((l[pos]'hlt).toNat : Int) := by omega
       have h2I : ((l[pos]'hlt).toNat : Int) ≤ 57 := by omega
       have Hit2 := hide hit2
       have Hp0 := hide hpos0
       have Hp2 := hide hpos2
       clear h3 hit hit2 hpos0 hpos2
       go_wp2
       go_roundw
       case rel => exact ⟨pos + 1, by omega, za Hit2, hb2, hv2⟩
       case measure => rw [za Hp0, za Hp2]; omega
      ·have hb2 := Lib.below_iterAt hb (k := w.heap.size) (Nat.le_refl _) (B l) (pos + (Utf8.decode (B l) pos).2)
       have hf := ZL (jY pos hlt h1)
       have Hf := hide hf
       generalize Utf8.decode (B l) pos = rw_ at *
       clear hf h1 hit hpos0
       rcases h2 with h2 | h2
       ·have h2I : (rw_.1 : Int) < 48 := by omega
        clear h2
        go_wp2
        go_ret
        exact ⟨zD (za Hf).symm, hb2⟩
       ·have h2I : (57 : Int) < rw_.1 := by omega
        have h3I : ¬ (rw_.1 : Int) < 48 := by omega
        clear h2
        go_wp2
        go_ret
        exact ⟨zD (za Hf).symm, hb2⟩
     ·have hlt2 : ¬ pos < (B l).size := by rw [zi]; exact hlt
      have hnx := fun ty => Lib.run_next_end_at (P := Tryz.prog) wr w.heap.size (B l) pos ty hit hlt2
      have hf : plain l = true := by
       unfold plain
       rw [vR h0 (za hl0) (fun j hj => za hv j hj (by omega)), decide_eq_true (by omega)]; rfl
      have Hf := hide hf
      clear hf hit hpos0
      go_wp2
      go_ret
      exact ⟨zD (za Hf).symm, hb⟩
def Tens (w : World) : Prop := ∀ j, j < 9 → w.cell? ⟨3, j, none⟩ = some (.int .u64 ((10 ^ j : Nat) : Int))
theorem Tens.below {w w' : World} (h : Tens w) (hb : Below w.heap.size w w') : Tens w' := by
 intro j hj
 have h1 := h j hj
 rw [hb.cell (p := ⟨3, j, none⟩) (World.block_lt_of_cell? w _ h1)]
 exact h1
theorem Tens.lt {w : World} (h : Tens w) : 3 < w.heap.size := World.block_lt_of_cell? w _ (h 0 (by omega))
theorem Tens.belowB {w w' : World} {b : Nat} (h : Tens w) (hb : Below b w w') (hlt : 3 < b) : Tens w' := by
 intro j hj
 rw [hb.cell (p := ⟨3, j, none⟩) hlt]
 exact h j hj
theorem Zu {w : World} {base : Nat} {e : TypeId} {size : Nat} {v : Value} {n : Nat} {xs : List Value} (h : w.ownsRow base e size v n xs) {k : Nat} (hk : v.ownBlock ≠ some k) (s : ByteArray) (p : Nat) : (w.iterAt k s p).ownsRow base e size v n xs := by
 obtain ⟨h1, h2⟩ := h
 refine ⟨h1, ?_⟩
 rcases h2 with h2 | ⟨g, cap, cur, rfl, hb, hg, rest⟩
 ·exact .inl h2
 ·refine .inr ⟨g, cap, cur, rfl, hb, ?_, rest⟩
  rw [Lib.iterAt_other _ _ _ _ _ (by intro hh; apply hk; simp [Value.ownBlock, hh])]
  exact hg
def Jp (xs : List Nat) (k : Nat) : Prop := ∀ g (h : g < xs.length), xs[g] < 1000000000 ∧ 10 ^ (min 9 (k - 9 * g)) ∣ xs[g]
theorem K3 {a c r : Nat} (ha : a < 10 ^ 9) (hr : r < 9) (hd : 10 ^ (r + 1) ∣ a) (hc : c ≤ 9) : a + c * 10 ^ r < 10 ^ 9 := by
 obtain ⟨t, rfl⟩ := hd
 have e : (10 : Nat) ^ 9 = 10 ^ (r + 1) * 10 ^ (8 - r) := by rw [← Nat.pow_add]; congr 1; omega
 rw [e] at ha ⊢
 have h1 : t < 10 ^ (8 - r) := Nat.lt_of_mul_lt_mul_left ha
 have h2 : 10 ^ (r + 1) * (t + 1) ≤ 10 ^ (r + 1) * 10 ^ (8 - r) := Nat.mul_le_mul_left _ h1
 rw [Nat.mul_add, Nat.mul_one] at h2
 have h3 : c * 10 ^ r < 10 ^ (r + 1) := by
  rw [Nat.pow_succ, Nat.mul_comm]
  exact Nat.mul_lt_mul_of_pos_left (by omega) (Nat.pow_pos (by omega))
 omega
theorem K7 {xs : List Nat} {p c : Nat} (h : Jp xs (p + 1)) (hg : p / 9 < xs.length) (hc : c ≤ 9) :
  xs[p / 9] + c * 10 ^ (p % 9) < 1000000000 ∧ Jp (xs.set (p / 9) (xs[p / 9] + c * 10 ^ (p % 9))) p := by
 have hr : p % 9 < 9 := Nat.mod_lt _ (by omega)
 have h0 := h (p / 9) hg
 have hmin : min 9 (p + 1 - 9 * (p / 9)) = p % 9 + 1 := by omega
 rw [hmin] at h0
 have hroom := K3 (a := xs[p / 9]) h0.1 hr h0.2 hc
 refine ⟨hroom, ?_⟩
 intro g hgl
 by_cases hgg : g = p / 9
 ·subst hgg
  rw [List.getElem_set_self]
  refine ⟨hroom, ?_⟩
  rw [show min 9 (p - 9 * (p / 9)) = p % 9 from by omega]
  exact Nat.dvd_add (Nat.dvd_trans (Nat.pow_dvd_pow 10 (by omega)) h0.2) (Nat.dvd_mul_left _ _)
 ·rw [List.getElem_set_ne (by omega)]
  have h1 := h g (by simpa using hgl)
  exact ⟨h1.1, Nat.dvd_trans (Nat.pow_dvd_pow 10 (by omega)) h1.2⟩
theorem xr (p : Nat) : 1000000000 ^ (p / 9) * 10 ^ (p % 9) = 10 ^ p := by
 have e : (1000000000 : Nat) = 10 ^ 9 := by decide
 rw [e, ← Nat.pow_mul, ← Nat.pow_add]
 congr 1; omega
theorem X4 {xs : List Nat} {p c V : Nat} (hg : p / 9 < xs.length) (hV : ofd 1000000000 xs = V) : ofd 1000000000 (xs.set (p / 9) (xs[p / 9] + c * 10 ^ (p % 9))) = V + c * 10 ^ p := by
 have h := jH 1000000000 xs (p / 9) (xs[p / 9] + c * 10 ^ (p % 9)) hg
 rw [hV, Nat.mul_add, Nat.mul_left_comm, xr] at h
 omega
theorem y3 (x : Nat) (w : World) (hs : (dec x).size ≤ 100000) (hT : Tens w) :
  Calls Tryz.prog 186 #[.string (dec x)] w fun e w' => (∃ v', e = .returned v' ∧ isNatB w' w.heap.size v' x) ∧ Below w.heap.size w w' := by
 obtain ⟨i0, hi, hz0, hz1, hz2⟩ := info_parts Tryz.infoU64
 obtain ⟨n, hn⟩ : ∃ n, (dec x).size = n := ⟨_, rfl⟩
 obtain ⟨G, hG⟩ : ∃ G : Nat, (n : Int) / 9 + 1 = G := ⟨n / 9 + 1, by omega⟩
 have hnI : ((dec x).size : Int) = n := by omega
 have hn0 : 0 < n := by have := qW x; omega
 rw [hn] at hs
 have Hn := hide hn
 have HT := hide hT
 clear hn hT
 go_enter Tryz.func186, Tryz.ntmps186
 go_wp2_with (refine wpList_make_full _ rfl (.tmp 10) (.tmp 10) 178 rfl w.heap.size 173 i0 (.int .u64 0) 1 Tryz.underlying178 hi hz0 hz1 .i64 .i64 G G G rfl rfl rfl rfl (by rw [hz2]; omega) (by unfold maxLen; omega) (Nat.le_refl _) ?_; intro w1 hown1 hg1)
 have hown0 : w1.ownsRow w.heap.size 173 1 (.slice (some ⟨w.heap.size, 0, none⟩) G G) G (u64s (List.replicate G 0)) := by
  simpa [Value.cells, toList_madeCells_one, qE] using hown1
 have hb1 : Below w.heap.size w w1 := (Below.refl _ _).grown hg1 (Nat.le_refl _) (fun _ h => by cases h)
 have hlt1 : w.heap.size < w1.heap.size := (hown0.lt _ rfl).2
 clear hown1 hg1
 go_loopw [4] (fun _ wr => ∃ (pos : Nat) (xs : List Nat), pos ≤ n ∧ wr.heap[w1.heap.size]? = some (.stringIter (dec x) pos) ∧ xs.length = G ∧ wr.ownsRow w.heap.size 173 1 (.slice (some ⟨w.heap.size, 0, none⟩) G G) G (u64s xs) ∧ Below w.heap.size w wr ∧
   Hid (Jp xs (n - pos)) ∧ Hid (ofd 1000000000 xs = pref x pos * 10 ^ (n - pos)))
  (fun _ wr => n - wr.iterPos w1.heap.size)
 case atStart =>
  refine ⟨0, List.replicate G 0, Nat.zero_le _, World.iter_heap _ _ _, by simp, hown0.alloc _, hb1.alloc hb1.size _, ?_, ?_⟩
  ·intro g hg
   simp
  ·show _ = _
   rw [z6, yP]; simp
 case round =>
  clear hown0 hb1
  obtain ⟨pos, xs, hpl, hit, hxl, hown, hb, hlaid, hval⟩ := hrel
  have hpos0 := iterPos_of hit
  by_cases hlt : pos < n
  ·have hlt2 : pos < (dec x).size := by rw [za Hn]; exact hlt
   obtain ⟨p, hp⟩ : ∃ p : Nat, (n : Int) - 1 - pos = p := ⟨n - 1 - pos, by omega⟩
   have hpN : n - 1 - pos = p := by omega
   have hby := JO x pos hlt2
   have hps := xp x pos hlt2
   rw [za Hn, hpN] at hby hps
   have hc9 : x / 10 ^ p % 10 < 10 := Nat.mod_lt _ (by omega)
   generalize x / 10 ^ p % 10 = c at *
   have hnx := fun ty => Lib.run_next_ascii_at (P := Tryz.prog) wr w1.heap.size (dec x) pos ty hit hlt2 (by omega)
   obtain ⟨b, hbb⟩ : ∃ b, ((dec x)[pos]'hlt2).toNat = b := ⟨_, rfl⟩
   rw [hbb] at hnx hby
   have hb48 : (b : Int) - 48 = c := by omega
   have hit2 := Lib.iterAt_heap wr w1.heap.size (dec x) pos (pos + 1) hit
   have hb2 := Lib.below_iterAt hb (k := w1.heap.size) (by omega) (dec x) (pos + 1)
   have hown2 := Zu hown (k := w1.heap.size) (by simp [Value.ownBlock]; omega) (dec x) (pos + 1)
   obtain ⟨W1, hW1⟩ : ∃ W1, W1 = wr.iterAt w1.heap.size (dec x) (pos + 1) := ⟨_, rfl⟩
   rw [← hW1] at hnx hit2 hb2 hown2
   have hgp : p / 9 < xs.length := by omega
   have hT2 := ((za HT).belowB hb2 (za HT).lt) (p % 9) (Nat.mod_lt _ (by omega))
   have hlaid' : Jp xs (p + 1) := by have := za hlaid; rwa [show n - pos = p + 1 from by omega] at this
   have hst := K7 (c := c) hlaid' hgp (by omega)
   have hval' : ofd 1000000000 xs = pref x pos * 10 ^ (p + 1) := by have := za hval; rwa [show n - pos = p + 1 from by omega] at this
   have hof := X4 (c := c) hgp hval'
   have hcx := hown2.cellAt (p / 9) (by omega)
   rw [zx _ _ hgp] at hcx
   have hfr := hown2.frozenAt (p / 9)
   have hpow : 10 ^ (p % 9) ≤ 100000000 := by
    have : (10 : Nat) ^ (p % 9) ≤ 10 ^ 8 := Nat.pow_le_pow_right (by omega) (by omega)
    exact this
   generalize xs[p / 9]'hgp = a at *
   obtain ⟨t, ht⟩ : ∃ t, 10 ^ (p % 9) = t := ⟨_, rfl⟩
   rw [ht] at hT2 hst hof hpow
   obtain ⟨q, hq⟩ : ∃ q, p / 9 = q := ⟨_, rfl⟩
   obtain ⟨r, hr⟩ : ∃ r, p % 9 = r := ⟨_, rfl⟩
   rw [hq] at hgp hst hof hcx hfr
   rw [hr] at hT2
   obtain ⟨pp, hpp⟩ : ∃ pp, c * t = pp := ⟨_, rfl⟩
   have hppI : (c : Int) * t = pp := by rw [← hpp]; simp
   rw [hpp] at hst hof
   have hst2 := hown2.stored q (.int .u64 ((a : Int) + pp))
   rw [qS _ _ (a + pp) _ (by simp)] at hst2
   have e1 : (p : Int).tdiv 9 = q := by rw [Int.tdiv_eq_ediv_of_nonneg (by omega)]; omega
   have e2 : (p : Int).tmod 9 = r := by rw [Int.tmod_eq_emod_of_nonneg (by omega)]; omega
   have e3 := wi64 (q : Int) (by omega) (by omega)
   have e4 := wi32 (c : Int) (by omega) (by omega)
   have e5 := wu64 (c : Int) (by omega) (by omega)
   have hrm : c * t ≤ 9 * 100000000 := Nat.mul_le_mul (by omega) hpow
   have e6 := wu64 (pp : Int) (by omega) (by omega)
   have e7 := wu64 ((a : Int) + pp) (by omega) (by omega)
   have hqG : (q : Int) < G := by omega
   have hr9 : (r : Int) < 9 := by omega
   have hqn : q < G := by omega
   have hrn : r < 9 := by omega
   have Hst := hide hst
   have Hof := hide hof
   have Hst2 := hide hst2
   have Hit2 := hide hit2
   have Hps := hide hps
   have Hp0 := hide hpos0
   clear hst hof hst2 hit hit2 hps hpos0 hown hb hval hval' hlaid hlaid' hW1 hby hbb ht hq hr hpp hpN
   go_wp2
   go_region
   all_goals
    go_wp2
    go_roundw
    case rel =>
     refine ⟨pos + 1, xs.set q (a + pp), by omega, ?_, by simpa using hxl, (za Hst2).1, (hb2.setCell (by simp) _).drew, ?_, ?_⟩
     ·have h1 := za Hit2
      show (W1.setCell ⟨w.heap.size, q, none⟩ _).heap[w1.heap.size]? = _
      rw [Below.heap_setCell _ _ _ _ (by show w1.heap.size ≠ w.heap.size; omega)]
      exact h1
     ·rw [show n - (pos + 1) = p from by omega]; exact (za Hst).2
     ·show _ = _
      rw [za Hof, za Hps, show n - (pos + 1) = p from by omega, Nat.add_mul, Nat.pow_succ, Nat.mul_comm (10 ^ p) 10, ← Nat.mul_assoc, Nat.mul_comm 10 (pref x pos)]
    case measure =>
     have h1 := za Hit2
     rw [za Hp0]
     have h2 : ((W1.setCell ⟨w.heap.size, q, none⟩ (.int .u64 ((a : Int) + pp))).drew).iterPos w1.heap.size = pos + 1 := by
      apply iterPos_of (s := dec x)
      show (W1.setCell ⟨w.heap.size, q, none⟩ _).heap[w1.heap.size]? = _
      rw [Below.heap_setCell _ _ _ _ (by show w1.heap.size ≠ w.heap.size; omega)]
      exact h1
     rw [h2]; omega
  ·have hpn : pos = n := by omega
   subst hpn
   have hlt2 : ¬ pos < (dec x).size := by rw [za Hn]; omega
   have hnx := fun ty => Lib.run_next_end_at (P := Tryz.prog) wr w1.heap.size (dec x) pos ty hit hlt2
   have hfin : ofd 1000000000 xs = x := by
    have h1 := za hval
    have h2 := kr x
    rw [za Hn] at h2
    rw [h1, h2]; simp
   have hall : ∀ d ∈ xs, d < 1000000000 := by
    intro d hd
    obtain ⟨g, hg, rfl⟩ := List.getElem_of_mem hd
    exact (za hlaid g hg).1
   have Hfin := hide hfin
   have Hall := hide hall
   clear hfin hall hval hlaid hpos0 hit
   go_wp2_with fail
   refine (q8 xs w.heap.size _ _ (by omega) (za Hall) (by rw [hxl]; exact hown)).mono ?_
   rintro e w2 ⟨⟨v', rfl, hv'⟩, rfl⟩
   rw [za Hfin] at hv'
   go_wp2
   go_ret
   exact ⟨⟨v', rfl, hv'⟩, hb⟩
theorem jC (x : Nat) (w : World) (hs : (dec x).size ≤ 100000) (hT : Tens w) :
  Calls Tryz.prog 186 #[.string (dec x)] w fun e w' => (∃ v', e = .returned v' ∧ isNat w' v' x) ∧ Below w.heap.size w w' :=
 (y3 x w hs hT).mono fun _ _ h => ⟨⟨h.1.choose, h.1.choose_spec.1, h.1.choose_spec.2.nat⟩, h.2⟩
theorem JR (x k : Nat) (h : k / 9 < (gr x).length) : (gr x)[k / 9] / 10 ^ (k % 9) % 10 = x / 10 ^ k % 10 := by
 have hr : k % 9 < 9 := Nat.mod_lt _ (by omega)
 have hg := XQ (b := 1000000000) (by omega) (k / 9) x
 have hg' : (gr x)[k / 9] = x / 1000000000 ^ (k / 9) % 1000000000 := by
  rw [← hg, show dg 1000000000 x = gr x from rfl, List.getD_eq_getElem?_getD, List.getElem?_eq_getElem h]; rfl
 rw [hg']
 have e : (1000000000 : Nat) = 10 ^ (k % 9) * 10 ^ (9 - k % 9) := by
  rw [← Nat.pow_add, show k % 9 + (9 - k % 9) = 9 from by omega]
 generalize hq : x / 1000000000 ^ (k / 9) = q
 conv => lhs; rw [e]
 rw [Nat.mod_mul_right_div_self, Nat.mod_mod_of_dvd _ (by
  have : 10 ^ 1 ∣ 10 ^ (9 - k % 9) := Nat.pow_dvd_pow 10 (by omega)
  simpa using this), ← hq, Nat.div_div_eq_div_mul, xr]
def lenV : Value → Nat
 | .slice _ n _ => n
 | _ => 0
def digs (x k : Nat) : List Nat := (List.range k).map fun j => x / 10 ^ j % 10
theorem Qu (x k : Nat) : digs x (k + 1) = digs x k ++ [x / 10 ^ k % 10] := by simp [digs, List.range_succ]
theorem xF (x k : Nat) : (digs x k).length = k := by simp [digs]
theorem YR (x k : Nat) : ∀ d ∈ digs x k, d < 10 := by
 intro d hd
 obtain ⟨j, _, rfl⟩ := List.mem_map.1 hd
 exact Nat.mod_lt _ (by omega)
theorem X8 (x : Nat) : ∀ k, ofd 10 (digs x k) = x % 10 ^ k := by
 intro k
 induction k with
 | zero => simp [digs, ofd, Nat.mod_one]
 | succ k ih => rw [Qu, zZ, ih, xF, qr]
theorem zbT (x : Nat) : x < 10 ^ (9 * (gr x).length) := by
 have h := jy (b := 1000000000) (by omega) x
 rw [show (1000000000 : Nat) = 10 ^ 9 from by decide, ← Nat.pow_mul] at h
 unfold gr
 rw [show (1000000000 : Nat) = 10 ^ 9 from by decide]
 exact h
theorem qR (x : Nat) (v : Value) (w : World) (hx : isNat w v x) (hs : (gr x).length ≤ 100000) (hT : Tens w) :
  Calls Tryz.prog 184 #[v] w fun e w' => e = .returned (.string (dec x)) ∧ Below w.heap.size w w' := by
 obtain ⟨i0, hi, hz0, hz1, hz2⟩ := info_parts Tryz.infoByte
 obtain ⟨p, cap, hv⟩ := zt hx
 subst hv
 by_cases hz : x = 0
 ·subst hz
  rw [ji, zay]
  clear hx hs hT
  go_enter Tryz.func184, Tryz.ntmps184
  go_wp2
  go_ret
  exact ⟨rfl, Below.refl _ _⟩
 ·obtain ⟨n, hn⟩ : ∃ n, (gr x).length = n := ⟨_, rfl⟩
  have hn0 : 0 < n := by
   rcases Nat.eq_zero_or_pos n with h | h
   ·rw [h] at hn; exact absurd (xh.1 (List.eq_nil_of_length_eq_zero hn)) hz
   ·exact h
  have hnI : ((n : Int) == 0) = false := by rw [beq_eq_false_iff_ne]; omega
  have hgd := JR x
  have hgl := gr_lt x
  have hgp := zbT x
  have hx' := hx
  unfold isNat at hx'
  rw [hn] at hx' hs hgp
  rw [hn]
  generalize gr x = xs at *
  have Hgd := hide hgd
  have Hgl := hide hgl
  have Hgp := hide hgp
  have Hx := hide hx'
  have Hn := hide hn
  have HT := hide hT
  have Hz := hide hz
  clear hgd hgl hgp hx' hn hT hz hx
  go_enter Tryz.func184, Tryz.ntmps184
  go_wp2
  go_loopw [3, 13] (fun v i wr => ∃ (k : Nat), k ≤ n * 9 ∧ i = .int .i64 k ∧ wr.ownsRow w.heap.size 5 1 v k (((digs x k).map sg).map u8v) ∧ Below w.heap.size w wr)
   (fun _ i _ => n * 9 - (intOf i).toNat)
  case atStart =>
   exact ⟨0, Nat.zero_le _, rfl, World.ownsRow_made w #[] 0 (Nat.le_refl _) (by decide) (by simp), (Below.refl _ _).alloc (Nat.le_refl _) _⟩
  case round =>
   obtain ⟨k, hk, rfl, hown, hb⟩ := hrel
   by_cases hlt : k < n * 9
   ·have hkl : k / 9 < xs.length := by rw [za Hn]; omega
    obtain ⟨g, cap', hvv, _⟩ := qn (za Hx) (by omega)
    simp only [Value.slice.injEq, true_and] at hvv
    obtain ⟨rfl, rfl⟩ := hvv
    have hcx := (zr (za Hx) hb).cellAt (k / 9) (by rw [za Hn] at hkl; omega)
    rw [zx _ _ hkl] at hcx
    have hT2 := ((za HT).below hb) (k % 9) (Nat.mod_lt _ (by omega))
    have hd := za Hgd k hkl
    have ha9 : xs[k / 9]'hkl < 1000000000 := za Hgl _ (List.getElem_mem _)
    have hdl : x / 10 ^ k % 10 < 10 := Nat.mod_lt _ (by omega)
    have hsuc := Qu x k
    have hpow : 0 < 10 ^ (k % 9) := Nat.pow_pos (by omega)
    have hpow2 : 10 ^ (k % 9) ≤ 100000000 := by
     have : (10 : Nat) ^ (k % 9) ≤ 10 ^ 8 := Nat.pow_le_pow_right (by omega) (by have := Nat.mod_lt k (show 9 > 0 by omega); omega)
     exact this
    generalize xs[k / 9]'hkl = a at *
    generalize x / 10 ^ k % 10 = d at *
    obtain ⟨t, ht⟩ : ∃ t, 10 ^ (k % 9) = t := ⟨_, rfl⟩
    rw [ht] at hT2 hd hpow hpow2
    obtain ⟨q, hq⟩ : ∃ q, k / 9 = q := ⟨_, rfl⟩
    obtain ⟨r, hr⟩ : ∃ r, k % 9 = r := ⟨_, rfl⟩
    rw [hq] at hcx hkl
    rw [hr] at hT2
    obtain ⟨at_, hat⟩ : ∃ z, a / t = z := ⟨_, rfl⟩
    rw [hat] at hd
    have hatl : at_ ≤ a := by rw [← hat]; exact Nat.div_le_self _ _
    have e1 : (k : Int).tdiv 9 = q := by rw [Int.tdiv_eq_ediv_of_nonneg (by omega)]; omega
    have e2 : (k : Int).tmod 9 = r := by rw [Int.tmod_eq_emod_of_nonneg (by omega)]; omega
    have e3 := wi64 (q : Int) (by omega) (by omega)
    have e4 : (a : Int).tdiv t = at_ := by rw [Int.tdiv_eq_ediv_of_nonneg (by omega), ← hat]; rfl
    have e5 := wu64 (at_ : Int) (by omega) (by omega)
    have e6 : (at_ : Int).tmod 10 = d := by rw [Int.tmod_eq_emod_of_nonneg (by omega)]; omega
    have htN : ¬ (t : Int) = 0 := by omega
    have hqn : (q : Int) < n := by omega
    have hqn2 : q < n := by omega
    have hr9 : (r : Int) < 9 := by omega
    have hrn : r < 9 := by omega
    have hki : (k : Int) < n * 9 := by omega
    have Hsuc := hide hsuc
    clear hsuc hd ht hq hr hat
    go_wp2
    go_quiet (fail)
    have hown2 := QC hown nq
    have hb2 := qO hb nq
    have hw := hb.size
    go_wp2_with (at_builtin; refine wpList_append_own _ rfl (.tmp 27) (.tmp 31) 22 rfl w.heap.size 5 i0 (.int .u8 0) 1 1 Tryz.underlying22 hi hz0 hz1 hz2 rfl (by decide) _ _ _ rfl (hown2.alloc _) ⟨wr.heap.size, 0, none⟩ 1 1 [.int .u8 (48 + (d : Int))] rfl rfl (cell_one_new _ _ _) (by intro u hu; simp at hu; subst hu; rfl) (by unfold maxLen; omega) (by omega) (by show w.heap.size ≤ ((wr.drewN nq).alloc _).heap.size; rw [World.size_alloc]; show w.heap.size ≤ wr.heap.size + 1; omega) ?_; intro v2 w2 hown3 hg3 _)
    have hbX := zw (hb2.alloc hw _) (hown2.alloc _) hg3 (by rw [World.size_alloc]; show w.heap.size ≤ wr.heap.size + 1; omega)
    go_roundw
    case rel =>
     refine ⟨k + 1, by omega, by go_num, ?_, hbX⟩
     rw [za Hsuc, List.map_append, List.map_append]
     simp only [List.map_cons, List.map_nil, QZ hdl]
     exact hown3
    case measure => simp [intOf]; omega
   ·have hkn : k = n * 9 := by omega
    subst hkn
    have hpre : strip (digs x (n * 9)) = dg 10 x := by
     rw [xE (by omega) (YR x _), X8, Nat.mod_eq_of_lt (by rw [Nat.mul_comm]; exact za Hgp)]
    obtain ⟨g, cap', hvv, hcc, hbg, hgw⟩ := qn hown (by omega)
    subst hvv
    have Hpre := hide hpre
    have hdl := YR x (n * 9)
    have hlen := xF x (n * 9)
    generalize digs x (n * 9) = D at *
    have Hdl := hide hdl
    clear hpre hdl
    go_wp2
    go_loopw [3] (fun v wr2 => ∃ (E : List Nat), v = .slice (some ⟨g, 0, none⟩) E.length cap' ∧ E.length ≤ n * 9 ∧ wr2 = wr ∧ wr.ownsRow w.heap.size 5 1 (.slice (some ⟨g, 0, none⟩) E.length cap') E.length ((E.map sg).map u8v) ∧ Hid (strip E = dg 10 x) ∧ Hid (∀ d ∈ E, d < 10))
     (fun v _ => lenV v)
    case atStart => exact ⟨D, by rw [hlen], by omega, rfl, by rw [hlen]; exact hown, Hpre, Hdl⟩
    case round =>
     obtain ⟨E, rfl, hEl, rfl, hownE, hst, hEd⟩ := hrel
     have hE0 : 0 < E.length := by
      rcases Nat.eq_zero_or_pos E.length with h | h
      ·exfalso
       have : E = [] := List.eq_nil_of_length_eq_zero h
       rw [this] at hst
       exact za Hz ((yU (by omega)).1 (za hst).symm)
      ·exact h
     have hc := hownE.cellAt (E.length - 1) (by omega)
     rw [ZB _ _ (by simp; omega), List.getElem_map] at hc
     have hsp : E = E.take (E.length - 1) ++ [E[E.length - 1]'(by omega)] := by
      rw [← List.take_succ_eq_append_getElem (by omega), show E.length - 1 + 1 = E.length from by omega, List.take_length]
     have hlast : E[E.length - 1]'(by omega) < 10 := za hEd _ (List.getElem_mem _)
     have htk := Ve hownE (E.length - 1) (by omega)
     generalize E[E.length - 1]'(by omega) = d at *
     rw [qA (by omega), if_pos hlast] at hc
     by_cases hd0 : d = 0
     ·have hst2 : strip (E.take (E.length - 1)) = dg 10 x := by
       rw [← za hst]
       conv => rhs; rw [hsp, hd0]
       rw [yh]
      have hEd2 : ∀ e ∈ E.take (E.length - 1), e < 10 := fun e he => za hEd e (List.mem_of_mem_take he)
      have hq : (((48 + d : Nat) : Int) == 48) = true := by rw [beq_iff_eq]; omega
      have e1 : ((E.map sg).map u8v).take (E.length - 1) = ((E.take (E.length - 1)).map sg).map u8v := by simp [List.map_take]
      rw [e1] at htk
      have hl1 : (E.take (E.length - 1)).length = E.length - 1 := by simp
      generalize E.take (E.length - 1) = F at *
      have hzl : F.length + 1 = E.length := by omega
      have Htk := hide htk
      have Hst2 := hide hst2
      have Hd2 := hide hEd2
      clear hst2 htk hsp hd0 e1 hEd2
      go_wp2
      go_roundw
      case rel => exact ⟨F, by rw [hl1], by omega, trivial, by rw [hl1]; exact za Htk, Hst2, Hd2⟩
      case measure => show E.length - 1 < E.length; omega
     ·have hq : (((48 + d : Nat) : Int) == 48) = false := by rw [beq_eq_false_iff_ne]; omega
      have hfin : E = dg 10 x := by rw [← za hst, hsp, j8 _ _ hd0]
      have Hfin := hide hfin
      clear hfin hsp htk hd0
      have hrv := QK (E.map sg) g cap' w.heap.size wr (by rw [List.length_map]; omega) (by rw [List.length_map]; exact hownE)
      rw [List.length_map] at hrv
      have Hrv := hide hrv
      clear hrv hownE hown
      go_wp2_with fail
      refine (za Hrv).mono ?_
      rintro e w3 ⟨rfl, hown3, hg3⟩
      have hbX := hb.grown hg3 hb.size (fun k hk => by cases hk; omega)
      have hconv := qx (dst := 9) Tryz.underlying22 Tryz.underlying5 Tryz.underlying9 hown3
      have hfin2 : B (E.map sg).reverse = dec x := by unfold dec txt; rw [ja (za Hz), ← za Hfin]
      rw [hfin2] at hconv
      clear hfin2 hown3 hg3 Hrv
      go_wp2
      go_ret
      exact ⟨rfl, hbX⟩
theorem vY {x : Nat} : (gr x).length = 0 ↔ x = 0 := by
 rw [List.length_eq_zero_iff]; exact xh
theorem vs {x y n : Nat} (h : x ≤ y) (hy : (gr y).length ≤ n) : (gr x).length ≤ n := Nat.le_trans (jc h) hy
theorem zI {w w3 : World} {b : Nat} (h : Below b w w3) (hs : b ≤ w3.heap.size) (g : Nat) (hg : b ≤ g) (x y z : Value) (o : Obj) : Below b w ((((w3.setCell ⟨g, 0, none⟩ x).setCell ⟨g, 1, none⟩ y).setCell ⟨g, 2, none⟩ z).alloc o) :=
 (zq h g hg x y z).alloc (by simpa using hs) o
theorem VR {neg : Bool} {u d : Nat} (hd : 0 < d) : zE neg u d = if 60 < (dec (u / Nat.gcd u d)).size ∨ 60 < (dec (d / Nat.gcd u d)).size then none else some (neg && u / Nat.gcd u d != 0, u / Nat.gcd u d, d / Nat.gcd u d) := by
 unfold zE
 by_cases h : 60 < (dec (u / Nat.gcd u d)).size ∨ 60 < (dec (d / Nat.gcd u d)).size
 ·rw [if_pos (.inr h), if_pos h]
 ·rw [if_neg (by rintro (h1 | h1); omega; exact h h1), if_neg h]
theorem yF (neg : Bool) (u d : Nat) (vu vd : Value) (w : World) (hu : isNat w vu u) (hdn : isNat w vd d) (hd : 0 < d) (hsu : (gr u).length ≤ 100000) (hsd : (gr d).length ≤ 100000) (hT : Tens w) :
  Calls Tryz.prog 158 #[.bool neg, vu, vd] w fun e w' => e = .returned (zg (zE neg u d)) ∧ Below w.heap.size w w' := by
 have Hu := hide hu
 have Hd := hide hdn
 have HT := hide hT
 have hg : 0 < Nat.gcd u d := Nat.gcd_pos_of_pos_right _ hd
 have hgl := vs (Nat.gcd_le_right u hd) hsd
 have hql := vs (Nat.div_le_self u (Nat.gcd u d)) hsu
 have hdl := vs (Nat.div_le_self d (Nat.gcd u d)) hsd
 have Hlow := hide (VR (neg := neg) (u := u) hd)
 clear hu hdn hT
 go_enter Tryz.func158, Tryz.ntmps158
 go_wp2_with fail
 have hbA : ∀ o : Obj, Below w.heap.size w (w.alloc o) := fun o => (Below.refl _ _).alloc (Nat.le_refl _) _
 refine (gcd_c u d _ _ _ (zo (za Hu) (hbA _)) (zo (za Hd) (hbA _)) (by omega) (by omega)).mono ?_
 rintro e w1 ⟨⟨vg, rfl, hvg⟩, hb1⟩
 have hb0 := zn hb1
 have hz0 : w.heap.size + 1 ≤ w1.heap.size := by have := hb1.size; simpa using this
 have hbu1 := zm hb0
 have Hvg := hide hvg
 have Hn1 := hide (And.intro hb0 hz0)
 clear hvg hb1 hb0 hz0
 go_wp2_with fail
 refine (VG u _ _ _ _ (zo (za Hu) hbu1) (za Hvg) (by omega) (by omega) hg).mono ?_
 rintro e w2 ⟨⟨v1, v1r, rfl, hv1, _⟩, hb2⟩
 have hn2 := zk (za Hn1).1 (za Hn1).2 hb2
 have hbu2 := zm hn2.1
 have Hv1 := hide hv1
 have Hvg2 := hide (zo (za Hvg) hb2)
 have Hn2 := hide hn2
 clear hv1 hb2 hn2 hbu1
 go_wp2_with fail
 refine (VG d _ _ _ _ (zo (za Hd) hbu2) (za Hvg2) (by omega) (by omega) hg).mono ?_
 rintro e w3 ⟨⟨v2, v2r, rfl, hv2, _⟩, hb3⟩
 have hn3 := zk (za Hn2).1 (za Hn2).2 hb3
 have HV1 := hide (zo (za Hv1) hb3)
 have HV2 := hide hv2
 have HT3 := hide ((za HT).below (zm hn3.1))
 have Hn3 := hide hn3
 clear hv2 hb3 hn3 hbu2 Hv1 Hvg2 Hn2 Hn1 Hvg hbA
 generalize hqu : u / Nat.gcd u d = qu at *
 generalize hqd : d / Nat.gcd u d = qd at *
 clear hqu hqd
 obtain ⟨p1, cp1, hv1s⟩ := zt (za HV1)
 subst hv1s
 by_cases hq0 : qu = 0
 ·have hl0 : decide (0 < (gr qu).length) = false := by have := vY.2 hq0; rw [decide_eq_false_iff_not]; omega
  have Hsg : Hid ((neg && qu != 0) = false) := by show _ = _; rw [hq0]; simp
  clear hq0
  cases neg with
  | false =>
   go_wp2_with fail
   refine (qR qu _ _ (za HV1) (by omega) (za HT3)).mono ?_
   rintro e w4 ⟨rfl, hb4⟩
   have hn4 := zk (za Hn3).1 (za Hn3).2 hb4
   have hv2 := zo (za HV2) hb4
   have hT4 := (za HT3).below hb4
   have HV2' := hide hv2
   have HT4 := hide hT4
   have Hn4 := hide hn4
   clear hv2 hT4 hn4 hb4
   go_wp2_with fail
   refine (qR qd _ _ (za HV2') (by omega) (za HT4)).mono ?_
   rintro e w5 ⟨rfl, hb5⟩
   have hn5 := zk (za Hn4).1 (za Hn4).2 hb5
   have c0 := zb hn5.1 0
   have c1 := zb hn5.1 1
   have c2 := zb hn5.1 2
   have f0 := zh hn5.1 0
   have f1 := zh hn5.1 1
   have f2 := zh hn5.1 2
   have hbX := zm hn5.1
   simp at c0 c1 c2
   have hbb : w.heap.size < w5.heap.size := hn5.2
   clear hb5 hn5
   by_cases h1 : 60 < (dec qu).size
   ·rw [if_pos (.inl h1)] at Hlow
    go_wp2
    refine bodyPost_ret (v := zg none) (by simp [results, Tryz.results158, go_sem, zg, numO, noNum, numV, c0, c1, c2, hbb]) rfl ⟨by rw [za Hlow], ?_⟩
    exact zI hbX hbX.size _ (Nat.le_refl _) _ _ _ _
   ·by_cases h2 : 60 < (dec qd).size
    ·rw [if_pos (.inr h2)] at Hlow
     go_wp2
     refine bodyPost_ret (v := zg none) (by simp [results, Tryz.results158, go_sem, zg, numO, noNum, numV, c0, c1, c2, hbb]) rfl ⟨by rw [za Hlow], ?_⟩
     exact zI hbX hbX.size _ (Nat.le_refl _) _ _ _ _
    ·rw [if_neg (by rintro (h | h); exact h1 h; exact h2 h)] at Hlow
     go_wp2
     refine bodyPost_ret (v := zg (some (false, qu, qd))) (by simp [results, Tryz.results158, go_sem, zg, numO, numV, c0, c1, c2, hbb]) rfl ⟨by rw [za Hlow, za Hsg], ?_⟩
     exact zI hbX hbX.size _ (Nat.le_refl _) _ _ _ _
  | true =>
   go_wp2_with fail
   refine (qR qu _ _ (za HV1) (by omega) (za HT3)).mono ?_
   rintro e w4 ⟨rfl, hb4⟩
   have hn4 := zk (za Hn3).1 (za Hn3).2 hb4
   have hv2 := zo (za HV2) hb4
   have hT4 := (za HT3).below hb4
   have HV2' := hide hv2
   have HT4 := hide hT4
   have Hn4 := hide hn4
   clear hv2 hT4 hn4 hb4
   go_wp2_with fail
   refine (qR qd _ _ (za HV2') (by omega) (za HT4)).mono ?_
   rintro e w5 ⟨rfl, hb5⟩
   have hn5 := zk (za Hn4).1 (za Hn4).2 hb5
   have c0 := zb hn5.1 0
   have c1 := zb hn5.1 1
   have c2 := zb hn5.1 2
   have f0 := zh hn5.1 0
   have f1 := zh hn5.1 1
   have f2 := zh hn5.1 2
   have hbX := zm hn5.1
   simp at c0 c1 c2
   have hbb : w.heap.size < w5.heap.size := hn5.2
   clear hb5 hn5
   by_cases h1 : 60 < (dec qu).size
   ·rw [if_pos (.inl h1)] at Hlow
    go_wp2
    refine bodyPost_ret (v := zg none) (by simp [results, Tryz.results158, go_sem, zg, numO, noNum, numV, c0, c1, c2, hbb]) rfl ⟨by rw [za Hlow], ?_⟩
    exact zI hbX hbX.size _ (Nat.le_refl _) _ _ _ _
   ·by_cases h2 : 60 < (dec qd).size
    ·rw [if_pos (.inr h2)] at Hlow
     go_wp2
     refine bodyPost_ret (v := zg none) (by simp [results, Tryz.results158, go_sem, zg, numO, noNum, numV, c0, c1, c2, hbb]) rfl ⟨by rw [za Hlow], ?_⟩
     exact zI hbX hbX.size _ (Nat.le_refl _) _ _ _ _
    ·rw [if_neg (by rintro (h | h); exact h1 h; exact h2 h)] at Hlow
     go_wp2
     refine bodyPost_ret (v := zg (some (false, qu, qd))) (by simp [results, Tryz.results158, go_sem, zg, numO, numV, c0, c1, c2, hbb]) rfl ⟨by rw [za Hlow, za Hsg], ?_⟩
     exact zI hbX hbX.size _ (Nat.le_refl _) _ _ _ _
 ·have hl0 : decide (0 < (gr qu).length) = true := by have := mt vY.1 hq0; rw [decide_eq_true_eq]; omega
  cases neg with
  | false =>
   have Hsg : Hid ((false && qu != 0) = false) := rfl
   clear hq0
   go_wp2_with fail
   refine (qR qu _ _ (za HV1) (by omega) (za HT3)).mono ?_
   rintro e w4 ⟨rfl, hb4⟩
   have hn4 := zk (za Hn3).1 (za Hn3).2 hb4
   have hv2 := zo (za HV2) hb4
   have hT4 := (za HT3).below hb4
   have HV2' := hide hv2
   have HT4 := hide hT4
   have Hn4 := hide hn4
   clear hv2 hT4 hn4 hb4
   go_wp2_with fail
   refine (qR qd _ _ (za HV2') (by omega) (za HT4)).mono ?_
   rintro e w5 ⟨rfl, hb5⟩
   have hn5 := zk (za Hn4).1 (za Hn4).2 hb5
   have c0 := zb hn5.1 0
   have c1 := zb hn5.1 1
   have c2 := zb hn5.1 2
   have f0 := zh hn5.1 0
   have f1 := zh hn5.1 1
   have f2 := zh hn5.1 2
   have hbX := zm hn5.1
   simp at c0 c1 c2
   have hbb : w.heap.size < w5.heap.size := hn5.2
   clear hb5 hn5
   by_cases h1 : 60 < (dec qu).size
   ·rw [if_pos (.inl h1)] at Hlow
    go_wp2
    refine bodyPost_ret (v := zg none) (by simp [results, Tryz.results158, go_sem, zg, numO, noNum, numV, c0, c1, c2, hbb]) rfl ⟨by rw [za Hlow], ?_⟩
    exact zI hbX hbX.size _ (Nat.le_refl _) _ _ _ _
   ·by_cases h2 : 60 < (dec qd).size
    ·rw [if_pos (.inr h2)] at Hlow
     go_wp2
     refine bodyPost_ret (v := zg none) (by simp [results, Tryz.results158, go_sem, zg, numO, noNum, numV, c0, c1, c2, hbb]) rfl ⟨by rw [za Hlow], ?_⟩
     exact zI hbX hbX.size _ (Nat.le_refl _) _ _ _ _
    ·rw [if_neg (by rintro (h | h); exact h1 h; exact h2 h)] at Hlow
     go_wp2
     refine bodyPost_ret (v := zg (some (false, qu, qd))) (by simp [results, Tryz.results158, go_sem, zg, numO, numV, c0, c1, c2, hbb]) rfl ⟨by rw [za Hlow, za Hsg], ?_⟩
     exact zI hbX hbX.size _ (Nat.le_refl _) _ _ _ _
  | true =>
   have Hsg : Hid ((true && qu != 0) = true) := by show _ = _; rw [bne_iff_ne.2 hq0]; rfl
   clear hq0
   go_wp2_with fail
   refine (qR qu _ _ (za HV1) (by omega) (za HT3)).mono ?_
   rintro e w4 ⟨rfl, hb4⟩
   have hn4 := zk (za Hn3).1 (za Hn3).2 hb4
   have hv2 := zo (za HV2) hb4
   have hT4 := (za HT3).below hb4
   have HV2' := hide hv2
   have HT4 := hide hT4
   have Hn4 := hide hn4
   clear hv2 hT4 hn4 hb4
   go_wp2_with fail
   refine (qR qd _ _ (za HV2') (by omega) (za HT4)).mono ?_
   rintro e w5 ⟨rfl, hb5⟩
   have hn5 := zk (za Hn4).1 (za Hn4).2 hb5
   have c0 := zb hn5.1 0
   have c1 := zb hn5.1 1
   have c2 := zb hn5.1 2
   have f0 := zh hn5.1 0
   have f1 := zh hn5.1 1
   have f2 := zh hn5.1 2
   have hbX := zm hn5.1
   simp at c0 c1 c2
   have hbb : w.heap.size < w5.heap.size := hn5.2
   clear hb5 hn5
   by_cases h1 : 60 < (dec qu).size
   ·rw [if_pos (.inl h1)] at Hlow
    go_wp2
    refine bodyPost_ret (v := zg none) (by simp [results, Tryz.results158, go_sem, zg, numO, noNum, numV, c0, c1, c2, hbb]) rfl ⟨by rw [za Hlow], ?_⟩
    exact zI hbX hbX.size _ (Nat.le_refl _) _ _ _ _
   ·by_cases h2 : 60 < (dec qd).size
    ·rw [if_pos (.inr h2)] at Hlow
     go_wp2
     refine bodyPost_ret (v := zg none) (by simp [results, Tryz.results158, go_sem, zg, numO, noNum, numV, c0, c1, c2, hbb]) rfl ⟨by rw [za Hlow], ?_⟩
     exact zI hbX hbX.size _ (Nat.le_refl _) _ _ _ _
    ·rw [if_neg (by rintro (h | h); exact h1 h; exact h2 h)] at Hlow
     go_wp2
     refine bodyPost_ret (v := zg (some (true, qu, qd))) (by simp [results, Tryz.results158, go_sem, zg, numO, numV, c0, c1, c2, hbb]) rfl ⟨by rw [za Hlow, za Hsg], ?_⟩
     exact zI hbX hbX.size _ (Nat.le_refl _) _ _ _ _
end Go.Proofs.YtpbnmhnbkfnaeaaGreatDoor
