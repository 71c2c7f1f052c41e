/- A part of the proof, put together out of smaller texts: each piece says what it is for. -/
import Derived.Test.YtpbnmhnbkfnaeaaGreatDoorM3
import Derived.Deep.RegionWith
import Derived.Deep.RegionHeld3
import Derived.Handy
namespace Go.Proofs.YtpbnmhnbkfnaeaaGreatDoor
open Go.RowKit Nt

/-- a made block -/
def AtC (w : World) (b : Nat) (cs : Array Value) (T : TypeId) : Prop := w.heap[b]? = some (.cells cs T (0, 0))
theorem AtC.lt {w : World} {b : Nat} {cs : Array Value} {T : TypeId} (h : AtC w b cs T) : b < w.heap.size := (Array.getElem?_eq_some_iff.1 h).1
theorem AtC.new (w : World) (cs : Array Value) (T : TypeId) : AtC (w.alloc (.cells cs T)) w.heap.size cs T := by
  show (w.heap.push _)[w.heap.size]? = _; rw [Array.getElem?_push, if_pos rfl]
theorem AtC.below {w w' : World} {b : Nat} {cs : Array Value} {T : TypeId} (h : AtC w b cs T) (k : Below w.heap.size w w') : AtC w' b cs T := (k.block b h.lt).trans h
theorem AtC.alloc {w : World} {b : Nat} {cs : Array Value} {T : TypeId} (h : AtC w b cs T) (o : Obj) : AtC (w.alloc o) b cs T := h.below ((Below.refl _ _).alloc (Nat.le_refl _) o)
theorem AtC.drew {w : World} {b : Nat} {cs : Array Value} {T : TypeId} (h : AtC w b cs T) : AtC w.drew b cs T := h
theorem AtC.c {w : World} {b : Nat} {cs : Array Value} {T : TypeId} (h : AtC w b cs T) (j : Nat) : w.cell? ⟨b, j, none⟩ = cs[j]? := by unfold AtC at h; simp [World.cell?, h]
theorem AtC.f {w : World} {b : Nat} {cs : Array Value} {T : TypeId} (h : AtC w b cs T) (j : Nat) : w.frozen? ⟨b, j, none⟩ = false := by unfold AtC at h; simp [World.frozen?, h]

theorem far2 {w : World} {b i j : Nat} {u v : Value} {a : Addr} (h : b ≠ a.block) : ((w.setCell ⟨b, i, none⟩ u).setCell ⟨b, j, none⟩ v).cell? a = w.cell? a := by
  rw [World.cell?_setCell_far _ _ _ _ h, World.cell?_setCell_far _ _ _ _ h]

/-- a signed number -/
def wholeV (n : Bool) (v : Value) : Value := .agg #[.bool n, v]
def plusW (a b : Bool × Nat) : Bool × Nat := if a.1 = b.1 then (a.1, a.2 + b.2) else if a.2 < b.2 then (b.1, b.2 - a.2) else (a.1, a.2 - b.2)
/-- .. as it lies in memory -/
def isWhole (w : World) (u : Value) (a : Bool × Nat) : Prop := ∃ v, u = wholeV a.1 v ∧ isNat w v a.2
/-- .. in a block from a number on -/
def isWholeB (w : World) (base : Nat) (u : Value) (a : Bool × Nat) : Prop := ∃ v, u = wholeV a.1 v ∧ isNatB w base v a.2
theorem isWhole.below {w w' : World} {u : Value} {a : Bool × Nat} (h : isWhole w u a) (k : Below w.heap.size w w') : isWhole w' u a := by
  obtain ⟨v, rfl, hv⟩ := h; exact ⟨v, rfl, isNat_below hv k⟩

theorem isNatB_set {w : World} {base b i : Nat} {v u : Value} {x : Nat} (h : isNatB w base v x) (hb : b < base) : isNatB (w.setCell ⟨b, i, none⟩ u) base v x := ownsRow_setCell_below h hb u

set_option maxRecDepth 100000 in
set_option maxHeartbeats 4000000 in
theorem wNeg_c (n : Bool) (v : Value) (x : Nat) (w : World) (hx : isNat w v x) :
    Calls Tryz.prog 190 #[wholeV n v] w fun e w' => (∃ u, e = .returned u ∧ isWhole w' u (!n, x)) ∧ Below w.heap.size w w' := by
  obtain ⟨p, cap, rfl⟩ := own_slice hx
  have Hx := hide hx
  clear hx
  unfold wholeV
  go_enter Tryz.func190, Tryz.ntmps190
  go_wp2
  refine bodyPost_ret (v := .agg #[.bool (!n), .slice p (gr x).length cap]) (by simp [results, Tryz.results190, go_sem]) rfl ⟨⟨_, rfl, ⟨_, rfl, ?_⟩⟩, ?_⟩
  · exact isNat_below (unhide Hx) (((Below.refl _ _).alloc (Nat.le_refl _) _).alloc (by simp) _)
  · exact ((Below.refl _ _).alloc (Nat.le_refl _) _).alloc (by simp) _

set_option maxRecDepth 100000 in
set_option maxHeartbeats 4000000 in
theorem wTimes_c (n m : Bool) (v u : Value) (x y : Nat) (w : World) (hx : isNat w v x) (hy : isNat w u y) (hsx : (gr x).length ≤ 1000000) (hsy : (gr y).length ≤ 1000000) :
    Calls Tryz.prog 161 #[wholeV n v, wholeV m u] w fun e w' => (∃ z, e = .returned z ∧ isWholeB w' w.heap.size z (n != m, x * y)) ∧ Below w.heap.size w w' := by
  obtain ⟨p, cap, rfl⟩ := own_slice hx
  obtain ⟨q, cap2, rfl⟩ := own_slice hy
  obtain ⟨lx, hlx⟩ : ∃ l, (gr x).length = l := ⟨_, rfl⟩
  obtain ⟨ly, hly⟩ : ∃ l, (gr y).length = l := ⟨_, rfl⟩
  rw [hlx] at hx
  rw [hly] at hy
  rw [hlx, hly]
  have hW : Below w.heap.size w (((w.alloc (.cells #[.bool n, .slice p lx cap] 183)).alloc (.cells #[.bool m, .slice q ly cap2] 183)).alloc (.cells #[.bool false, .slice none 0 0] 183)) :=
    (((Below.refl _ _).alloc (Nat.le_refl _) _).alloc (by simp) _).alloc (by simp; omega) _
  have Hx := hide (isNat_below hx hW)
  have Hy := hide (isNat_below hy hW)
  have HW := hide hW
  have HA := hide (((AtC.new w #[.bool n, .slice p lx cap] 183).alloc (.cells #[.bool m, .slice q ly cap2] 183)).alloc (.cells #[.bool false, .slice none 0 0] 183))
  have HB := hide ((AtC.new (w.alloc (.cells #[.bool n, .slice p lx cap] 183)) #[.bool m, .slice q ly cap2] 183).alloc (.cells #[.bool false, .slice none 0 0] 183))
  have HC := hide (AtC.new ((w.alloc (.cells #[.bool n, .slice p lx cap] 183)).alloc (.cells #[.bool m, .slice q ly cap2] 183)) #[.bool false, .slice none 0 0] 183)
  have Hl := hide (And.intro hlx hly)
  clear hx hy hW hlx hly
  rw [World.size_alloc] at HB
  rw [World.size_alloc, World.size_alloc] at HC
  unfold wholeV
  go_enter Tryz.func161, Tryz.ntmps161
  go_wp2
  go_region_held3 (fun w' => w'.cell? ⟨w.heap.size, 0, none⟩ = some (.bool n) ∧ w'.cell? ⟨w.heap.size, 1, none⟩ = some (.slice p lx cap) ∧ w'.cell? ⟨w.heap.size + 1, 0, none⟩ = some (.bool m) ∧ w'.cell? ⟨w.heap.size + 1, 1, none⟩ = some (.slice q ly cap2)) (((try dsimp only); (repeat' apply And.intro) <;> (first | assumption | (rw [far2 (by first | (simp; done) | (simp; omega))]; assumption) | go_keep))) (first | (go_at_call 188; refine (times_c x y _ _ _ (by first | exact unhide Hx) (by first | exact unhide Hy) hsx hsy).mono ?_; rintro e w1 ⟨⟨z, rfl, hz⟩, hb1⟩; obtain ⟨zp, zc, rfl⟩ := own_slice hz; have hA := (unhide HA).drew.below hb1; have hB := (unhide HB).drew.below hb1; have hC := (unhide HC).drew.below hb1; have a0 : w1.cell? ⟨w.heap.size, 0, none⟩ = some (.bool n) := hA.c 0; have a1 : w1.cell? ⟨w.heap.size, 1, none⟩ = some (.slice p lx cap) := hA.c 1; have b0 : w1.cell? ⟨w.heap.size + 1, 0, none⟩ = some (.bool m) := hB.c 0; have b1 : w1.cell? ⟨w.heap.size + 1, 1, none⟩ = some (.slice q ly cap2) := hB.c 1; have c0 : w1.cell? ⟨w.heap.size + 1 + 1, 0, none⟩ = some (.bool false) := hC.c 0; have c1 : w1.cell? ⟨w.heap.size + 1 + 1, 1, none⟩ = some (.slice none 0 0) := hC.c 1; have cf := hC.f; have Hz := hide hz; have Hb1 := hide hb1; clear hA hB hC hz hb1))
  have hfin : Below w.heap.size w w1 := (unhide HW).drew.trans ((unhide Hb1).mono (unhide HW).drew.size)
  have hs := (unhide HC).drew.below (unhide Hb1) |>.lt
  have Hfin := hide hfin
  clear hfin
  go_wp2
  refine bodyPost_ret (v := .agg #[.bool (n != m), .slice zp (gr (x * y)).length zc]) (by simp [results, Tryz.results161, go_sem, c0, c1]; cases n <;> cases m <;> rfl) rfl ⟨⟨_, rfl, ⟨_, rfl, ?_⟩⟩, ?_⟩
  · have h0 := unhide Hz
    have h1 := isNatB_set h0 (b := w.heap.size + 1 + 1) (i := 0) (u := .bool (n != m)) (by simp)
    exact own_base (isNatB_set h1 (b := w.heap.size + 1 + 1) (i := 1) (by simp)) (by simp; omega)
  · exact ((unhide Hfin).setCell (by show w.heap.size ≤ w.heap.size + 1 + 1; omega) _).setCell (by show w.heap.size ≤ w.heap.size + 1 + 1; omega) _
end Go.Proofs.YtpbnmhnbkfnaeaaGreatDoor
namespace Go.Proofs.YtpbnmhnbkfnaeaaGreatDoor
open Go.RowKit Nt



theorem AtC.put2 {w : World} {b : Nat} {x y : Value} {T : TypeId} (h : AtC w b #[x, y] T) (u v : Value) : AtC ((w.setCell ⟨b, 0, none⟩ u).setCell ⟨b, 1, none⟩ v) b #[u, v] T := by
  have h1 : (w.setCell ⟨b, 0, none⟩ u).heap[b]? = some (.cells #[u, y] T (0, 0)) := by
    show (w.heap.modify b _)[b]? = _
    rw [Array.getElem?_modify, if_pos rfl, show w.heap[b]? = _ from h]
    rfl
  show ((w.setCell ⟨b, 0, none⟩ u).heap.modify b _)[b]? = _
  rw [Array.getElem?_modify, if_pos rfl, h1]
  rfl
theorem AtC.far2 {w : World} {b c : Nat} {cs : Array Value} {T : TypeId} (h : AtC w b cs T) (hc : b ≠ c) (u v : Value) (i j : Nat) : AtC ((w.setCell ⟨c, i, none⟩ u).setCell ⟨c, j, none⟩ v) b cs T := by
  unfold AtC; rw [Below.heap_setCell _ _ _ _ hc, Below.heap_setCell _ _ _ _ hc]; exact h

theorem plusW_same (n : Bool) (x y : Nat) : plusW (n, x) (n, y) = (n, x + y) := by simp [plusW]
theorem plusW_lt {n m : Bool} (h : n ≠ m) {x y : Nat} (hl : x < y) : plusW (n, x) (m, y) = (m, y - x) := by simp [plusW, h, hl]
theorem plusW_ge {n m : Bool} (h : n ≠ m) {x y : Nat} (hl : ¬ x < y) : plusW (n, x) (m, y) = (n, x - y) := by simp [plusW, h, hl]

set_option maxRecDepth 100000 in
set_option maxHeartbeats 4000000 in
theorem wPlus_same (n m : Bool) (v u : Value) (x y : Nat) (w : World) (hnm : n = m) (hx : isNat w v x) (hy : isNat w u y) (hsx : (gr x).length ≤ 1000000) (hsy : (gr y).length ≤ 1000000) :
    Calls Tryz.prog 189 #[wholeV n v, wholeV m u] w fun e w' => (∃ z, e = .returned z ∧ isWholeB w' w.heap.size z (plusW (n, x) (m, y))) ∧ Below w.heap.size w w' := by
  have hp : plusW (n, x) (m, y) = (n, x + y) := by rw [← hnm, plusW_same]
  rw [hp]
  clear hp
  have hb : (n == m) = true := by rw [hnm]; simp
  -- the two signed numbers in their boxes, the answer's box behind them
  obtain ⟨p, cap, rfl⟩ := own_slice hx
  obtain ⟨q, cap2, rfl⟩ := own_slice hy
  obtain ⟨lx, hlx⟩ : ∃ l, (gr x).length = l := ⟨_, rfl⟩
  obtain ⟨ly, hly⟩ : ∃ l, (gr y).length = l := ⟨_, rfl⟩
  rw [hlx] at hx
  rw [hly] at hy
  rw [hlx, hly]
  have hW : Below w.heap.size w (((w.alloc (.cells #[.bool n, .slice p lx cap] 183)).alloc (.cells #[.bool m, .slice q ly cap2] 183)).alloc (.cells #[.bool false, .slice none 0 0] 183)) :=
    (((Below.refl _ _).alloc (Nat.le_refl _) _).alloc (by simp) _).alloc (by simp; omega) _
  have Hx0 := hide hx
  have Hy0 := hide hy
  have Hx := hide (isNat_below hx hW)
  have Hy := hide (isNat_below hy hW)
  have HW := hide hW
  have HA := hide (((AtC.new w #[.bool n, .slice p lx cap] 183).alloc (.cells #[.bool m, .slice q ly cap2] 183)).alloc (.cells #[.bool false, .slice none 0 0] 183))
  have HB := hide ((AtC.new (w.alloc (.cells #[.bool n, .slice p lx cap] 183)) #[.bool m, .slice q ly cap2] 183).alloc (.cells #[.bool false, .slice none 0 0] 183))
  have HC := hide (AtC.new ((w.alloc (.cells #[.bool n, .slice p lx cap] 183)).alloc (.cells #[.bool m, .slice q ly cap2] 183)) #[.bool false, .slice none 0 0] 183)
  have Hl := hide (And.intro hlx hly)
  clear hx hy hW hlx hly
  rw [World.size_alloc] at HB
  rw [World.size_alloc, World.size_alloc] at HC
  unfold wholeV
  clear hnm
  go_enter Tryz.func189, Tryz.ntmps189
  go_wp2
  go_region_held3 (fun w' => w'.cell? ⟨w.heap.size, 0, none⟩ = some (.bool n) ∧ w'.cell? ⟨w.heap.size, 1, none⟩ = some (.slice p lx cap) ∧ w'.cell? ⟨w.heap.size + 1, 0, none⟩ = some (.bool m) ∧ w'.cell? ⟨w.heap.size + 1, 1, none⟩ = some (.slice q ly cap2)) (((try dsimp only); (repeat' apply And.intro) <;> (first | assumption | (rw [far2 (by first | (simp; done) | (simp; omega))]; assumption) | go_keep))) (first | (go_at_call 208; refine (plus_c x y _ _ _ (by first | exact unhide Hx) (by first | exact unhide Hy) hsx hsy).mono ?_; rintro e w1 ⟨⟨z, rfl, hz⟩, hb1⟩; obtain ⟨zp, zc, rfl⟩ := own_slice hz; have hA := (unhide HA).drew.below hb1; have hB := (unhide HB).drew.below hb1; have hC := (unhide HC).drew.below hb1; have a0 : w1.cell? ⟨w.heap.size, 0, none⟩ = some (.bool n) := hA.c 0; have a1 : w1.cell? ⟨w.heap.size, 1, none⟩ = some (.slice p lx cap) := hA.c 1; have b0 : w1.cell? ⟨w.heap.size + 1, 0, none⟩ = some (.bool m) := hB.c 0; have b1 : w1.cell? ⟨w.heap.size + 1, 1, none⟩ = some (.slice q ly cap2) := hB.c 1; have c0 : w1.cell? ⟨w.heap.size + 1 + 1, 0, none⟩ = some (.bool false) := hC.c 0; have c1 : w1.cell? ⟨w.heap.size + 1 + 1, 1, none⟩ = some (.slice none 0 0) := hC.c 1; have cf := hC.f; have Hz := hide hz; have Hb1 := hide hb1; clear hA hB hC hz hb1))
  have hfin : Below w.heap.size w w1 := (unhide HW).drew.trans ((unhide Hb1).mono (unhide HW).drew.size)
  have hs := (unhide HC).drew.below (unhide Hb1) |>.lt
  have Hfin := hide hfin
  clear hfin
  go_wp2
  refine bodyPost_ret (v := .agg #[.bool n, .slice zp (gr (x + y)).length zc]) (by simp [results, Tryz.results189, go_sem, c0, c1]) rfl ⟨⟨_, rfl, ⟨_, rfl, ?_⟩⟩, ?_⟩
  · have h0 := unhide Hz
    have h1 := isNatB_set h0 (b := w.heap.size + 1 + 1) (i := 0) (u := .bool n) (by simp)
    exact own_base (isNatB_set h1 (b := w.heap.size + 1 + 1) (i := 1) (by simp)) (by simp; omega)
  · exact ((unhide Hfin).setCell (by show w.heap.size ≤ w.heap.size + 1 + 1; omega) _).setCell (by show w.heap.size ≤ w.heap.size + 1 + 1; omega) _

set_option maxRecDepth 100000 in
set_option maxHeartbeats 4000000 in
theorem wPlus_ge (n m : Bool) (v u : Value) (x y : Nat) (w : World) (hnm : n ≠ m) (hl : ¬ x < y) (hx : isNat w v x) (hy : isNat w u y) (hsx : (gr x).length ≤ 1000000) (hsy : (gr y).length ≤ 1000000) :
    Calls Tryz.prog 189 #[wholeV n v, wholeV m u] w fun e w' => (∃ z, e = .returned z ∧ isWholeB w' w.heap.size z (plusW (n, x) (m, y))) ∧ Below w.heap.size w w' := by
  rw [plusW_ge hnm hl]
  have hb : (n == m) = false := by simp [hnm]
  have hd : decide (x < y) = false := decide_eq_false hl
  have hle : y ≤ x := by omega
  -- the two signed numbers in their boxes, the answer's box behind them
  obtain ⟨p, cap, rfl⟩ := own_slice hx
  obtain ⟨q, cap2, rfl⟩ := own_slice hy
  obtain ⟨lx, hlx⟩ : ∃ l, (gr x).length = l := ⟨_, rfl⟩
  obtain ⟨ly, hly⟩ : ∃ l, (gr y).length = l := ⟨_, rfl⟩
  rw [hlx] at hx
  rw [hly] at hy
  rw [hlx, hly]
  have hW : Below w.heap.size w (((w.alloc (.cells #[.bool n, .slice p lx cap] 183)).alloc (.cells #[.bool m, .slice q ly cap2] 183)).alloc (.cells #[.bool false, .slice none 0 0] 183)) :=
    (((Below.refl _ _).alloc (Nat.le_refl _) _).alloc (by simp) _).alloc (by simp; omega) _
  have Hx0 := hide hx
  have Hy0 := hide hy
  have Hx := hide (isNat_below hx hW)
  have Hy := hide (isNat_below hy hW)
  have HW := hide hW
  have HA := hide (((AtC.new w #[.bool n, .slice p lx cap] 183).alloc (.cells #[.bool m, .slice q ly cap2] 183)).alloc (.cells #[.bool false, .slice none 0 0] 183))
  have HB := hide ((AtC.new (w.alloc (.cells #[.bool n, .slice p lx cap] 183)) #[.bool m, .slice q ly cap2] 183).alloc (.cells #[.bool false, .slice none 0 0] 183))
  have HC := hide (AtC.new ((w.alloc (.cells #[.bool n, .slice p lx cap] 183)).alloc (.cells #[.bool m, .slice q ly cap2] 183)) #[.bool false, .slice none 0 0] 183)
  have Hl := hide (And.intro hlx hly)
  clear hx hy hW hlx hly
  rw [World.size_alloc] at HB
  rw [World.size_alloc, World.size_alloc] at HC
  unfold wholeV
  clear hnm hl
  go_enter Tryz.func189, Tryz.ntmps189
  go_wp2_with fail
  have h := less_c x y (.slice p lx cap) (.slice q ly cap2) _ (unhide Hx) (unhide Hy) (by omega) (by omega)
  refine h.mono ?_
  clear h
  rw [hd]
  rintro e w0 ⟨rfl, hb0⟩
  have hA0 := (unhide HA).below hb0
  have hB0 := (unhide HB).below hb0
  have hC0 := (unhide HC).below hb0
  have HW0 := hide ((unhide HW).trans (hb0.mono (unhide HW).size))
  have ca0 := hA0.c 0
  have ca1 := hA0.c 1
  have cb0 := hB0.c 0
  have cb1 := hB0.c 1
  have fa := hA0.f
  have fb := hB0.f
  simp at ca0 ca1 cb0 cb1
  have HA0 := hide hA0
  have HB0 := hide hB0
  have HC0 := hide hC0
  clear hA0 hB0 hC0 hb0
  -- the last region of plus where the signs differ: w0 the world, HA0 HB0 HC0 what stands in the boxes there (AtC, hidden), HW0 what is kept below, minus_c x y _ _ _ (by exact isNat_below (unhide Hx0) (unhide HW0).drew) (by exact isNat_below (unhide Hy0) (unhide HW0).drew) hle hsx contract, n the sign told, x - y the number told, w'.cell? ⟨w.heap.size, 0, none⟩ = some (.bool n) ∧ w'.cell? ⟨w.heap.size, 1, none⟩ = some (.slice p lx cap) ∧ w'.cell? ⟨w.heap.size + 1, 0, none⟩ = some (.bool m) ∧ w'.cell? ⟨w.heap.size + 1, 1, none⟩ = some (.slice q ly cap2) the cells' fact S
  go_wp2
  go_region_held3 (fun w' => w'.cell? ⟨w.heap.size, 0, none⟩ = some (.bool n) ∧ w'.cell? ⟨w.heap.size, 1, none⟩ = some (.slice p lx cap) ∧ w'.cell? ⟨w.heap.size + 1, 0, none⟩ = some (.bool m) ∧ w'.cell? ⟨w.heap.size + 1, 1, none⟩ = some (.slice q ly cap2)) (((try dsimp only); (repeat' apply And.intro) <;> (first | assumption | (rw [far2 (by first | (simp; done) | (simp; omega))]; assumption) | go_keep))) (first | (go_at_call 209; refine (minus_c x y _ _ _ (by exact isNat_below (unhide Hx0) (unhide HW0).drew) (by exact isNat_below (unhide Hy0) (unhide HW0).drew) hle hsx).mono ?_; rintro e w1 ⟨⟨z, rfl, hz⟩, hb1⟩; obtain ⟨zp, zc, rfl⟩ := own_slice hz; have hA := (unhide HA0).drew.below hb1; have hB := (unhide HB0).drew.below hb1; have hC := (unhide HC0).drew.below hb1; have a0 := hA.c 0; have a1 := hA.c 1; have b0 := hB.c 0; have b1 := hB.c 1; simp at a0 a1 b0 b1; have c0 : w1.cell? ⟨w.heap.size + 1 + 1, 0, none⟩ = some (.bool false) := hC.c 0; have c1 : w1.cell? ⟨w.heap.size + 1 + 1, 1, none⟩ = some (.slice none 0 0) := hC.c 1; have cf := hC.f; have Hz := hide hz; have Hb1 := hide hb1; clear hA hB hC hz hb1))
  have hbig : w.heap.size + 1 + 1 < (w0).heap.size := (unhide HC0).lt
  have hfin : Below w.heap.size w w1 := (unhide HW0).drew.trans ((unhide Hb1).mono (unhide HW0).drew.size)
  have hs := (unhide HC0).drew.below (unhide Hb1) |>.lt
  have Hfin := hide hfin
  clear hfin
  go_wp2
  refine bodyPost_ret (v := .agg #[.bool n, .slice zp (gr (x - y)).length zc]) (by simp [results, Tryz.results189, go_sem, c0, c1]) rfl ⟨⟨_, rfl, ⟨_, rfl, ?_⟩⟩, ?_⟩
  · have h0 := unhide Hz
    have h1 := isNatB_set h0 (b := w.heap.size + 1 + 1) (i := 0) (u := .bool n) (by simpa using hbig)
    exact own_base (isNatB_set h1 (b := w.heap.size + 1 + 1) (i := 1) (by simpa using hbig)) (by simp; omega)
  · exact ((unhide Hfin).setCell (by show w.heap.size ≤ w.heap.size + 1 + 1; omega) _).setCell (by show w.heap.size ≤ w.heap.size + 1 + 1; omega) _

set_option maxRecDepth 100000 in
set_option maxHeartbeats 4000000 in
theorem wPlus_lt (n m : Bool) (v u : Value) (x y : Nat) (w : World) (hnm : n ≠ m) (hl : x < y) (hx : isNat w v x) (hy : isNat w u y) (hsx : (gr x).length ≤ 1000000) (hsy : (gr y).length ≤ 1000000) :
    Calls Tryz.prog 189 #[wholeV n v, wholeV m u] w fun e w' => (∃ z, e = .returned z ∧ isWholeB w' w.heap.size z (plusW (n, x) (m, y))) ∧ Below w.heap.size w w' := by
  rw [plusW_lt hnm hl]
  have hb : (n == m) = false := by simp [hnm]
  have hd : decide (x < y) = true := decide_eq_true hl
  have hle : x ≤ y := by omega
  -- the two signed numbers in their boxes, the answer's box behind them
  obtain ⟨p, cap, rfl⟩ := own_slice hx
  obtain ⟨q, cap2, rfl⟩ := own_slice hy
  obtain ⟨lx, hlx⟩ : ∃ l, (gr x).length = l := ⟨_, rfl⟩
  obtain ⟨ly, hly⟩ : ∃ l, (gr y).length = l := ⟨_, rfl⟩
  rw [hlx] at hx
  rw [hly] at hy
  rw [hlx, hly]
  have hW : Below w.heap.size w (((w.alloc (.cells #[.bool n, .slice p lx cap] 183)).alloc (.cells #[.bool m, .slice q ly cap2] 183)).alloc (.cells #[.bool false, .slice none 0 0] 183)) :=
    (((Below.refl _ _).alloc (Nat.le_refl _) _).alloc (by simp) _).alloc (by simp; omega) _
  have Hx0 := hide hx
  have Hy0 := hide hy
  have Hx := hide (isNat_below hx hW)
  have Hy := hide (isNat_below hy hW)
  have HW := hide hW
  have HA := hide (((AtC.new w #[.bool n, .slice p lx cap] 183).alloc (.cells #[.bool m, .slice q ly cap2] 183)).alloc (.cells #[.bool false, .slice none 0 0] 183))
  have HB := hide ((AtC.new (w.alloc (.cells #[.bool n, .slice p lx cap] 183)) #[.bool m, .slice q ly cap2] 183).alloc (.cells #[.bool false, .slice none 0 0] 183))
  have HC := hide (AtC.new ((w.alloc (.cells #[.bool n, .slice p lx cap] 183)).alloc (.cells #[.bool m, .slice q ly cap2] 183)) #[.bool false, .slice none 0 0] 183)
  have Hl := hide (And.intro hlx hly)
  clear hx hy hW hlx hly
  rw [World.size_alloc] at HB
  rw [World.size_alloc, World.size_alloc] at HC
  unfold wholeV
  clear hnm hl
  go_enter Tryz.func189, Tryz.ntmps189
  go_wp2_with fail
  have h := less_c x y (.slice p lx cap) (.slice q ly cap2) _ (unhide Hx) (unhide Hy) (by omega) (by omega)
  refine h.mono ?_
  clear h
  rw [hd]
  rintro e w0 ⟨rfl, hb0⟩
  have hA0 := (unhide HA).below hb0
  have hB0 := (unhide HB).below hb0
  have hC0 := (unhide HC).below hb0
  have HW0 := hide ((unhide HW).trans (hb0.mono (unhide HW).size))
  have ca0 := hA0.c 0
  have ca1 := hA0.c 1
  have cb0 := hB0.c 0
  have cb1 := hB0.c 1
  have fa := hA0.f
  have fb := hB0.f
  simp at ca0 ca1 cb0 cb1
  have HA0 := hide ((hA0.put2 (.bool m) (.slice q ly cap2)).far2 (c := w.heap.size + 1) (by omega) (.bool n) (.slice p lx cap) 0 1)
  have HB0 := hide ((hB0.far2 (c := w.heap.size) (by omega) (.bool m) (.slice q ly cap2) 0 1).put2 (.bool n) (.slice p lx cap))
  have HC0 := hide ((hC0.far2 (c := w.heap.size) (by omega) (.bool m) (.slice q ly cap2) 0 1).far2 (c := w.heap.size + 1) (by omega) (.bool n) (.slice p lx cap) 0 1)
  have HW1 := hide (((((unhide HW0).setCell (p := ⟨w.heap.size, 0, none⟩) (Nat.le_refl _) (.bool m)).setCell (p := ⟨w.heap.size, 1, none⟩) (Nat.le_refl _) (.slice q ly cap2)).setCell (p := ⟨w.heap.size + 1, 0, none⟩) (by show w.heap.size ≤ w.heap.size + 1; omega) (.bool n)).setCell (p := ⟨w.heap.size + 1, 1, none⟩) (by show w.heap.size ≤ w.heap.size + 1; omega) (.slice p lx cap))
  clear hA0 hB0 hC0 hb0
  go_wp2
  clear ca0 ca1 cb0 cb1 fa fb
  generalize (((w0.setCell ⟨w.heap.size, 0, none⟩ (.bool m)).setCell ⟨w.heap.size, 1, none⟩ (.slice q ly cap2)).setCell ⟨w.heap.size + 1, 0, none⟩ (.bool n)).setCell ⟨w.heap.size + 1, 1, none⟩ (.slice p lx cap) = W1 at *
  have ca0 := (unhide HA0).c 0
  have ca1 := (unhide HA0).c 1
  have cb0 := (unhide HB0).c 0
  have cb1 := (unhide HB0).c 1
  simp at ca0 ca1 cb0 cb1
  -- the last region of plus where the signs differ: W1 the world, HA0 HB0 HC0 what stands in the boxes there (AtC, hidden), HW1 what is kept below, minus_c y x _ _ _ (by exact isNat_below (unhide Hy0) (unhide HW1).drew) (by exact isNat_below (unhide Hx0) (unhide HW1).drew) hle hsy contract, m the sign told, y - x the number told, w'.cell? ⟨w.heap.size, 0, none⟩ = some (.bool m) ∧ w'.cell? ⟨w.heap.size, 1, none⟩ = some (.slice q ly cap2) ∧ w'.cell? ⟨w.heap.size + 1, 0, none⟩ = some (.bool n) ∧ w'.cell? ⟨w.heap.size + 1, 1, none⟩ = some (.slice p lx cap) the cells' fact S
  go_wp2
  go_region_held3 (fun w' => w'.cell? ⟨w.heap.size, 0, none⟩ = some (.bool m) ∧ w'.cell? ⟨w.heap.size, 1, none⟩ = some (.slice q ly cap2) ∧ w'.cell? ⟨w.heap.size + 1, 0, none⟩ = some (.bool n) ∧ w'.cell? ⟨w.heap.size + 1, 1, none⟩ = some (.slice p lx cap)) (((try dsimp only); (repeat' apply And.intro) <;> (first | assumption | (rw [far2 (by first | (simp; done) | (simp; omega))]; assumption) | go_keep))) (first | (go_at_call 209; refine (minus_c y x _ _ _ (by exact isNat_below (unhide Hy0) (unhide HW1).drew) (by exact isNat_below (unhide Hx0) (unhide HW1).drew) hle hsy).mono ?_; rintro e w1 ⟨⟨z, rfl, hz⟩, hb1⟩; obtain ⟨zp, zc, rfl⟩ := own_slice hz; have hA := (unhide HA0).drew.below hb1; have hB := (unhide HB0).drew.below hb1; have hC := (unhide HC0).drew.below hb1; have a0 := hA.c 0; have a1 := hA.c 1; have b0 := hB.c 0; have b1 := hB.c 1; simp at a0 a1 b0 b1; have c0 : w1.cell? ⟨w.heap.size + 1 + 1, 0, none⟩ = some (.bool false) := hC.c 0; have c1 : w1.cell? ⟨w.heap.size + 1 + 1, 1, none⟩ = some (.slice none 0 0) := hC.c 1; have cf := hC.f; have Hz := hide hz; have Hb1 := hide hb1; clear hA hB hC hz hb1))
  have hbig : w.heap.size + 1 + 1 < (W1).heap.size := (unhide HC0).lt
  have hfin : Below w.heap.size w w1 := (unhide HW1).drew.trans ((unhide Hb1).mono (unhide HW1).drew.size)
  have hs := (unhide HC0).drew.below (unhide Hb1) |>.lt
  have Hfin := hide hfin
  clear hfin
  go_wp2
  refine bodyPost_ret (v := .agg #[.bool m, .slice zp (gr (y - x)).length zc]) (by simp [results, Tryz.results189, go_sem, c0, c1]) rfl ⟨⟨_, rfl, ⟨_, rfl, ?_⟩⟩, ?_⟩
  · have h0 := unhide Hz
    have h1 := isNatB_set h0 (b := w.heap.size + 1 + 1) (i := 0) (u := .bool m) (by simpa using hbig)
    exact own_base (isNatB_set h1 (b := w.heap.size + 1 + 1) (i := 1) (by simpa using hbig)) (by simp; omega)
  · exact ((unhide Hfin).setCell (by show w.heap.size ≤ w.heap.size + 1 + 1; omega) _).setCell (by show w.heap.size ≤ w.heap.size + 1 + 1; omega) _

theorem wPlus_c (n m : Bool) (v u : Value) (x y : Nat) (w : World) (hx : isNat w v x) (hy : isNat w u y) (hsx : (gr x).length ≤ 1000000) (hsy : (gr y).length ≤ 1000000) :
    Calls Tryz.prog 189 #[wholeV n v, wholeV m u] w fun e w' => (∃ z, e = .returned z ∧ isWholeB w' w.heap.size z (plusW (n, x) (m, y))) ∧ Below w.heap.size w w' := by
  by_cases hnm : n = m
  · exact wPlus_same n m v u x y w hnm hx hy hsx hsy
  · by_cases hl : x < y
    · exact wPlus_lt n m v u x y w hnm hl hx hy hsx hsy
    · exact wPlus_ge n m v u x y w hnm hl hx hy hsx hsy
end Go.Proofs.YtpbnmhnbkfnaeaaGreatDoor
namespace Go.Proofs.YtpbnmhnbkfnaeaaGreatDoor
open Go.RowKit Nt

/-- a fraction: what is above and below, each with a sign -/
def fracV (n m : Bool) (v u : Value) : Value := .agg #[.bool n, v, .bool m, u]



end Go.Proofs.YtpbnmhnbkfnaeaaGreatDoor
namespace Go.Proofs.YtpbnmhnbkfnaeaaGreatDoor
open Go.RowKit Nt

/-- k groups from the i-th on, as a number -/
def win (L : List Nat) (i k : Nat) : Nat := ofd 1000000000 ((L.drop i).take k)

theorem win_zero (L : List Nat) (i : Nat) : win L i 0 = 0 := by simp [win, ofd]
theorem win_succ (L : List Nat) (i k : Nat) (h : i + k < L.length) : win L i (k + 1) = win L i k + 1000000000 ^ k * L[i + k] := by
  unfold win
  have hl : (L.drop i).length = L.length - i := List.length_drop
  rw [List.take_succ_eq_append_getElem (by omega), ofd_snoc, List.length_take, Nat.min_eq_left (by omega), List.getElem_drop]
theorem win_set (L : List Nat) (i k j d : Nat) (h : i + k ≤ j) : win (L.set j d) i k = win L i k := by
  unfold win
  congr 1
  apply List.ext_getElem
  · simp
  · intro t h1 h2
    simp only [List.getElem_take, List.getElem_drop]
    rw [List.getElem_set_ne]
    simp only [List.length_take, List.length_drop] at h2
    omega

theorem win_put (L : List Nat) (i k d : Nat) (h : i + k < L.length) : win (L.set (i + k) d) i (k + 1) = win L i k + 1000000000 ^ k * d := by
  rw [win_succ _ _ _ (by simpa using h), win_set _ _ _ _ _ (Nat.le_refl _), List.getElem_set_self]

theorem grownBy_trans {w a b : World} {g : Nat} (h : w.grownBy a (some g)) (k : a.grownBy b (some g)) : w.grownBy b (some g) :=
  ⟨k.os.trans h.os, k.tape.trans h.tape, k.output.trans h.output, Nat.le_trans h.size k.size, fun j hj hne => (k.block j (Nat.lt_of_lt_of_le hj h.size) hne).trans (h.block j hj hne)⟩

theorem store_u64 {w wr : World} {base e g N cap : Nat} {L : List Nat} (hown : wr.ownsRow base e 1 (.slice (some ⟨g, 0, none⟩) N cap) N (u64s L)) (hgr : w.grownBy wr (some g)) (j d : Nat) (v : Int) (hv : v = (d : Int)) :
    (wr.setCell ⟨g, j, none⟩ (.int .u64 v)).ownsRow base e 1 (.slice (some ⟨g, 0, none⟩) N cap) N (u64s (L.set j d)) ∧ w.grownBy (wr.setCell ⟨g, j, none⟩ (.int .u64 v)) (some g) := by
  have h := hown.stored j (.int .u64 v)
  rw [u64s_set _ _ d _ hv] at h
  exact ⟨h.1, grownBy_trans hgr h.2⟩

/-- a list in whose window alone something has turned -/
def sameOut (L L' : List Nat) (i k : Nat) : Prop := L'.length = L.length ∧ (∀ d ∈ L', d < 1000000000) ∧ ∀ t (h : t < L.length) (h' : t < L'.length), t < i ∨ i + k ≤ t → L'[t] = L[t]

theorem sameOut_refl {L : List Nat} (h : ∀ d ∈ L, d < 1000000000) (i k : Nat) : sameOut L L i k := ⟨rfl, h, fun _ _ _ _ => rfl⟩
theorem sameOut_set {L L' : List Nat} {i k d : Nat} (h : sameOut L L' i k) (hd : d < 1000000000) : sameOut L (L'.set (i + k) d) i (k + 1) := by
  refine ⟨by simpa using h.1, set_all h.2.1 hd, ?_⟩
  intro t h1 h2 ht
  rw [List.getElem_set_ne (by omega)]
  exact h.2.2 t h1 (by simpa using h2) (by omega)

/-- one group of a take-off -/
theorem takeoff_step {X Y V q o o' y x d : Nat} {j : Nat} (h : X + q * Y = V + o * 1000000000 ^ j) (he : d + (o + y * q) = x + o' * 1000000000) :
    X + 1000000000 ^ j * d + q * (Y + 1000000000 ^ j * y) = V + 1000000000 ^ j * x + o' * 1000000000 ^ (j + 1) := by
  rw [Nat.pow_succ]
  generalize 1000000000 ^ j = p at *
  have h2 := congrArg (p * ·) he
  simp only [Nat.mul_add] at h2
  rw [Nat.mul_add, show q * (p * y) = p * (y * q) from by rw [Nat.mul_left_comm, Nat.mul_comm q y], show o' * (p * 1000000000) = p * (o' * 1000000000) from by rw [Nat.mul_left_comm]]
  rw [Nat.mul_comm o p] at h
  omega

theorem takeoff_fit {y q o : Nat} (hy : y < 1000000000) (hq : q < 1000000000) (ho : o < 1000000000) : o + y * q ≤ 999999999 * 1000000000 := by
  have : y * q ≤ 999999999 * 999999999 := Nat.mul_le_mul (by omega) (by omega)
  omega

set_option maxRecDepth 100000 in
set_option maxHeartbeats 4000000 in
theorem takeOff_c (L ys : List Nat) (g gb i m N cap capb q base : Nat) (w : World) (hm : ys.length = m) (hNl : L.length = N) (hN : N ≤ 2000000) (hi : i + m + 1 ≤ N) (hcap : m + 1 ≤ cap)
    (hL : w.ownsRow base 173 1 (.slice (some ⟨g, 0, none⟩) N N) N (u64s L)) (hY : w.ownsRow 0 173 1 (.slice (some ⟨gb, 0, none⟩) m capb) m (u64s ys)) (hgg : gb ≠ g)
    (hLd : ∀ d ∈ L, d < 1000000000) (hYd : ∀ d ∈ ys, d < 1000000000) (hq : q < 1000000000) :
    Calls Tryz.prog 203 #[.slice (some ⟨g, i, none⟩) (m + 1) cap, .slice (some ⟨gb, 0, none⟩) m capb, .int .u64 q] w fun e w' =>
      ∃ (neg : Bool) (L' : List Nat), e = .returned (.bool neg) ∧ w'.ownsRow base 173 1 (.slice (some ⟨g, 0, none⟩) N N) N (u64s L') ∧ w.grownBy w' (some g) ∧ sameOut L L' i (m + 1) ∧
        win L' i (m + 1) + q * ofd 1000000000 ys = win L i (m + 1) + (if neg then 1000000000 ^ (m + 1) else 0) := by
  have HLd := hide hLd
  have HYd := hide hYd
  have HL := hide hL
  have HY := hide hY
  clear hLd hYd hL hY
  go_enter Tryz.func203, Tryz.ntmps203
  go_wp2
  go_loopw [7, 13] (fun ow j wr => ∃ (k o : Nat) (L' : List Nat), k ≤ m ∧ ow = .int .u64 o ∧ o < 1000000000 ∧ j = .int .i64 k ∧ wr.ownsRow base 173 1 (.slice (some ⟨g, 0, none⟩) N N) N (u64s L') ∧ w.grownBy wr (some g) ∧
      Hid (sameOut L L' i k) ∧ Hid (win L' i k + q * ofd 1000000000 (ys.take k) = win L i k + o * 1000000000 ^ k))
    (fun _ j _ => m - (intOf j).toNat)
  case atStart =>
    exact ⟨0, 0, L, Nat.zero_le _, rfl, by omega, rfl, unhide HL, World.grownBy.refl _ _, hide (sameOut_refl (unhide HLd) _ _), hide (by simp [win_zero, ofd])⟩
  case round =>
    obtain ⟨k, o, L', hk, rfl, ho, rfl, hown, hgr, hso, hval⟩ := hrel
    by_cases hlt : k < m
    · have hL'l : L'.length = N := (unhide hso).1.trans hNl
      have hcy := (unhide HY).kept hgr (.inr (by simp [Value.ownBlock]; omega))
      have hcy := hcy.cellAt k (by omega)
      rw [u64s_get _ _ (by omega)] at hcy
      have hcx := hown.cellAt (i + k) (by omega)
      rw [u64s_get _ _ (by omega)] at hcx
      have hfr := hown.frozenAt (i + k)
      have hy9 : ys[k]'(by omega) < 1000000000 := unhide HYd _ (List.getElem_mem _)
      have hx9 : L'[i + k]'(by omega) < 1000000000 := (unhide hso).2.1 _ (List.getElem_mem _)
      have hxL : L[i + k]'(by omega) = L'[i + k]'(by omega) := ((unhide hso).2.2 (i + k) (by omega) (by omega) (.inr (Nat.le_refl _))).symm
      have hwin := win_succ L i k (by omega)
      have hofd : ofd 1000000000 (ys.take (k + 1)) = ofd 1000000000 (ys.take k) + 1000000000 ^ k * ys[k]'(by omega) := by
        rw [List.take_succ_eq_append_getElem (by omega), ofd_snoc, List.length_take, Nat.min_eq_left (by omega)]
      rw [hxL] at hwin
      generalize ys[k]'(by omega) = y at *
      generalize L'[i + k]'(by omega) = x at *
      have hfit := takeoff_fit hy9 hq ho
      have Hwin := hide hwin
      have Hofd := hide hofd
      have hstep := fun d o' => @takeoff_step (win L' i k) (ofd 1000000000 (ys.take k)) (win L i k) q o o' y x d k (unhide hval)
      generalize hpp : y * q = pp at *
      have hppI : (y : Int) * q = pp := by rw [← hpp]; simp
      have Hstep := hide hstep
      clear hwin hofd hstep hxL hpp
      obtain ⟨t, ht⟩ : ∃ d : Nat, ((o : Int) + pp) % 1000000000 = d := ⟨(o + pp) % 1000000000, by omega⟩
      obtain ⟨c, hc⟩ : ∃ d : Nat, ((o : Int) + pp) / 1000000000 = d := ⟨(o + pp) / 1000000000, by omega⟩
      have hkI : (k : Int) < (m : Int) + 1 := by omega
      have hkI2 : (k : Int) < (m : Int) := by omega
      by_cases hbr : (x : Int) < t
      · obtain ⟨d, hd⟩ : ∃ d : Nat, (x : Int) + 1000000000 - t = d := ⟨x + 1000000000 - t, by omega⟩
        have hst1 := store_u64 hown hgr (i + k) (x + 1000000000) ((x : Int) + 1000000000) (by simp)
        have hst2 := store_u64 hst1.1 hst1.2 (i + k) d ((x : Int) + 1000000000 - t) hd
        rw [List.set_set] at hst2
        have Hst := hide hst2
        have HD := hide hd
        clear hst1 hst2 hd
        go_wp2
        go_roundw
        case rel =>
          refine ⟨k + 1, c + 1, L'.set (i + k) d, by omega, rfl, by omega, by go_num, (unhide Hst).1, (unhide Hst).2, hide (sameOut_set (unhide hso) (by have := unhide HD; omega)), ?_⟩
          show _ = _
          rw [win_put _ _ _ _ (by omega), unhide Hofd, unhide Hwin]
          exact unhide Hstep d (c + 1) (by have := unhide HD; omega)
        case measure => simp [intOf]; omega
      · obtain ⟨d, hd⟩ : ∃ d : Nat, (x : Int) - t = d := ⟨x - t, by omega⟩
        have hst2 := store_u64 hown hgr (i + k) d ((x : Int) - t) hd
        have Hst := hide hst2
        have HD := hide hd
        clear hst2 hd
        go_wp2
        go_roundw
        case rel =>
          refine ⟨k + 1, c, L'.set (i + k) d, by omega, by rw [hc], by omega, by go_num, (unhide Hst).1, (unhide Hst).2, hide (sameOut_set (unhide hso) (by have := unhide HD; omega)), ?_⟩
          show _ = _
          rw [win_put _ _ _ _ (by omega), unhide Hofd, unhide Hwin]
          exact unhide Hstep d c (by have := unhide HD; omega)
        case measure => simp [intOf]; omega
    · have hkm : k = m := by omega
      subst hkm
      have hL'l : L'.length = N := (unhide hso).1.trans hNl
      have hcx := hown.cellAt (i + k) (by omega)
      rw [u64s_get _ _ (by omega)] at hcx
      have hfr := hown.frozenAt (i + k)
      have hx9 : L'[i + k]'(by omega) < 1000000000 := (unhide hso).2.1 _ (List.getElem_mem _)
      have hxL : L[i + k]'(by omega) = L'[i + k]'(by omega) := ((unhide hso).2.2 (i + k) (by omega) (by omega) (.inr (Nat.le_refl _))).symm
      have hwin := win_succ L i k (by omega)
      rw [hxL] at hwin
      generalize L'[i + k]'(by omega) = x at *
      have Hwin := hide hwin
      have hval' := unhide hval
      rw [← hm, List.take_length, hm] at hval'
      have Hval := hide hval'
      clear hwin hxL hval'
      have hkI : (k : Int) < (k : Int) + 1 := by omega
      by_cases hge : o ≤ x
      · obtain ⟨d, hd⟩ : ∃ d : Nat, (x : Int) - o = d := ⟨x - o, by omega⟩
        have hst2 := store_u64 hown hgr (i + k) d ((x : Int) - o) hd
        have Hst := hide hst2
        have HD := hide hd
        clear hst2 hd
        go_wp2
        go_ret
        refine ⟨false, L'.set (i + k) d, rfl, (unhide Hst).1, (unhide Hst).2, sameOut_set (unhide hso) (by have := unhide HD; omega), ?_⟩
        rw [win_put _ _ _ _ (by omega), unhide Hwin]
        have h1 := unhide Hval
        have h2 : x = d + o := by have := unhide HD; omega
        rw [h2, Nat.mul_add]
        rw [Nat.mul_comm o] at h1
        simp only [Bool.false_eq_true, if_false]
        omega
      · obtain ⟨d, hd⟩ : ∃ d : Nat, (x : Int) + (1000000000 - o) = d := ⟨x + (1000000000 - o), by omega⟩
        have hst2 := store_u64 hown hgr (i + k) d ((x : Int) + (1000000000 - o)) hd
        have Hst := hide hst2
        have HD := hide hd
        clear hst2 hd
        go_wp2
        go_ret
        refine ⟨true, L'.set (i + k) d, rfl, (unhide Hst).1, (unhide Hst).2, sameOut_set (unhide hso) (by have := unhide HD; omega), ?_⟩
        rw [win_put _ _ _ _ (by omega), unhide Hwin]
        have h1 := unhide Hval
        have h2 : d + o = x + 1000000000 := by have := unhide HD; omega
        have h3 := congrArg (1000000000 ^ k * ·) h2
        simp only [Nat.mul_add] at h3
        rw [Nat.mul_comm o] at h1
        rw [Nat.pow_succ]
        simp only [if_true]
        omega
end Go.Proofs.YtpbnmhnbkfnaeaaGreatDoor
namespace Go.Proofs.YtpbnmhnbkfnaeaaGreatDoor
open Go.RowKit Nt

theorem putback_step {X Y V c c' y x d : Nat} {j : Nat} (h : X + c * 1000000000 ^ j = V + Y) (he : d + 1000000000 * c' = c + (x + y)) :
    X + 1000000000 ^ j * d + c' * 1000000000 ^ (j + 1) = V + 1000000000 ^ j * x + (Y + 1000000000 ^ j * y) := by
  rw [Nat.pow_succ]
  generalize 1000000000 ^ j = p at *
  have h2 := congrArg (p * ·) he
  simp only [Nat.mul_add] at h2
  rw [show c' * (p * 1000000000) = p * (1000000000 * c') from by rw [Nat.mul_left_comm, Nat.mul_comm c']]
  rw [Nat.mul_comm c p] at h
  omega

theorem own_drewN {w : World} {base : Nat} {e : TypeId} {size : Nat} {v : Value} {n : Nat} {xs : List Value} (h : w.ownsRow base e size v n xs) (k : Nat) : (w.drewN k).ownsRow base e size v n xs := h
theorem grownBy_drewN {w wr : World} {r : Option Nat} (h : w.grownBy wr r) (k : Nat) : w.grownBy (wr.drewN k) r := ⟨h.os, h.tape, h.output, h.size, h.block⟩

set_option maxRecDepth 100000 in
set_option maxHeartbeats 4000000 in
theorem putBack_c (L ys : List Nat) (g gb i m N cap capb base : Nat) (w : World) (hm : ys.length = m) (hNl : L.length = N) (hN : N ≤ 2000000) (hi : i + m + 1 ≤ N) (hcap : m + 1 ≤ cap)
    (hL : w.ownsRow base 173 1 (.slice (some ⟨g, 0, none⟩) N N) N (u64s L)) (hY : w.ownsRow 0 173 1 (.slice (some ⟨gb, 0, none⟩) m capb) m (u64s ys)) (hgg : gb ≠ g)
    (hLd : ∀ d ∈ L, d < 1000000000) (hYd : ∀ d ∈ ys, d < 1000000000) :
    Calls Tryz.prog 204 #[.slice (some ⟨g, i, none⟩) (m + 1) cap, .slice (some ⟨gb, 0, none⟩) m capb] w fun e w' =>
      ∃ (up : Bool) (L' : List Nat), e = .returned (.bool up) ∧ w'.ownsRow base 173 1 (.slice (some ⟨g, 0, none⟩) N N) N (u64s L') ∧ w.grownBy w' (some g) ∧ sameOut L L' i (m + 1) ∧
        win L' i (m + 1) + (if up then 1000000000 ^ (m + 1) else 0) = win L i (m + 1) + ofd 1000000000 ys := by
  have HLd := hide hLd
  have HYd := hide hYd
  have HL := hide hL
  have HY := hide hY
  clear hLd hYd hL hY
  go_enter Tryz.func204, Tryz.ntmps204
  go_wp2
  go_loopw [5, 10] (fun cy j wr => ∃ (k c : Nat) (L' : List Nat), k ≤ m ∧ cy = .int .u64 c ∧ c ≤ 1 ∧ j = .int .i64 k ∧ wr.ownsRow base 173 1 (.slice (some ⟨g, 0, none⟩) N N) N (u64s L') ∧ w.grownBy wr (some g) ∧
      Hid (sameOut L L' i k) ∧ Hid (win L' i k + c * 1000000000 ^ k = win L i k + ofd 1000000000 (ys.take k)))
    (fun _ j _ => m - (intOf j).toNat)
  case atStart =>
    exact ⟨0, 0, L, Nat.zero_le _, rfl, by omega, rfl, unhide HL, World.grownBy.refl _ _, hide (sameOut_refl (unhide HLd) _ _), hide (by simp [win_zero, ofd])⟩
  case round =>
    obtain ⟨k, c, L', hk, rfl, hc, rfl, hown, hgr, hso, hval⟩ := hrel
    by_cases hlt : k < m
    · have hL'l : L'.length = N := (unhide hso).1.trans hNl
      have hcy := (unhide HY).kept hgr (.inr (by simp [Value.ownBlock]; omega))
      have hcy := hcy.cellAt k (by omega)
      rw [u64s_get _ _ (by omega)] at hcy
      have hcx := hown.cellAt (i + k) (by omega)
      rw [u64s_get _ _ (by omega)] at hcx
      have hfr := hown.frozenAt (i + k)
      have hy9 : ys[k]'(by omega) < 1000000000 := unhide HYd _ (List.getElem_mem _)
      have hx9 : L'[i + k]'(by omega) < 1000000000 := (unhide hso).2.1 _ (List.getElem_mem _)
      have hxL : L[i + k]'(by omega) = L'[i + k]'(by omega) := ((unhide hso).2.2 (i + k) (by omega) (by omega) (.inr (Nat.le_refl _))).symm
      have hwin := win_succ L i k (by omega)
      have hofd : ofd 1000000000 (ys.take (k + 1)) = ofd 1000000000 (ys.take k) + 1000000000 ^ k * ys[k]'(by omega) := by
        rw [List.take_succ_eq_append_getElem (by omega), ofd_snoc, List.length_take, Nat.min_eq_left (by omega)]
      rw [hxL] at hwin
      generalize ys[k]'(by omega) = y at *
      generalize L'[i + k]'(by omega) = x at *
      have Hwin := hide hwin
      have Hofd := hide hofd
      have hstep := fun d c' => @putback_step (win L' i k) (ofd 1000000000 (ys.take k)) (win L i k) c c' y x d k (unhide hval)
      have Hstep := hide hstep
      clear hwin hofd hstep hxL
      obtain ⟨d, hd⟩ : ∃ d : Nat, ((c : Int) + (x + y)) % 1000000000 = d := ⟨(c + (x + y)) % 1000000000, by omega⟩
      obtain ⟨c2, hc2⟩ : ∃ d : Nat, ((c : Int) + (x + y)) / 1000000000 = d := ⟨(c + (x + y)) / 1000000000, by omega⟩
      have hkI : (k : Int) < (m : Int) + 1 := by omega
      have hkI2 : (k : Int) < (m : Int) := by omega
      have hdl : d < 1000000000 := by omega
      have hsum : Hid (d + 1000000000 * c2 = c + (x + y)) := by show _ = _; omega
      have hc21 : c2 ≤ 1 := by omega
      have hst := fun nq => store_u64 (own_drewN hown nq) (grownBy_drewN hgr nq) (i + k) d (d : Int) rfl
      have Hst := hide hst
      clear hst
      go_wp2
      go_quiet (fail)
      go_wp2
      go_roundw
      case rel =>
        refine ⟨k + 1, c2, L'.set (i + k) d, by omega, by rw [hc2], hc21, by go_num, (unhide Hst nq).1, (unhide Hst nq).2, hide (sameOut_set (unhide hso) hdl), ?_⟩
        show _ = _
        rw [win_put _ _ _ _ (by omega), unhide Hofd, unhide Hwin]
        exact unhide Hstep d c2 (unhide hsum)
      case measure => simp [intOf]; omega
    · have hkm : k = m := by omega
      subst hkm
      have hL'l : L'.length = N := (unhide hso).1.trans hNl
      have hcx := hown.cellAt (i + k) (by omega)
      rw [u64s_get _ _ (by omega)] at hcx
      have hfr := hown.frozenAt (i + k)
      have hx9 : L'[i + k]'(by omega) < 1000000000 := (unhide hso).2.1 _ (List.getElem_mem _)
      have hxL : L[i + k]'(by omega) = L'[i + k]'(by omega) := ((unhide hso).2.2 (i + k) (by omega) (by omega) (.inr (Nat.le_refl _))).symm
      have hwin := win_succ L i k (by omega)
      rw [hxL] at hwin
      generalize L'[i + k]'(by omega) = x at *
      have Hwin := hide hwin
      have hval' := unhide hval
      rw [← hm, List.take_length, hm] at hval'
      have Hval := hide hval'
      clear hwin hxL hval'
      have hkI : (k : Int) < (k : Int) + 1 := by omega
      obtain ⟨d, hd⟩ : ∃ d : Nat, ((c : Int) + x) % 1000000000 = d := ⟨(c + x) % 1000000000, by omega⟩
      have hdl : d < 1000000000 := by omega
      have hst := store_u64 hown hgr (i + k) d (d : Int) rfl
      have Hst := hide hst
      clear hst
      by_cases hup : c + x = 1000000000
      · have hq : ((c : Int) + x == 1000000000) = true := by rw [beq_iff_eq]; omega
        have Hup := hide hup
        clear hup
        go_wp2
        go_ret
        refine ⟨true, L'.set (i + k) d, rfl, (unhide Hst).1, (unhide Hst).2, sameOut_set (unhide hso) hdl, ?_⟩
        rw [win_put _ _ _ _ (by omega), unhide Hwin]
        have h1 := unhide Hval
        have h2 : d = 0 := by have := unhide Hup; omega
        have h3 := congrArg (1000000000 ^ k * ·) (unhide Hup)
        simp only [Nat.mul_add] at h3
        rw [Nat.mul_comm c] at h1
        rw [Nat.pow_succ, h2]
        simp only [if_true]
        omega
      · have hq : ((c : Int) + x == 1000000000) = false := by rw [beq_eq_false_iff_ne]; omega
        have Hup := hide hup
        clear hup
        go_wp2
        go_ret
        refine ⟨false, L'.set (i + k) d, rfl, (unhide Hst).1, (unhide Hst).2, sameOut_set (unhide hso) hdl, ?_⟩
        rw [win_put _ _ _ _ (by omega), unhide Hwin]
        have h1 := unhide Hval
        have h2 : d = c + x := by have := unhide Hup; omega
        rw [h2, Nat.mul_add]
        rw [Nat.mul_comm c] at h1
        simp only [Bool.false_eq_true, if_false]
        omega
end Go.Proofs.YtpbnmhnbkfnaeaaGreatDoor
namespace Go.Proofs.YtpbnmhnbkfnaeaaGreatDoor
open Go.RowKit Nt

theorem ofd_take_drop (b : Nat) (l : List Nat) (k : Nat) (h : k ≤ l.length) : ofd b l = ofd b (l.take k) + b ^ k * ofd b (l.drop k) := by
  conv => lhs; rw [← List.take_append_drop k l]
  rw [ofd_append, List.length_take, Nat.min_eq_left h]

theorem top_zero {l : List Nat} {m : Nat} (h : ofd 1000000000 l < 1000000000 ^ m) (hm : m ≤ l.length) : ofd 1000000000 (l.drop m) = 0 ∧ ofd 1000000000 l = ofd 1000000000 (l.take m) := by
  have e := ofd_take_drop 1000000000 l m hm
  rcases Nat.eq_zero_or_pos (ofd 1000000000 (l.drop m)) with h0 | h0
  · exact ⟨h0, by rw [e, h0]; simp⟩
  · have := Nat.mul_le_mul_left (1000000000 ^ m) h0
    omega

theorem guess_ge {V Y top yl p : Nat} (hV : V < (top + 1) * p) (hY : yl * p ≤ Y) (hyl : 0 < yl) : V / Y ≤ top / yl := by
  rw [Nat.le_div_iff_mul_le hyl]
  have h1 : V / Y * (yl * p) ≤ V := Nat.le_trans (Nat.mul_le_mul_left _ hY) (Nat.div_mul_le_self V Y)
  rw [← Nat.mul_assoc] at h1
  have h2 : V / Y * yl * p < (top + 1) * p := by omega
  have := Nat.lt_of_mul_lt_mul_right h2
  omega

/-- what stands at the window and above is below the window's room -/
theorem over_V {L : List Nat} {i m Y : Nat} (hl : i + m + 1 ≤ L.length) (hd : ∀ d ∈ L, d < 1000000000) (hR : ofd 1000000000 (L.drop (i + 1)) < Y) (hY : Y < 1000000000 ^ m) :
    ofd 1000000000 (L.drop i) = win L i (m + 1) ∧ ofd 1000000000 (L.drop (i + m + 1)) = 0 ∧ win L i (m + 1) < 1000000000 * Y := by
  have hi : i < L.length := by omega
  have e : L.drop i = L[i] :: L.drop (i + 1) := List.drop_eq_getElem_cons hi
  have hx : L[i] < 1000000000 := hd _ (List.getElem_mem hi)
  have hV : ofd 1000000000 (L.drop i) < 1000000000 * Y := by
    rw [e]; simp only [ofd]
    have := Nat.mul_le_mul_left 1000000000 (Nat.succ_le_of_lt hR)
    rw [Nat.mul_succ] at this
    omega
  have hV2 : ofd 1000000000 (L.drop i) < 1000000000 ^ (m + 1) := by
    rw [Nat.pow_succ, Nat.mul_comm]
    exact Nat.lt_of_lt_of_le hV (Nat.mul_le_mul_left _ (Nat.le_of_lt hY))
  have ht := top_zero hV2 (by simp; omega)
  rw [List.drop_drop] at ht
  refine ⟨ht.2, ?_, ?_⟩
  · rw [show i + m + 1 = i + (m + 1) from by omega]; exact ht.1
  · rw [← show ofd 1000000000 (L.drop i) = win L i (m + 1) from ht.2]; exact hV

theorem sameOut_take {L L' : List Nat} {i k : Nat} (h : sameOut L L' i k) : L'.take i = L.take i := by
  apply List.ext_getElem
  · simp [h.1]
  · intro t h1 h2
    simp only [List.getElem_take]
    have : t < i := by simp at h1; omega
    exact h.2.2 t _ _ (.inl this)
theorem sameOut_drop {L L' : List Nat} {i k : Nat} (h : sameOut L L' i k) : L'.drop (i + k) = L.drop (i + k) := by
  apply List.ext_getElem
  · simp [h.1]
  · intro t h1 h2
    simp only [List.getElem_drop]
    exact h.2.2 _ _ _ (.inr (by omega))

theorem over_core (b T p li Y D R W q : Nat) (h : li + b * R = W + q * Y) : T + p * li + p * b * (Y * D + R) = T + p * (Y * (q + b * D) + W) := by
  have key : li + b * (Y * D + R) = Y * (q + b * D) + W := by
    rw [Nat.mul_add, Nat.mul_add, Nat.mul_left_comm Y, Nat.mul_comm Y q]
    omega
  rw [← key, Nat.mul_add p, Nat.mul_assoc, Nat.add_assoc]

theorem over_step_b (b : Nat) {L L' O : List Nat} {i Y X q W V : Nat} (hi : i < L.length) (hO : i < O.length)
    (hinv : X = ofd b (L.take (i + 1)) + b ^ (i + 1) * (Y * ofd b (O.drop (i + 1)) + ofd b (L.drop (i + 1))))
    (hV : ofd b (L.drop i) = V) (htk : L'.take i = L.take i) (hW : ofd b (L'.drop i) = W) (hw : W + q * Y = V) :
    X = ofd b (L'.take i) + b ^ i * (Y * ofd b ((O.set i q).drop i) + ofd b (L'.drop i)) := by
  have e : L.drop i = L[i] :: L.drop (i + 1) := List.drop_eq_getElem_cons hi
  rw [e] at hV
  simp only [ofd] at hV
  rw [hW, htk, List.drop_eq_getElem_cons (l := O.set i q) (by simpa using hO), List.getElem_set_self, List.drop_set_of_lt (by omega)]
  simp only [ofd]
  rw [hinv, List.take_succ_eq_append_getElem hi, ofd_snoc, List.length_take, Nat.min_eq_left (by omega), Nat.pow_succ]
  exact over_core b _ _ _ _ _ _ _ _ (hV.trans hw.symm)

theorem over_rest (b : Nat) {L L' : List Nat} {i k : Nat} (hl : i + k ≤ L'.length) (hdr : L'.drop (i + k) = L.drop (i + k)) (h0 : ofd b (L.drop (i + k)) = 0) : ofd b (L'.drop i) = ofd b ((L'.drop i).take k) := by
  rw [ofd_take_drop b (L'.drop i) k (by simp; omega), List.drop_drop, hdr, h0, Nat.mul_zero, Nat.add_zero]

theorem over_step {L L' O : List Nat} {i m Y X q : Nat} (hl : i + m + 1 ≤ L.length) (hO : i < O.length) (hd : ∀ d ∈ L, d < 1000000000) (hY : Y < 1000000000 ^ m)
    (hinv : X = ofd 1000000000 (L.take (i + 1)) + 1000000000 ^ (i + 1) * (Y * ofd 1000000000 (O.drop (i + 1)) + ofd 1000000000 (L.drop (i + 1)))) (hR : ofd 1000000000 (L.drop (i + 1)) < Y)
    (hso : sameOut L L' i (m + 1)) (hw : win L' i (m + 1) + q * Y = win L i (m + 1)) (hlt : win L' i (m + 1) < Y) :
    X = ofd 1000000000 (L'.take i) + 1000000000 ^ i * (Y * ofd 1000000000 ((O.set i q).drop i) + ofd 1000000000 (L'.drop i)) ∧ ofd 1000000000 (L'.drop i) < Y := by
  obtain ⟨h1, h2, _⟩ := over_V hl hd hR hY
  have hL' : ofd 1000000000 (L'.drop i) = win L' i (m + 1) :=
    over_rest 1000000000 (by have := hso.1; omega) (sameOut_drop hso) h2
  have hi : i < L.length := Nat.lt_of_lt_of_le (Nat.lt_of_le_of_lt (Nat.le_add_right i m) (Nat.lt_succ_self _)) hl
  exact ⟨over_step_b 1000000000 hi hO hinv h1 (sameOut_take hso) hL' hw, hL' ▸ hlt⟩

/-- the guess, once it takes off no more than there is -/
theorem over_exact {V Y W q : Nat} (hw : W + q * Y = V) (hq : V / Y ≤ q) (hY : 0 < Y) : W < Y := by
  have h1 : q ≤ V / Y := by
    rw [Nat.le_div_iff_mul_le hY]; omega
  have : q = V / Y := by omega
  have h2 := Nat.div_add_mod V Y
  rw [← this, Nat.mul_comm] at h2
  have := Nat.mod_lt V hY
  omega

theorem over_more {V Y W q p : Nat} (hw : W + q * Y = V + p) (hW : W < p) : V / Y < q := by
  have hY : 0 < Y := by
    rcases Nat.eq_zero_or_pos Y with h | h
    · subst h; simp at hw; omega
    · exact h
  rw [Nat.div_lt_iff_lt_mul hY]
  omega

theorem win_lt {L : List Nat} (hd : ∀ d ∈ L, d < 1000000000) (i k : Nat) (h : i + k ≤ L.length) : win L i k < 1000000000 ^ k := by
  have := ofd_lt (b := 1000000000) ((L.drop i).take k) (fun d hd' => hd d (List.mem_of_mem_drop (List.mem_of_mem_take hd')))
  rw [List.length_take, List.length_drop, Nat.min_eq_left (by omega)] at this
  exact this

/-- the two groups ahead of a window, and what is below them -/
theorem win_top {L : List Nat} (hd : ∀ d ∈ L, d < 1000000000) (i m : Nat) (h : i + (m + 1) < L.length) :
    win L i (m + 1 + 1) < (L[i + (m + 1)] * 1000000000 + L[i + m] + 1) * 1000000000 ^ m := by
  rw [win_succ L i (m + 1) h, win_succ L i m (by omega), Nat.pow_succ]
  have := win_lt hd i m (by omega)
  generalize L[i + (m + 1)] = a
  generalize L[i + m] = b
  generalize 1000000000 ^ m = p at *
  rw [Nat.add_mul, Nat.add_mul, Nat.mul_assoc a, Nat.mul_comm p b, Nat.mul_comm p 1000000000, Nat.mul_comm (1000000000 * p) a]
  omega

theorem top_le {ys : List Nat} {m : Nat} (h : ys.length = m + 1) : ys[m] * 1000000000 ^ m ≤ ofd 1000000000 ys := by
  have := ofd_ge 1000000000 ys m (by omega)
  rw [Nat.mul_comm]; exact this

/-- the scale -/
theorem scale_pos {y : Nat} (h : y < 1000000000) : 0 < 1000000000 / (y + 1) := Nat.div_pos (by omega) (by omega)
theorem scale_lt {y : Nat} (h : 0 < y) : 1000000000 / (y + 1) < 1000000000 := Nat.div_lt_self (by omega) (by omega)

/-- made greater, it has as many groups -/
theorem scaled_len {y s m : Nat} {ys : List Nat} (hy : ys = gr y) (hm : ys.length = m + 1) (hs : 1000000000 / (ys[m] + 1) = s) (hs0 : 0 < s) : (gr (y * s)).length = m + 1 ∧ y * s < 1000000000 ^ (m + 1) := by
  have hyd : ∀ d ∈ ys, d < 1000000000 := by rw [hy]; exact gr_lt y
  have hyo : ofd 1000000000 ys = y := by rw [hy]; exact gr_ofd y
  have h1 : y < (ys[m] + 1) * 1000000000 ^ m := by
    have e := ofd_split 1000000000 ys m (by omega)
    rw [show ys.drop (m + 1) = [] from List.drop_eq_nil_of_le (by omega)] at e
    simp only [ofd, Nat.mul_zero, Nat.add_zero] at e
    have h2 := ofd_lt (b := 1000000000) (ys.take m) (fun d hd => hyd d (List.mem_of_mem_take hd))
    rw [List.length_take, Nat.min_eq_left (by omega)] at h2
    rw [hyo] at e
    rw [Nat.add_mul, e, Nat.mul_comm]
    omega
  have h3 : (ys[m] + 1) * s ≤ 1000000000 := by rw [← hs, Nat.mul_comm]; exact Nat.div_mul_le_self _ _
  have h4 : y * s < 1000000000 ^ (m + 1) := by
    have h5 : y * s < (ys[m] + 1) * 1000000000 ^ m * s := Nat.mul_lt_mul_of_pos_right h1 hs0
    rw [Nat.mul_right_comm] at h5
    have h6 : (ys[m] + 1) * s * 1000000000 ^ m ≤ 1000000000 * 1000000000 ^ m := Nat.mul_le_mul_right _ h3
    rw [Nat.pow_succ, Nat.mul_comm (1000000000 ^ m)]
    omega
  refine ⟨?_, h4⟩
  have h7 : (gr (y * s)).length ≤ m + 1 := dg_len_le (by omega) h4
  have h8 : (gr y).length ≤ (gr (y * s)).length := gr_len_le (Nat.le_mul_of_pos_right y hs0)
  rw [← hy] at h8
  omega

theorem pow_len_le {y m : Nat} (h : (gr y).length = m + 1) : 1000000000 ^ m ≤ y := by
  rcases Nat.lt_or_ge y (1000000000 ^ m) with h1 | h1
  · have := dg_len_le (b := 1000000000) (by omega) h1
    unfold gr at h; omega
  · exact h1

/-- the beginning: what is above the first window is below the divisor -/
theorem over_start {x y s n m : Nat} {L : List Nat} (hx : (gr x).length = n) (hy : (gr y).length = m + 1) (hmn : m + 1 ≤ n) (hL : ofd 1000000000 L = x * s) (hLl : L.length = n + 1) (hs0 : 0 < s) :
    ofd 1000000000 (L.drop (n - m)) < y * s := by
  have h1 : x < 1000000000 ^ n := by rw [← hx]; exact lt_pow_dg (by omega) x
  have h2 := pow_len_le hy
  have e := ofd_take_drop 1000000000 L (n - m) (by omega)
  rw [hL] at e
  have h3 : 1000000000 ^ (n - m) * ofd 1000000000 (L.drop (n - m)) ≤ x * s := by omega
  have h4 : x * s < 1000000000 ^ n * s := Nat.mul_lt_mul_of_pos_right h1 hs0
  have h5 : 1000000000 ^ n * s = 1000000000 ^ (n - m) * (1000000000 ^ m * s) := by
    rw [← Nat.mul_assoc, ← Nat.pow_add]; congr 2; omega
  have h6 : 1000000000 ^ (n - m) * (1000000000 ^ m * s) ≤ 1000000000 ^ (n - m) * (y * s) := Nat.mul_le_mul_left _ (Nat.mul_le_mul_right _ h2)
  have h7 : 1000000000 ^ (n - m) * ofd 1000000000 (L.drop (n - m)) < 1000000000 ^ (n - m) * (y * s) := by omega
  exact Nat.lt_of_mul_lt_mul_left h7

/-- the end -/
theorem over_end {x y s Q R : Nat} (h : x * s = y * s * Q + R) (hR : R < y * s) (hs : 0 < s) : x / y = Q ∧ R / s = x % y := by
  have hy : 0 < y := by
    rcases Nat.eq_zero_or_pos y with h0 | h0
    · subst h0; simp at hR
    · exact h0
  have hQ : x / y = Q := by
    have h1 : x * s / (y * s) = Q := (ow_end h hR).1
    rwa [Nat.mul_div_mul_right _ _ hs] at h1
  refine ⟨hQ, ?_⟩
  have h2 : x * s % (y * s) = R := (ow_end h hR).2
  rw [Nat.mul_mod_mul_right] at h2
  rw [← h2, Nat.mul_div_cancel _ hs]
end Go.Proofs.YtpbnmhnbkfnaeaaGreatDoor
