/- A part of the proof, put together out of smaller texts: each piece says what it is for. -/
import Derived.Test.YtpbnmhnbkfnaeaaGreatDoorM3
import Derived.Deep.RegionWith
import Derived.Deep.RegionHeld3
import Derived.Handy
import Derived.Laws.CopyOwn
import Derived.BigRegion
import Derived.Lib.OthersKept
namespace Go.Proofs.YtpbnmhnbkfnaeaaGreatDoor
open Go.RowKit Nt

/-- a made block -/
def AtC (w : World) (b : Nat) (cs : Array Value) (T : TypeId) : Prop := w.heap[b]? = some (.cells cs T (0, 0))
theorem AtC.lt {w : World} {b : Nat} {cs : Array Value} {T : TypeId} (h : AtC w b cs T) : b < w.heap.size := (Array.getElem?_eq_some_iff.1 h).1
theorem AtC.new (w : World) (cs : Array Value) (T : TypeId) : AtC (w.alloc (.cells cs T)) w.heap.size cs T := by
  show (w.heap.push _)[w.heap.size]? = _; rw [Array.getElem?_push, if_pos rfl]
theorem AtC.below {w w' : World} {b : Nat} {cs : Array Value} {T : TypeId} (h : AtC w b cs T) (k : Below w.heap.size w w') : AtC w' b cs T := (k.block b h.lt).trans h
theorem AtC.alloc {w : World} {b : Nat} {cs : Array Value} {T : TypeId} (h : AtC w b cs T) (o : Obj) : AtC (w.alloc o) b cs T := h.below ((Below.refl _ _).alloc (Nat.le_refl _) o)
theorem AtC.drew {w : World} {b : Nat} {cs : Array Value} {T : TypeId} (h : AtC w b cs T) : AtC w.drew b cs T := h
theorem AtC.c {w : World} {b : Nat} {cs : Array Value} {T : TypeId} (h : AtC w b cs T) (j : Nat) : w.cell? ⟨b, j, none⟩ = cs[j]? := by unfold AtC at h; simp [World.cell?, h]
theorem AtC.f {w : World} {b : Nat} {cs : Array Value} {T : TypeId} (h : AtC w b cs T) (j : Nat) : w.frozen? ⟨b, j, none⟩ = false := by unfold AtC at h; simp [World.frozen?, h]

theorem far2 {w : World} {b i j : Nat} {u v : Value} {a : Addr} (h : b ≠ a.block) : ((w.setCell ⟨b, i, none⟩ u).setCell ⟨b, j, none⟩ v).cell? a = w.cell? a := by
  rw [World.cell?_setCell_far _ _ _ _ h, World.cell?_setCell_far _ _ _ _ h]

/-- a signed number -/
def wholeV (n : Bool) (v : Value) : Value := .agg #[.bool n, v]
def plusW (a b : Bool × Nat) : Bool × Nat := if a.1 = b.1 then (a.1, a.2 + b.2) else if a.2 < b.2 then (b.1, b.2 - a.2) else (a.1, a.2 - b.2)
/-- .. as it lies in memory -/
def isWhole (w : World) (u : Value) (a : Bool × Nat) : Prop := ∃ v, u = wholeV a.1 v ∧ isNat w v a.2
/-- .. in a block from a number on -/
def isWholeB (w : World) (base : Nat) (u : Value) (a : Bool × Nat) : Prop := ∃ v, u = wholeV a.1 v ∧ isNatB w base v a.2
theorem isWhole.below {w w' : World} {u : Value} {a : Bool × Nat} (h : isWhole w u a) (k : Below w.heap.size w w') : isWhole w' u a := by
  obtain ⟨v, rfl, hv⟩ := h; exact ⟨v, rfl, isNat_below hv k⟩

theorem isNatB_set {w : World} {base b i : Nat} {v u : Value} {x : Nat} (h : isNatB w base v x) (hb : b < base) : isNatB (w.setCell ⟨b, i, none⟩ u) base v x := ownsRow_setCell_below h hb u

set_option maxRecDepth 100000 in
set_option maxHeartbeats 4000000 in
theorem wNeg_c (n : Bool) (v : Value) (x : Nat) (w : World) (hx : isNat w v x) :
    Calls Tryz.prog 190 #[wholeV n v] w fun e w' => (∃ u, e = .returned u ∧ isWhole w' u (!n, x)) ∧ Below w.heap.size w w' := by
  obtain ⟨p, cap, rfl⟩ := own_slice hx
  have Hx := hide hx
  clear hx
  unfold wholeV
  go_enter Tryz.func190, Tryz.ntmps190
  go_wp2
  refine bodyPost_ret (v := .agg #[.bool (!n), .slice p (gr x).length cap]) (by simp [results, Tryz.results190, go_sem]) rfl ⟨⟨_, rfl, ⟨_, rfl, ?_⟩⟩, ?_⟩
  · exact isNat_below (unhide Hx) (((Below.refl _ _).alloc (Nat.le_refl _) _).alloc (by simp) _)
  · exact ((Below.refl _ _).alloc (Nat.le_refl _) _).alloc (by simp) _

set_option maxRecDepth 100000 in
set_option maxHeartbeats 4000000 in
theorem wTimes_c (n m : Bool) (v u : Value) (x y : Nat) (w : World) (hx : isNat w v x) (hy : isNat w u y) (hsx : (gr x).length ≤ 1000000) (hsy : (gr y).length ≤ 1000000) :
    Calls Tryz.prog 161 #[wholeV n v, wholeV m u] w fun e w' => (∃ z, e = .returned z ∧ isWholeB w' w.heap.size z (n != m, x * y)) ∧ Below w.heap.size w w' := by
  obtain ⟨p, cap, rfl⟩ := own_slice hx
  obtain ⟨q, cap2, rfl⟩ := own_slice hy
  obtain ⟨lx, hlx⟩ : ∃ l, (gr x).length = l := ⟨_, rfl⟩
  obtain ⟨ly, hly⟩ : ∃ l, (gr y).length = l := ⟨_, rfl⟩
  rw [hlx] at hx
  rw [hly] at hy
  rw [hlx, hly]
  have hW : Below w.heap.size w (((w.alloc (.cells #[.bool n, .slice p lx cap] 183)).alloc (.cells #[.bool m, .slice q ly cap2] 183)).alloc (.cells #[.bool false, .slice none 0 0] 183)) :=
    (((Below.refl _ _).alloc (Nat.le_refl _) _).alloc (by simp) _).alloc (by simp; omega) _
  have Hx := hide (isNat_below hx hW)
  have Hy := hide (isNat_below hy hW)
  have HW := hide hW
  have HA := hide (((AtC.new w #[.bool n, .slice p lx cap] 183).alloc (.cells #[.bool m, .slice q ly cap2] 183)).alloc (.cells #[.bool false, .slice none 0 0] 183))
  have HB := hide ((AtC.new (w.alloc (.cells #[.bool n, .slice p lx cap] 183)) #[.bool m, .slice q ly cap2] 183).alloc (.cells #[.bool false, .slice none 0 0] 183))
  have HC := hide (AtC.new ((w.alloc (.cells #[.bool n, .slice p lx cap] 183)).alloc (.cells #[.bool m, .slice q ly cap2] 183)) #[.bool false, .slice none 0 0] 183)
  have Hl := hide (And.intro hlx hly)
  clear hx hy hW hlx hly
  rw [World.size_alloc] at HB
  rw [World.size_alloc, World.size_alloc] at HC
  unfold wholeV
  go_enter Tryz.func161, Tryz.ntmps161
  go_wp2
  go_region_held3 (fun w' => w'.cell? ⟨w.heap.size, 0, none⟩ = some (.bool n) ∧ w'.cell? ⟨w.heap.size, 1, none⟩ = some (.slice p lx cap) ∧ w'.cell? ⟨w.heap.size + 1, 0, none⟩ = some (.bool m) ∧ w'.cell? ⟨w.heap.size + 1, 1, none⟩ = some (.slice q ly cap2)) (((try dsimp only); (repeat' apply And.intro) <;> (first | assumption | (rw [far2 (by first | (simp; done) | (simp; omega))]; assumption) | go_keep))) (first | (go_at_call 188; refine (times_c x y _ _ _ (by first | exact unhide Hx) (by first | exact unhide Hy) hsx hsy).mono ?_; rintro e w1 ⟨⟨z, rfl, hz⟩, hb1⟩; obtain ⟨zp, zc, rfl⟩ := own_slice hz; have hA := (unhide HA).drew.below hb1; have hB := (unhide HB).drew.below hb1; have hC := (unhide HC).drew.below hb1; have a0 : w1.cell? ⟨w.heap.size, 0, none⟩ = some (.bool n) := hA.c 0; have a1 : w1.cell? ⟨w.heap.size, 1, none⟩ = some (.slice p lx cap) := hA.c 1; have b0 : w1.cell? ⟨w.heap.size + 1, 0, none⟩ = some (.bool m) := hB.c 0; have b1 : w1.cell? ⟨w.heap.size + 1, 1, none⟩ = some (.slice q ly cap2) := hB.c 1; have c0 : w1.cell? ⟨w.heap.size + 1 + 1, 0, none⟩ = some (.bool false) := hC.c 0; have c1 : w1.cell? ⟨w.heap.size + 1 + 1, 1, none⟩ = some (.slice none 0 0) := hC.c 1; have cf := hC.f; have Hz := hide hz; have Hb1 := hide hb1; clear hA hB hC hz hb1))
  have hfin : Below w.heap.size w w1 := (unhide HW).drew.trans ((unhide Hb1).mono (unhide HW).drew.size)
  have hs := (unhide HC).drew.below (unhide Hb1) |>.lt
  have Hfin := hide hfin
  clear hfin
  go_wp2
  refine bodyPost_ret (v := .agg #[.bool (n != m), .slice zp (gr (x * y)).length zc]) (by simp [results, Tryz.results161, go_sem, c0, c1]; cases n <;> cases m <;> rfl) rfl ⟨⟨_, rfl, ⟨_, rfl, ?_⟩⟩, ?_⟩
  · have h0 := unhide Hz
    have h1 := isNatB_set h0 (b := w.heap.size + 1 + 1) (i := 0) (u := .bool (n != m)) (by simp)
    exact own_base (isNatB_set h1 (b := w.heap.size + 1 + 1) (i := 1) (by simp)) (by simp; omega)
  · exact ((unhide Hfin).setCell (by show w.heap.size ≤ w.heap.size + 1 + 1; omega) _).setCell (by show w.heap.size ≤ w.heap.size + 1 + 1; omega) _
end Go.Proofs.YtpbnmhnbkfnaeaaGreatDoor
namespace Go.Proofs.YtpbnmhnbkfnaeaaGreatDoor
open Go.RowKit Nt



theorem AtC.put2 {w : World} {b : Nat} {x y : Value} {T : TypeId} (h : AtC w b #[x, y] T) (u v : Value) : AtC ((w.setCell ⟨b, 0, none⟩ u).setCell ⟨b, 1, none⟩ v) b #[u, v] T := by
  have h1 : (w.setCell ⟨b, 0, none⟩ u).heap[b]? = some (.cells #[u, y] T (0, 0)) := by
    show (w.heap.modify b _)[b]? = _
    rw [Array.getElem?_modify, if_pos rfl, show w.heap[b]? = _ from h]
    rfl
  show ((w.setCell ⟨b, 0, none⟩ u).heap.modify b _)[b]? = _
  rw [Array.getElem?_modify, if_pos rfl, h1]
  rfl
theorem AtC.far2 {w : World} {b c : Nat} {cs : Array Value} {T : TypeId} (h : AtC w b cs T) (hc : b ≠ c) (u v : Value) (i j : Nat) : AtC ((w.setCell ⟨c, i, none⟩ u).setCell ⟨c, j, none⟩ v) b cs T := by
  unfold AtC; rw [Below.heap_setCell _ _ _ _ hc, Below.heap_setCell _ _ _ _ hc]; exact h

theorem plusW_same (n : Bool) (x y : Nat) : plusW (n, x) (n, y) = (n, x + y) := by simp [plusW]
theorem plusW_lt {n m : Bool} (h : n ≠ m) {x y : Nat} (hl : x < y) : plusW (n, x) (m, y) = (m, y - x) := by simp [plusW, h, hl]
theorem plusW_ge {n m : Bool} (h : n ≠ m) {x y : Nat} (hl : ¬ x < y) : plusW (n, x) (m, y) = (n, x - y) := by simp [plusW, h, hl]

set_option maxRecDepth 100000 in
set_option maxHeartbeats 4000000 in
theorem wPlus_same (n m : Bool) (v u : Value) (x y : Nat) (w : World) (hnm : n = m) (hx : isNat w v x) (hy : isNat w u y) (hsx : (gr x).length ≤ 1000000) (hsy : (gr y).length ≤ 1000000) :
    Calls Tryz.prog 189 #[wholeV n v, wholeV m u] w fun e w' => (∃ z, e = .returned z ∧ isWholeB w' w.heap.size z (plusW (n, x) (m, y))) ∧ Below w.heap.size w w' := by
  have hp : plusW (n, x) (m, y) = (n, x + y) := by rw [← hnm, plusW_same]
  rw [hp]
  clear hp
  have hb : (n == m) = true := by rw [hnm]; simp
  -- the two signed numbers in their boxes, the answer's box behind them
  obtain ⟨p, cap, rfl⟩ := own_slice hx
  obtain ⟨q, cap2, rfl⟩ := own_slice hy
  obtain ⟨lx, hlx⟩ : ∃ l, (gr x).length = l := ⟨_, rfl⟩
  obtain ⟨ly, hly⟩ : ∃ l, (gr y).length = l := ⟨_, rfl⟩
  rw [hlx] at hx
  rw [hly] at hy
  rw [hlx, hly]
  have hW : Below w.heap.size w (((w.alloc (.cells #[.bool n, .slice p lx cap] 183)).alloc (.cells #[.bool m, .slice q ly cap2] 183)).alloc (.cells #[.bool false, .slice none 0 0] 183)) :=
    (((Below.refl _ _).alloc (Nat.le_refl _) _).alloc (by simp) _).alloc (by simp; omega) _
  have Hx0 := hide hx
  have Hy0 := hide hy
  have Hx := hide (isNat_below hx hW)
  have Hy := hide (isNat_below hy hW)
  have HW := hide hW
  have HA := hide (((AtC.new w #[.bool n, .slice p lx cap] 183).alloc (.cells #[.bool m, .slice q ly cap2] 183)).alloc (.cells #[.bool false, .slice none 0 0] 183))
  have HB := hide ((AtC.new (w.alloc (.cells #[.bool n, .slice p lx cap] 183)) #[.bool m, .slice q ly cap2] 183).alloc (.cells #[.bool false, .slice none 0 0] 183))
  have HC := hide (AtC.new ((w.alloc (.cells #[.bool n, .slice p lx cap] 183)).alloc (.cells #[.bool m, .slice q ly cap2] 183)) #[.bool false, .slice none 0 0] 183)
  have Hl := hide (And.intro hlx hly)
  clear hx hy hW hlx hly
  rw [World.size_alloc] at HB
  rw [World.size_alloc, World.size_alloc] at HC
  unfold wholeV
  clear hnm
  go_enter Tryz.func189, Tryz.ntmps189
  go_wp2
  go_region_held3 (fun w' => w'.cell? ⟨w.heap.size, 0, none⟩ = some (.bool n) ∧ w'.cell? ⟨w.heap.size, 1, none⟩ = some (.slice p lx cap) ∧ w'.cell? ⟨w.heap.size + 1, 0, none⟩ = some (.bool m) ∧ w'.cell? ⟨w.heap.size + 1, 1, none⟩ = some (.slice q ly cap2)) (((try dsimp only); (repeat' apply And.intro) <;> (first | assumption | (rw [far2 (by first | (simp; done) | (simp; omega))]; assumption) | go_keep))) (first | (go_at_call 208; refine (plus_c x y _ _ _ (by first | exact unhide Hx) (by first | exact unhide Hy) hsx hsy).mono ?_; rintro e w1 ⟨⟨z, rfl, hz⟩, hb1⟩; obtain ⟨zp, zc, rfl⟩ := own_slice hz; have hA := (unhide HA).drew.below hb1; have hB := (unhide HB).drew.below hb1; have hC := (unhide HC).drew.below hb1; have a0 : w1.cell? ⟨w.heap.size, 0, none⟩ = some (.bool n) := hA.c 0; have a1 : w1.cell? ⟨w.heap.size, 1, none⟩ = some (.slice p lx cap) := hA.c 1; have b0 : w1.cell? ⟨w.heap.size + 1, 0, none⟩ = some (.bool m) := hB.c 0; have b1 : w1.cell? ⟨w.heap.size + 1, 1, none⟩ = some (.slice q ly cap2) := hB.c 1; have c0 : w1.cell? ⟨w.heap.size + 1 + 1, 0, none⟩ = some (.bool false) := hC.c 0; have c1 : w1.cell? ⟨w.heap.size + 1 + 1, 1, none⟩ = some (.slice none 0 0) := hC.c 1; have cf := hC.f; have Hz := hide hz; have Hb1 := hide hb1; clear hA hB hC hz hb1))
  have hfin : Below w.heap.size w w1 := (unhide HW).drew.trans ((unhide Hb1).mono (unhide HW).drew.size)
  have hs := (unhide HC).drew.below (unhide Hb1) |>.lt
  have Hfin := hide hfin
  clear hfin
  go_wp2
  refine bodyPost_ret (v := .agg #[.bool n, .slice zp (gr (x + y)).length zc]) (by simp [results, Tryz.results189, go_sem, c0, c1]) rfl ⟨⟨_, rfl, ⟨_, rfl, ?_⟩⟩, ?_⟩
  · have h0 := unhide Hz
    have h1 := isNatB_set h0 (b := w.heap.size + 1 + 1) (i := 0) (u := .bool n) (by simp)
    exact own_base (isNatB_set h1 (b := w.heap.size + 1 + 1) (i := 1) (by simp)) (by simp; omega)
  · exact ((unhide Hfin).setCell (by show w.heap.size ≤ w.heap.size + 1 + 1; omega) _).setCell (by show w.heap.size ≤ w.heap.size + 1 + 1; omega) _

set_option maxRecDepth 100000 in
set_option maxHeartbeats 4000000 in
theorem wPlus_ge (n m : Bool) (v u : Value) (x y : Nat) (w : World) (hnm : n ≠ m) (hl : ¬ x < y) (hx : isNat w v x) (hy : isNat w u y) (hsx : (gr x).length ≤ 1000000) (hsy : (gr y).length ≤ 1000000) :
    Calls Tryz.prog 189 #[wholeV n v, wholeV m u] w fun e w' => (∃ z, e = .returned z ∧ isWholeB w' w.heap.size z (plusW (n, x) (m, y))) ∧ Below w.heap.size w w' := by
  rw [plusW_ge hnm hl]
  have hb : (n == m) = false := by simp [hnm]
  have hd : decide (x < y) = false := decide_eq_false hl
  have hle : y ≤ x := by omega
  -- the two signed numbers in their boxes, the answer's box behind them
  obtain ⟨p, cap, rfl⟩ := own_slice hx
  obtain ⟨q, cap2, rfl⟩ := own_slice hy
  obtain ⟨lx, hlx⟩ : ∃ l, (gr x).length = l := ⟨_, rfl⟩
  obtain ⟨ly, hly⟩ : ∃ l, (gr y).length = l := ⟨_, rfl⟩
  rw [hlx] at hx
  rw [hly] at hy
  rw [hlx, hly]
  have hW : Below w.heap.size w (((w.alloc (.cells #[.bool n, .slice p lx cap] 183)).alloc (.cells #[.bool m, .slice q ly cap2] 183)).alloc (.cells #[.bool false, .slice none 0 0] 183)) :=
    (((Below.refl _ _).alloc (Nat.le_refl _) _).alloc (by simp) _).alloc (by simp; omega) _
  have Hx0 := hide hx
  have Hy0 := hide hy
  have Hx := hide (isNat_below hx hW)
  have Hy := hide (isNat_below hy hW)
  have HW := hide hW
  have HA := hide (((AtC.new w #[.bool n, .slice p lx cap] 183).alloc (.cells #[.bool m, .slice q ly cap2] 183)).alloc (.cells #[.bool false, .slice none 0 0] 183))
  have HB := hide ((AtC.new (w.alloc (.cells #[.bool n, .slice p lx cap] 183)) #[.bool m, .slice q ly cap2] 183).alloc (.cells #[.bool false, .slice none 0 0] 183))
  have HC := hide (AtC.new ((w.alloc (.cells #[.bool n, .slice p lx cap] 183)).alloc (.cells #[.bool m, .slice q ly cap2] 183)) #[.bool false, .slice none 0 0] 183)
  have Hl := hide (And.intro hlx hly)
  clear hx hy hW hlx hly
  rw [World.size_alloc] at HB
  rw [World.size_alloc, World.size_alloc] at HC
  unfold wholeV
  clear hnm hl
  go_enter Tryz.func189, Tryz.ntmps189
  go_wp2_with fail
  have h := less_c x y (.slice p lx cap) (.slice q ly cap2) _ (unhide Hx) (unhide Hy) (by omega) (by omega)
  refine h.mono ?_
  clear h
  rw [hd]
  rintro e w0 ⟨rfl, hb0⟩
  have hA0 := (unhide HA).below hb0
  have hB0 := (unhide HB).below hb0
  have hC0 := (unhide HC).below hb0
  have HW0 := hide ((unhide HW).trans (hb0.mono (unhide HW).size))
  have ca0 := hA0.c 0
  have ca1 := hA0.c 1
  have cb0 := hB0.c 0
  have cb1 := hB0.c 1
  have fa := hA0.f
  have fb := hB0.f
  simp at ca0 ca1 cb0 cb1
  have HA0 := hide hA0
  have HB0 := hide hB0
  have HC0 := hide hC0
  clear hA0 hB0 hC0 hb0
  -- the last region of plus where the signs differ: w0 the world, HA0 HB0 HC0 what stands in the boxes there (AtC, hidden), HW0 what is kept below, minus_c x y _ _ _ (by exact isNat_below (unhide Hx0) (unhide HW0).drew) (by exact isNat_below (unhide Hy0) (unhide HW0).drew) hle hsx contract, n the sign told, x - y the number told, w'.cell? ⟨w.heap.size, 0, none⟩ = some (.bool n) ∧ w'.cell? ⟨w.heap.size, 1, none⟩ = some (.slice p lx cap) ∧ w'.cell? ⟨w.heap.size + 1, 0, none⟩ = some (.bool m) ∧ w'.cell? ⟨w.heap.size + 1, 1, none⟩ = some (.slice q ly cap2) the cells' fact S
  go_wp2
  go_region_held3 (fun w' => w'.cell? ⟨w.heap.size, 0, none⟩ = some (.bool n) ∧ w'.cell? ⟨w.heap.size, 1, none⟩ = some (.slice p lx cap) ∧ w'.cell? ⟨w.heap.size + 1, 0, none⟩ = some (.bool m) ∧ w'.cell? ⟨w.heap.size + 1, 1, none⟩ = some (.slice q ly cap2)) (((try dsimp only); (repeat' apply And.intro) <;> (first | assumption | (rw [far2 (by first | (simp; done) | (simp; omega))]; assumption) | go_keep))) (first | (go_at_call 209; refine (minus_c x y _ _ _ (by exact isNat_below (unhide Hx0) (unhide HW0).drew) (by exact isNat_below (unhide Hy0) (unhide HW0).drew) hle hsx).mono ?_; rintro e w1 ⟨⟨z, rfl, hz⟩, hb1⟩; obtain ⟨zp, zc, rfl⟩ := own_slice hz; have hA := (unhide HA0).drew.below hb1; have hB := (unhide HB0).drew.below hb1; have hC := (unhide HC0).drew.below hb1; have a0 := hA.c 0; have a1 := hA.c 1; have b0 := hB.c 0; have b1 := hB.c 1; simp at a0 a1 b0 b1; have c0 : w1.cell? ⟨w.heap.size + 1 + 1, 0, none⟩ = some (.bool false) := hC.c 0; have c1 : w1.cell? ⟨w.heap.size + 1 + 1, 1, none⟩ = some (.slice none 0 0) := hC.c 1; have cf := hC.f; have Hz := hide hz; have Hb1 := hide hb1; clear hA hB hC hz hb1))
  have hbig : w.heap.size + 1 + 1 < (w0).heap.size := (unhide HC0).lt
  have hfin : Below w.heap.size w w1 := (unhide HW0).drew.trans ((unhide Hb1).mono (unhide HW0).drew.size)
  have hs := (unhide HC0).drew.below (unhide Hb1) |>.lt
  have Hfin := hide hfin
  clear hfin
  go_wp2
  refine bodyPost_ret (v := .agg #[.bool n, .slice zp (gr (x - y)).length zc]) (by simp [results, Tryz.results189, go_sem, c0, c1]) rfl ⟨⟨_, rfl, ⟨_, rfl, ?_⟩⟩, ?_⟩
  · have h0 := unhide Hz
    have h1 := isNatB_set h0 (b := w.heap.size + 1 + 1) (i := 0) (u := .bool n) (by simpa using hbig)
    exact own_base (isNatB_set h1 (b := w.heap.size + 1 + 1) (i := 1) (by simpa using hbig)) (by simp; omega)
  · exact ((unhide Hfin).setCell (by show w.heap.size ≤ w.heap.size + 1 + 1; omega) _).setCell (by show w.heap.size ≤ w.heap.size + 1 + 1; omega) _

set_option maxRecDepth 100000 in
set_option maxHeartbeats 4000000 in
theorem wPlus_lt (n m : Bool) (v u : Value) (x y : Nat) (w : World) (hnm : n ≠ m) (hl : x < y) (hx : isNat w v x) (hy : isNat w u y) (hsx : (gr x).length ≤ 1000000) (hsy : (gr y).length ≤ 1000000) :
    Calls Tryz.prog 189 #[wholeV n v, wholeV m u] w fun e w' => (∃ z, e = .returned z ∧ isWholeB w' w.heap.size z (plusW (n, x) (m, y))) ∧ Below w.heap.size w w' := by
  rw [plusW_lt hnm hl]
  have hb : (n == m) = false := by simp [hnm]
  have hd : decide (x < y) = true := decide_eq_true hl
  have hle : x ≤ y := by omega
  -- the two signed numbers in their boxes, the answer's box behind them
  obtain ⟨p, cap, rfl⟩ := own_slice hx
  obtain ⟨q, cap2, rfl⟩ := own_slice hy
  obtain ⟨lx, hlx⟩ : ∃ l, (gr x).length = l := ⟨_, rfl⟩
  obtain ⟨ly, hly⟩ : ∃ l, (gr y).length = l := ⟨_, rfl⟩
  rw [hlx] at hx
  rw [hly] at hy
  rw [hlx, hly]
  have hW : Below w.heap.size w (((w.alloc (.cells #[.bool n, .slice p lx cap] 183)).alloc (.cells #[.bool m, .slice q ly cap2] 183)).alloc (.cells #[.bool false, .slice none 0 0] 183)) :=
    (((Below.refl _ _).alloc (Nat.le_refl _) _).alloc (by simp) _).alloc (by simp; omega) _
  have Hx0 := hide hx
  have Hy0 := hide hy
  have Hx := hide (isNat_below hx hW)
  have Hy := hide (isNat_below hy hW)
  have HW := hide hW
  have HA := hide (((AtC.new w #[.bool n, .slice p lx cap] 183).alloc (.cells #[.bool m, .slice q ly cap2] 183)).alloc (.cells #[.bool false, .slice none 0 0] 183))
  have HB := hide ((AtC.new (w.alloc (.cells #[.bool n, .slice p lx cap] 183)) #[.bool m, .slice q ly cap2] 183).alloc (.cells #[.bool false, .slice none 0 0] 183))
  have HC := hide (AtC.new ((w.alloc (.cells #[.bool n, .slice p lx cap] 183)).alloc (.cells #[.bool m, .slice q ly cap2] 183)) #[.bool false, .slice none 0 0] 183)
  have Hl := hide (And.intro hlx hly)
  clear hx hy hW hlx hly
  rw [World.size_alloc] at HB
  rw [World.size_alloc, World.size_alloc] at HC
  unfold wholeV
  clear hnm hl
  go_enter Tryz.func189, Tryz.ntmps189
  go_wp2_with fail
  have h := less_c x y (.slice p lx cap) (.slice q ly cap2) _ (unhide Hx) (unhide Hy) (by omega) (by omega)
  refine h.mono ?_
  clear h
  rw [hd]
  rintro e w0 ⟨rfl, hb0⟩
  have hA0 := (unhide HA).below hb0
  have hB0 := (unhide HB).below hb0
  have hC0 := (unhide HC).below hb0
  have HW0 := hide ((unhide HW).trans (hb0.mono (unhide HW).size))
  have ca0 := hA0.c 0
  have ca1 := hA0.c 1
  have cb0 := hB0.c 0
  have cb1 := hB0.c 1
  have fa := hA0.f
  have fb := hB0.f
  simp at ca0 ca1 cb0 cb1
  have HA0 := hide ((hA0.put2 (.bool m) (.slice q ly cap2)).far2 (c := w.heap.size + 1) (by omega) (.bool n) (.slice p lx cap) 0 1)
  have HB0 := hide ((hB0.far2 (c := w.heap.size) (by omega) (.bool m) (.slice q ly cap2) 0 1).put2 (.bool n) (.slice p lx cap))
  have HC0 := hide ((hC0.far2 (c := w.heap.size) (by omega) (.bool m) (.slice q ly cap2) 0 1).far2 (c := w.heap.size + 1) (by omega) (.bool n) (.slice p lx cap) 0 1)
  have HW1 := hide (((((unhide HW0).setCell (p := ⟨w.heap.size, 0, none⟩) (Nat.le_refl _) (.bool m)).setCell (p := ⟨w.heap.size, 1, none⟩) (Nat.le_refl _) (.slice q ly cap2)).setCell (p := ⟨w.heap.size + 1, 0, none⟩) (by show w.heap.size ≤ w.heap.size + 1; omega) (.bool n)).setCell (p := ⟨w.heap.size + 1, 1, none⟩) (by show w.heap.size ≤ w.heap.size + 1; omega) (.slice p lx cap))
  clear hA0 hB0 hC0 hb0
  go_wp2
  clear ca0 ca1 cb0 cb1 fa fb
  generalize (((w0.setCell ⟨w.heap.size, 0, none⟩ (.bool m)).setCell ⟨w.heap.size, 1, none⟩ (.slice q ly cap2)).setCell ⟨w.heap.size + 1, 0, none⟩ (.bool n)).setCell ⟨w.heap.size + 1, 1, none⟩ (.slice p lx cap) = W1 at *
  have ca0 := (unhide HA0).c 0
  have ca1 := (unhide HA0).c 1
  have cb0 := (unhide HB0).c 0
  have cb1 := (unhide HB0).c 1
  simp at ca0 ca1 cb0 cb1
  -- the last region of plus where the signs differ: W1 the world, HA0 HB0 HC0 what stands in the boxes there (AtC, hidden), HW1 what is kept below, minus_c y x _ _ _ (by exact isNat_below (unhide Hy0) (unhide HW1).drew) (by exact isNat_below (unhide Hx0) (unhide HW1).drew) hle hsy contract, m the sign told, y - x the number told, w'.cell? ⟨w.heap.size, 0, none⟩ = some (.bool m) ∧ w'.cell? ⟨w.heap.size, 1, none⟩ = some (.slice q ly cap2) ∧ w'.cell? ⟨w.heap.size + 1, 0, none⟩ = some (.bool n) ∧ w'.cell? ⟨w.heap.size + 1, 1, none⟩ = some (.slice p lx cap) the cells' fact S
  go_wp2
  go_region_held3 (fun w' => w'.cell? ⟨w.heap.size, 0, none⟩ = some (.bool m) ∧ w'.cell? ⟨w.heap.size, 1, none⟩ = some (.slice q ly cap2) ∧ w'.cell? ⟨w.heap.size + 1, 0, none⟩ = some (.bool n) ∧ w'.cell? ⟨w.heap.size + 1, 1, none⟩ = some (.slice p lx cap)) (((try dsimp only); (repeat' apply And.intro) <;> (first | assumption | (rw [far2 (by first | (simp; done) | (simp; omega))]; assumption) | go_keep))) (first | (go_at_call 209; refine (minus_c y x _ _ _ (by exact isNat_below (unhide Hy0) (unhide HW1).drew) (by exact isNat_below (unhide Hx0) (unhide HW1).drew) hle hsy).mono ?_; rintro e w1 ⟨⟨z, rfl, hz⟩, hb1⟩; obtain ⟨zp, zc, rfl⟩ := own_slice hz; have hA := (unhide HA0).drew.below hb1; have hB := (unhide HB0).drew.below hb1; have hC := (unhide HC0).drew.below hb1; have a0 := hA.c 0; have a1 := hA.c 1; have b0 := hB.c 0; have b1 := hB.c 1; simp at a0 a1 b0 b1; have c0 : w1.cell? ⟨w.heap.size + 1 + 1, 0, none⟩ = some (.bool false) := hC.c 0; have c1 : w1.cell? ⟨w.heap.size + 1 + 1, 1, none⟩ = some (.slice none 0 0) := hC.c 1; have cf := hC.f; have Hz := hide hz; have Hb1 := hide hb1; clear hA hB hC hz hb1))
  have hbig : w.heap.size + 1 + 1 < (W1).heap.size := (unhide HC0).lt
  have hfin : Below w.heap.size w w1 := (unhide HW1).drew.trans ((unhide Hb1).mono (unhide HW1).drew.size)
  have hs := (unhide HC0).drew.below (unhide Hb1) |>.lt
  have Hfin := hide hfin
  clear hfin
  go_wp2
  refine bodyPost_ret (v := .agg #[.bool m, .slice zp (gr (y - x)).length zc]) (by simp [results, Tryz.results189, go_sem, c0, c1]) rfl ⟨⟨_, rfl, ⟨_, rfl, ?_⟩⟩, ?_⟩
  · have h0 := unhide Hz
    have h1 := isNatB_set h0 (b := w.heap.size + 1 + 1) (i := 0) (u := .bool m) (by simpa using hbig)
    exact own_base (isNatB_set h1 (b := w.heap.size + 1 + 1) (i := 1) (by simpa using hbig)) (by simp; omega)
  · exact ((unhide Hfin).setCell (by show w.heap.size ≤ w.heap.size + 1 + 1; omega) _).setCell (by show w.heap.size ≤ w.heap.size + 1 + 1; omega) _

theorem wPlus_c (n m : Bool) (v u : Value) (x y : Nat) (w : World) (hx : isNat w v x) (hy : isNat w u y) (hsx : (gr x).length ≤ 1000000) (hsy : (gr y).length ≤ 1000000) :
    Calls Tryz.prog 189 #[wholeV n v, wholeV m u] w fun e w' => (∃ z, e = .returned z ∧ isWholeB w' w.heap.size z (plusW (n, x) (m, y))) ∧ Below w.heap.size w w' := by
  by_cases hnm : n = m
  · exact wPlus_same n m v u x y w hnm hx hy hsx hsy
  · by_cases hl : x < y
    · exact wPlus_lt n m v u x y w hnm hl hx hy hsx hsy
    · exact wPlus_ge n m v u x y w hnm hl hx hy hsx hsy
end Go.Proofs.YtpbnmhnbkfnaeaaGreatDoor
namespace Go.Proofs.YtpbnmhnbkfnaeaaGreatDoor
open Go.RowKit Nt

/-- a fraction: what is above and below, each with a sign -/
def fracV (n m : Bool) (v u : Value) : Value := .agg #[.bool n, v, .bool m, u]



end Go.Proofs.YtpbnmhnbkfnaeaaGreatDoor
namespace Go.Proofs.YtpbnmhnbkfnaeaaGreatDoor
open Go.RowKit Nt

/-- k groups from the i-th on, as a number -/
def win (L : List Nat) (i k : Nat) : Nat := ofd 1000000000 ((L.drop i).take k)

theorem win_zero (L : List Nat) (i : Nat) : win L i 0 = 0 := by simp [win, ofd]
theorem win_succ (L : List Nat) (i k : Nat) (h : i + k < L.length) : win L i (k + 1) = win L i k + 1000000000 ^ k * L[i + k] := by
  unfold win
  have hl : (L.drop i).length = L.length - i := List.length_drop
  rw [List.take_succ_eq_append_getElem (by omega), ofd_snoc, List.length_take, Nat.min_eq_left (by omega), List.getElem_drop]
theorem win_set (L : List Nat) (i k j d : Nat) (h : i + k ≤ j) : win (L.set j d) i k = win L i k := by
  unfold win
  congr 1
  apply List.ext_getElem
  · simp
  · intro t h1 h2
    simp only [List.getElem_take, List.getElem_drop]
    rw [List.getElem_set_ne]
    simp only [List.length_take, List.length_drop] at h2
    omega

theorem win_put (L : List Nat) (i k d : Nat) (h : i + k < L.length) : win (L.set (i + k) d) i (k + 1) = win L i k + 1000000000 ^ k * d := by
  rw [win_succ _ _ _ (by simpa using h), win_set _ _ _ _ _ (Nat.le_refl _), List.getElem_set_self]

theorem grownBy_trans {w a b : World} {g : Nat} (h : w.grownBy a (some g)) (k : a.grownBy b (some g)) : w.grownBy b (some g) :=
  ⟨k.os.trans h.os, k.tape.trans h.tape, k.output.trans h.output, Nat.le_trans h.size k.size, fun j hj hne => (k.block j (Nat.lt_of_lt_of_le hj h.size) hne).trans (h.block j hj hne)⟩

theorem store_u64 {w wr : World} {base e g N cap : Nat} {L : List Nat} (hown : wr.ownsRow base e 1 (.slice (some ⟨g, 0, none⟩) N cap) N (u64s L)) (hgr : w.grownBy wr (some g)) (j d : Nat) (v : Int) (hv : v = (d : Int)) :
    (wr.setCell ⟨g, j, none⟩ (.int .u64 v)).ownsRow base e 1 (.slice (some ⟨g, 0, none⟩) N cap) N (u64s (L.set j d)) ∧ w.grownBy (wr.setCell ⟨g, j, none⟩ (.int .u64 v)) (some g) := by
  have h := hown.stored j (.int .u64 v)
  rw [u64s_set _ _ d _ hv] at h
  exact ⟨h.1, grownBy_trans hgr h.2⟩

/-- a list in whose window alone something has turned -/
def sameOut (L L' : List Nat) (i k : Nat) : Prop := L'.length = L.length ∧ (∀ d ∈ L', d < 1000000000) ∧ ∀ t (h : t < L.length) (h' : t < L'.length), t < i ∨ i + k ≤ t → L'[t] = L[t]

theorem sameOut_refl {L : List Nat} (h : ∀ d ∈ L, d < 1000000000) (i k : Nat) : sameOut L L i k := ⟨rfl, h, fun _ _ _ _ => rfl⟩
theorem sameOut_set {L L' : List Nat} {i k d : Nat} (h : sameOut L L' i k) (hd : d < 1000000000) : sameOut L (L'.set (i + k) d) i (k + 1) := by
  refine ⟨by simpa using h.1, set_all h.2.1 hd, ?_⟩
  intro t h1 h2 ht
  rw [List.getElem_set_ne (by omega)]
  exact h.2.2 t h1 (by simpa using h2) (by omega)

/-- one group of a take-off -/
theorem takeoff_step {X Y V q o o' y x d : Nat} {j : Nat} (h : X + q * Y = V + o * 1000000000 ^ j) (he : d + (o + y * q) = x + o' * 1000000000) :
    X + 1000000000 ^ j * d + q * (Y + 1000000000 ^ j * y) = V + 1000000000 ^ j * x + o' * 1000000000 ^ (j + 1) := by
  rw [Nat.pow_succ]
  generalize 1000000000 ^ j = p at *
  have h2 := congrArg (p * ·) he
  simp only [Nat.mul_add] at h2
  rw [Nat.mul_add, show q * (p * y) = p * (y * q) from by rw [Nat.mul_left_comm, Nat.mul_comm q y], show o' * (p * 1000000000) = p * (o' * 1000000000) from by rw [Nat.mul_left_comm]]
  rw [Nat.mul_comm o p] at h
  omega

theorem takeoff_fit {y q o : Nat} (hy : y < 1000000000) (hq : q < 1000000000) (ho : o < 1000000000) : o + y * q ≤ 999999999 * 1000000000 := by
  have : y * q ≤ 999999999 * 999999999 := Nat.mul_le_mul (by omega) (by omega)
  omega

set_option maxRecDepth 100000 in
set_option maxHeartbeats 4000000 in
theorem takeOff_c (L ys : List Nat) (g gb i m N cap capb q base : Nat) (w : World) (hm : ys.length = m) (hNl : L.length = N) (hN : N ≤ 2000000) (hi : i + m + 1 ≤ N) (hcap : m + 1 ≤ cap)
    (hL : w.ownsRow base 173 1 (.slice (some ⟨g, 0, none⟩) N N) N (u64s L)) (hY : w.ownsRow 0 173 1 (.slice (some ⟨gb, 0, none⟩) m capb) m (u64s ys)) (hgg : gb ≠ g)
    (hLd : ∀ d ∈ L, d < 1000000000) (hYd : ∀ d ∈ ys, d < 1000000000) (hq : q < 1000000000) :
    Calls Tryz.prog 203 #[.slice (some ⟨g, i, none⟩) (m + 1) cap, .slice (some ⟨gb, 0, none⟩) m capb, .int .u64 q] w fun e w' =>
      ∃ (neg : Bool) (L' : List Nat), e = .returned (.bool neg) ∧ w'.ownsRow base 173 1 (.slice (some ⟨g, 0, none⟩) N N) N (u64s L') ∧ w.grownBy w' (some g) ∧ sameOut L L' i (m + 1) ∧
        win L' i (m + 1) + q * ofd 1000000000 ys = win L i (m + 1) + (if neg then 1000000000 ^ (m + 1) else 0) := by
  have HLd := hide hLd
  have HYd := hide hYd
  have HL := hide hL
  have HY := hide hY
  clear hLd hYd hL hY
  go_enter Tryz.func203, Tryz.ntmps203
  go_wp2
  go_loopw [7, 13] (fun ow j wr => ∃ (k o : Nat) (L' : List Nat), k ≤ m ∧ ow = .int .u64 o ∧ o < 1000000000 ∧ j = .int .i64 k ∧ wr.ownsRow base 173 1 (.slice (some ⟨g, 0, none⟩) N N) N (u64s L') ∧ w.grownBy wr (some g) ∧
      Hid (sameOut L L' i k) ∧ Hid (win L' i k + q * ofd 1000000000 (ys.take k) = win L i k + o * 1000000000 ^ k))
    (fun _ j _ => m - (intOf j).toNat)
  case atStart =>
    exact ⟨0, 0, L, Nat.zero_le _, rfl, by omega, rfl, unhide HL, World.grownBy.refl _ _, hide (sameOut_refl (unhide HLd) _ _), hide (by simp [win_zero, ofd])⟩
  case round =>
    obtain ⟨k, o, L', hk, rfl, ho, rfl, hown, hgr, hso, hval⟩ := hrel
    by_cases hlt : k < m
    · have hL'l : L'.length = N := (unhide hso).1.trans hNl
      have hcy := (unhide HY).kept hgr (.inr (by simp [Value.ownBlock]; omega))
      have hcy := hcy.cellAt k (by omega)
      rw [u64s_get _ _ (by omega)] at hcy
      have hcx := hown.cellAt (i + k) (by omega)
      rw [u64s_get _ _ (by omega)] at hcx
      have hfr := hown.frozenAt (i + k)
      have hy9 : ys[k]'(by omega) < 1000000000 := unhide HYd _ (List.getElem_mem _)
      have hx9 : L'[i + k]'(by omega) < 1000000000 := (unhide hso).2.1 _ (List.getElem_mem _)
      have hxL : L[i + k]'(by omega) = L'[i + k]'(by omega) := ((unhide hso).2.2 (i + k) (by omega) (by omega) (.inr (Nat.le_refl _))).symm
      have hwin := win_succ L i k (by omega)
      have hofd : ofd 1000000000 (ys.take (k + 1)) = ofd 1000000000 (ys.take k) + 1000000000 ^ k * ys[k]'(by omega) := by
        rw [List.take_succ_eq_append_getElem (by omega), ofd_snoc, List.length_take, Nat.min_eq_left (by omega)]
      rw [hxL] at hwin
      generalize ys[k]'(by omega) = y at *
      generalize L'[i + k]'(by omega) = x at *
      have hfit := takeoff_fit hy9 hq ho
      have Hwin := hide hwin
      have Hofd := hide hofd
      have hstep := fun d o' => @takeoff_step (win L' i k) (ofd 1000000000 (ys.take k)) (win L i k) q o o' y x d k (unhide hval)
      generalize hpp : y * q = pp at *
      have hppI : (y : Int) * q = pp := by rw [← hpp]; simp
      have Hstep := hide hstep
      clear hwin hofd hstep hxL hpp
      obtain ⟨t, ht⟩ : ∃ d : Nat, ((o : Int) + pp) % 1000000000 = d := ⟨(o + pp) % 1000000000, by omega⟩
      obtain ⟨c, hc⟩ : ∃ d : Nat, ((o : Int) + pp) / 1000000000 = d := ⟨(o + pp) / 1000000000, by omega⟩
      have hkI : (k : Int) < (m : Int) + 1 := by omega
      have hkI2 : (k : Int) < (m : Int) := by omega
      by_cases hbr : (x : Int) < t
      · obtain ⟨d, hd⟩ : ∃ d : Nat, (x : Int) + 1000000000 - t = d := ⟨x + 1000000000 - t, by omega⟩
        have hst1 := store_u64 hown hgr (i + k) (x + 1000000000) ((x : Int) + 1000000000) (by simp)
        have hst2 := store_u64 hst1.1 hst1.2 (i + k) d ((x : Int) + 1000000000 - t) hd
        rw [List.set_set] at hst2
        have Hst := hide hst2
        have HD := hide hd
        clear hst1 hst2 hd
        go_wp2
        go_roundw
        case rel =>
          refine ⟨k + 1, c + 1, L'.set (i + k) d, by omega, rfl, by omega, by go_num, (unhide Hst).1, (unhide Hst).2, hide (sameOut_set (unhide hso) (by have := unhide HD; omega)), ?_⟩
          show _ = _
          rw [win_put _ _ _ _ (by omega), unhide Hofd, unhide Hwin]
          exact unhide Hstep d (c + 1) (by have := unhide HD; omega)
        case measure => simp [intOf]; omega
      · obtain ⟨d, hd⟩ : ∃ d : Nat, (x : Int) - t = d := ⟨x - t, by omega⟩
        have hst2 := store_u64 hown hgr (i + k) d ((x : Int) - t) hd
        have Hst := hide hst2
        have HD := hide hd
        clear hst2 hd
        go_wp2
        go_roundw
        case rel =>
          refine ⟨k + 1, c, L'.set (i + k) d, by omega, by rw [hc], by omega, by go_num, (unhide Hst).1, (unhide Hst).2, hide (sameOut_set (unhide hso) (by have := unhide HD; omega)), ?_⟩
          show _ = _
          rw [win_put _ _ _ _ (by omega), unhide Hofd, unhide Hwin]
          exact unhide Hstep d c (by have := unhide HD; omega)
        case measure => simp [intOf]; omega
    · have hkm : k = m := by omega
      subst hkm
      have hL'l : L'.length = N := (unhide hso).1.trans hNl
      have hcx := hown.cellAt (i + k) (by omega)
      rw [u64s_get _ _ (by omega)] at hcx
      have hfr := hown.frozenAt (i + k)
      have hx9 : L'[i + k]'(by omega) < 1000000000 := (unhide hso).2.1 _ (List.getElem_mem _)
      have hxL : L[i + k]'(by omega) = L'[i + k]'(by omega) := ((unhide hso).2.2 (i + k) (by omega) (by omega) (.inr (Nat.le_refl _))).symm
      have hwin := win_succ L i k (by omega)
      rw [hxL] at hwin
      generalize L'[i + k]'(by omega) = x at *
      have Hwin := hide hwin
      have hval' := unhide hval
      rw [← hm, List.take_length, hm] at hval'
      have Hval := hide hval'
      clear hwin hxL hval'
      have hkI : (k : Int) < (k : Int) + 1 := by omega
      by_cases hge : o ≤ x
      · obtain ⟨d, hd⟩ : ∃ d : Nat, (x : Int) - o = d := ⟨x - o, by omega⟩
        have hst2 := store_u64 hown hgr (i + k) d ((x : Int) - o) hd
        have Hst := hide hst2
        have HD := hide hd
        clear hst2 hd
        go_wp2
        go_ret
        refine ⟨false, L'.set (i + k) d, rfl, (unhide Hst).1, (unhide Hst).2, sameOut_set (unhide hso) (by have := unhide HD; omega), ?_⟩
        rw [win_put _ _ _ _ (by omega), unhide Hwin]
        have h1 := unhide Hval
        have h2 : x = d + o := by have := unhide HD; omega
        rw [h2, Nat.mul_add]
        rw [Nat.mul_comm o] at h1
        simp only [Bool.false_eq_true, if_false]
        omega
      · obtain ⟨d, hd⟩ : ∃ d : Nat, (x : Int) + (1000000000 - o) = d := ⟨x + (1000000000 - o), by omega⟩
        have hst2 := store_u64 hown hgr (i + k) d ((x : Int) + (1000000000 - o)) hd
        have Hst := hide hst2
        have HD := hide hd
        clear hst2 hd
        go_wp2
        go_ret
        refine ⟨true, L'.set (i + k) d, rfl, (unhide Hst).1, (unhide Hst).2, sameOut_set (unhide hso) (by have := unhide HD; omega), ?_⟩
        rw [win_put _ _ _ _ (by omega), unhide Hwin]
        have h1 := unhide Hval
        have h2 : d + o = x + 1000000000 := by have := unhide HD; omega
        have h3 := congrArg (1000000000 ^ k * ·) h2
        simp only [Nat.mul_add] at h3
        rw [Nat.mul_comm o] at h1
        rw [Nat.pow_succ]
        simp only [if_true]
        omega
end Go.Proofs.YtpbnmhnbkfnaeaaGreatDoor
namespace Go.Proofs.YtpbnmhnbkfnaeaaGreatDoor
open Go.RowKit Nt

theorem putback_step {X Y V c c' y x d : Nat} {j : Nat} (h : X + c * 1000000000 ^ j = V + Y) (he : d + 1000000000 * c' = c + (x + y)) :
    X + 1000000000 ^ j * d + c' * 1000000000 ^ (j + 1) = V + 1000000000 ^ j * x + (Y + 1000000000 ^ j * y) := by
  rw [Nat.pow_succ]
  generalize 1000000000 ^ j = p at *
  have h2 := congrArg (p * ·) he
  simp only [Nat.mul_add] at h2
  rw [show c' * (p * 1000000000) = p * (1000000000 * c') from by rw [Nat.mul_left_comm, Nat.mul_comm c']]
  rw [Nat.mul_comm c p] at h
  omega

theorem own_drewN {w : World} {base : Nat} {e : TypeId} {size : Nat} {v : Value} {n : Nat} {xs : List Value} (h : w.ownsRow base e size v n xs) (k : Nat) : (w.drewN k).ownsRow base e size v n xs := h
theorem grownBy_drewN {w wr : World} {r : Option Nat} (h : w.grownBy wr r) (k : Nat) : w.grownBy (wr.drewN k) r := ⟨h.os, h.tape, h.output, h.size, h.block⟩

set_option maxRecDepth 100000 in
set_option maxHeartbeats 4000000 in
theorem putBack_c (L ys : List Nat) (g gb i m N cap capb base : Nat) (w : World) (hm : ys.length = m) (hNl : L.length = N) (hN : N ≤ 2000000) (hi : i + m + 1 ≤ N) (hcap : m + 1 ≤ cap)
    (hL : w.ownsRow base 173 1 (.slice (some ⟨g, 0, none⟩) N N) N (u64s L)) (hY : w.ownsRow 0 173 1 (.slice (some ⟨gb, 0, none⟩) m capb) m (u64s ys)) (hgg : gb ≠ g)
    (hLd : ∀ d ∈ L, d < 1000000000) (hYd : ∀ d ∈ ys, d < 1000000000) :
    Calls Tryz.prog 204 #[.slice (some ⟨g, i, none⟩) (m + 1) cap, .slice (some ⟨gb, 0, none⟩) m capb] w fun e w' =>
      ∃ (up : Bool) (L' : List Nat), e = .returned (.bool up) ∧ w'.ownsRow base 173 1 (.slice (some ⟨g, 0, none⟩) N N) N (u64s L') ∧ w.grownBy w' (some g) ∧ sameOut L L' i (m + 1) ∧
        win L' i (m + 1) + (if up then 1000000000 ^ (m + 1) else 0) = win L i (m + 1) + ofd 1000000000 ys := by
  have HLd := hide hLd
  have HYd := hide hYd
  have HL := hide hL
  have HY := hide hY
  clear hLd hYd hL hY
  go_enter Tryz.func204, Tryz.ntmps204
  go_wp2
  go_loopw [5, 10] (fun cy j wr => ∃ (k c : Nat) (L' : List Nat), k ≤ m ∧ cy = .int .u64 c ∧ c ≤ 1 ∧ j = .int .i64 k ∧ wr.ownsRow base 173 1 (.slice (some ⟨g, 0, none⟩) N N) N (u64s L') ∧ w.grownBy wr (some g) ∧
      Hid (sameOut L L' i k) ∧ Hid (win L' i k + c * 1000000000 ^ k = win L i k + ofd 1000000000 (ys.take k)))
    (fun _ j _ => m - (intOf j).toNat)
  case atStart =>
    exact ⟨0, 0, L, Nat.zero_le _, rfl, by omega, rfl, unhide HL, World.grownBy.refl _ _, hide (sameOut_refl (unhide HLd) _ _), hide (by simp [win_zero, ofd])⟩
  case round =>
    obtain ⟨k, c, L', hk, rfl, hc, rfl, hown, hgr, hso, hval⟩ := hrel
    by_cases hlt : k < m
    · have hL'l : L'.length = N := (unhide hso).1.trans hNl
      have hcy := (unhide HY).kept hgr (.inr (by simp [Value.ownBlock]; omega))
      have hcy := hcy.cellAt k (by omega)
      rw [u64s_get _ _ (by omega)] at hcy
      have hcx := hown.cellAt (i + k) (by omega)
      rw [u64s_get _ _ (by omega)] at hcx
      have hfr := hown.frozenAt (i + k)
      have hy9 : ys[k]'(by omega) < 1000000000 := unhide HYd _ (List.getElem_mem _)
      have hx9 : L'[i + k]'(by omega) < 1000000000 := (unhide hso).2.1 _ (List.getElem_mem _)
      have hxL : L[i + k]'(by omega) = L'[i + k]'(by omega) := ((unhide hso).2.2 (i + k) (by omega) (by omega) (.inr (Nat.le_refl _))).symm
      have hwin := win_succ L i k (by omega)
      have hofd : ofd 1000000000 (ys.take (k + 1)) = ofd 1000000000 (ys.take k) + 1000000000 ^ k * ys[k]'(by omega) := by
        rw [List.take_succ_eq_append_getElem (by omega), ofd_snoc, List.length_take, Nat.min_eq_left (by omega)]
      rw [hxL] at hwin
      generalize ys[k]'(by omega) = y at *
      generalize L'[i + k]'(by omega) = x at *
      have Hwin := hide hwin
      have Hofd := hide hofd
      have hstep := fun d c' => @putback_step (win L' i k) (ofd 1000000000 (ys.take k)) (win L i k) c c' y x d k (unhide hval)
      have Hstep := hide hstep
      clear hwin hofd hstep hxL
      obtain ⟨d, hd⟩ : ∃ d : Nat, ((c : Int) + (x + y)) % 1000000000 = d := ⟨(c + (x + y)) % 1000000000, by omega⟩
      obtain ⟨c2, hc2⟩ : ∃ d : Nat, ((c : Int) + (x + y)) / 1000000000 = d := ⟨(c + (x + y)) / 1000000000, by omega⟩
      have hkI : (k : Int) < (m : Int) + 1 := by omega
      have hkI2 : (k : Int) < (m : Int) := by omega
      have hdl : d < 1000000000 := by omega
      have hsum : Hid (d + 1000000000 * c2 = c + (x + y)) := by show _ = _; omega
      have hc21 : c2 ≤ 1 := by omega
      have hst := fun nq => store_u64 (own_drewN hown nq) (grownBy_drewN hgr nq) (i + k) d (d : Int) rfl
      have Hst := hide hst
      clear hst
      go_wp2
      go_quiet (fail)
      go_wp2
      go_roundw
      case rel =>
        refine ⟨k + 1, c2, L'.set (i + k) d, by omega, by rw [hc2], hc21, by go_num, (unhide Hst nq).1, (unhide Hst nq).2, hide (sameOut_set (unhide hso) hdl), ?_⟩
        show _ = _
        rw [win_put _ _ _ _ (by omega), unhide Hofd, unhide Hwin]
        exact unhide Hstep d c2 (unhide hsum)
      case measure => simp [intOf]; omega
    · have hkm : k = m := by omega
      subst hkm
      have hL'l : L'.length = N := (unhide hso).1.trans hNl
      have hcx := hown.cellAt (i + k) (by omega)
      rw [u64s_get _ _ (by omega)] at hcx
      have hfr := hown.frozenAt (i + k)
      have hx9 : L'[i + k]'(by omega) < 1000000000 := (unhide hso).2.1 _ (List.getElem_mem _)
      have hxL : L[i + k]'(by omega) = L'[i + k]'(by omega) := ((unhide hso).2.2 (i + k) (by omega) (by omega) (.inr (Nat.le_refl _))).symm
      have hwin := win_succ L i k (by omega)
      rw [hxL] at hwin
      generalize L'[i + k]'(by omega) = x at *
      have Hwin := hide hwin
      have hval' := unhide hval
      rw [← hm, List.take_length, hm] at hval'
      have Hval := hide hval'
      clear hwin hxL hval'
      have hkI : (k : Int) < (k : Int) + 1 := by omega
      obtain ⟨d, hd⟩ : ∃ d : Nat, ((c : Int) + x) % 1000000000 = d := ⟨(c + x) % 1000000000, by omega⟩
      have hdl : d < 1000000000 := by omega
      have hst := store_u64 hown hgr (i + k) d (d : Int) rfl
      have Hst := hide hst
      clear hst
      by_cases hup : c + x = 1000000000
      · have hq : ((c : Int) + x == 1000000000) = true := by rw [beq_iff_eq]; omega
        have Hup := hide hup
        clear hup
        go_wp2
        go_ret
        refine ⟨true, L'.set (i + k) d, rfl, (unhide Hst).1, (unhide Hst).2, sameOut_set (unhide hso) hdl, ?_⟩
        rw [win_put _ _ _ _ (by omega), unhide Hwin]
        have h1 := unhide Hval
        have h2 : d = 0 := by have := unhide Hup; omega
        have h3 := congrArg (1000000000 ^ k * ·) (unhide Hup)
        simp only [Nat.mul_add] at h3
        rw [Nat.mul_comm c] at h1
        rw [Nat.pow_succ, h2]
        simp only [if_true]
        omega
      · have hq : ((c : Int) + x == 1000000000) = false := by rw [beq_eq_false_iff_ne]; omega
        have Hup := hide hup
        clear hup
        go_wp2
        go_ret
        refine ⟨false, L'.set (i + k) d, rfl, (unhide Hst).1, (unhide Hst).2, sameOut_set (unhide hso) hdl, ?_⟩
        rw [win_put _ _ _ _ (by omega), unhide Hwin]
        have h1 := unhide Hval
        have h2 : d = c + x := by have := unhide Hup; omega
        rw [h2, Nat.mul_add]
        rw [Nat.mul_comm c] at h1
        simp only [Bool.false_eq_true, if_false]
        omega
end Go.Proofs.YtpbnmhnbkfnaeaaGreatDoor
namespace Go.Proofs.YtpbnmhnbkfnaeaaGreatDoor
open Go.RowKit Nt

theorem ofd_take_drop (b : Nat) (l : List Nat) (k : Nat) (h : k ≤ l.length) : ofd b l = ofd b (l.take k) + b ^ k * ofd b (l.drop k) := by
  conv => lhs; rw [← List.take_append_drop k l]
  rw [ofd_append, List.length_take, Nat.min_eq_left h]

theorem top_zero {l : List Nat} {m : Nat} (h : ofd 1000000000 l < 1000000000 ^ m) (hm : m ≤ l.length) : ofd 1000000000 (l.drop m) = 0 ∧ ofd 1000000000 l = ofd 1000000000 (l.take m) := by
  have e := ofd_take_drop 1000000000 l m hm
  rcases Nat.eq_zero_or_pos (ofd 1000000000 (l.drop m)) with h0 | h0
  · exact ⟨h0, by rw [e, h0]; simp⟩
  · have := Nat.mul_le_mul_left (1000000000 ^ m) h0
    omega

theorem guess_ge {V Y top yl p : Nat} (hV : V < (top + 1) * p) (hY : yl * p ≤ Y) (hyl : 0 < yl) : V / Y ≤ top / yl := by
  rw [Nat.le_div_iff_mul_le hyl]
  have h1 : V / Y * (yl * p) ≤ V := Nat.le_trans (Nat.mul_le_mul_left _ hY) (Nat.div_mul_le_self V Y)
  rw [← Nat.mul_assoc] at h1
  have h2 : V / Y * yl * p < (top + 1) * p := by omega
  have := Nat.lt_of_mul_lt_mul_right h2
  omega

/-- what stands at the window and above is below the window's room -/
theorem over_V {L : List Nat} {i m Y : Nat} (hl : i + m + 1 ≤ L.length) (hd : ∀ d ∈ L, d < 1000000000) (hR : ofd 1000000000 (L.drop (i + 1)) < Y) (hY : Y < 1000000000 ^ m) :
    ofd 1000000000 (L.drop i) = win L i (m + 1) ∧ ofd 1000000000 (L.drop (i + m + 1)) = 0 ∧ win L i (m + 1) < 1000000000 * Y := by
  have hi : i < L.length := by omega
  have e : L.drop i = L[i] :: L.drop (i + 1) := List.drop_eq_getElem_cons hi
  have hx : L[i] < 1000000000 := hd _ (List.getElem_mem hi)
  have hV : ofd 1000000000 (L.drop i) < 1000000000 * Y := by
    rw [e]; simp only [ofd]
    have := Nat.mul_le_mul_left 1000000000 (Nat.succ_le_of_lt hR)
    rw [Nat.mul_succ] at this
    omega
  have hV2 : ofd 1000000000 (L.drop i) < 1000000000 ^ (m + 1) := by
    rw [Nat.pow_succ, Nat.mul_comm]
    exact Nat.lt_of_lt_of_le hV (Nat.mul_le_mul_left _ (Nat.le_of_lt hY))
  have ht := top_zero hV2 (by simp; omega)
  rw [List.drop_drop] at ht
  refine ⟨ht.2, ?_, ?_⟩
  · rw [show i + m + 1 = i + (m + 1) from by omega]; exact ht.1
  · rw [← show ofd 1000000000 (L.drop i) = win L i (m + 1) from ht.2]; exact hV

theorem sameOut_take {L L' : List Nat} {i k : Nat} (h : sameOut L L' i k) : L'.take i = L.take i := by
  apply List.ext_getElem
  · simp [h.1]
  · intro t h1 h2
    simp only [List.getElem_take]
    have : t < i := by simp at h1; omega
    exact h.2.2 t _ _ (.inl this)
theorem sameOut_drop {L L' : List Nat} {i k : Nat} (h : sameOut L L' i k) : L'.drop (i + k) = L.drop (i + k) := by
  apply List.ext_getElem
  · simp [h.1]
  · intro t h1 h2
    simp only [List.getElem_drop]
    exact h.2.2 _ _ _ (.inr (by omega))

theorem over_core (b T p li Y D R W q : Nat) (h : li + b * R = W + q * Y) : T + p * li + p * b * (Y * D + R) = T + p * (Y * (q + b * D) + W) := by
  have key : li + b * (Y * D + R) = Y * (q + b * D) + W := by
    rw [Nat.mul_add, Nat.mul_add, Nat.mul_left_comm Y, Nat.mul_comm Y q]
    omega
  rw [← key, Nat.mul_add p, Nat.mul_assoc, Nat.add_assoc]

theorem over_step_b (b : Nat) {L L' O : List Nat} {i Y X q W V : Nat} (hi : i < L.length) (hO : i < O.length)
    (hinv : X = ofd b (L.take (i + 1)) + b ^ (i + 1) * (Y * ofd b (O.drop (i + 1)) + ofd b (L.drop (i + 1))))
    (hV : ofd b (L.drop i) = V) (htk : L'.take i = L.take i) (hW : ofd b (L'.drop i) = W) (hw : W + q * Y = V) :
    X = ofd b (L'.take i) + b ^ i * (Y * ofd b ((O.set i q).drop i) + ofd b (L'.drop i)) := by
  have e : L.drop i = L[i] :: L.drop (i + 1) := List.drop_eq_getElem_cons hi
  rw [e] at hV
  simp only [ofd] at hV
  rw [hW, htk, List.drop_eq_getElem_cons (l := O.set i q) (by simpa using hO), List.getElem_set_self, List.drop_set_of_lt (by omega)]
  simp only [ofd]
  rw [hinv, List.take_succ_eq_append_getElem hi, ofd_snoc, List.length_take, Nat.min_eq_left (by omega), Nat.pow_succ]
  exact over_core b _ _ _ _ _ _ _ _ (hV.trans hw.symm)

theorem over_rest (b : Nat) {L L' : List Nat} {i k : Nat} (hl : i + k ≤ L'.length) (hdr : L'.drop (i + k) = L.drop (i + k)) (h0 : ofd b (L.drop (i + k)) = 0) : ofd b (L'.drop i) = ofd b ((L'.drop i).take k) := by
  rw [ofd_take_drop b (L'.drop i) k (by simp; omega), List.drop_drop, hdr, h0, Nat.mul_zero, Nat.add_zero]

theorem over_step {L L' O : List Nat} {i m Y X q : Nat} (hl : i + m + 1 ≤ L.length) (hO : i < O.length) (hd : ∀ d ∈ L, d < 1000000000) (hY : Y < 1000000000 ^ m)
    (hinv : X = ofd 1000000000 (L.take (i + 1)) + 1000000000 ^ (i + 1) * (Y * ofd 1000000000 (O.drop (i + 1)) + ofd 1000000000 (L.drop (i + 1)))) (hR : ofd 1000000000 (L.drop (i + 1)) < Y)
    (hso : sameOut L L' i (m + 1)) (hw : win L' i (m + 1) + q * Y = win L i (m + 1)) (hlt : win L' i (m + 1) < Y) :
    X = ofd 1000000000 (L'.take i) + 1000000000 ^ i * (Y * ofd 1000000000 ((O.set i q).drop i) + ofd 1000000000 (L'.drop i)) ∧ ofd 1000000000 (L'.drop i) < Y := by
  obtain ⟨h1, h2, _⟩ := over_V hl hd hR hY
  have hL' : ofd 1000000000 (L'.drop i) = win L' i (m + 1) :=
    over_rest 1000000000 (by have := hso.1; omega) (sameOut_drop hso) h2
  have hi : i < L.length := Nat.lt_of_lt_of_le (Nat.lt_of_le_of_lt (Nat.le_add_right i m) (Nat.lt_succ_self _)) hl
  exact ⟨over_step_b 1000000000 hi hO hinv h1 (sameOut_take hso) hL' hw, hL' ▸ hlt⟩

/-- the guess, once it takes off no more than there is -/
theorem over_exact {V Y W q : Nat} (hw : W + q * Y = V) (hq : V / Y ≤ q) (hY : 0 < Y) : W < Y := by
  have h1 : q ≤ V / Y := by
    rw [Nat.le_div_iff_mul_le hY]; omega
  have : q = V / Y := by omega
  have h2 := Nat.div_add_mod V Y
  rw [← this, Nat.mul_comm] at h2
  have := Nat.mod_lt V hY
  omega

theorem over_more {V Y W q p : Nat} (hw : W + q * Y = V + p) (hW : W < p) : V / Y < q := by
  have hY : 0 < Y := by
    rcases Nat.eq_zero_or_pos Y with h | h
    · subst h; simp at hw; omega
    · exact h
  rw [Nat.div_lt_iff_lt_mul hY]
  omega

theorem win_lt {L : List Nat} (hd : ∀ d ∈ L, d < 1000000000) (i k : Nat) (h : i + k ≤ L.length) : win L i k < 1000000000 ^ k := by
  have := ofd_lt (b := 1000000000) ((L.drop i).take k) (fun d hd' => hd d (List.mem_of_mem_drop (List.mem_of_mem_take hd')))
  rw [List.length_take, List.length_drop, Nat.min_eq_left (by omega)] at this
  exact this

/-- the two groups ahead of a window, and what is below them -/
theorem win_top {L : List Nat} (hd : ∀ d ∈ L, d < 1000000000) (i m : Nat) (h : i + (m + 1) < L.length) :
    win L i (m + 1 + 1) < (L[i + (m + 1)] * 1000000000 + L[i + m] + 1) * 1000000000 ^ m := by
  rw [win_succ L i (m + 1) h, win_succ L i m (by omega), Nat.pow_succ]
  have := win_lt hd i m (by omega)
  generalize L[i + (m + 1)] = a
  generalize L[i + m] = b
  generalize 1000000000 ^ m = p at *
  rw [Nat.add_mul, Nat.add_mul, Nat.mul_assoc a, Nat.mul_comm p b, Nat.mul_comm p 1000000000, Nat.mul_comm (1000000000 * p) a]
  omega

theorem top_le {ys : List Nat} {m : Nat} (h : ys.length = m + 1) : ys[m] * 1000000000 ^ m ≤ ofd 1000000000 ys := by
  have := ofd_ge 1000000000 ys m (by omega)
  rw [Nat.mul_comm]; exact this

/-- the scale -/
theorem scale_pos {y : Nat} (h : y < 1000000000) : 0 < 1000000000 / (y + 1) := Nat.div_pos (by omega) (by omega)
theorem scale_lt {y : Nat} (h : 0 < y) : 1000000000 / (y + 1) < 1000000000 := Nat.div_lt_self (by omega) (by omega)

/-- made greater, it has as many groups -/
theorem scaled_len {y s m : Nat} {ys : List Nat} (hy : ys = gr y) (hm : ys.length = m + 1) (hs : 1000000000 / (ys[m] + 1) = s) (hs0 : 0 < s) : (gr (y * s)).length = m + 1 ∧ y * s < 1000000000 ^ (m + 1) := by
  have hyd : ∀ d ∈ ys, d < 1000000000 := by rw [hy]; exact gr_lt y
  have hyo : ofd 1000000000 ys = y := by rw [hy]; exact gr_ofd y
  have h1 : y < (ys[m] + 1) * 1000000000 ^ m := by
    have e := ofd_split 1000000000 ys m (by omega)
    rw [show ys.drop (m + 1) = [] from List.drop_eq_nil_of_le (by omega)] at e
    simp only [ofd, Nat.mul_zero, Nat.add_zero] at e
    have h2 := ofd_lt (b := 1000000000) (ys.take m) (fun d hd => hyd d (List.mem_of_mem_take hd))
    rw [List.length_take, Nat.min_eq_left (by omega)] at h2
    rw [hyo] at e
    rw [Nat.add_mul, e, Nat.mul_comm]
    omega
  have h3 : (ys[m] + 1) * s ≤ 1000000000 := by rw [← hs, Nat.mul_comm]; exact Nat.div_mul_le_self _ _
  have h4 : y * s < 1000000000 ^ (m + 1) := by
    have h5 : y * s < (ys[m] + 1) * 1000000000 ^ m * s := Nat.mul_lt_mul_of_pos_right h1 hs0
    rw [Nat.mul_right_comm] at h5
    have h6 : (ys[m] + 1) * s * 1000000000 ^ m ≤ 1000000000 * 1000000000 ^ m := Nat.mul_le_mul_right _ h3
    rw [Nat.pow_succ, Nat.mul_comm (1000000000 ^ m)]
    omega
  refine ⟨?_, h4⟩
  have h7 : (gr (y * s)).length ≤ m + 1 := dg_len_le (by omega) h4
  have h8 : (gr y).length ≤ (gr (y * s)).length := gr_len_le (Nat.le_mul_of_pos_right y hs0)
  rw [← hy] at h8
  omega

theorem pow_len_le {y m : Nat} (h : (gr y).length = m + 1) : 1000000000 ^ m ≤ y := by
  rcases Nat.lt_or_ge y (1000000000 ^ m) with h1 | h1
  · have := dg_len_le (b := 1000000000) (by omega) h1
    unfold gr at h; omega
  · exact h1

/-- the beginning: what is above the first window is below the divisor -/
theorem over_start {x y s n m : Nat} {L : List Nat} (hx : (gr x).length = n) (hy : (gr y).length = m + 1) (hmn : m + 1 ≤ n) (hL : ofd 1000000000 L = x * s) (hLl : L.length = n + 1) (hs0 : 0 < s) :
    ofd 1000000000 (L.drop (n - m)) < y * s := by
  have h1 : x < 1000000000 ^ n := by rw [← hx]; exact lt_pow_dg (by omega) x
  have h2 := pow_len_le hy
  have e := ofd_take_drop 1000000000 L (n - m) (by omega)
  rw [hL] at e
  have h3 : 1000000000 ^ (n - m) * ofd 1000000000 (L.drop (n - m)) ≤ x * s := by omega
  have h4 : x * s < 1000000000 ^ n * s := Nat.mul_lt_mul_of_pos_right h1 hs0
  have h5 : 1000000000 ^ n * s = 1000000000 ^ (n - m) * (1000000000 ^ m * s) := by
    rw [← Nat.mul_assoc, ← Nat.pow_add]; congr 2; omega
  have h6 : 1000000000 ^ (n - m) * (1000000000 ^ m * s) ≤ 1000000000 ^ (n - m) * (y * s) := Nat.mul_le_mul_left _ (Nat.mul_le_mul_right _ h2)
  have h7 : 1000000000 ^ (n - m) * ofd 1000000000 (L.drop (n - m)) < 1000000000 ^ (n - m) * (y * s) := by omega
  exact Nat.lt_of_mul_lt_mul_left h7

/-- the end -/
theorem over_end {x y s Q R : Nat} (h : x * s = y * s * Q + R) (hR : R < y * s) (hs : 0 < s) : x / y = Q ∧ R / s = x % y := by
  have hy : 0 < y := by
    rcases Nat.eq_zero_or_pos y with h0 | h0
    · subst h0; simp at hR
    · exact h0
  have hQ : x / y = Q := by
    have h1 : x * s / (y * s) = Q := (ow_end h hR).1
    rwa [Nat.mul_div_mul_right _ _ hs] at h1
  refine ⟨hQ, ?_⟩
  have h2 : x * s % (y * s) = R := (ow_end h hR).2
  rw [Nat.mul_mod_mul_right] at h2
  rw [← h2, Nat.mul_div_cancel _ hs]
end Go.Proofs.YtpbnmhnbkfnaeaaGreatDoor
namespace Go.Proofs.YtpbnmhnbkfnaeaaGreatDoor
open Go.RowKit Nt

theorem timesPlus_z (x f : Nat) (v : Value) (w : World) (hx : isNat w v x) (hs : (gr x).length ≤ 1000000) (hf : f < 1000000000) :
    Calls Tryz.prog 201 #[v, .int .u64 f, .int .u64 0] w fun e w' => (∃ v', e = .returned v' ∧ isNatB w' w.heap.size v' (x * f)) ∧ Below w.heap.size w w' := by
  have := timesPlus_c x f 0 v w hx hs hf (by omega)
  simpa using this

/-- the integer in a cell -/
def cellN (w : World) (b j : Nat) : Nat := match w.cell? ⟨b, j, none⟩ with
  | some v => (intOf v).toNat
  | none => 0
theorem cellN_of {w : World} {b j d : Nat} (h : w.cell? ⟨b, j, none⟩ = some (.int .u64 (d : Int))) : cellN w b j = d := by
  unfold cellN; rw [h]; rfl
theorem own_drew {w : World} {base : Nat} {e : TypeId} {size : Nat} {v : Value} {n : Nat} {xs : List Value} (h : w.ownsRow base e size v n xs) : w.drew.ownsRow base e size v n xs := h

theorem sameOut_trans {L L1 L2 : List Nat} {i k : Nat} (h : sameOut L L1 i k) (h' : sameOut L1 L2 i k) : sameOut L L2 i k := by
  refine ⟨h'.1.trans h.1, h'.2.1, ?_⟩
  intro t h1 h2 ht
  rw [h'.2.2 t (by rw [h.1]; exact h1) h2 ht]
  exact h.2.2 t h1 _ ht

theorem putback_close {W W' V Y q p : Nat} {up : Bool} (h : W + (q + 1) * Y = V + if true then p else 0) (h' : W' + (if up then p else 0) = W + Y) : W' + q * Y = V + if (!up) then p else 0 := by
  rw [Nat.add_mul] at h
  cases up <;> simp at h h' ⊢ <;> omega

theorem pad_ofd (l : List Nat) (k : Nat) (b : Nat) : ofd b (l ++ List.replicate k 0) = ofd b l := by
  rw [ofd_append, ofd_replicate_zero]; simp

set_option maxRecDepth 100000 in
set_option maxHeartbeats 4000000 in
theorem over_small (x y : Nat) (v u : Value) (w : World) (hx : isNat w v x) (hy : isNat w u y) (hsx : (gr x).length ≤ 1000000) (hsy : (gr y).length ≤ 1000000) (hlt : x < y) :
    Calls Tryz.prog 183 #[v, u] w fun e w' => (∃ v1 v2, e = .returned (.tuple #[v1, v2]) ∧ isNat w' v1 (x / y) ∧ isNat w' v2 (x % y)) ∧ Below w.heap.size w w' := by
  rw [Nat.div_eq_of_lt hlt, Nat.mod_eq_of_lt hlt]
  have hl := less_c x y v u w hx hy hsx hsy
  rw [decide_eq_true hlt] at hl
  have Hl := hide hl
  have Hx := hide hx
  clear hl hx hy hlt hsx hsy
  go_enter Tryz.func183, Tryz.ntmps183
  go_wp2_with fail
  refine (unhide Hl).mono ?_
  rintro e w1 ⟨rfl, hb1⟩
  go_wp2
  go_ret2
  have hbX := hb1.alloc hb1.size (.cells #[] 173)
  refine ⟨⟨_, _, rfl, ?_, own_below (unhide Hx) hbX⟩, hbX⟩
  have := World.ownsRow_made (base := 0) (e := 173) (size := 1) w1 #[] 0 (Nat.zero_le _) (by decide) (by simp)
  unfold isNat
  rw [gr_zero]
  exact this


set_option maxRecDepth 100000 in
set_option maxHeartbeats 4000000 in
theorem over_great (x y : Nat) (v u : Value) (w : World) (hx : isNat w v x) (hy : isNat w u y) (hsx : (gr x).length ≤ 1000000) (hsy : (gr y).length ≤ 1000000) (hle : y ≤ x) (hy0 : 0 < y) :
    Calls Tryz.prog 183 #[v, u] w fun e w' => (∃ v1 v2, e = .returned (.tuple #[v1, v2]) ∧ isNat w' v1 (x / y) ∧ isNat w' v2 (x % y)) ∧ Below w.heap.size w w' := by
  obtain ⟨i0, hi, hz0, hz1, hz2⟩ := info_parts Tryz.infoU64
  have hl := less_c x y v u w hx hy hsx hsy
  rw [decide_eq_false (by omega)] at hl
  have Hl := hide hl
  have Hx := hide hx
  have Hy := hide hy
  clear hl
  have hyne : gr y ≠ [] := fun h => by have := gr_nil.1 h; omega
  have hml : (gr y).length ≤ (gr x).length := gr_len_le hle
  obtain ⟨m, hm⟩ : ∃ m, (gr y).length = m + 1 := ⟨(gr y).length - 1, by have : (gr y).length ≠ 0 := fun h => hyne (List.eq_nil_of_length_eq_zero h); omega⟩
  obtain ⟨n, hn⟩ : ∃ n, (gr x).length = n := ⟨_, rfl⟩
  obtain ⟨K, hKI⟩ : ∃ K : Nat, (n : Int) - m = K := ⟨n - m, by omega⟩
  obtain ⟨gy, cy, hu, hcy, _, hgy⟩ := own_some hy (by omega)
  obtain ⟨gx, cx, hv, hcx, _, hgx⟩ := own_some hx (by omega)
  subst hu
  subst hv
  have hcell := Hy.out.cellAt m (by omega)
  rw [u64s_get _ _ (by omega)] at hcell
  have htop9 : (gr y)[m]'(by omega) < 1000000000 := gr_lt y _ (List.getElem_mem _)
  have htop0 : 0 < (gr y)[m]'(by omega) := by
    have := (dg_can (b := 1000000000) (by omega) y).2 ((gr y)[m]'(by omega)) (by
      rw [List.getLast?_eq_getElem?]
      show (gr y)[(gr y).length - 1]? = _
      rw [show (gr y).length - 1 = m from by omega]
      exact List.getElem?_eq_getElem _)
    omega
  have hsc := fun s hs hs0 => @scaled_len y s m (gr y) rfl hm hs hs0
  obtain ⟨yt, hyt⟩ : ∃ a, (gr y)[m]'(by omega) = a := ⟨_, rfl⟩
  rw [hyt] at hcell htop9 htop0
  simp only [hyt] at hsc
  have hs0 := scale_pos htop9
  have hs9 := scale_lt htop0
  obtain ⟨s, hs⟩ : ∃ s, 1000000000 / (yt + 1) = s := ⟨_, rfl⟩
  rw [hs] at hs0 hs9
  have hsc := hsc s hs hs0
  have hsI : (1000000000 : Int) / ((yt : Int) + 1) = (s : Int) := by rw [← hs]; rfl
  have Hsc := hide hsc
  have Hm := hide hm
  have Hn := hide hn
  rw [hm] at hml hsy hcy Hy Hl
  rw [hn] at hml hsx hcx Hx Hl
  rw [hm, hn]
  clear hx hy hsc hs hyt hyne hm hn
  go_enter Tryz.func183, Tryz.ntmps183
  go_wp2_with fail
  refine (unhide Hl).mono ?_
  clear Hl
  rintro e w1 ⟨rfl, hb1⟩
  have hcell1 : w1.cell? ⟨gy, m, none⟩ = some (.int .u64 (yt : Int)) := by rw [hb1.cell (p := ⟨gy, m, none⟩) hgy]; exact hcell
  go_wp2_with (refine wpList_make_full _ rfl (.tmp 31) (.tmp 31) 178 rfl w.heap.size 173 i0 (.int .u64 0) 1 Tryz.underlying178 hi hz0 hz1 .i64 .i64 ((n + 1 : Nat) : Int) ((n + 1 : Nat) : Int) (n + 1) rfl rfl rfl rfl (by rw [hz2]; omega) (by unfold maxLen; omega) hb1.size ?_; intro w2 hown2 hg2)
  have hb2 : Below w.heap.size w w2 := hb1.grown hg2 hb1.size (fun _ h => by cases h)
  have hxs9 : (gr (x * s)).length ≤ n + 1 := by
    apply dg_len_le (by omega)
    have h1 : x < 1000000000 ^ n := by have := lt_pow_dg (b := 1000000000) (by omega) x; rwa [show (dg 1000000000 x).length = n from unhide Hn] at this
    rw [Nat.pow_succ]
    exact Nat.mul_lt_mul'' h1 hs9
  refine (timesPlus_z x s _ _ (own_below (unhide Hx) hb2) (by rw [unhide Hn]; exact hsx) hs9).mono ?_
  rintro e w3 ⟨⟨v3, rfl, hv3⟩, hb3⟩
  have hown3 := own_below hown2 hb3
  have hb03 := hb2.trans (hb3.mono hb2.size)
  rw [show (madeCells (Value.int IntKind.u64 0).cells ((n + 1) * 1)).toList = u64s (List.replicate (n + 1) 0) from by
    rw [Nat.mul_one, show (Value.int IntKind.u64 0).cells = #[.int .u64 0] from rfl, toList_madeCells_one, u64s_zero]] at hown3
  have hblk := own_block_full hown3
  obtain ⟨p3, c3, hv3s⟩ := own_slice hv3
  subst hv3s
  obtain ⟨k3, hk3⟩ : ∃ k3, (gr (x * s)).length = k3 := ⟨_, rfl⟩
  have hsome := fun h => own_some hv3 h
  have hcells := fun g cap (h : Value.slice p3 (gr (x * s)).length c3 = .slice (some ⟨g, 0, none⟩) (gr (x * s)).length cap) => (h ▸ hv3 : w3.ownsRow w2.heap.size 173 1 (.slice (some ⟨g, 0, none⟩) (gr (x * s)).length cap) (gr (x * s)).length (u64s (gr (x * s)))).cells (g := g) rfl
  have hpos : 0 < (u64s (gr (x * s))).length → ∃ ad, p3 = some ad ∧ ∀ j v, (u64s (gr (x * s)))[j]? = some v → w3.cell? (ad.add j) = some v := by
    intro h
    obtain ⟨g, cap, hh, _⟩ := hsome (by rwa [u64s_length] at h)
    have h2 := hcells g cap hh
    simp only [Value.slice.injEq, true_and] at hh
    exact ⟨_, hh.1, h2⟩
  have Hblk := hide hblk
  have Hpos := hide hpos
  have hsz1 := hb1.size
  clear hblk hpos hsome hcells hown3 hown2 hg2 hb1 hb2 hb3 hv3 hcell hcell1
  have hk3l : k3 ≤ n + 1 := by omega
  have Hk3 := hide hk3
  rw [hk3]
  clear hk3
  go_wp2_with (refine wpList_copy_splice rfl (.tmp 33) (.tmp 36) 178 178 rfl 173 Tryz.underlying178 (by simp [hi, hz1]) (some ⟨w1.heap.size, 0, none⟩) p3 (n + 1) (n + 1) k3 c3 rfl rfl w1.heap.size 0 (u64s (List.replicate (n + 1) 0)) 173 (unhide Hblk) (u64s (gr (x * s))) (by rw [u64s_length, unhide Hk3]; exact (Nat.min_eq_left hk3l).symm) (fun h => ⟨rfl, unhide Hpos h⟩) (by simp [u64s]; have := unhide Hk3; omega) (u64s_one _) w.heap.size w hb03 hsz1 ?_; intro w4 hg4 hb4)
  have hrow : splice (u64s (List.replicate (n + 1) 0)) 0 (u64s (gr (x * s))) = u64s (gr (x * s) ++ List.replicate (n + 1 - k3) 0) := by
    unfold splice
    rw [List.take_zero, List.nil_append, Nat.zero_add, u64s_length, unhide Hk3, ← u64s_drop, List.drop_replicate, u64s_append]
  have hg4' := unhide hg4
  rw [hrow] at hg4'
  have hLl : (gr (x * s) ++ List.replicate (n + 1 - k3) 0).length = n + 1 := by
    rw [List.length_append, List.length_replicate, unhide Hk3]; omega
  have hLo : ofd 1000000000 (gr (x * s) ++ List.replicate (n + 1 - k3) 0) = x * s := by rw [pad_ofd, gr_ofd]
  have hLd : ∀ d ∈ gr (x * s) ++ List.replicate (n + 1 - k3) 0, d < 1000000000 := by
    intro d hd
    rcases List.mem_append.1 hd with h | h
    · exact gr_lt _ d h
    · simp at h; omega
  have hownL := own_of_block_full (base := w.heap.size) (n := n + 1) hg4' (by rw [u64s_length]; exact hLl) (by unfold maxLen; omega) hsz1
  have hgl4 : w1.heap.size < w4.heap.size := (Array.getElem?_eq_some_iff.1 hg4').1
  generalize gr (x * s) ++ List.replicate (n + 1 - k3) 0 = L0 at *
  have HLl := hide hLl
  have HLo := hide hLo
  have HLd := hide hLd
  have HownL := hide hownL
  generalize w1.heap.size = gl at *
  clear hrow hg4 hg4' hLl hLo hLd hownL Hblk Hpos hb03 hxs9
  refine (timesPlus_z y s _ _ (own_below (unhide Hy) hb4) (by rw [unhide Hm]; exact hsy) hs9).mono ?_
  rintro e w5 ⟨⟨v5, rfl, hv5⟩, hb5⟩
  have hl5 := (unhide Hsc).1
  obtain ⟨gb, cb, hv5s, hcb, hgb4, hgb5⟩ := own_some hv5 (by omega)
  subst hv5s
  rw [hl5] at hcb
  have hownL5 := own_below (unhide HownL) hb5
  have hb05 := hb4.trans (hb5.mono hb4.size)
  have hys9 := gr_lt (y * s)
  have hyso := gr_ofd (y * s)
  have hytop := (dg_can (b := 1000000000) (by omega) (y * s)).2
  rw [show dg 1000000000 (y * s) = gr (y * s) from rfl] at hytop
  have hYl := (unhide Hsc).2
  unfold isNatB at hv5
  have hpos0 : 0 < y * s := Nat.mul_pos hy0 hs0
  have hstart := fun L hL hLl => @over_start x y s n m L (unhide Hn) (unhide Hm) hml hL hLl hs0
  have Hstart := hide (hstart L0 (unhide HLo) (unhide HLl))
  obtain ⟨Y, hY⟩ : ∃ Y, y * s = Y := ⟨_, rfl⟩
  rw [hY] at hl5 hv5 hys9 hyso hYl hpos0 Hstart
  rw [hY] at hytop
  rw [show (gr (y * s)).length = m + 1 from (unhide Hsc).1]
  generalize gr Y = ys at *
  have HY := hide hY
  have Hys9 := hide hys9
  have Hytop := hide hytop
  have Hyso := hide hyso
  have HYl := hide hYl
  have Hl5 := hide hl5
  clear hys9 hyso hytop hYl hY hstart hb4 hb5 HownL hsc hl5
  go_wp2_with (refine wpList_make_full _ rfl (.tmp 44) (.tmp 44) 178 rfl w.heap.size 173 i0 (.int .u64 0) 1 Tryz.underlying178 hi hz0 hz1 .i64 .i64 K K K rfl rfl rfl rfl (by rw [hz2]; omega) (by unfold maxLen; omega) hb05.size ?_; intro w6 hown6 hg6)
  have hownO0 : w6.ownsRow w.heap.size 173 1 (.slice (some ⟨w5.heap.size, 0, none⟩) K K) K (u64s (List.replicate K 0)) := by
    simpa [Value.cells, toList_madeCells_one, u64s_zero] using hown6
  have hb56 : Below w5.heap.size w5 w6 := (Below.refl _ _).grown hg6 (Nat.le_refl _) (fun _ h => by cases h)
  have hownL6 := own_below hownL5 hb56
  have hownB6 := own_base (own_below hv5 hb56) (Nat.zero_le _)
  rw [unhide Hl5] at hownB6
  have hb06 := hb05.trans (hb56.mono hb05.size)
  have hob : w.heap.size ≤ w5.heap.size := hb05.size
  generalize w5.heap.size = bo at *
  have hglb : gl ≠ gb := by omega
  have hgbo : gb ≠ bo := by omega
  have hglo : gl ≠ bo := by omega
  have hK0 : 0 < K := by omega
  have hnK : n = m + K := by omega
  have HnK := hide hnK
  clear hown6 hg6 hv5 hownL5 hb56 hb05 hnK
  go_loopw [10] (fun i wr => ∃ (k : Nat) (L O : List Nat), k ≤ K ∧ i = .int .i64 ((k : Int) - 1) ∧ L.length = n + 1 ∧ O.length = K ∧
      wr.ownsRow w.heap.size 173 1 (.slice (some ⟨gl, 0, none⟩) (n + 1) (n + 1)) (n + 1) (u64s L) ∧ wr.ownsRow w.heap.size 173 1 (.slice (some ⟨bo, 0, none⟩) K K) K (u64s O) ∧
      wr.ownsRow 0 173 1 (.slice (some ⟨gb, 0, none⟩) (m + 1) cb) (m + 1) (u64s ys) ∧ Below w.heap.size w wr ∧ Hid (∀ d ∈ L, d < 1000000000) ∧ Hid (∀ d ∈ O, d < 1000000000) ∧
      Hid (x * s = ofd 1000000000 (L.take k) + 1000000000 ^ k * (Y * ofd 1000000000 (O.drop k) + ofd 1000000000 (L.drop k))) ∧ Hid (ofd 1000000000 (L.drop k) < Y))
    (fun i _ => ((intOf i) + 1).toNat)
  case atStart =>
    refine ⟨K, L0, List.replicate K 0, Nat.le_refl _, rfl, unhide HLl, by simp, hownL6, hownO0, hownB6, hb06, HLd, hide (by intro d hd; simp at hd; omega), ?_, ?_⟩
    · show _ = _
      rw [List.drop_of_length_le (by simp), ofd, Nat.mul_zero, Nat.zero_add, ← ofd_take_drop 1000000000 L0 K (by rw [unhide HLl]; have := unhide HnK; omega), unhide HLo]
    · show _ < _
      have := unhide Hstart
      rwa [show n - m = K from by have := unhide HnK; omega] at this
  case round =>
    clear hownL6 hownO0 hownB6 hb06
    obtain ⟨k, L, O, hk, rfl, hLl, hOl, hownL, hownO, hownB, hb, hLd, hOd, hinv, hR⟩ := hrel
    cases k with
    | zero =>
      rw [show (((0 : Nat) : Int) - 1) = -1 from rfl]
      have hinv0 : x * s = Y * ofd 1000000000 O + ofd 1000000000 L := by have := unhide hinv; simpa [ofd] using this
      have hR0 : ofd 1000000000 L < Y := by have := unhide hR; simpa using this
      have hend := over_end (x := x) (y := y) (s := s) (Q := ofd 1000000000 O) (R := ofd 1000000000 L) (by rw [unhide HY]; exact hinv0) (by rw [unhide HY]; exact hR0) hs0
      have Hend := hide hend
      have HO := hide hownO
      have hLlen := gr_len_le (Nat.le_of_lt hR0)
      have hYlen : (gr Y).length ≤ 1000000 := by rw [← unhide HY, (unhide Hsc).1]; omega
      clear hinv0 hR0 hend hinv hR hownO hownB
      go_wp2_with fail
      refine (trimmed_n L w.heap.size _ _ (by omega) (unhide hLd) (by rw [hLl]; exact hownL)).mono ?_
      rintro e w7 ⟨⟨v7, rfl, hv7⟩, rfl⟩
      have hv7n := hv7.nat
      clear hv7
      go_wp2_with fail
      refine (overWord_c (ofd 1000000000 L) s v7 _ hv7n (by omega) hs0 hs9).mono ?_
      rintro e w8 ⟨⟨v8, rfl, hv8⟩, hb8⟩
      have hO8 := own_below (unhide HO) hb8
      have hbZ := hb.trans (hb8.mono hb.size)
      rw [(unhide Hend).2] at hv8
      clear hownL hv7n
      go_wp2_with fail
      refine (trimmed_n O w.heap.size _ _ (by omega) (unhide hOd) (by rw [hOl]; exact hO8)).mono ?_
      rintro e w9 ⟨⟨v9, rfl, hv9⟩, rfl⟩
      have hv9n := hv9.nat
      rw [← (unhide Hend).1] at hv9n
      clear hv9 hO8
      go_wp2
      go_ret2
      exact ⟨⟨_, _, rfl, hv9n, hv8⟩, hbZ⟩
    | succ i =>
      rw [show (((i + 1 : Nat) : Int) - 1) = (i : Int) from by omega]
      have hin : i + (m + 1) < L.length := by have := unhide HnK; omega
      have hcT1 := hownL.cellAt (i + (m + 1)) (by omega)
      rw [u64s_get _ _ hin] at hcT1
      have hcT0 := hownL.cellAt (i + m) (by omega)
      rw [u64s_get _ _ (by omega)] at hcT0
      have hcY := hownB.cellAt m (by omega)
      rw [u64s_get _ _ (by have := unhide Hl5; omega)] at hcY
      obtain ⟨v0, hv0⟩ := own_cell_some hownO i (by omega)
      have hfO := hownO.frozenAt i
      have hiI : (i : Int) + (m + 1) < n + 1 := by have := unhide HnK; omega
      have hiK : (i : Int) < K := by omega
      have hT1 : L[i + (m + 1)]'hin < 1000000000 := unhide hLd _ (List.getElem_mem _)
      have hT0 : L[i + m]'(by omega) < 1000000000 := unhide hLd _ (List.getElem_mem _)
      have hwt := win_top (unhide hLd) i m hin
      have htl := top_le (unhide Hl5)
      have hyl0 : 0 < ys[m]'(by have := unhide Hl5; omega) := by
        have hl5 := unhide Hl5
        have := unhide Hytop (ys[m]'(by omega)) (by
          rw [List.getLast?_eq_getElem?, show ys.length - 1 = m from by omega]
          exact List.getElem?_eq_getElem _)
        omega
      have hyl9 : ys[m]'(by have := unhide Hl5; omega) < 1000000000 := unhide Hys9 _ (List.getElem_mem _)
      generalize L[i + (m + 1)]'hin = ta at *
      generalize L[i + m]'(by omega) = tb at *
      generalize ys[m]'(by have := unhide Hl5; omega) = yl at *
      have Hwt := hide hwt
      have Htl := hide htl
      clear hwt htl
      obtain ⟨q0, hq0⟩ : ∃ q : Nat, ((ta : Int) * 1000000000 + tb) / yl = q := ⟨(ta * 1000000000 + tb) / yl, rfl⟩
      have Hq0 : Hid ((ta * 1000000000 + tb) / yl = q0) := by
        show _ = _
        have : (((ta * 1000000000 + tb) / yl : Nat) : Int) = (q0 : Int) := by rw [← hq0]; rfl
        omega
      have hq0d : ((ta : Int) * 1000000000 + tb).tdiv yl = q0 := by rw [Int.tdiv_eq_ediv_of_nonneg (by omega)]; exact hq0
      have hq0le : q0 ≤ ta * 1000000000 + tb := by rw [← unhide Hq0]; exact Nat.div_le_self _ _
      have e1 := wi64 ((m : Int) + 1) (by omega) (by omega)
      have e2 : ((m : Int) + 1).toNat = m + 1 := by omega
      have e3 := wu64 ((ta : Int) * 1000000000) (by omega) (by omega)
      have e4 := wu64 ((ta : Int) * 1000000000 + tb) (by omega) (by omega)
      have e5 : i + (m + 1) + 1 - i = m + 1 + 1 := by omega
      have e6 := wu64 (q0 : Int) (by omega) (by omega)
      have hyl0I : (0 : Int) < yl := by omega
      have hyl0N : ¬ (yl : Int) = 0 := by omega
      go_wp2_with fail
      go_region
      have hV := over_V (m := m + 1) (by omega) (unhide hLd) (unhide hR) (unhide HYl)
      have hVq : win L i (m + 1 + 1) / Y ≤ 999999999 := by
        have := (Nat.div_lt_iff_lt_mul hpos0).2 hV.2.2
        omega
      have hVg : win L i (m + 1 + 1) / Y ≤ q0 := by
        have h1 := guess_ge (Y := Y) (unhide Hwt) (by rw [← unhide Hyso]; exact unhide Htl) hyl0
        rw [unhide Hq0] at h1; exact h1
      have HVq := hide hVq
      have HVg := hide hVg
      clear hV hVq hVg
      go_wp2_with fail
      ·
        obtain ⟨q1, hq1⟩ : ∃ q1 : Nat, 999999999 = q1 := ⟨_, rfl⟩
        rw [show (999999999 : Int) = (q1 : Int) from by rw [← hq1]; rfl]
        have HV1 : Hid (win L i (m + 1 + 1) / Y ≤ q1) := by rw [← hq1]; exact HVq
        have hq9 : q1 < 1000000000 := by omega
        clear hq1
        have hO1 := (hownO.stored i (.int .u64 (q1 : Int))).1
        rw [u64s_set _ _ q1 _ rfl] at hO1
        have hbW := (hb.setCell (p := ⟨bo, i, none⟩) hob (.int .u64 (q1 : Int))).drew
        have hL1 := ownsRow_setCell_other hownL (a := ⟨bo, i, none⟩) (by simp [Value.ownBlock]; omega) (.int .u64 (q1 : Int))
        have hB1 := ownsRow_setCell_other hownB (a := ⟨bo, i, none⟩) (by simp [Value.ownBlock]; omega) (.int .u64 (q1 : Int))
        have h := takeOff_c L ys gl gb i (m + 1) (n + 1) (n + 1 - i) cb q1 w.heap.size _ (unhide Hl5) hLl (by omega) (by omega) (by omega) (own_drew hL1) (own_drew hB1) (by omega) (unhide hLd) (unhide Hys9) hq9
        refine h.mono ?_
        clear h
        rintro e w7 ⟨neg, L1, rfl, hL7, hg7, hso7, hw7⟩
        have hO7 := (own_drew hO1).kept hg7 (.inr (by simp [Value.ownBlock]; omega))
        have hB7 := (own_drew hB1).kept hg7 (.inr (by simp [Value.ownBlock]; omega))
        have hb7 := hbW.grown hg7 hbW.size (fun k hk => by cases hk; omega)
        rw [unhide Hyso] at hw7
        have Hso7 := hide hso7
        have Hw7 := hide hw7
        clear hO1 hL1 hB1 hbW hg7 hso7 hw7
        go_wp2_with fail
        go_loopw [12] (fun bl wr => ∃ (q : Nat) (neg : Bool) (L2 : List Nat), bl = .bool neg ∧ q < 1000000000 ∧ wr.ownsRow w.heap.size 173 1 (.slice (some ⟨gl, 0, none⟩) (n + 1) (n + 1)) (n + 1) (u64s L2) ∧ wr.ownsRow w.heap.size 173 1 (.slice (some ⟨bo, 0, none⟩) K K) K (u64s (O.set i q)) ∧
            wr.ownsRow 0 173 1 (.slice (some ⟨gb, 0, none⟩) (m + 1) cb) (m + 1) (u64s ys) ∧ Below w.heap.size w wr ∧ Hid (sameOut L L2 i (m + 1 + 1)) ∧
            Hid (win L2 i (m + 1 + 1) + q * Y = win L i (m + 1 + 1) + if neg then 1000000000 ^ (m + 1 + 1) else 0) ∧ Hid (win L i (m + 1 + 1) / Y ≤ q))
          (fun _ wr => cellN wr bo i)
        case atStart => exact ⟨q1, neg, L1, rfl, hq9, hL7, hO7, hB7, hb7, Hso7, Hw7, HV1⟩
        case round =>
          clear hL7 hO7 hB7 hb7 Hso7 Hw7 HV1 hownL hownO hownB hb
          obtain ⟨q, ng, L2, rfl, hq, hL2, hO2, hB2, hb2, hso2, hw2, hV2⟩ := hrel
          cases ng with
          | false =>
            go_wp2_with fail
            go_roundw
            case rel =>
              have hw3 : win L2 i (m + 1 + 1) + q * Y = win L i (m + 1 + 1) := by have := unhide hw2; simpa using this
              have hlt3 := over_exact hw3 (unhide hV2) hpos0
              have hst := over_step (m := m + 1) (by omega) (by omega) (unhide hLd) (unhide HYl) (unhide hinv) (unhide hR) (unhide hso2) hw3 hlt3
              exact ⟨i, L2, O.set i q, by omega, rfl, (unhide hso2).1.trans hLl, by simpa using hOl, hL2, hO2, hB2, hb2, hide (unhide hso2).2.1, hide (set_all (unhide hOd) hq), hide hst.1, hide hst.2⟩
            case measure => simp [intOf]
          | true =>
            have hcO := hO2.cellAt i (by omega)
            rw [u64s_get _ _ (by simp; omega), List.getElem_set_self] at hcO
            have hfO2 := hO2.frozenAt i
            have hmore := over_more (unhide hw2) (win_lt (unhide hso2).2.1 i (m + 1 + 1) (by have := (unhide hso2).1; omega))
            have hq0' : 0 < q := Nat.lt_of_le_of_lt (Nat.zero_le _) hmore
            obtain ⟨q', rfl⟩ : ∃ q', q = q' + 1 := ⟨q - 1, by omega⟩
            have HV3 : Hid (win L i (m + 1 + 1) / Y ≤ q') := Nat.le_of_lt_succ hmore
            clear hmore
            have hO3 := (hO2.stored i (.int .u64 (q' : Int))).1
            rw [u64s_set _ _ q' _ rfl, List.set_set] at hO3
            have hbW := hb2.setCell (p := ⟨bo, i, none⟩) hob (.int .u64 (q' : Int))
            have hL3 := ownsRow_setCell_other hL2 (a := ⟨bo, i, none⟩) (by simp [Value.ownBlock]; omega) (.int .u64 (q' : Int))
            have hB3 := ownsRow_setCell_other hB2 (a := ⟨bo, i, none⟩) (by simp [Value.ownBlock]; omega) (.int .u64 (q' : Int))
            have hcq : cellN wr bo i = q' + 1 := cellN_of hcO
            have Hcq := hide hcq
            have hL2l := (unhide hso2).1.trans hLl
            have HO3 := hide hO3
            clear hL2 hO2 hB2 hb2 hcq hO3
            go_wp2_with fail
            have h := putBack_c L2 ys gl gb i (m + 1) (n + 1) (n + 1 - i) cb w.heap.size _ (unhide Hl5) hL2l (by omega) (by omega) (by omega) hL3 hB3 (by omega) (unhide hso2).2.1 (unhide Hys9)
            refine h.mono ?_
            clear h
            rintro e w8 ⟨up, L3, rfl, hL8, hg8, hso8, hw8⟩
            have hO8 := (unhide HO3).kept hg8 (.inr (by simp [Value.ownBlock]; omega))
            have hB8 := hB3.kept hg8 (.inr (by simp [Value.ownBlock]; omega))
            have hb8 := hbW.grown hg8 hbW.size (fun k hk => by cases hk; omega)
            have hc8 := hO8.cellAt i (by omega)
            rw [u64s_get _ _ (by simp; omega), List.getElem_set_self] at hc8
            have Hc8 := hide (cellN_of hc8)
            have Hso8 : Hid (sameOut L L3 i (m + 1 + 1)) := sameOut_trans (unhide hso2) hso8
            have Hw8 : Hid (win L3 i (m + 1 + 1) + q' * Y = win L i (m + 1 + 1) + if (!up) then 1000000000 ^ (m + 1 + 1) else 0) := by
              rw [unhide Hyso] at hw8
              exact putback_close (unhide hw2) hw8
            clear hc8 hL3 hB3 hbW hg8 hso8 hw8 hso2 hw2
            have hnot : ∀ (x : Bool) (w : World), (Op.unary .not (.bool x)).run Tryz.prog w = .ok (.bool (!x)) w := fun _ _ => rfl
            go_wp2_with fail
            go_roundw
            case rel => exact ⟨q', !up, L3, rfl, by omega, hL8, hO8, hB8, hb8, Hso8, Hw8, HV3⟩
            case measure => rw [unhide Hc8, unhide Hcq]; omega
      ·
        obtain ⟨q1, hq1⟩ : ∃ q1 : Nat, q0 = q1 := ⟨_, rfl⟩
        have hq9 : q1 < 1000000000 := by omega
        rw [hq1]
        have HV1 : Hid (win L i (m + 1 + 1) / Y ≤ q1) := by rw [← hq1]; exact HVg
        clear hq1
        have hO1 := (hownO.stored i (.int .u64 (q1 : Int))).1
        rw [u64s_set _ _ q1 _ rfl] at hO1
        have hbW := (hb.setCell (p := ⟨bo, i, none⟩) hob (.int .u64 (q1 : Int))).drew
        have hL1 := ownsRow_setCell_other hownL (a := ⟨bo, i, none⟩) (by simp [Value.ownBlock]; omega) (.int .u64 (q1 : Int))
        have hB1 := ownsRow_setCell_other hownB (a := ⟨bo, i, none⟩) (by simp [Value.ownBlock]; omega) (.int .u64 (q1 : Int))
        have h := takeOff_c L ys gl gb i (m + 1) (n + 1) (n + 1 - i) cb q1 w.heap.size _ (unhide Hl5) hLl (by omega) (by omega) (by omega) (own_drew hL1) (own_drew hB1) (by omega) (unhide hLd) (unhide Hys9) hq9
        refine h.mono ?_
        clear h
        rintro e w7 ⟨neg, L1, rfl, hL7, hg7, hso7, hw7⟩
        have hO7 := (own_drew hO1).kept hg7 (.inr (by simp [Value.ownBlock]; omega))
        have hB7 := (own_drew hB1).kept hg7 (.inr (by simp [Value.ownBlock]; omega))
        have hb7 := hbW.grown hg7 hbW.size (fun k hk => by cases hk; omega)
        rw [unhide Hyso] at hw7
        have Hso7 := hide hso7
        have Hw7 := hide hw7
        clear hO1 hL1 hB1 hbW hg7 hso7 hw7
        go_wp2_with fail
        go_loopw [12] (fun bl wr => ∃ (q : Nat) (neg : Bool) (L2 : List Nat), bl = .bool neg ∧ q < 1000000000 ∧ wr.ownsRow w.heap.size 173 1 (.slice (some ⟨gl, 0, none⟩) (n + 1) (n + 1)) (n + 1) (u64s L2) ∧ wr.ownsRow w.heap.size 173 1 (.slice (some ⟨bo, 0, none⟩) K K) K (u64s (O.set i q)) ∧
            wr.ownsRow 0 173 1 (.slice (some ⟨gb, 0, none⟩) (m + 1) cb) (m + 1) (u64s ys) ∧ Below w.heap.size w wr ∧ Hid (sameOut L L2 i (m + 1 + 1)) ∧
            Hid (win L2 i (m + 1 + 1) + q * Y = win L i (m + 1 + 1) + if neg then 1000000000 ^ (m + 1 + 1) else 0) ∧ Hid (win L i (m + 1 + 1) / Y ≤ q))
          (fun _ wr => cellN wr bo i)
        case atStart => exact ⟨q1, neg, L1, rfl, hq9, hL7, hO7, hB7, hb7, Hso7, Hw7, HV1⟩
        case round =>
          clear hL7 hO7 hB7 hb7 Hso7 Hw7 HV1 hownL hownO hownB hb
          obtain ⟨q, ng, L2, rfl, hq, hL2, hO2, hB2, hb2, hso2, hw2, hV2⟩ := hrel
          cases ng with
          | false =>
            go_wp2_with fail
            go_roundw
            case rel =>
              have hw3 : win L2 i (m + 1 + 1) + q * Y = win L i (m + 1 + 1) := by have := unhide hw2; simpa using this
              have hlt3 := over_exact hw3 (unhide hV2) hpos0
              have hst := over_step (m := m + 1) (by omega) (by omega) (unhide hLd) (unhide HYl) (unhide hinv) (unhide hR) (unhide hso2) hw3 hlt3
              exact ⟨i, L2, O.set i q, by omega, rfl, (unhide hso2).1.trans hLl, by simpa using hOl, hL2, hO2, hB2, hb2, hide (unhide hso2).2.1, hide (set_all (unhide hOd) hq), hide hst.1, hide hst.2⟩
            case measure => simp [intOf]
          | true =>
            have hcO := hO2.cellAt i (by omega)
            rw [u64s_get _ _ (by simp; omega), List.getElem_set_self] at hcO
            have hfO2 := hO2.frozenAt i
            have hmore := over_more (unhide hw2) (win_lt (unhide hso2).2.1 i (m + 1 + 1) (by have := (unhide hso2).1; omega))
            have hq0' : 0 < q := Nat.lt_of_le_of_lt (Nat.zero_le _) hmore
            obtain ⟨q', rfl⟩ : ∃ q', q = q' + 1 := ⟨q - 1, by omega⟩
            have HV3 : Hid (win L i (m + 1 + 1) / Y ≤ q') := Nat.le_of_lt_succ hmore
            clear hmore
            have hO3 := (hO2.stored i (.int .u64 (q' : Int))).1
            rw [u64s_set _ _ q' _ rfl, List.set_set] at hO3
            have hbW := hb2.setCell (p := ⟨bo, i, none⟩) hob (.int .u64 (q' : Int))
            have hL3 := ownsRow_setCell_other hL2 (a := ⟨bo, i, none⟩) (by simp [Value.ownBlock]; omega) (.int .u64 (q' : Int))
            have hB3 := ownsRow_setCell_other hB2 (a := ⟨bo, i, none⟩) (by simp [Value.ownBlock]; omega) (.int .u64 (q' : Int))
            have hcq : cellN wr bo i = q' + 1 := cellN_of hcO
            have Hcq := hide hcq
            have hL2l := (unhide hso2).1.trans hLl
            have HO3 := hide hO3
            clear hL2 hO2 hB2 hb2 hcq hO3
            go_wp2_with fail
            have h := putBack_c L2 ys gl gb i (m + 1) (n + 1) (n + 1 - i) cb w.heap.size _ (unhide Hl5) hL2l (by omega) (by omega) (by omega) hL3 hB3 (by omega) (unhide hso2).2.1 (unhide Hys9)
            refine h.mono ?_
            clear h
            rintro e w8 ⟨up, L3, rfl, hL8, hg8, hso8, hw8⟩
            have hO8 := (unhide HO3).kept hg8 (.inr (by simp [Value.ownBlock]; omega))
            have hB8 := hB3.kept hg8 (.inr (by simp [Value.ownBlock]; omega))
            have hb8 := hbW.grown hg8 hbW.size (fun k hk => by cases hk; omega)
            have hc8 := hO8.cellAt i (by omega)
            rw [u64s_get _ _ (by simp; omega), List.getElem_set_self] at hc8
            have Hc8 := hide (cellN_of hc8)
            have Hso8 : Hid (sameOut L L3 i (m + 1 + 1)) := sameOut_trans (unhide hso2) hso8
            have Hw8 : Hid (win L3 i (m + 1 + 1) + q' * Y = win L i (m + 1 + 1) + if (!up) then 1000000000 ^ (m + 1 + 1) else 0) := by
              rw [unhide Hyso] at hw8
              exact putback_close (unhide hw2) hw8
            clear hc8 hL3 hB3 hbW hg8 hso8 hw8 hso2 hw2
            have hnot : ∀ (x : Bool) (w : World), (Op.unary .not (.bool x)).run Tryz.prog w = .ok (.bool (!x)) w := fun _ _ => rfl
            go_wp2_with fail
            go_roundw
            case rel => exact ⟨q', !up, L3, rfl, by omega, hL8, hO8, hB8, hb8, Hso8, Hw8, HV3⟩
            case measure => rw [unhide Hc8, unhide Hcq]; omega
end Go.Proofs.YtpbnmhnbkfnaeaaGreatDoor
namespace Go.Proofs.YtpbnmhnbkfnaeaaGreatDoor
open Go.RowKit Nt

theorem over_c (x y : Nat) (v u : Value) (w : World) (hx : isNat w v x) (hy : isNat w u y) (hsx : (gr x).length ≤ 1000000) (hsy : (gr y).length ≤ 1000000) (hy0 : 0 < y) :
    Calls Tryz.prog 183 #[v, u] w fun e w' => (∃ v1 v2, e = .returned (.tuple #[v1, v2]) ∧ isNat w' v1 (x / y) ∧ isNat w' v2 (x % y)) ∧ Below w.heap.size w w' := by
  rcases Nat.lt_or_ge x y with h | h
  · exact over_small x y v u w hx hy hsx hsy h
  · exact over_great x y v u w hx hy hsx hsy h hy0

/-- the number that a value's cells are: a measure alone -/
def valU (w : World) : Value → Nat
  | .slice (some a) n _ => ofd 1000000000 ((List.range n).map fun j => cellN w a.block j)
  | _ => 0

theorem valU_of {w : World} {v : Value} {x : Nat} (h : isNat w v x) : valU w v = x := by
  have ho := gr_ofd x
  unfold isNat at h
  generalize gr x = xs at *
  rcases own_shape h with ⟨rfl, hn, _⟩ | ⟨g, cap, rfl, _⟩
  · have : xs = [] := List.eq_nil_of_length_eq_zero hn
    subst this
    simp [valU]; simpa [ofd] using ho
  · show ofd 1000000000 ((List.range xs.length).map fun j => cellN w g j) = x
    rw [← ho]
    congr 1
    apply List.ext_getElem
    · simp
    · intro j h1 h2
      simp only [List.getElem_map, List.getElem_range]
      apply cellN_of
      rw [h.cellAt j (by omega), u64s_get _ _ h2]

set_option maxRecDepth 100000 in
set_option maxHeartbeats 4000000 in
theorem gcd_c (x y : Nat) (v u : Value) (w : World) (hx : isNat w v x) (hy : isNat w u y) (hsx : (gr x).length ≤ 1000000) (hsy : (gr y).length ≤ 1000000) :
    Calls Tryz.prog 182 #[v, u] w fun e w' => (∃ v', e = .returned v' ∧ isNat w' v' (Nat.gcd x y)) ∧ Below w.heap.size w w' := by
  go_enter Tryz.func182, Tryz.ntmps182
  go_wp2
  go_loopw [0, 1] (fun a b wr => ∃ (x' y' : Nat), isNat wr a x' ∧ isNat wr b y' ∧ (gr x').length ≤ 1000000 ∧ (gr y').length ≤ 1000000 ∧ Below w.heap.size w wr ∧ Hid (Nat.gcd x' y' = Nat.gcd x y))
    (fun _ b wr => valU wr b)
  case atStart => exact ⟨x, y, hx, hy, hsx, hsy, Below.refl _ _, hide rfl⟩
  case round =>
    obtain ⟨x', y', hx', hy', hsx', hsy', hb, hg⟩ := hrel
    obtain ⟨p, cap, hv⟩ := own_slice hy'
    by_cases hz : y' = 0
    · subst hz
      rw [gr_zero] at hv
      subst hv
      go_wp2
      go_ret
      refine ⟨⟨_, rfl, ?_⟩, hb⟩
      rw [← unhide hg, Nat.gcd_zero_right]
      exact hx'
    · have hn0 : 0 < (gr y').length := by
        rcases Nat.eq_zero_or_pos (gr y').length with h | h
        · exact absurd (gr_nil.1 (List.eq_nil_of_length_eq_zero h)) hz
        · exact h
      have hnI : ¬ ((gr y').length : Int) ≤ 0 := by omega
      have Hy := hide hy'
      have Hx := hide hx'
      subst hv
      clear hx' hy'
      go_wp2_with fail
      refine (over_c x' y' _ _ _ (unhide Hx) (unhide Hy) hsx' hsy' (by omega)).mono ?_
      rintro e w1 ⟨⟨v1, v2, rfl, hv1, hv2⟩, hb1⟩
      have hy1 := own_below (unhide Hy) hb1
      have hlt := Nat.mod_lt x' (show 0 < y' by omega)
      have hlen := gr_len_le (Nat.le_of_lt hlt)
      have hm1 := valU_of (unhide Hy)
      have hm2 := valU_of hv2
      have Hm1 := hide hm1
      have Hm2 := hide hm2
      have HV2 := hide hv2
      have HY1 := hide hy1
      clear hm1 hm2 hv2 hv1 hy1
      go_wp2_with fail
      go_roundw
      case rel =>
        refine ⟨y', x' % y', unhide HY1, unhide HV2, hsy', by omega, hb.trans (hb1.mono hb.size), hide ?_⟩
        rw [Nat.gcd_comm y', ← Nat.gcd_rec y' x', Nat.gcd_comm, unhide hg]
      case measure =>
        rw [unhide Hm2, unhide Hm1]; exact hlt
end Go.Proofs.YtpbnmhnbkfnaeaaGreatDoor
namespace Go.Proofs.YtpbnmhnbkfnaeaaGreatDoor
open Go.RowKit Nt

/-- what stands behind k exchanges -/
def revTo (l l' : List UInt8) (k : Nat) : Prop :=
  l'.length = l.length ∧ ∀ t (h : t < l.length) (h' : t < l'.length), l'[t] = if t < k ∨ l.length - k ≤ t then l[l.length - 1 - t]'(by omega) else l[t]

theorem revTo_zero (l : List UInt8) : revTo l l 0 := ⟨rfl, fun t h h' => by rw [if_neg (by omega)]⟩
theorem revTo_end {l l' : List UInt8} {k : Nat} (h : revTo l l' k) (hk : l.length ≤ 2 * k + 1) : l' = l.reverse := by
  apply List.ext_getElem
  · simp [h.1]
  · intro t h1 h2
    rw [List.getElem_reverse, h.2 t (by simpa using h2) h1]
    by_cases ht : t < k ∨ l.length - k ≤ t
    · rw [if_pos ht]
    · rw [if_neg ht]
      congr 1
      have : t < l.length := by simpa using h2
      omega
theorem revTo_step {l l' : List UInt8} {k : Nat} (h : revTo l l' k) (hk : 2 * k + 1 < l.length) {a b : UInt8} (ha : l'[k]? = some a) (hb : l'[l.length - 1 - k]? = some b) :
    revTo l ((l'.set k b).set (l.length - 1 - k) a) (k + 1) := by
  have hl := h.1
  have ha' : l[k]'(by omega) = a := by
    rw [List.getElem?_eq_getElem (by omega)] at ha
    have := h.2 k (by omega) (by omega)
    rw [if_neg (by omega)] at this
    rw [← this]; simpa using ha
  have hb' : l[l.length - 1 - k]'(by omega) = b := by
    rw [List.getElem?_eq_getElem (by omega)] at hb
    have := h.2 (l.length - 1 - k) (by omega) (by omega)
    rw [if_neg (by omega)] at this
    rw [← this]; simpa using hb
  refine ⟨by simpa using hl, ?_⟩
  intro t h1 h2
  by_cases h3 : t = l.length - 1 - k
  · subst h3
    rw [List.getElem_set_self, if_pos (by omega), ← ha']
    congr 1; omega
  · rw [List.getElem_set_ne (by omega)]
    by_cases h4 : t = k
    · subst h4
      rw [List.getElem_set_self, if_pos (by omega), ← hb']
    · rw [List.getElem_set_ne (by omega), h.2 t h1 (by omega)]
      by_cases h5 : t < k ∨ l.length - k ≤ t
      · rw [if_pos h5, if_pos (by omega)]
      · rw [if_neg h5, if_neg (by omega)]

theorem u8v_cell (l : List UInt8) (j : Nat) (h : j < l.length) : (l.map u8v)[j]? = some (.int .u8 (l[j]).toNat) := by simp [u8v, h]
theorem u8v_set (l : List UInt8) (j : Nat) (c : UInt8) : (l.map u8v).set j (.int .u8 c.toNat) = (l.set j c).map u8v := by simp [u8v, List.map_set]

set_option maxRecDepth 100000 in
set_option maxHeartbeats 4000000 in
theorem reverse_c (l : List UInt8) (g cap base : Nat) (w : World) (hs : l.length ≤ 1000000000) (h : w.ownsRow base 5 1 (.slice (some ⟨g, 0, none⟩) l.length cap) l.length (l.map u8v)) :
    Calls Tryz.prog 207 #[.slice (some ⟨g, 0, none⟩) l.length cap] w fun e w' => e = .returned (.tuple #[]) ∧ w'.ownsRow base 5 1 (.slice (some ⟨g, 0, none⟩) l.length cap) l.length (l.reverse.map u8v) ∧ w.grownBy w' (some g) := by
  go_enter Tryz.func207, Tryz.ntmps207
  go_wp2
  go_loopw [2, 3] (fun i j wr => ∃ (k : Nat) (l' : List UInt8), 2 * k ≤ l.length + 1 ∧ i = .int .i64 k ∧ j = .int .i64 ((l.length : Int) - 1 - k) ∧ wr.ownsRow base 5 1 (.slice (some ⟨g, 0, none⟩) l.length cap) l.length (l'.map u8v) ∧ w.grownBy wr (some g) ∧ Hid (revTo l l' k))
    (fun i _ _ => l.length - (intOf i).toNat)
  case atStart => exact ⟨0, l, by omega, rfl, by go_num, h, World.grownBy.refl _ _, hide (revTo_zero l)⟩
  case round =>
    obtain ⟨k, l', hk, rfl, rfl, hown, hg, hrev⟩ := hrel
    by_cases hlt : 2 * k + 1 < l.length
    · have hll := (unhide hrev).1
      have hlI : (k : Int) < (l.length : Int) - 1 - k := by omega
      have hc0 := hown.cellAt k (by omega)
      rw [u8v_cell _ _ (by omega)] at hc0
      have hc1 := hown.cellAt (l.length - 1 - k) (by omega)
      rw [u8v_cell _ _ (by omega)] at hc1
      have hf0 := hown.frozenAt k
      have hf1 := hown.frozenAt (l.length - 1 - k)
      have hga : l'[k]? = some (l'[k]'(by omega)) := List.getElem?_eq_getElem _
      have hgb : l'[l.length - 1 - k]? = some (l'[l.length - 1 - k]'(by omega)) := List.getElem?_eq_getElem _
      have hstep := fun a b ha hb => @revTo_step l l' k (unhide hrev) hlt a b ha hb
      have hst1 := hstep _ _ hga hgb
      generalize l'[k]'(by omega) = a at *
      generalize l'[l.length - 1 - k]'(by omega) = b at *
      have hs1 := hown.stored k (.int .u8 b.toNat)
      rw [u8v_set] at hs1
      have hs2 := hs1.1.stored (l.length - 1 - k) (.int .u8 a.toNat)
      rw [u8v_set] at hs2
      have Hown := hide hs2.1
      have Hg := hide (grownBy_trans (grownBy_trans hg hs1.2) hs2.2)
      have Hst := hide hst1
      have e1 : ((l.length : Int) - 1 - k).toNat = l.length - 1 - k := by omega
      have hkl : (k : Int) < l.length := by omega
      have hjl : (l.length : Int) - 1 - k < l.length := by omega
      have hj0 : 0 ≤ (l.length : Int) - 1 - k := by omega
      have hne : ¬ k = l.length - 1 - k := by omega
      clear hs1 hs2 hst1 hstep hga hgb hll
      go_wp2
      go_region
      all_goals
        go_wp2
        go_roundw
        case rel => exact ⟨k + 1, (l'.set k b).set (l.length - 1 - k) a, by omega, by go_num, by go_num, unhide Hown, ⟨(unhide Hg).os, (unhide Hg).tape, (unhide Hg).output, (unhide Hg).size, (unhide Hg).block⟩, Hst⟩
        case measure => simp [intOf]; omega
    · go_wp2
      go_end0
      have := revTo_end (unhide hrev) (by omega)
      rw [this] at hown
      exact ⟨rfl, hown, hg⟩
end Go.Proofs.YtpbnmhnbkfnaeaaGreatDoor
namespace Go.Proofs.YtpbnmhnbkfnaeaaGreatDoor
open Go.RowKit Nt

def plain (l : List UInt8) : Bool := isDec l && decide (l.length ≤ 60)

theorem plain_long {l : List UInt8} (h : 60 < l.length) : plain l = false := by
  unfold plain; rw [decide_eq_false (by omega)]; simp
theorem plain_of {l : List UInt8} (h : isDec l = false) : plain l = false := by unfold plain; rw [h]; simp

/-- the rune at a place is a digit's just if the byte is -/
theorem rune_dig (l : List UInt8) (pos : Nat) (h : pos < l.length) :
    (48 ≤ (l[pos]).toNat ∧ (l[pos]).toNat ≤ 57 ∧ Utf8.decode (B l) pos = ((l[pos]).toNat, 1)) ∨ (¬ (48 ≤ (l[pos]).toNat ∧ (l[pos]).toNat ≤ 57) ∧ ((Utf8.decode (B l) pos).1 < 48 ∨ 57 < (Utf8.decode (B l) pos).1)) := by
  have h2 : pos < (B l).size := by rw [B_size]; exact h
  have hg : ((B l)[pos]'h2) = l[pos]'h := B_get l pos h2
  by_cases ha : (l[pos]).toNat < 128
  · have := decode_ascii (B l) pos h2 (by rw [hg]; exact ha)
    rw [hg] at this
    by_cases hd : 48 ≤ (l[pos]).toNat ∧ (l[pos]).toNat ≤ 57
    · exact .inl ⟨hd.1, hd.2, this⟩
    · refine .inr ⟨hd, ?_⟩
      rw [this]
      show (l[pos]).toNat < 48 ∨ 57 < (l[pos]).toNat
      omega
  · have := (decode_high (B l) pos h2 (by rw [hg]; omega)).1
    exact .inr ⟨by omega, .inr (by omega)⟩


set_option maxRecDepth 100000 in
set_option maxHeartbeats 4000000 in
theorem numPlain_c (l : List UInt8) (w : World) (hs : l.length ≤ 1000000000) :
    Calls Tryz.prog 185 #[.string (B l)] w fun e w' => e = .returned (.bool (plain l)) ∧ Below w.heap.size w w' := by
  have hI : ((B l).size : Int) = (l.length : Int) := by rw [B_size]
  by_cases hz : l.length = 0
  · have : l = [] := List.eq_nil_of_length_eq_zero hz
    subst this
    have hI0 : (((B []).size : Int) == 0) = true := by rw [hI]; rfl
    clear hI hz hs
    go_enter Tryz.func185, Tryz.ntmps185
    go_wp2
    go_ret
    exact ⟨rfl, Below.refl _ _⟩
  · have h0 : 0 < l.length := by omega
    have h0I : (((B l).size : Int) == 0) = false := by rw [beq_eq_false_iff_ne]; omega
    by_cases h60 : 60 < l.length
    · have h60I : (60 : Int) < ((B l).size : Int) := by omega
      rw [plain_long h60]
      clear hI hz h60
      go_enter Tryz.func185, Tryz.ntmps185
      go_wp2
      go_ret
      exact ⟨rfl, Below.refl _ _⟩
    · have h60I : ¬ (60 : Int) < ((B l).size : Int) := by omega
      by_cases h1 : 1 < l.length
      · have h1I : (1 : Int) < ((B l).size : Int) := by omega
        have hg0 : 0 < (B l).size := by omega
        have hg : ((B l)[0]'hg0).toNat = (l[0]'h0).toNat := by rw [B_get]
        by_cases hc : l[0]'h0 = 48
        · have hq : ((((B l)[0]'hg0).toNat : Int) == 48) = true := by rw [hg, hc]; rfl
          have hf : plain l = false := by
            apply plain_of
            cases hd : isDec l with
            | false => rfl
            | true =>
              unfold isDec at hd
              simp only [bne_iff_ne, Bool.and_eq_true, Bool.or_eq_true, decide_eq_true_eq] at hd
              rcases hd.2 with h2 | h2
              · omega
              · exact absurd (by rw [List.head?_eq_getElem?, List.getElem?_eq_getElem h0, hc]) h2
          rw [hf]
          clear hI hc hg hf hz
          go_enter Tryz.func185, Tryz.ntmps185
          go_wp2
          go_ret
          exact ⟨rfl, Below.refl _ _⟩
        · have hq : ((((B l)[0]'hg0).toNat : Int) == 48) = false := by
            rw [hg, beq_eq_false_iff_ne]
            intro hh
            apply hc
            apply UInt8.toNat_inj.1
            simp only [UInt8.toNat_ofNat]; omega
          have hl0 : Hid (l.length ≤ 1 ∨ l.head? ≠ some 48) := .inr (by
            rw [List.head?_eq_getElem?, List.getElem?_eq_getElem h0]
            intro hh; exact hc (by simpa using hh))
          clear hI hc hg hz
          go_enter Tryz.func185, Tryz.ntmps185
          go_wp2
          go_loopw [4] (fun _ wr => ∃ pos : Nat, pos ≤ l.length ∧ wr.heap[w.heap.size]? = some (.stringIter (B l) pos) ∧ Below w.heap.size w wr ∧ Hid (∀ j (hj : j < l.length), j < pos → 48 ≤ (l[j]).toNat ∧ (l[j]).toNat ≤ 57))
            (fun _ wr => l.length - wr.iterPos w.heap.size)
          case atStart => exact ⟨0, Nat.zero_le _, World.iter_heap _ _ _, (Below.refl _ _).alloc (Nat.le_refl _) _, hide (fun j _ h => by omega)⟩
          case round =>
            obtain ⟨pos, hpl, hit, hb, hv⟩ := hrel
            have hpos0 := iterPos_of hit
            by_cases hlt : pos < l.length
            · have hlt2 : pos < (B l).size := by rw [B_size]; exact hlt
              have hnx := fun ty => Lib.run_next_any_at (P := Tryz.prog) wr w.heap.size (B l) pos ty hit hlt2
              rcases rune_dig l pos hlt with ⟨h1, h2, h3⟩ | ⟨h1, h2⟩
              · rw [h3] at hnx
                have hit2 := Lib.iterAt_heap wr w.heap.size (B l) pos (pos + 1) hit
                have hb2 := Lib.below_iterAt hb (k := w.heap.size) (Nat.le_refl _) (B l) (pos + 1)
                have hpos2 := iterPos_of hit2
                have hv2 : Hid (∀ j (hj : j < l.length), j < pos + 1 → 48 ≤ (l[j]).toNat ∧ (l[j]).toNat ≤ 57) := by
                  intro j hj hjk
                  by_cases hjk2 : j < pos
                  · exact unhide hv j hj hjk2
                  · have : j = pos := by omega
                    subst this; exact ⟨h1, h2⟩
                have h1I : (48 : Int) ≤ ((l[pos]'hlt).toNat : Int) := by omega
                have h2I : ((l[pos]'hlt).toNat : Int) ≤ 57 := by omega
                have Hit2 := hide hit2
                have Hp0 := hide hpos0
                have Hp2 := hide hpos2
                clear h3 hit hit2 hpos0 hpos2
                go_wp2
                go_roundw
                case rel => exact ⟨pos + 1, by omega, unhide Hit2, hb2, hv2⟩
                case measure => rw [unhide Hp0, unhide Hp2]; omega
              · have hb2 := Lib.below_iterAt hb (k := w.heap.size) (Nat.le_refl _) (B l) (pos + (Utf8.decode (B l) pos).2)
                have hf := plain_of (isDec_bad pos hlt h1)
                have Hf := hide hf
                generalize Utf8.decode (B l) pos = rw_ at *
                clear hf h1 hit hpos0
                rcases h2 with h2 | h2
                · have h2I : (rw_.1 : Int) < 48 := by omega
                  clear h2
                  go_wp2
                  go_ret
                  exact ⟨ret_bool (unhide Hf).symm, hb2⟩
                · have h2I : (57 : Int) < rw_.1 := by omega
                  have h3I : ¬ (rw_.1 : Int) < 48 := by omega
                  clear h2
                  go_wp2
                  go_ret
                  exact ⟨ret_bool (unhide Hf).symm, hb2⟩
            · have hlt2 : ¬ pos < (B l).size := by rw [B_size]; exact hlt
              have hnx := fun ty => Lib.run_next_end_at (P := Tryz.prog) wr w.heap.size (B l) pos ty hit hlt2
              have hf : plain l = true := by
                unfold plain
                rw [isDec_good h0 (unhide hl0) (fun j hj => unhide hv j hj (by omega)), decide_eq_true (by omega)]; rfl
              have Hf := hide hf
              clear hf hit hpos0
              go_wp2
              go_ret
              exact ⟨ret_bool (unhide Hf).symm, hb⟩
      · have h1I : ¬ (1 : Int) < ((B l).size : Int) := by omega
        have hl0 : Hid (l.length ≤ 1 ∨ l.head? ≠ some 48) := .inl (by omega)
        clear hI hz
        go_enter Tryz.func185, Tryz.ntmps185
        go_wp2
        go_loopw [4] (fun _ wr => ∃ pos : Nat, pos ≤ l.length ∧ wr.heap[w.heap.size]? = some (.stringIter (B l) pos) ∧ Below w.heap.size w wr ∧ Hid (∀ j (hj : j < l.length), j < pos → 48 ≤ (l[j]).toNat ∧ (l[j]).toNat ≤ 57))
          (fun _ wr => l.length - wr.iterPos w.heap.size)
        case atStart => exact ⟨0, Nat.zero_le _, World.iter_heap _ _ _, (Below.refl _ _).alloc (Nat.le_refl _) _, hide (fun j _ h => by omega)⟩
        case round =>
          obtain ⟨pos, hpl, hit, hb, hv⟩ := hrel
          have hpos0 := iterPos_of hit
          by_cases hlt : pos < l.length
          · have hlt2 : pos < (B l).size := by rw [B_size]; exact hlt
            have hnx := fun ty => Lib.run_next_any_at (P := Tryz.prog) wr w.heap.size (B l) pos ty hit hlt2
            rcases rune_dig l pos hlt with ⟨h1, h2, h3⟩ | ⟨h1, h2⟩
            · rw [h3] at hnx
              have hit2 := Lib.iterAt_heap wr w.heap.size (B l) pos (pos + 1) hit
              have hb2 := Lib.below_iterAt hb (k := w.heap.size) (Nat.le_refl _) (B l) (pos + 1)
              have hpos2 := iterPos_of hit2
              have hv2 : Hid (∀ j (hj : j < l.length), j < pos + 1 → 48 ≤ (l[j]).toNat ∧ (l[j]).toNat ≤ 57) := by
                intro j hj hjk
                by_cases hjk2 : j < pos
                · exact unhide hv j hj hjk2
                · have : j = pos := by omega
                  subst this; exact ⟨h1, h2⟩
              have h1I : (48 : Int) ≤ ((l[pos]'hlt).toNat : Int) := by omega
              have h2I : ((l[pos]'hlt).toNat : Int) ≤ 57 := by omega
              have Hit2 := hide hit2
              have Hp0 := hide hpos0
              have Hp2 := hide hpos2
              clear h3 hit hit2 hpos0 hpos2
              go_wp2
              go_roundw
              case rel => exact ⟨pos + 1, by omega, unhide Hit2, hb2, hv2⟩
              case measure => rw [unhide Hp0, unhide Hp2]; omega
            · have hb2 := Lib.below_iterAt hb (k := w.heap.size) (Nat.le_refl _) (B l) (pos + (Utf8.decode (B l) pos).2)
              have hf := plain_of (isDec_bad pos hlt h1)
              have Hf := hide hf
              generalize Utf8.decode (B l) pos = rw_ at *
              clear hf h1 hit hpos0
              rcases h2 with h2 | h2
              · have h2I : (rw_.1 : Int) < 48 := by omega
                clear h2
                go_wp2
                go_ret
                exact ⟨ret_bool (unhide Hf).symm, hb2⟩
              · have h2I : (57 : Int) < rw_.1 := by omega
                have h3I : ¬ (rw_.1 : Int) < 48 := by omega
                clear h2
                go_wp2
                go_ret
                exact ⟨ret_bool (unhide Hf).symm, hb2⟩
          · have hlt2 : ¬ pos < (B l).size := by rw [B_size]; exact hlt
            have hnx := fun ty => Lib.run_next_end_at (P := Tryz.prog) wr w.heap.size (B l) pos ty hit hlt2
            have hf : plain l = true := by
              unfold plain
              rw [isDec_good h0 (unhide hl0) (fun j hj => unhide hv j hj (by omega)), decide_eq_true (by omega)]; rfl
            have Hf := hide hf
            clear hf hit hpos0
            go_wp2
            go_ret
            exact ⟨ret_bool (unhide Hf).symm, hb⟩
end Go.Proofs.YtpbnmhnbkfnaeaaGreatDoor
namespace Go.Proofs.YtpbnmhnbkfnaeaaGreatDoor
open Go.RowKit Nt

theorem ints_length (l : List Nat) : (ints l).length = l.length := by simp [ints]
theorem ints_get (l : List Nat) (j : Nat) (h : j < l.length) : (ints l)[j]? = some (.int .i64 (l[j] : Nat)) := by simp [ints, h]
theorem ints_set (l : List Nat) (j d : Nat) : (ints l).set j (.int .i64 (d : Int)) = ints (l.set j d) := by simp [ints, List.map_set]
theorem ints_zero (n : Nat) : List.replicate n (Value.int .i64 0) = ints (List.replicate n 0) := by simp [ints]

theorem ints_set' (l : List Nat) (j d : Nat) (v : Int) (h : v = (d : Int)) : (ints l).set j (.int .i64 v) = ints (l.set j d) := by rw [h, ints_set]

/-- what is left when the carries are laid: each a digit -/
theorem mul_norm {xs : List Nat} {L j X : Nat} (hl : xs.length = L) (hj : j + 1 = L) (h : ∀ t (ht : t < xs.length), t < j → xs[t] < 10) (hX : ofd 10 xs = X) (hlt : X < 10 ^ L) : ∀ d ∈ xs, d < 10 := by
  intro d hd
  obtain ⟨t, ht, rfl⟩ := List.getElem_of_mem hd
  by_cases htj : t < j
  · exact h t ht htj
  · have htj2 : t = j := by omega
    subst htj2
    have h1 := ofd_ge 10 xs t ht
    rw [hX] at h1
    rw [← hj, Nat.pow_succ] at hlt
    have h2 : 10 ^ t * xs[t] < 10 ^ t * 10 := by omega
    exact Nat.lt_of_mul_lt_mul_left h2

theorem mul_lt_pow {a b i la lb L : Nat} (hla : (dec a).size = la) (hlb : (dec b).size = lb) (hL : la + lb = L) : a % 10 ^ (i + 1) * b < 10 ^ L := by
  have h1 := dec_lt a
  have h2 := dec_lt b
  rw [hla] at h1
  rw [hlb] at h2
  rw [← hL, Nat.pow_add 10 la lb]
  exact Nat.mul_lt_mul'' (Nat.lt_of_le_of_lt (Nat.mod_le _ _) h1) h2

theorem norm_step {xs : List Nat} {j x y q r X : Nat} (hj : j + 1 < xs.length) (hx : xs[j]'(by omega) = x) (hy : xs[j + 1] = y) (hq : x / 10 = q) (hr : x % 10 = r) (hX : ofd 10 xs = X) :
    ofd 10 ((xs.set (j + 1) (y + q)).set j r) = X := by
  have h1 := ofd_set 10 xs (j + 1) (y + q) hj
  have h2 := ofd_set 10 (xs.set (j + 1) (y + q)) j r (by rw [List.length_set]; omega)
  rw [List.getElem_set_ne (by omega), hx] at h2
  rw [hy, hX, ← hq] at h1
  rw [← hr, ← hq] at h2
  have := carry_step h1 h2
  rw [← hq, ← hr]; exact this

/-- the row that is written: of L integers -/
abbrev rowOf (w : World) (L : Nat) : Value := .slice (some ⟨w.heap.size, 0, none⟩) L L

set_option maxRecDepth 100000 in
set_option maxHeartbeats 4000000 in
theorem l1Mul_c (a b : Nat) (w : World) (hsa : (dec a).size ≤ 100000) (hsb : (dec b).size ≤ 100000) :
    Calls Tryz.prog 133 #[.string (dec a), .string (dec b)] w fun e w' => e = .returned (.string (dec (a * b))) ∧ Below w.heap.size w w' := by
  obtain ⟨i0, hi, hz0, hz1, hz2⟩ := info_parts Tryz.infoInt
  obtain ⟨la, hla⟩ : ∃ la, (dec a).size = la := ⟨_, rfl⟩
  obtain ⟨lb, hlb⟩ : ∃ lb, (dec b).size = lb := ⟨_, rfl⟩
  have Hla := hide hla
  have Hlb := hide hlb
  obtain ⟨L, hL⟩ : ∃ L, la + lb = L := ⟨_, rfl⟩
  have hLI : (la : Int) + lb = L := by omega
  have HL := hide hL
  have hlaI : ((dec a).size : Int) = la := by omega
  have hlbI : ((dec b).size : Int) = lb := by omega
  rw [hla] at hsa
  rw [hlb] at hsb
  have hLs : L ≤ 200000 := by omega
  have hlaL : la ≤ L := by omega
  clear hL
  go_enter Tryz.func133, Tryz.ntmps133
  go_wp2_with (refine wpList_make_full _ rfl (.tmp 13) (.tmp 13) 24 rfl w.heap.size 3 i0 (.int .i64 0) 1 Tryz.underlying24 hi hz0 hz1 .i64 .i64 L L L rfl rfl rfl rfl (by rw [hz2]; omega) (by unfold maxLen; omega) (Nat.le_refl _) ?_; intro w1 hown1 hg1)
  go_loopw [6, 7, 8] (fun i k j wr => ∃ (i' : Nat) (xs : List Nat), i' ≤ la ∧ i = .int .i64 i' ∧ xs.length = L ∧ wr.ownsRow w.heap.size 3 1 (rowOf w L) L (ints xs) ∧ Below w.heap.size w wr ∧
      Hid (∀ d ∈ xs, d < 10) ∧ Hid (ofd 10 xs = a % 10 ^ i' * b))
    (fun i _ _ _ => la - (intOf i).toNat)
  case atStart =>
    refine ⟨0, List.replicate L 0, Nat.zero_le _, rfl, by simp, ?_, (Below.refl _ _).grown hg1 (Nat.le_refl _) (fun _ h => by cases h), ?_, ?_⟩
    · simpa [Value.cells, toList_madeCells_one, ints_zero] using hown1
    · intro d hd; simp at hd; omega
    · show _ = _; rw [ofd_replicate_zero]; simp [Nat.mod_one]
  case round =>
    clear hown1 hg1
    obtain ⟨i', xs, hi', rfl, hxl, hown, hb, hdg, hval⟩ := hrel
    by_cases hlt : i' < la
    · have hai : a / 10 ^ i' % 10 < 10 := Nat.mod_lt _ (by omega)
      generalize hga : a / 10 ^ i' % 10 = ai at *
      have Ha := hide hga
      clear hga
      go_wp2
      go_loopw [7] (fun k wr => ∃ (k' : Nat) (xs : List Nat), k' ≤ lb ∧ k = .int .i64 k' ∧ xs.length = L ∧ wr.ownsRow w.heap.size 3 1 (rowOf w L) L (ints xs) ∧ Below w.heap.size w wr ∧
          Hid (∀ d ∈ xs, d ≤ 90) ∧ Hid (∀ j (h : j < xs.length), i' + k' ≤ j → xs[j] < 10) ∧ Hid (ofd 10 xs = a % 10 ^ i' * b + 10 ^ i' * (ai * (b % 10 ^ k'))))
        (fun k _ => lb - (intOf k).toNat)
      case atStart =>
        exact ⟨0, xs, Nat.zero_le _, rfl, hxl, hown, hb, hide (fun d hd => by have := unhide hdg d hd; omega), hide (fun j h _ => unhide hdg _ (List.getElem_mem h)), hide (by rw [unhide hval]; simp [Nat.mod_one])⟩
      case round =>
        clear hown hb hdg hval hxl
        clear xs
        obtain ⟨k', xs, hk', rfl, hxl, hown, hb, hdg, hup, hval⟩ := hrel
        by_cases hlt2 : k' < lb
        · have hbk : b / 10 ^ k' % 10 < 10 := Nat.mod_lt _ (by omega)
          generalize hgb : b / 10 ^ k' % 10 = bk at *
          have Hb := hide hgb
          clear hgb
          have hjL : i' + k' < L := by omega
          have hx10 : xs[i' + k']'(by omega) < 10 := unhide hup _ (by omega) (Nat.le_refl _)
          have hcell := hown.cellAt (i' + k') (by omega)
          rw [ints_get _ _ (by omega)] at hcell
          have hfr := hown.frozenAt (i' + k')
          generalize hx : xs[i' + k']'(by omega) = x at *
          have Hx := hide hx
          have hmul : ai * bk ≤ 9 * 9 := Nat.mul_le_mul (by omega) (by omega)
          generalize hpp : ai * bk = pp at *
          have hppI : (ai : Int) * bk = pp := by rw [← hpp]; simp
          have Hpp := hide hpp
          clear hx hpp
          have hst := hown.stored (i' + k') (.int .i64 ((x : Int) + pp))
          rw [ints_set' _ _ (x + pp) _ (by simp)] at hst
          have Hst := hide hst
          clear hst
          have e1 := wi64 ((i' : Int) + k') (by omega) (by omega)
          have e2 := wi64 (pp : Int) (by omega) (by omega)
          have e3 := wi64 ((x : Int) + pp) (by omega) (by omega)
          have e4 : ((i' : Int) + k').toNat = i' + k' := by omega
          have hix : (i' : Int) + k' < L := by omega
          go_wp2
          go_region_with (first | (go_at_call_of 163 (dec a); refine (l1At_d a i' ai _ (unhide Ha) (by omega) (by omega)).mono ?_; rintro e w1 ⟨rfl, rfl⟩) | (go_at_call_of 163 (dec b); refine (l1At_d b k' bk _ (unhide Hb) (by omega) (by omega)).mono ?_; rintro e w1 ⟨rfl, rfl⟩))
          all_goals
            go_wp2
            go_roundw
            case rel =>
              refine ⟨k' + 1, xs.set (i' + k') (x + pp), by omega, by go_num, by simpa using hxl, (unhide Hst).1, ?_, hide (set_all (unhide hdg) (by omega)), ?_, ?_⟩
              · first
                | exact (hb.setCell (by simp) _).drew
                | exact hb.setCell (by simp) _
              · intro j hj hij
                rw [List.getElem_set_ne (by omega)]
                exact unhide hup j (by simpa using hj) (by omega)
              · have hs := ofd_set 10 xs (i' + k') (x + pp) (by omega)
                rw [unhide Hx, ← unhide Hpp] at hs
                have := mul_step (unhide Ha) (unhide Hb) (unhide hval) hs
                rw [unhide Hpp] at this
                exact this
            case measure => simp [intOf]; omega
        · have hkl : k' = lb := by omega
          subst hkl
          have hlen := Nat.lt_of_le_of_lt (Nat.zero_le _) hlt
          go_wp2
          go_loopw [8] (fun j wr => ∃ (j' : Nat) (xs : List Nat), j' + 1 ≤ L ∧ j = .int .i64 j' ∧ xs.length = L ∧ wr.ownsRow w.heap.size 3 1 (rowOf w L) L (ints xs) ∧ Below w.heap.size w wr ∧
              Hid (∀ d ∈ xs, d ≤ 99) ∧ Hid (∀ t (h : t < xs.length), t < j' → xs[t] < 10) ∧ Hid (∀ t (h : t < xs.length), j' < t → xs[t] ≤ 90) ∧ Hid (ofd 10 xs = a % 10 ^ (i' + 1) * b))
            (fun j _ => L - (intOf j).toNat)
          case atStart =>
            refine ⟨0, xs, by omega, rfl, hxl, hown, hb, hide (fun d hd => by have := unhide hdg d hd; omega), hide (fun j h _ => by omega), hide (fun t ht _ => unhide hdg _ (List.getElem_mem ht)), ?_⟩
            show _ = _
            rw [unhide hval, ← mul_row (unhide Ha)]
            have hbl := dec_lt b
            rw [unhide Hlb] at hbl
            rw [Nat.mod_eq_of_lt hbl]
          case round =>
            clear hown hb hdg hval hxl hup
            clear xs
            obtain ⟨j', xs, hj', rfl, hxl, hown, hb, hdg, hlow, hhi, hval⟩ := hrel
            by_cases hlt3 : j' + 1 < L
            · have hc0 := hown.cellAt j' (by omega)
              rw [ints_get _ _ (by omega)] at hc0
              have hc1 := hown.cellAt (j' + 1) (by omega)
              rw [ints_get _ _ (by omega)] at hc1
              have hf0 := hown.frozenAt j'
              have hf1 := hown.frozenAt (j' + 1)
              have hx99 : xs[j']'(by omega) ≤ 99 := unhide hdg _ (List.getElem_mem _)
              have hy90 : xs[j' + 1]'(by omega) ≤ 90 := unhide hhi _ (by omega) (by omega)
              generalize hx : xs[j']'(by omega) = x at *
              generalize hy : xs[j' + 1]'(by omega) = y at *
              have Hx := hide hx
              have Hy := hide hy
              clear hx hy
              obtain ⟨q, hq⟩ : ∃ q : Nat, (x : Int) / 10 = q := ⟨x / 10, by omega⟩
              obtain ⟨r, hr⟩ : ∃ r : Nat, (x : Int) % 10 = r := ⟨x % 10, by omega⟩
              have hqN : x / 10 = q := by omega
              have hrN : x % 10 = r := by omega
              have HqN := hide hqN
              have HrN := hide hrN
              clear hqN hrN
              have hq9 : q ≤ 9 := by omega
              have hr9 : r ≤ 9 := by omega
              have hq' : (x : Int).tdiv 10 = q := by rw [Int.tdiv_eq_ediv_of_nonneg (by omega)]; exact hq
              have hr' : (x : Int).tmod 10 = r := by rw [Int.tmod_eq_emod_of_nonneg (by omega)]; exact hr
              have hst := hown.stored (j' + 1) (.int .i64 ((y : Int) + q))
              rw [ints_set' _ _ (y + q) _ (by simp)] at hst
              have hst2 := hst.1.stored j' (.int .i64 (r : Int))
              rw [ints_set] at hst2
              have Hst := hide hst2
              have e1 := wi64 ((j' : Int) + 1) (by omega) (by omega)
              have e2 := wi64 ((y : Int) + q) (by omega) (by omega)
              have e3 := wi64 (q : Int) (by omega) (by omega)
              have e4 : ((j' : Int) + 1).toNat = j' + 1 := by omega
              have hix : (j' : Int) + 1 < L := by omega
              clear hst hst2
              go_wp2
              go_region
              all_goals
                go_wp2
                go_roundw
                case rel =>
                  refine ⟨j' + 1, (xs.set (j' + 1) (y + q)).set j' r, by omega, by go_num, by simpa using hxl, (unhide Hst).1, ((hb.setCell (by simp) _).setCell (by simp) _).drew, hide (set_all (set_all (unhide hdg) (by omega)) (by omega)), ?_, ?_, hide (norm_step (by omega) (unhide Hx) (unhide Hy) (unhide HqN) (unhide HrN) (unhide hval))⟩
                  · intro t ht htj
                    by_cases hh : t = j'
                    · subst hh; rw [List.getElem_set_self]; omega
                    · rw [List.getElem_set_ne (by omega), List.getElem_set_ne (by omega)]
                      exact unhide hlow t (by simpa using ht) (by omega)
                  · intro t ht htj
                    rw [List.getElem_set_ne (by omega), List.getElem_set_ne (by omega)]
                    exact unhide hhi t (by simpa using ht) (by omega)
                case measure => simp [intOf]; omega
            · go_wp2
              go_roundw
              case rel =>
                have hjl : j' + 1 = L := by omega
                exact ⟨i' + 1, xs, by omega, by go_num, hxl, hown, hb, hide (mul_norm hxl hjl (unhide hlow) (unhide hval) (mul_lt_pow (unhide Hla) (unhide Hlb) (unhide HL))), hval⟩
              case measure => simp [intOf]; omega
    · have hil : i' = la := by omega
      subst hil
      go_wp2_with fail
      refine (l1Text_c xs _ _ (unhide hdg) (by omega) (by rw [hxl]; exact own_base hown (Nat.zero_le _))).mono ?_
      rintro e w1 ⟨rfl, hb1⟩
      go_wp2
      go_ret
      have hal := dec_lt a
      rw [unhide Hla] at hal
      have hv := unhide hval
      rw [Nat.mod_eq_of_lt hal] at hv
      exact ⟨ret_str (by rw [hv]), hb.trans (hb1.mono hb.size)⟩
end Go.Proofs.YtpbnmhnbkfnaeaaGreatDoor
