/- A part of the proof, put together out of smaller texts: each piece says what it is for. -/
import Derived.Test.YtpbnmhnbkfnaeaaGreatDoorM8
import Derived.Deep.Cut
import Derived.Deep.CutRange
import Derived.Deep.RegionHeld3
import Derived.Shelf.Small.Utf8
import Derived.Shelf.Small.Strs
import Derived.Shelf.Utf8.RuneCount
import Derived.Shelf.Strings.Runes
import Derived.RangeFuncNested
import Derived.RangeFuncBound
import Derived.RangeFuncCalls
import Derived.RangeFuncLeaves
import Derived.Shelf.Abstract
import Derived.Shelf.RegionOpen
import Derived.WalkKit
import Derived.OwnWalkIn
import Derived.TacticsInMore
import Derived.LoopNIn
import Derived.LoopIn
/- The program's NumCmp: what is left of two whole numbers, its sign. -/
namespace Go.Proofs.YtpbnmhnbkfnaeaaGreatDoor
open Go.RowKit Nt

theorem cell_kept2 {w w' : World} (k : Below w.heap.size w w') {a : Addr} {v : Value} (h : w.cell? a = some v) : w'.cell? a = some v := (k.cell (World.block_lt_of_cell? _ _ h)).trans h
def wlV (n : Bool) (p : Option Addr) (l c : Nat) : Value := .agg #[.bool n, .slice p l c]
theorem wNeg_s (n : Bool) (v : Value) (x : Nat) (w : World) (hx : isNat w v x) :
    Calls Tryz.prog 190 #[wholeV n v] w fun e w' => (∃ p c, e = .returned (.agg #[.bool (!n), .slice p (gr x).length c]) ∧ isNat w' (.slice p (gr x).length c) x) ∧ Below w.heap.size w w' := by
  refine (wNeg_c n v x w hx).mono ?_
  rintro e w' ⟨⟨_, rfl, v1, rfl, hv⟩, hb⟩
  obtain ⟨p, c, rfl⟩ := own_slice hv
  exact ⟨⟨p, c, rfl, hv⟩, hb⟩
theorem wPlus_s (n m : Bool) (v u : Value) (x y : Nat) (R : Bool × Nat) (hR : plusW (n, x) (m, y) = R) (w : World) (hx : isNat w v x) (hy : isNat w u y) (hsx : (gr x).length ≤ 1000000) (hsy : (gr y).length ≤ 1000000) :
    Calls Tryz.prog 189 #[wholeV n v, wholeV m u] w fun e w' => (∃ p c, e = .returned (.agg #[.bool R.1, .slice p (gr R.2).length c])) ∧ Below w.heap.size w w' := by
  refine (wPlus_c n m v u x y w hx hy hsx hsy).mono ?_
  rintro e w' ⟨⟨_, rfl, v1, rfl, hv⟩, hb⟩
  obtain ⟨p, c, rfl⟩ := own_slice hv
  rw [hR]
  exact ⟨⟨p, c, rfl⟩, hb⟩
theorem wTimes_s (n m : Bool) (v u : Value) (x y : Nat) (w : World) (hx : isNat w v x) (hy : isNat w u y) (hsx : (gr x).length ≤ 1000000) (hsy : (gr y).length ≤ 1000000) :
    Calls Tryz.prog 161 #[wholeV n v, wholeV m u] w fun e w' => (∃ p c, e = .returned (.agg #[.bool (n != m), .slice p (gr (x * y)).length c]) ∧ isNat w' (.slice p (gr (x * y)).length c) (x * y)) ∧ Below w.heap.size w w' := by
  refine (wTimes_c n m v u x y w hx hy hsx hsy).mono ?_
  rintro e w' ⟨⟨_, rfl, v1, rfl, hv⟩, hb⟩
  obtain ⟨p, c, rfl⟩ := own_slice hv
  exact ⟨⟨p, c, rfl, isNatB.nat hv⟩, hb⟩
def sgW (R : Bool × Nat) : Int := if R.2 = 0 then 0 else if R.1 then -1 else 1
theorem sgW_sgn (R : Bool × Nat) : sgW R = sgI (sgn R) := by
  obtain ⟨n, x⟩ := R
  unfold sgW sgI sgn
  by_cases hx : x = 0
  · subst hx; cases n <;> simp
  · cases n
    · simp [hx]
      try omega
    · simp [hx]
      try omega
/-- behind cmp's region: what is left lies in a box of its own -/
def MadeW (W : World) (R : Bool × Nat) (s : Value) (wx : World) : Prop :=
  ∃ g p c, s = .pointer (some ⟨g, 0, none⟩) ∧ AtC2 wx g (.bool R.1) (.slice p (gr R.2).length c) 183 ∧ Below W.heap.size W wx
abbrev noWh : Obj := .cells #[.bool false, .slice none 0 0] 183
theorem madeW_new {W w2 : World} {R : Bool × Nat} {p : Option Addr} {c : Nat} (hK : Below W.heap.size W w2) : MadeW W R (.pointer (some ⟨w2.heap.size, 0, none⟩)) (w2.alloc (.cells #[.bool R.1, .slice p (gr R.2).length c] 183)) :=
  ⟨_, p, c, rfl, AtC2.new _ _ _ _, step_a hK _⟩
theorem madeW_old {W w2 : World} {R : Bool × Nat} {b : Nat} {p : Option Addr} {c : Nat} {x y : Value} (hM : AtC2 w2 b x y 183) (hb : W.heap.size ≤ b) (hK : Below W.heap.size W w2) :
    MadeW W R (.pointer (some ⟨b, 0, none⟩)) ((w2.setCell ⟨b, 0, none⟩ (.bool R.1)).setCell ⟨b, 1, none⟩ (.slice p (gr R.2).length c)) :=
  ⟨b, p, c, rfl, (hM.st0 _).st1 _, (hK.setCell (p := ⟨b, 0, none⟩) hb _).setCell (p := ⟨b, 1, none⟩) hb _⟩

set_option maxRecDepth 100000 in
set_option maxHeartbeats 4000000 in
theorem wCmp_c (n m : Bool) (v u : Value) (x y : Nat) (w : World) (hx : isNat w v x) (hy : isNat w u y) (hsx : (gr x).length ≤ 1000000) (hsy : (gr y).length ≤ 1000000) :
    Calls Tryz.prog 162 #[wholeV n v, wholeV m u] w fun e w' => e = .returned (.int .i64 (sgW (plusW (n, x) (!m, y)))) ∧ Below w.heap.size w w' := by
  obtain ⟨p, cap, rfl⟩ := own_slice hx
  obtain ⟨q, cap2, rfl⟩ := own_slice hy
  obtain ⟨R, hR⟩ : ∃ R, plusW (n, x) (!m, y) = R := ⟨_, rfl⟩
  rw [hR]
  obtain ⟨lx, hlx⟩ : ∃ l, (gr x).length = l := ⟨_, rfl⟩
  obtain ⟨ly, hly⟩ : ∃ l, (gr y).length = l := ⟨_, rfl⟩
  have HNS := hide (fun W h => wNeg_s m (.slice q ly cap2) y W h)
  have HPS := hide (fun W p1 c1 h1 h2 => wPlus_s n (!m) (.slice p lx cap) (.slice p1 ly c1) x y R hR W h1 h2 hsx hsy)
  rw [hly] at HNS hy
  rw [hlx] at hx
  unfold wholeV at HNS HPS ⊢
  rw [hlx, hly]
  have HX := hide hx
  have HY := hide hy
  have HB := hide (step_a (step_a (Below.refl w.heap.size w) (.cells #[.bool n, .slice p lx cap] 183)) (.cells #[.bool m, .slice q ly cap2] 183))
  have HA1 := hide ((AtC2.new w (.bool n) (.slice p lx cap) 183).alloc (.cells #[.bool m, .slice q ly cap2] 183))
  have HA2 := hide (AtC2.new (w.alloc (.cells #[.bool n, .slice p lx cap] 183)) (.bool m) (.slice q ly cap2) 183)
  rw [World.size_alloc] at HA2
  clear hx hy hR hlx hly hsx hsy
  go_enter Tryz.func162, Tryz.ntmps162
  go_wp2_with fail
  obtain ⟨W, hW⟩ : ∃ W, (w.alloc (.cells #[.bool n, .slice p lx cap] 183)).alloc (.cells #[.bool m, .slice q ly cap2] 183) = W := ⟨_, rfl⟩
  rw [hW] at HB HA1 HA2 ⊢
  clear hW
  have HX := hide (isNat_below (unhide HX) (unhide HB))
  have HY := hide (isNat_below (unhide HY) (unhide HB))
  have a0 := (unhide HA1).n0
  have a1 := (unhide HA1).n1
  have b0 := (unhide HA2).n0
  have b1 := (unhide HA2).n1
  have hWk := step_a (Below.refl W.heap.size W) noWh
  have a0' := cell_kept2 hWk a0
  have a1' := cell_kept2 hWk a1
  have b0' := cell_kept2 hWk b0
  have b1' := cell_kept2 hWk b1
  have HWK := hide hWk
  have HM0 := hide (AtC2.new W (.bool false) (.slice none 0 0) 183)
  clear hWk
  go_cut [5] from 6 to 9 (fun s wx => MadeW W R s wx)
  case first =>
    go_region_with (first
      | (go_at_call 190; refine (unhide HNS (W.alloc noWh).drew (isNat_below (unhide HY) (unhide HWK).drew)).mono ?_; rintro e w1 ⟨⟨p1, c1, rfl, hv1⟩, hb1⟩; have HK1 : Hid (Below W.heap.size W w1) := hide ((unhide HWK).drew.trans (hb1.mono (unhide HWK).size)); have HM1 := hide ((unhide HM0).below ((Below.refl _ _).drew.trans hb1)); have HV1 := hide hv1; have k0 := cell_kept2 (unhide HK1) a0; have k1 := cell_kept2 (unhide HK1) a1; have k2 := cell_kept2 (unhide HK1) b0; have k3 := cell_kept2 (unhide HK1) b1; clear hb1 hv1)
      | (go_at_call 190; refine (unhide HNS W.drew (isNat_below (unhide HY) (Below.refl _ _).drew)).mono ?_; rintro e w1 ⟨⟨p1, c1, rfl, hv1⟩, hb1⟩; have HK1 : Hid (Below W.heap.size W w1) := (Below.refl _ _).drew.trans hb1; have HV1 := hide hv1; have k0 := cell_kept2 (unhide HK1) a0; have k1 := cell_kept2 (unhide HK1) a1; have k2 := cell_kept2 (unhide HK1) b0; have k3 := cell_kept2 (unhide HK1) b1; have hal := step_a (Below.refl w1.heap.size w1) noWh; have k0' := cell_kept2 hal k0; have k1' := cell_kept2 hal k1; have k2' := cell_kept2 hal k2; have k3' := cell_kept2 hal k3; have HAL := hide hal; clear hb1 hv1 hal)
      | (go_at_call 189; refine (unhide HPS w1 p1 c1 (isNat_below (unhide HX) (unhide HK1)) (unhide HV1)).mono ?_; rintro e w2 ⟨⟨p2, c2, rfl⟩, hb2⟩; have HK2 := hide (step_b (unhide HK1) hb2); have HM2 := hide ((unhide HM1).below hb2); have m0 := (unhide HM2).n0; have m1 := (unhide HM2).n1; have mf := (unhide HM2).f; clear hb2)
      | (go_at_call 189; refine (unhide HPS w1 p1 c1 (isNat_below (unhide HX) (unhide HK1)) (unhide HV1)).mono ?_; rintro e w2 ⟨⟨p2, c2, rfl⟩, hb2⟩; have HK2 := hide (step_b (unhide HK1) hb2); clear hb2)
      | (go_at_call 189; refine (unhide HPS (w1.alloc noWh) p1 c1 (isNat_below (unhide HX) (step_b (unhide HK1) (unhide HAL))) (isNat_below (unhide HV1) (unhide HAL))).mono ?_; rintro e w2 ⟨⟨p2, c2, rfl⟩, hb2⟩; have HK2 := hide (step_b (step_b (unhide HK1) (unhide HAL)) hb2); have HM2 := hide ((AtC2.new w1 (.bool false) (.slice none 0 0) 183).below hb2); have m0 := (unhide HM2).n0; have m1 := (unhide HM2).n1; have mf := (unhide HM2).f; clear hb2))
    all_goals
      go_wp2_with fail
      go_meet
      first
        | exact madeW_new (unhide HK2)
        | exact madeW_old (unhide HM2) (Nat.le_refl _) (unhide HK2)
        | exact madeW_old (unhide HM2) (unhide HK1).size (unhide HK2)
  case rest =>
  obtain ⟨g, p3, c3, rfl, hM, hb⟩ := hcut
  rename World => w4
  have HB4 := hide (step_b (unhide HB) hb)
  have m0 := hM.n0
  have m1 := hM.n1
  obtain ⟨n3, x3⟩ := R
  simp only at m0 m1
  clear hM hb a0 a1 b0 b1 a0' a1' b0' b1'
  by_cases hx0 : x3 = 0
  · have hl : (((gr x3).length : Int) == 0) = true := by rw [hx0, gr_zero]; rfl
    have HQ : Hid (sgW (n3, x3) = 0) := hide (by unfold sgW; rw [if_pos hx0])
    clear hx0
    go_wp2_with fail
    go_ret
    exact ⟨ret_int (unhide HQ).symm, unhide HB4⟩
  · have hl : (((gr x3).length : Int) == 0) = false := by
      rw [beq_eq_false_iff_ne]
      intro e
      have h1 : gr x3 = [] := List.eq_nil_of_length_eq_zero (by omega)
      have h2 := ofd_dg (b := 1000000000) (by omega) x3
      unfold gr at h1
      rw [h1] at h2
      exact hx0 h2.symm
    cases n3 with
    | true =>
      have HQ : Hid (sgW (true, x3) = -1) := hide (by unfold sgW; rw [if_neg hx0, if_pos rfl])
      clear hx0
      go_wp2_with fail
      go_ret
      exact ⟨ret_int (unhide HQ).symm, unhide HB4⟩
    | false =>
      have HQ : Hid (sgW (false, x3) = 1) := hide (by unfold sgW; rw [if_neg hx0, if_neg (by simp)])
      clear hx0
      go_wp2_with fail
      go_ret
      exact ⟨ret_int (unhide HQ).symm, unhide HB4⟩
end Go.Proofs.YtpbnmhnbkfnaeaaGreatDoor
/- The program's NumCmp. -/
namespace Go.Proofs.YtpbnmhnbkfnaeaaGreatDoor
open Go.RowKit Nt

abbrev zeroFr : Array Value := #[.bool false, .slice none 0 0, .bool false, .slice none 0 0]
abbrev noFr : Obj := .cells #[.bool false, .slice none 0 0, .bool false, .slice none 0 0] 185
abbrev st4 (w : World) (b : Nat) (u0 u1 u2 u3 : Value) : World := (((w.setCell ⟨b, 0, none⟩ u0).setCell ⟨b, 1, none⟩ u1).setCell ⟨b, 2, none⟩ u2).setCell ⟨b, 3, none⟩ u3
theorem AtC.m0 {w : World} {b : Nat} {x y z s : Value} {T : TypeId} (h : AtC w b #[x, y, z, s] T) : w.cell? ⟨b, 0, none⟩ = some x := h.c 0
theorem AtC.m1 {w : World} {b : Nat} {x y z s : Value} {T : TypeId} (h : AtC w b #[x, y, z, s] T) : w.cell? ⟨b, 1, none⟩ = some y := h.c 1
theorem AtC.m2 {w : World} {b : Nat} {x y z s : Value} {T : TypeId} (h : AtC w b #[x, y, z, s] T) : w.cell? ⟨b, 2, none⟩ = some z := h.c 2
theorem AtC.m3 {w : World} {b : Nat} {x y z s : Value} {T : TypeId} (h : AtC w b #[x, y, z, s] T) : w.cell? ⟨b, 3, none⟩ = some s := h.c 3
theorem AtC.set4 {w : World} {b : Nat} {x y z s : Value} {T : TypeId} (h : AtC w b #[x, y, z, s] T) (u v t r : Value) : AtC (st4 w b u v t r) b #[u, v, t, r] T := by
  have e : ∀ (w : World) (i : Nat) (cs : Array Value) (u : Value), AtC w b cs T → AtC (w.setCell ⟨b, i, none⟩ u) b (cs.setIfInBounds i u) T := by
    intro w i cs u h
    show (w.heap.modify b _)[b]? = _
    rw [Array.getElem?_modify, if_pos rfl, show w.heap[b]? = _ from h]; rfl
  exact e _ 3 _ _ (e _ 2 _ _ (e _ 1 _ _ (e _ 0 _ _ h)))
theorem AtC.far1 {w : World} {b g i : Nat} {cs : Array Value} {T : TypeId} (h : AtC w g cs T) (hne : g ≠ b) (u : Value) : AtC (w.setCell ⟨b, i, none⟩ u) g cs T := by
  unfold AtC
  rw [Below.heap_setCell _ _ _ _ hne]
  exact h
theorem AtC.far4' {w : World} {b g : Nat} {cs : Array Value} {T : TypeId} (h : AtC w g cs T) (hne : g ≠ b) (u v t r : Value) : AtC (st4 w b u v t r) g cs T :=
  (((h.far1 hne u).far1 hne v).far1 hne t).far1 hne r
theorem nat_ne {w : World} {b x : Nat} {v : Value} {cs : Array Value} {T : TypeId} (h : isNat w v x) (hM : AtC w b cs T) (hT : T ≠ 173) : v.ownBlock ≠ some b := by
  unfold AtC at hM
  rcases h.2 with ⟨rfl, _⟩ | ⟨g1, c1, k1, rfl, _, hg1, _⟩
  · intro e; simp [Value.ownBlock] at e
  · intro e
    simp [Value.ownBlock] at e
    subst e
    rw [hg1] at hM
    simp at hM
    exact hT hM.2.symm
theorem nat_set1 {w : World} {b i x : Nat} {v : Value} (h : isNat w v x) (hne : v.ownBlock ≠ some b) (u : Value) : isNat (w.setCell ⟨b, i, none⟩ u) v x := by
  rcases h.2 with ⟨rfl, h0⟩ | ⟨g1, c1, k1, rfl, hb, hg1, r⟩
  · exact ⟨h.1, .inl ⟨rfl, h0⟩⟩
  · refine ⟨h.1, .inr ⟨g1, c1, k1, rfl, hb, ?_, r⟩⟩
    have : g1 ≠ b := fun e => hne (by rw [e]; rfl)
    rw [Below.heap_setCell _ _ _ _ this]
    exact hg1
theorem nat_set4 {w : World} {b x : Nat} {v : Value} (h : isNat w v x) (hne : v.ownBlock ≠ some b) (u0 u1 u2 u3 : Value) : isNat (st4 w b u0 u1 u2 u3) v x :=
  nat_set1 (nat_set1 (nat_set1 (nat_set1 h hne u0) hne u1) hne u2) hne u3
theorem below_st4 {B : Nat} {a w : World} (h : Below B a w) {b : Nat} (hb : B ≤ b) (u v t r : Value) : Below B a (st4 w b u v t r) :=
  (((h.setCell (p := ⟨b, 0, none⟩) hb u).setCell (p := ⟨b, 1, none⟩) hb v).setCell (p := ⟨b, 2, none⟩) hb t).setCell (p := ⟨b, 3, none⟩) hb r
abbrev FT : TypeId := 185
/-- a fraction in its box -/
def Fin' (w : World) (g : Nat) (n : Bool) (x q : Nat) : Prop := ∃ p c p' c', AtC w g #[.bool n, .slice p (gr x).length c, .bool false, .slice p' (gr q).length c'] FT ∧ isNat w (.slice p (gr x).length c) x ∧ isNat w (.slice p' (gr q).length c') q
section
variable {w : World} {n m : Bool} {x q y r : Nat} {p p' p2 p3 : Option Addr} {c c' c2 c3 : Nat}
theorem fin_alloc {g : Nat} (h : Fin' w g n x q) (o : Obj) : Fin' (w.alloc o) g n x q := by
  obtain ⟨p, c, p', c', h1, h2, h3⟩ := h
  exact ⟨p, c, p', c', h1.alloc o, isNat_below h2 (step_a (Below.refl _ _) o), isNat_below h3 (step_a (Below.refl _ _) o)⟩
theorem fin_new (h1 : isNat w (.slice p (gr x).length c) x) (h2 : isNat w (.slice p' (gr q).length c') q) : Fin' (w.alloc (.cells #[.bool n, .slice p (gr x).length c, .bool false, .slice p' (gr q).length c'] FT)) w.heap.size n x q :=
  ⟨p, c, p', c', AtC.new _ _ _, isNat_below h1 (step_a (Below.refl _ _) _), isNat_below h2 (step_a (Below.refl _ _) _)⟩
theorem fin_put {b : Nat} (hM : AtC w b zeroFr FT) (h1 : isNat w (.slice p (gr x).length c) x) (h2 : isNat w (.slice p' (gr q).length c') q) : Fin' (st4 w b (.bool n) (.slice p (gr x).length c) (.bool false) (.slice p' (gr q).length c')) b n x q :=
  ⟨p, c, p', c', hM.set4 _ _ _ _, nat_set4 h1 (nat_ne h1 hM (by decide)) _ _ _ _, nat_set4 h2 (nat_ne h2 hM (by decide)) _ _ _ _⟩
theorem fin_far {g b : Nat} (h : Fin' w g n x q) (hM : AtC w b zeroFr FT) (hne : g ≠ b) (u0 u1 u2 u3 : Value) : Fin' (st4 w b u0 u1 u2 u3) g n x q := by
  obtain ⟨p, c, p', c', h1, h2, h3⟩ := h
  exact ⟨p, c, p', c', h1.far4' hne _ _ _ _, nat_set4 h2 (nat_ne h2 hM (by decide)) _ _ _ _, nat_set4 h3 (nat_ne h3 hM (by decide)) _ _ _ _⟩
/-- behind the region: both fractions lie in boxes of their own -/
def MadeF (W : World) (n m : Bool) (x q y r : Nat) (s5 s6 : Value) (wx : World) : Prop :=
  ∃ g h, s5 = .pointer (some ⟨g, 0, none⟩) ∧ s6 = .pointer (some ⟨h, 0, none⟩) ∧ Fin' wx g n x q ∧ Fin' wx h m y r ∧ Below W.heap.size W wx
end
end Go.Proofs.YtpbnmhnbkfnaeaaGreatDoor
/- The program's NumCmp: the region that makes both fractions, by what holds whichever of its operations have been carried out. -/
namespace Go.Proofs.YtpbnmhnbkfnaeaaGreatDoor
open Go.RowKit Nt

/-- a fraction as a value -/
def FrV (w : World) (n : Bool) (x q : Nat) (v : Value) : Prop := ∃ p c p' c', v = .agg #[.bool n, .slice p (gr x).length c, .bool false, .slice p' (gr q).length c'] ∧ isNat w (.slice p (gr x).length c) x ∧ isNat w (.slice p' (gr q).length c') q
theorem FrV.below {w w' : World} {n : Bool} {x q : Nat} {v : Value} (h : FrV w n x q v) (hb : Below w.heap.size w w') : FrV w' n x q v := by
  obtain ⟨p, c, p', c', e, h1, h2⟩ := h
  exact ⟨p, c, p', c', e, isNat_below h1 hb, isNat_below h2 hb⟩
theorem FrV.st4 {w : World} {b : Nat} {n : Bool} {x q : Nat} {v : Value} (h : FrV w n x q v) (hM : AtC w b zeroFr FT) (u0 u1 u2 u3 : Value) : FrV (st4 w b u0 u1 u2 u3) n x q v := by
  obtain ⟨p, c, p', c', e, h1, h2⟩ := h
  exact ⟨p, c, p', c', e, nat_set4 h1 (nat_ne h1 hM (by decide)) _ _ _ _, nat_set4 h2 (nat_ne h2 hM (by decide)) _ _ _ _⟩
theorem fin_below {w w' : World} {g : Nat} {n : Bool} {x q : Nat} (h : Fin' w g n x q) (hb : Below w.heap.size w w') : Fin' w' g n x q := by
  obtain ⟨p, c, p', c', h1, h2, h3⟩ := h
  exact ⟨p, c, p', c', h1.below hb, isNat_below h2 hb, isNat_below h3 hb⟩
/-- a box: empty, or with its fraction -/
def Box (l : Array Bool) (k : Nat) (w : World) (g : Nat) (n : Bool) (x q : Nat) : Prop := (¬ LL l k ∧ AtC w g zeroFr FT) ∨ (LL l k ∧ Fin' w g n x q)
theorem Box.lt {l : Array Bool} {k g : Nat} {w : World} {n : Bool} {x q : Nat} (h : Box l k w g n x q) : g < w.heap.size := by
  rcases h with ⟨_, h⟩ | ⟨_, _, _, _, _, h, _⟩ <;> exact h.lt
theorem Box.below {l : Array Bool} {k g : Nat} {w w' : World} {n : Bool} {x q : Nat} (h : Box l k w g n x q) (hb : Below w.heap.size w w') : Box l k w' g n x q := by
  rcases h with ⟨e, h⟩ | ⟨e, h⟩
  · exact .inl ⟨e, h.below hb⟩
  · exact .inr ⟨e, fin_below h hb⟩
theorem Box.far {l : Array Bool} {k g b : Nat} {w : World} {n : Bool} {x q : Nat} (h : Box l k w g n x q) (hM : AtC w b zeroFr FT) (hne : g ≠ b) (u0 u1 u2 u3 : Value) : Box l k (st4 w b u0 u1 u2 u3) g n x q := by
  rcases h with ⟨e, h⟩ | ⟨e, h⟩
  · exact .inl ⟨e, h.far4' hne _ _ _ _⟩
  · exact .inr ⟨e, fin_far h hM hne _ _ _ _⟩
theorem Box.step {l l' : Array Bool} {k g : Nat} {w : World} {n : Bool} {x q : Nat} (h : Box l k w g n x q) (hk : LL l' k ↔ LL l k) : Box l' k w g n x q := by
  unfold Box at h ⊢
  rw [hk]; exact h
/-- the region's operations: 0 and 2 read the numbers, 1 and 3 make the fractions, 4 and 5 make the boxes, 6 and 7 fill them -/
structure NStep (W : World) (n1 n2 : Bool) (x1 y1 x2 y2 : Nat) (t0 t2 : Value) (l : Array Bool) (x : Nat → Value) (w : World) : Prop where
  sz : l.size = 8
  bl : Below W.heap.size W w
  v0 : LL l 0 → x 0 = t0
  v2 : LL l 2 → x 2 = t2
  f1 : LL l 1 → FrV w n1 x1 y1 (x 1)
  f3 : LL l 3 → FrV w n2 x2 y2 (x 3)
  c6 : LL l 6 → LL l 4
  c7 : LL l 7 → LL l 5
  b4 : LL l 4 → ∃ g, x 4 = .pointer (some ⟨g, 0, none⟩) ∧ W.heap.size ≤ g ∧ Box l 6 w g n1 x1 y1
  b5 : LL l 5 → ∃ g, x 5 = .pointer (some ⟨g, 0, none⟩) ∧ W.heap.size ≤ g ∧ Box l 7 w g n2 x2 y2
  ne : LL l 4 → LL l 5 → x 4 ≠ x 5
section
variable {W w w' : World} {n1 n2 : Bool} {x1 y1 x2 y2 : Nat} {t0 t2 u : Value} {l : Array Bool} {x : Nat → Value}
theorem NStep.start (n : l = Array.replicate 8 false) (h : Below W.heap.size W w) : NStep W n1 n2 x1 y1 x2 y2 t0 t2 l x w := by
  subst n
  have hn : ∀ j, ¬ LL (Array.replicate 8 false) j := fun j h => by unfold LL at h; simp [Array.getElem?_replicate] at h
  exact ⟨by simp, h, fun h => absurd h (hn _), fun h => absurd h (hn _), fun h => absurd h (hn _), fun h => absurd h (hn _), fun h => absurd h (hn _), fun h => absurd h (hn _), fun h => absurd h (hn _), fun h => absurd h (hn _), fun h => absurd h (hn _)⟩
/-- an operation but a store -/
theorem NStep.next (h : NStep W n1 n2 x1 y1 x2 y2 t0 t2 l x w) (i : Nat) (hi : i < 6) (hl : ¬ LL l i) (u : Value) (hb : Below w.heap.size w w')
    (h0 : i = 0 → u = t0) (h2 : i = 2 → u = t2) (h1 : i = 1 → FrV w' n1 x1 y1 u) (h3 : i = 3 → FrV w' n2 x2 y2 u)
    (h4 : (i = 4 ∨ i = 5) → u = .pointer (some ⟨w.heap.size, 0, none⟩) ∧ AtC w' w.heap.size zeroFr FT) :
    NStep W n1 n2 x1 y1 x2 y2 t0 t2 (l.setIfInBounds i true) (fun j => if j = i then u else x j) w' := by
  have hs := fun j => LL_set (l := l) (i := i) (by rw [h.sz]; omega) j
  have hk : ∀ {j}, j ≠ i → (LL (l.setIfInBounds i true) j ↔ LL l j) := fun {j} e => by rw [hs]; simp [e]
  have hx : ∀ {j}, j ≠ i → (if j = i then u else x j) = x j := fun {j} e => if_neg e
  have hB : Below W.heap.size W w' := step_b h.bl hb
  refine ⟨by simp [h.sz], hB, fun e => ?_, fun e => ?_, fun e => ?_, fun e => ?_, fun e => ?_, fun e => ?_, fun e => ?_, fun e => ?_, fun e e' => ?_⟩
  · by_cases c : i = 0
    · subst c; exact h0 rfl
    · rw [hx (Ne.symm c)]; exact h.v0 ((hk (Ne.symm c)).1 e)
  · by_cases c : i = 2
    · subst c; exact h2 rfl
    · rw [hx (Ne.symm c)]; exact h.v2 ((hk (Ne.symm c)).1 e)
  · by_cases c : i = 1
    · subst c; exact h1 rfl
    · rw [hx (Ne.symm c)]; exact (h.f1 ((hk (Ne.symm c)).1 e)).below hb
  · by_cases c : i = 3
    · subst c; exact h3 rfl
    · rw [hx (Ne.symm c)]; exact (h.f3 ((hk (Ne.symm c)).1 e)).below hb
  · exact (hs 4).2 (.inr (h.c6 ((hk (by omega)).1 e)))
  · exact (hs 5).2 (.inr (h.c7 ((hk (by omega)).1 e)))
  · by_cases c : i = 4
    · subst c
      obtain ⟨e1, e2⟩ := h4 (.inl rfl)
      exact ⟨w.heap.size, e1, h.bl.size, .inl ⟨fun q => hl (h.c6 ((hk (by omega)).1 q)), e2⟩⟩
    · rw [hx (Ne.symm c)]
      obtain ⟨g, e1, e2, e3⟩ := h.b4 ((hk (Ne.symm c)).1 e)
      exact ⟨g, e1, e2, (e3.below hb).step (hk (by omega))⟩
  · by_cases c : i = 5
    · subst c
      obtain ⟨e1, e2⟩ := h4 (.inr rfl)
      exact ⟨w.heap.size, e1, h.bl.size, .inl ⟨fun q => hl (h.c7 ((hk (by omega)).1 q)), e2⟩⟩
    · rw [hx (Ne.symm c)]
      obtain ⟨g, e1, e2, e3⟩ := h.b5 ((hk (Ne.symm c)).1 e)
      exact ⟨g, e1, e2, (e3.below hb).step (hk (by omega))⟩
  · by_cases c : i = 4
    · subst c
      obtain ⟨e1, _⟩ := h4 (.inl rfl)
      rw [hx (j := 5) (by omega)]
      obtain ⟨g, q1, _, q3⟩ := h.b5 ((hk (by omega)).1 e')
      rw [q1, if_pos rfl, e1]
      intro q; simp at q; have := q3.lt; omega
    · by_cases c' : i = 5
      · subst c'
        obtain ⟨e1, _⟩ := h4 (.inr rfl)
        rw [hx (j := 4) (by omega)]
        obtain ⟨g, q1, _, q3⟩ := h.b4 ((hk (by omega)).1 e)
        rw [q1, if_pos rfl, e1]
        intro q; simp at q; have := q3.lt; omega
      · rw [hx (Ne.symm c), hx (Ne.symm c')]
        exact h.ne ((hk (Ne.symm c)).1 e) ((hk (Ne.symm c')).1 e')
/-- what the first store finds, and what it leaves -/
theorem NStep.do6 (h : NStep W n1 n2 x1 y1 x2 y2 t0 t2 l x w) (hl : ¬ LL l 6) (h1 : LL l 1) (h4 : LL l 4) : ∃ g p c p' c', x 4 = .pointer (some ⟨g, 0, none⟩) ∧ AtC w g zeroFr FT ∧ x 1 = .agg #[.bool n1, .slice p (gr x1).length c, .bool false, .slice p' (gr y1).length c'] ∧
    NStep W n1 n2 x1 y1 x2 y2 t0 t2 (l.setIfInBounds 6 true) x (st4 w g (.bool n1) (.slice p (gr x1).length c) (.bool false) (.slice p' (gr y1).length c')) := by
  obtain ⟨g, e1, e2, e3⟩ := h.b4 h4
  obtain ⟨p, c, p', c', q1, q2, q3⟩ := h.f1 h1
  rcases e3 with ⟨_, e3⟩ | ⟨e, _⟩
  · have hs := fun j => LL_set (l := l) (i := 6) (by rw [h.sz]; omega) j
    have hk : ∀ {j}, j ≠ 6 → (LL (l.setIfInBounds 6 true) j ↔ LL l j) := fun {j} e => by rw [hs]; simp [e]
    refine ⟨g, p, c, p', c', e1, e3, q1, by simp [h.sz], below_st4 h.bl e2 _ _ _ _, fun e => h.v0 ((hk (by omega)).1 e), fun e => h.v2 ((hk (by omega)).1 e), fun e => (h.f1 ((hk (by omega)).1 e)).st4 e3 _ _ _ _, fun e => (h.f3 ((hk (by omega)).1 e)).st4 e3 _ _ _ _, fun _ => (hk (by omega)).2 h4, fun e => (hk (by omega)).2 (h.c7 ((hk (by omega)).1 e)), fun _ => ⟨g, e1, e2, .inr ⟨(hs 6).2 (.inl rfl), fin_put e3 q2 q3⟩⟩, fun e => ?_, fun e e' => h.ne ((hk (by omega)).1 e) ((hk (by omega)).1 e')⟩
    obtain ⟨g', r1, r2, r3⟩ := h.b5 ((hk (by omega)).1 e)
    exact ⟨g', r1, r2, (r3.far e3 (fun q => h.ne h4 ((hk (by omega)).1 e) (by rw [e1, r1, q])) _ _ _ _).step (hk (by omega))⟩
  · exact absurd e hl
theorem NStep.do7 (h : NStep W n1 n2 x1 y1 x2 y2 t0 t2 l x w) (hl : ¬ LL l 7) (h3 : LL l 3) (h5 : LL l 5) : ∃ g p c p' c', x 5 = .pointer (some ⟨g, 0, none⟩) ∧ AtC w g zeroFr FT ∧ x 3 = .agg #[.bool n2, .slice p (gr x2).length c, .bool false, .slice p' (gr y2).length c'] ∧
    NStep W n1 n2 x1 y1 x2 y2 t0 t2 (l.setIfInBounds 7 true) x (st4 w g (.bool n2) (.slice p (gr x2).length c) (.bool false) (.slice p' (gr y2).length c')) := by
  obtain ⟨g, e1, e2, e3⟩ := h.b5 h5
  obtain ⟨p, c, p', c', q1, q2, q3⟩ := h.f3 h3
  rcases e3 with ⟨_, e3⟩ | ⟨e, _⟩
  · have hs := fun j => LL_set (l := l) (i := 7) (by rw [h.sz]; omega) j
    have hk : ∀ {j}, j ≠ 7 → (LL (l.setIfInBounds 7 true) j ↔ LL l j) := fun {j} e => by rw [hs]; simp [e]
    refine ⟨g, p, c, p', c', e1, e3, q1, by simp [h.sz], below_st4 h.bl e2 _ _ _ _, fun e => h.v0 ((hk (by omega)).1 e), fun e => h.v2 ((hk (by omega)).1 e), fun e => (h.f1 ((hk (by omega)).1 e)).st4 e3 _ _ _ _, fun e => (h.f3 ((hk (by omega)).1 e)).st4 e3 _ _ _ _, fun e => (hk (by omega)).2 (h.c6 ((hk (by omega)).1 e)), fun _ => (hk (by omega)).2 h5, fun e => ?_, fun _ => ⟨g, e1, e2, .inr ⟨(hs 7).2 (.inl rfl), fin_put e3 q2 q3⟩⟩, fun e e' => h.ne ((hk (by omega)).1 e) ((hk (by omega)).1 e')⟩
    obtain ⟨g', r1, r2, r3⟩ := h.b4 ((hk (by omega)).1 e)
    exact ⟨g', r1, r2, (r3.far e3 (fun q => h.ne ((hk (by omega)).1 e) h5 (by rw [e1, r1, q])) _ _ _ _).step (hk (by omega))⟩
  · exact absurd e hl
/-- behind the region -/
theorem NStep.done (h : NStep W n1 n2 x1 y1 x2 y2 t0 t2 l x w) (h6 : LL l 6) (h7 : LL l 7) : MadeF W n1 n2 x1 y1 x2 y2 (x 4) (x 5) w := by
  obtain ⟨g, e1, _, e3⟩ := h.b4 (h.c6 h6)
  obtain ⟨g', r1, _, r3⟩ := h.b5 (h.c7 h7)
  rcases e3 with ⟨e, _⟩ | ⟨_, e3⟩
  · exact absurd h6 e
  rcases r3 with ⟨e, _⟩ | ⟨_, r3⟩
  · exact absurd h7 e
  exact ⟨g, g', e1, r1, e3, r3, h.bl⟩
end
end Go.Proofs.YtpbnmhnbkfnaeaaGreatDoor
/- The program's NumCmp. -/
namespace Go.Proofs.YtpbnmhnbkfnaeaaGreatDoor
open Go.RowKit Nt

theorem cell_drew (w : World) (a : Addr) : w.drew.cell? a = w.cell? a := rfl
theorem frac_s (neg : Bool) (a q : Nat) (w : World) (ha : (dec a).size ≤ 60) (hq : (dec q).size ≤ 60) (hT : Tens w) :
    Calls Tryz.prog 160 #[.agg #[.bool neg, .string (dec a), .string (dec q)]] w fun e w' => (∃ p c p' c', e = .returned (.agg #[.bool neg, .slice p (gr a).length c, .bool false, .slice p' (gr q).length c']) ∧ isNat w' (.slice p (gr a).length c) a ∧ isNat w' (.slice p' (gr q).length c') q) ∧ Below w.heap.size w w' := by
  refine (fractionOf_c neg a q w ha hq hT).mono ?_
  rintro e w' ⟨⟨v, u, rfl, hv, hu⟩, hb⟩
  obtain ⟨p, c, rfl⟩ := own_slice hv
  obtain ⟨p', c', rfl⟩ := own_slice hu
  exact ⟨⟨p, c, p', c', rfl, hv.nat, hu.nat⟩, hb⟩

theorem cmpRt_sgW (n1 n2 : Bool) (x1 y1 x2 y2 : Nat) : sgW (plusW (n1, x1 * y2) (!n2, x2 * y1)) = cmpRt (n1, x1, y1) (n2, x2, y2) := by
  rw [sgW_sgn, plusW_sgn, sgn_mul, sgn_mul, sgn_not, Int.neg_mul]
  rfl
set_option maxRecDepth 100000 in
set_option maxHeartbeats 16000000 in
theorem numCmp_yes (n1 n2 : Bool) (x1 y1 x2 y2 : Nat) (w : World) (sx1 : (dec x1).size ≤ 60) (sy1 : (dec y1).size ≤ 60) (sx2 : (dec x2).size ≤ 60) (sy2 : (dec y2).size ≤ 60) (hT : Tens w) (h3 : 3 < w.heap.size)
    (ho1 : okM n1 (txl 10 x1) (txl 10 y1) = true) (ho2 : okM n2 (txl 10 x2) (txl 10 y2) = true) :
    Calls Tryz.prog 129 #[.agg #[.bool n1, .string (dec x1), .string (dec y1)], .agg #[.bool n2, .string (dec x2), .string (dec y2)]] w fun e w' => e = .returned (.int .i64 (cmpRt (n1, x1, y1) (n2, x2, y2))) ∧ Below w.heap.size w w' := by
  obtain ⟨R, hR⟩ : ∃ R, cmpRt (n1, x1, y1) (n2, x2, y2) = R := ⟨_, rfl⟩
  rw [hR]
  have HCR := hide hR
  clear hR
  have HO1 := hide (fun W h => (by have := implNumOk_c n1 (txl 10 x1) (txl 10 y1) W (by rw [← dec_len]; omega) (by rw [← dec_len]; omega) h; rw [ho1] at this; exact this : Calls Tryz.prog 159 #[.agg #[.bool n1, .string (dec x1), .string (dec y1)]] W fun e w' => e = .returned (.bool true) ∧ Below W.heap.size W w'))
  have HO2 := hide (fun W h => (by have := implNumOk_c n2 (txl 10 x2) (txl 10 y2) W (by rw [← dec_len]; omega) (by rw [← dec_len]; omega) h; rw [ho2] at this; exact this : Calls Tryz.prog 159 #[.agg #[.bool n2, .string (dec x2), .string (dec y2)]] W fun e w' => e = .returned (.bool true) ∧ Below W.heap.size W w'))
  have HF1 := hide (fun W h => frac_s n1 x1 y1 W sx1 sy1 h)
  have HF2 := hide (fun W h => frac_s n2 x2 y2 W sx2 sy2 h)
  have HSX := hide (And.intro sx1 (And.intro sy1 (And.intro sx2 sy2)))
  have HTL := hide h3
  have hb00 := below_two w (.bool n1) (.string (dec x1)) (.string (dec y1)) (.bool n2) (.string (dec x2)) (.string (dec y2)) 79
  have HB0 := hide hb00
  have HA10 := hide ((AtC3.new w (.bool n1) (.string (dec x1)) (.string (dec y1)) 79).below (step_a (Below.refl _ _) (.cells #[.bool n2, .string (dec x2), .string (dec y2)] 79)))
  have HA20 := hide (AtC3.new (w.alloc (.cells #[.bool n1, .string (dec x1), .string (dec y1)] 79)) (.bool n2) (.string (dec x2)) (.string (dec y2)) 79)
  rw [World.size_alloc] at HA20
  clear ho1 ho2 sx1 sy1 sx2 sy2 hb00
  go_enter Tryz.func129, Tryz.ntmps129
  go_wp2_with fail
  obtain ⟨W0, hW⟩ : ∃ W, (w.alloc (.cells #[.bool n1, .string (dec x1), .string (dec y1)] 79)).alloc (.cells #[.bool n2, .string (dec x2), .string (dec y2)] 79) = W := ⟨_, rfl⟩
  rw [hW] at HB0 HA10 HA20 ⊢
  clear hW
  refine (unhide HO1 W0 (hT.belowB (unhide HB0) h3)).mono ?_
  rintro e Wa ⟨rfl, hba⟩
  have HBa := hide (step_b (unhide HB0) hba)
  have HA1a := hide ((unhide HA10).below hba)
  have HA2a := hide ((unhide HA20).below hba)
  have r0 := (unhide HA2a).n0
  have r1 := (unhide HA2a).n1
  have r2 := (unhide HA2a).n2
  clear hba
  go_wp2_with fail
  refine (unhide HO2 Wa (hT.belowB (unhide HBa) h3)).mono ?_
  rintro e W ⟨rfl, hbb⟩
  have HB := hide (step_b (unhide HBa) hbb)
  have HA1 := hide ((unhide HA1a).below hbb)
  have HA2 := hide ((unhide HA2a).below hbb)
  have HT := hide (hT.belowB (unhide HB) h3)
  have HTL2 : Hid (3 < W.heap.size) := hide (by have := (unhide HB).size; omega)
  clear hbb r0 r1 r2 HTL hT h3 HBa HA1a HA2a HB0 HA10 HA20
  have HTL := HTL2
  have a0 := (unhide HA1).n0
  have a1 := (unhide HA1).n1
  have a2 := (unhide HA1).n2
  have a3 := (unhide HA2).n0
  have a4 := (unhide HA2).n1
  have a5 := (unhide HA2).n2
  have HSIX : Hid (∀ w', Below W.heap.size W w' → w'.cell? ⟨w.heap.size, 0, none⟩ = some (.bool n1) ∧ w'.cell? ⟨w.heap.size, 1, none⟩ = some (.string (dec x1)) ∧ w'.cell? ⟨w.heap.size, 2, none⟩ = some (.string (dec y1)) ∧ w'.cell? ⟨w.heap.size + 1, 0, none⟩ = some (.bool n2) ∧ w'.cell? ⟨w.heap.size + 1, 1, none⟩ = some (.string (dec x2)) ∧ w'.cell? ⟨w.heap.size + 1, 2, none⟩ = some (.string (dec y2))) := hide (fun w' h => ⟨((unhide HA1).below h).n0, ((unhide HA1).below h).n1, ((unhide HA1).below h).n2, ((unhide HA2).below h).n0, ((unhide HA2).below h).n1, ((unhide HA2).below h).n2⟩)
  go_wp2_with fail
  go_cut [5, 6] from 15 to 18 (fun s5 s6 wx => MadeF W n1 n2 x1 y1 x2 y2 s5 s6 wx)
  case first =>
    refine wp_region_any (by kernel_rfl) ?_
    change wpAny _ _ _ _ _ _ _ (World.drew _)
    refine wpAny_inv (fun l a w' => ∃ x : Nat → Value, a = ⟨#[.agg #[.bool n1, .string (dec x1), .string (dec y1)], .agg #[.bool n2, .string (dec x2), .string (dec y2)], .pointer (some ⟨w.heap.size, 0, none⟩), .pointer (some ⟨w.heap.size + 1, 0, none⟩), .int .i64 0, x 4, x 5, .agg #[.bool n1, .string (dec x1), .string (dec y1)], .bool true, .bool false, .bool false, .agg #[.bool n2, .string (dec x2), .string (dec y2)], .bool true, .bool false, .bool false, x 0, x 1, x 2, x 3, undef, undef, undef, undef, undef, undef, undef, undef, undef, undef, undef], []⟩ ∧ NStep W n1 n2 x1 y1 x2 y2 (.agg #[.bool n1, .string (dec x1), .string (dec y1)]) (.agg #[.bool n2, .string (dec x2), .string (dec y2)]) l x w') ?hsz ?hend ?hstep ?hgo _ _ _ _ ?h0 ?hc
    case hsz =>
      rintro l a w' ⟨x, _, h⟩
      exact h.sz
    case h0 => exact ⟨fun _ => undef, rfl, NStep.start rfl (Below.refl _ _).drew⟩
    case hc => exact Nat.le_of_eq rfl
    case hgo =>
      rintro l a w' ⟨x, rfl, h⟩ hr j hj
      have k0 : l[0]? = some true := LL_ready hr 0 (by simp) (by rw [h.sz]; rfl) (by simp [Region.binds, Array.getD_eq_getD_getElem?])
      have k2 : l[2]? = some true := LL_ready hr 2 (by simp) (by rw [h.sz]; rfl) (by simp [Region.binds, Array.getD_eq_getD_getElem?])
      have k4 : l[4]? = some true := LL_ready hr 4 (by simp) (by rw [h.sz]; rfl) (by simp [Region.binds, Array.getD_eq_getD_getElem?])
      have k5 : l[5]? = some true := LL_ready hr 5 (by simp) (by rw [h.sz]; rfl) (by simp [Region.binds, Array.getD_eq_getD_getElem?])
      have k1 : l[1]? = some true := LL_ready hr 1 (by simp) (by rw [h.sz]; rfl) (by simp [Region.binds, Array.getD_eq_getD_getElem?, k0])
      have k3 : l[3]? = some true := LL_ready hr 3 (by simp) (by rw [h.sz]; rfl) (by simp [Region.binds, Array.getD_eq_getD_getElem?, k2, k1])
      have k6 : l[6]? = some true := LL_ready hr 6 (by simp) (by rw [h.sz]; rfl) (by simp [Region.binds, Array.getD_eq_getD_getElem?, k0, k2, k4, k5, k1, k3])
      have k7 : l[7]? = some true := LL_ready hr 7 (by simp) (by rw [h.sz]; rfl) (by simp [Region.binds, Array.getD_eq_getD_getElem?, k0, k2, k4, k5, k1, k3, k6])
      have hj : j < 8 := by simpa using hj
      rcases (by omega : j = 0 ∨ j = 1 ∨ j = 2 ∨ j = 3 ∨ j = 4 ∨ j = 5 ∨ j = 6 ∨ j = 7) with rfl | rfl | rfl | rfl | rfl | rfl | rfl | rfl
      all_goals assumption
    case hstep =>
      rintro l a w' j ⟨x, rfl, h⟩ hi
      have hi2 := hi
      unfold Region.ready at hi2
      rw [List.mem_filter] at hi2
      obtain ⟨hjj, hi3⟩ := hi2
      have hjj : j < 8 := by simpa using hjj
      have hjl : ¬ LL l j := fun e => by
        unfold LL at e
        simp [Array.getD_eq_getD_getElem?, e] at hi3
      clear hi
      rcases (by omega : j = 0 ∨ j = 1 ∨ j = 2 ∨ j = 3 ∨ j = 4 ∨ j = 5 ∨ j = 6 ∨ j = 7) with rfl | rfl | rfl | rfl | rfl | rfl | rfl | rfl
      · clear hi3
        obtain ⟨y0, y1', y2', z0, z1, z2⟩ := (unhide HSIX) w' h.bl
        refine wpOp_step rfl (fun K hK => ?_)
        go_simp
        exact hK _ _ ⟨_, by simp, h.next 0 (by omega) hjl (.agg #[.bool n1, .string (dec x1), .string (dec y1)]) (Below.refl _ _) (fun _ => rfl) (fun e => by omega) (fun e => by omega) (fun e => by omega) (fun e => by omega)⟩
      · have l0 : LL l 0 := LL_of (by simp [Region.binds, Array.getD_eq_getD_getElem?] at hi3; simp [hi3])
        clear hi3
        have x0' := h.v0 l0
        refine wpOp_step rfl (fun K hK => ?_)
        go_simp
        go_at_call 160
        refine (unhide HF1 w' ((unhide HT).belowB h.bl (unhide HTL))).mono ?_
        rintro e w1 ⟨⟨p, c, p', c', rfl, hv, hu⟩, hb⟩
        (try dsimp only)
        exact hK _ _ ⟨_, by simp [x0'], h.next 1 (by omega) hjl _ hb (fun e => by omega) (fun e => by omega) (fun _ => ⟨p, c, p', c', rfl, hv, hu⟩) (fun e => by omega) (fun e => by omega)⟩
      · clear hi3
        obtain ⟨y0, y1', y2', z0, z1, z2⟩ := (unhide HSIX) w' h.bl
        refine wpOp_step rfl (fun K hK => ?_)
        go_simp
        exact hK _ _ ⟨_, by simp, h.next 2 (by omega) hjl (.agg #[.bool n2, .string (dec x2), .string (dec y2)]) (Below.refl _ _) (fun e => by omega) (fun _ => rfl) (fun e => by omega) (fun e => by omega) (fun e => by omega)⟩
      · have l2 : LL l 2 := LL_of (by simp [Region.binds, Array.getD_eq_getD_getElem?] at hi3; simp [hi3])
        clear hi3
        have x2' := h.v2 l2
        refine wpOp_step rfl (fun K hK => ?_)
        go_simp
        go_at_call 160
        refine (unhide HF2 w' ((unhide HT).belowB h.bl (unhide HTL))).mono ?_
        rintro e w1 ⟨⟨p, c, p', c', rfl, hv, hu⟩, hb⟩
        (try dsimp only)
        exact hK _ _ ⟨_, by simp [x2'], h.next 3 (by omega) hjl _ hb (fun e => by omega) (fun e => by omega) (fun e => by omega) (fun _ => ⟨p, c, p', c', rfl, hv, hu⟩) (fun e => by omega)⟩
      · clear hi3
        refine wpOp_step rfl (fun K hK => ?_)
        go_simp
        exact hK _ _ ⟨_, by simp, h.next 4 (by omega) hjl (.pointer (some ⟨w'.heap.size, 0, none⟩)) (step_a (Below.refl _ _) noFr) (fun e => by omega) (fun e => by omega) (fun e => by omega) (fun e => by omega) (fun _ => ⟨rfl, AtC.new _ _ _⟩)⟩
      · clear hi3
        refine wpOp_step rfl (fun K hK => ?_)
        go_simp
        exact hK _ _ ⟨_, by simp, h.next 5 (by omega) hjl (.pointer (some ⟨w'.heap.size, 0, none⟩)) (step_a (Below.refl _ _) noFr) (fun e => by omega) (fun e => by omega) (fun e => by omega) (fun e => by omega) (fun _ => ⟨rfl, AtC.new _ _ _⟩)⟩
      · have l1 : LL l 1 := LL_of (by simp [Region.binds, Array.getD_eq_getD_getElem?] at hi3; simp [hi3])
        have l4 : LL l 4 := LL_of (by simp [Region.binds, Array.getD_eq_getD_getElem?] at hi3; simp [hi3])
        clear hi3
        obtain ⟨g, p, c, p', c', e5, hM, e1, hn⟩ := h.do6 hjl l1 l4
        have m0 := hM.m0
        have m1 := hM.m1
        have m2 := hM.m2
        have m3 := hM.m3
        have mf := hM.f
        have HN := hide hn
        clear hM hn
        refine wpOp_step rfl (fun K hK => ?_)
        go_simp
        exact hK _ _ ⟨_, by simp [e1, e5], unhide HN⟩
      · have l3 : LL l 3 := LL_of (by simp [Region.binds, Array.getD_eq_getD_getElem?] at hi3; simp [hi3])
        have l5 : LL l 5 := LL_of (by simp [Region.binds, Array.getD_eq_getD_getElem?] at hi3; simp [hi3])
        clear hi3
        obtain ⟨g, p, c, p', c', e5, hM, e1, hn⟩ := h.do7 hjl l3 l5
        have m0 := hM.m0
        have m1 := hM.m1
        have m2 := hM.m2
        have m3 := hM.m3
        have mf := hM.f
        have HN := hide hn
        clear hM hn
        refine wpOp_step rfl (fun K hK => ?_)
        go_simp
        exact hK _ _ ⟨_, by simp [e1, e5], unhide HN⟩
    case hend =>
      rintro l a w' ⟨x, rfl, h⟩ hall
      have HD := hide (h.done (hall 6 (by simp)) (hall 7 (by simp)))
      clear h hall
      go_wp2_with fail
      go_meet
      exact unhide HD
  case rest =>
  obtain ⟨g, h, rfl, rfl, ⟨p1, c1, q1, e1, hM1, v1, u1⟩, ⟨p2, c2, q2, e2, hM2, v2, u2⟩, hb⟩ := hcut
  rename World => w3
  have HB3 := hide (step_b (unhide HB) hb)
  have HG := hide hM1
  have HH := hide hM2
  have HV1 := hide v1
  have HU1 := hide u1
  have HV2 := hide v2
  have HU2 := hide u2
  have a0 := hM1.m0
  have a1 := hM1.m1
  have a2 := hM1.m2
  have a3 := hM1.m3
  have b0 := hM2.m0
  have b1 := hM2.m1
  have b2 := hM2.m2
  have b3 := hM2.m3
  have HE8 : Hid (∀ w', Below w3.heap.size w3 w' → w'.cell? ⟨g, 0, none⟩ = some (.bool n1) ∧ w'.cell? ⟨g, 1, none⟩ = some (.slice p1 (gr x1).length c1) ∧ w'.cell? ⟨g, 2, none⟩ = some (.bool false) ∧ w'.cell? ⟨g, 3, none⟩ = some (.slice q1 (gr y1).length e1) ∧ w'.cell? ⟨h, 0, none⟩ = some (.bool n2) ∧ w'.cell? ⟨h, 1, none⟩ = some (.slice p2 (gr x2).length c2) ∧ w'.cell? ⟨h, 2, none⟩ = some (.bool false) ∧ w'.cell? ⟨h, 3, none⟩ = some (.slice q2 (gr y2).length e2)) := hide (fun w' hb => ⟨(hM1.below hb).m0, (hM1.below hb).m1, (hM1.below hb).m2, (hM1.below hb).m3, (hM2.below hb).m0, (hM2.below hb).m1, (hM2.below hb).m2, (hM2.below hb).m3⟩)
  obtain ⟨sx1, sy1, sx2, sy2⟩ := unhide HSX
  have d1 := dec_gr (dec_prod sx1 sy2)
  have d2 := dec_gr (dec_prod sx2 sy1)
  have g1 := dec_gr sx1
  have g2 := dec_gr sy1
  have g3 := dec_gr sx2
  have g4 := dec_gr sy2
  have HT1 : Hid (∀ W, Below w3.heap.size w3 W → Calls Tryz.prog 161 #[wholeV n1 (.slice p1 (gr x1).length c1), wholeV false (.slice q2 (gr y2).length e2)] W fun e w' => (∃ p c, e = .returned (.agg #[.bool n1, .slice p (gr (x1 * y2)).length c]) ∧ isNat w' (.slice p (gr (x1 * y2)).length c) (x1 * y2)) ∧ Below W.heap.size W w') := hide (fun W hb => by have := wTimes_s n1 false _ _ x1 y2 W (isNat_below v1 hb) (isNat_below u2 hb) (by omega) (by omega); simpa only [Bool.bne_false] using this)
  have HT2 : Hid (∀ W, Below w3.heap.size w3 W → Calls Tryz.prog 161 #[wholeV n2 (.slice p2 (gr x2).length c2), wholeV false (.slice q1 (gr y1).length e1)] W fun e w' => (∃ p c, e = .returned (.agg #[.bool n2, .slice p (gr (x2 * y1)).length c]) ∧ isNat w' (.slice p (gr (x2 * y1)).length c) (x2 * y1)) ∧ Below W.heap.size W w') := hide (fun W hb => by have := wTimes_s n2 false _ _ x2 y1 W (isNat_below v2 hb) (isNat_below u1 hb) (by omega) (by omega); simpa only [Bool.bne_false] using this)
  have HWC : Hid (∀ W v u, isNat W v (x1 * y2) → isNat W u (x2 * y1) → Calls Tryz.prog 162 #[wholeV n1 v, wholeV n2 u] W fun e w' => e = .returned (.int .i64 R) ∧ Below W.heap.size W w') := hide (fun W v u hv hu => by rw [← unhide HCR, ← cmpRt_sgW]; exact wCmp_c n1 n2 v u (x1 * y2) (x2 * y1) W hv hu (by omega) (by omega))
  clear hb hM1 hM2 v1 u1 v2 u2 sx1 sy1 sx2 sy2 d1 d2 g1 g2 g3 g4 HSX HSIX HCR
  obtain ⟨lx1, hl1⟩ : ∃ l, (gr x1).length = l := ⟨_, rfl⟩
  obtain ⟨ly1, hl2⟩ : ∃ l, (gr y1).length = l := ⟨_, rfl⟩
  obtain ⟨lx2, hl3⟩ : ∃ l, (gr x2).length = l := ⟨_, rfl⟩
  obtain ⟨ly2, hl4⟩ : ∃ l, (gr y2).length = l := ⟨_, rfl⟩
  obtain ⟨lm1, hl5⟩ : ∃ l, (gr (x1 * y2)).length = l := ⟨_, rfl⟩
  obtain ⟨lm2, hl6⟩ : ∃ l, (gr (x2 * y1)).length = l := ⟨_, rfl⟩
  rw [hl1] at HE8 HT1 a1
  rw [hl2] at HE8 HT2 a3
  rw [hl3] at HE8 HT2 b1
  rw [hl4] at HE8 HT1 b3
  rw [hl5] at HT1
  rw [hl6] at HT2
  clear hl1 hl2 hl3 hl4 hl5 hl6 HG HH HV1 HU1 HV2 HU2
  go_wp2_with fail
  go_region_held3 (fun w' => w'.cell? ⟨g, 0, none⟩ = some (.bool n1) ∧ w'.cell? ⟨g, 1, none⟩ = some (.slice p1 lx1 c1) ∧ w'.cell? ⟨g, 2, none⟩ = some (.bool false) ∧ w'.cell? ⟨g, 3, none⟩ = some (.slice q1 ly1 e1) ∧ w'.cell? ⟨h, 0, none⟩ = some (.bool n2) ∧ w'.cell? ⟨h, 1, none⟩ = some (.slice p2 lx2 c2) ∧ w'.cell? ⟨h, 2, none⟩ = some (.bool false) ∧ w'.cell? ⟨h, 3, none⟩ = some (.slice q2 ly2 e2)) ((refine unhide HE8 _ ?_; first | with_reducible exact unhide HK3 | with_reducible exact unhide HK2 | with_reducible exact unhide HK1 | exact (Below.refl _ _).drew | exact Below.refl _ _)) (first
    | (go_at_call_of 161 (Value.slice p1 lx1 c1); refine (unhide HT1 w3.drew (Below.refl _ _).drew).mono ?_; rintro e w4 ⟨⟨r1, k1, rfl, hv1⟩, hb1⟩; have HK1 : Hid (Below w3.heap.size w3 w4) := hide ((Below.refl _ _).drew.trans hb1); have HV1 := hide hv1; clear hb1 hv1)
    | (go_at_call_of 161 (Value.slice p2 lx2 c2); refine (unhide HT2 w4 (unhide HK1)).mono ?_; rintro e w5 ⟨⟨r2, k2, rfl, hv2⟩, hb2⟩; have HK2 : Hid (Below w3.heap.size w3 w5) := hide (step_b (unhide HK1) hb2); have HV2 := hide hv2; have HV1' := hide (isNat_below (unhide HV1) hb2); clear hb2 hv2)
    | (go_at_call 162; refine (unhide HWC w5 _ _ (unhide HV1') (unhide HV2)).mono ?_; rintro e w6 ⟨rfl, hb3⟩; have HK3 : Hid (Below w3.heap.size w3 w6) := hide (step_b (unhide HK2) hb3); clear hb3))
  all_goals
    go_wp2_with fail
    go_ret
    exact ⟨rfl, step_b (unhide HB3) (unhide HK3)⟩
end Go.Proofs.YtpbnmhnbkfnaeaaGreatDoor
/- The program's NumCmp. -/
namespace Go.Proofs.YtpbnmhnbkfnaeaaGreatDoor
open Go.RowKit Nt

set_option maxRecDepth 100000 in
set_option maxHeartbeats 4000000 in
theorem implNumCmp_c (a b : T3) (w : World) (ha : smallT a) (hb : smallT b) (hT : Tens w) (h3 : 3 < w.heap.size) :
    Calls Tryz.prog 129 #[numT a, numT b] w fun e w' => e = .returned (.int .i64 (cmpT a b)) ∧ Below w.heap.size w w' := by
  obtain ⟨n1, u1, d1⟩ := a
  obtain ⟨n2, u2, d2⟩ := b
  obtain ⟨ha1, ha2⟩ := ha
  obtain ⟨hb1, hb2⟩ := hb
  simp only at ha1 ha2 hb1 hb2
  by_cases hoo : okM n1 u1 d1 = true ∧ okM n2 u2 d2 = true
  · obtain ⟨ho1, ho2⟩ := hoo
    obtain ⟨m1, x1, y1, e1, v1, s1, s2, s3, s4⟩ := ok_T (t := (n1, u1, d1)) ho1
    obtain ⟨m2, x2, y2, e2, v2, s5, s6, s7, s8⟩ := ok_T (t := (n2, u2, d2)) ho2
    rw [cmpT_yes (a := (n1, u1, d1)) (b := (n2, u2, d2)) ho1 ho2, v1, v2]
    unfold putT at e1 e2
    simp only [Prod.mk.injEq] at e1 e2
    obtain ⟨rfl, rfl, rfl⟩ := e1
    obtain ⟨rfl, rfl, rfl⟩ := e2
    exact numCmp_yes n1 n2 x1 y1 x2 y2 w s1 s2 s5 s6 hT h3 ho1 ho2
  have HQ := hide (cmpT_no (a := (n1, u1, d1)) (b := (n2, u2, d2)) (by
    show (okM n1 u1 d1 && okM n2 u2 d2) = false
    cases h1 : okM n1 u1 d1
    · rfl
    · cases h2 : okM n2 u2 d2
      · rfl
      · exact absurd ⟨h1, h2⟩ hoo))
  have HN := hide (fun (h : okM n1 u1 d1 = true) => Bool.eq_false_iff.2 (fun h' => hoo ⟨h, h'⟩))
  have HB := hide (below_two w (.bool n1) (.string (B u1)) (.string (B d1)) (.bool n2) (.string (B u2)) (.string (B d2)) 79)
  have HA1 := hide ((AtC3.new w (.bool n1) (.string (B u1)) (.string (B d1)) 79).below (step_a (Below.refl _ _) (.cells #[.bool n2, .string (B u2), .string (B d2)] 79)))
  have HA2 := hide (AtC3.new (w.alloc (.cells #[.bool n1, .string (B u1), .string (B d1)] 79)) (.bool n2) (.string (B u2)) (.string (B d2)) 79)
  rw [World.size_alloc] at HA2
  have HT := hide (fun W h => hT.belowB (w' := W) h h3)
  have H1 := hide (fun W h => implNumOk_c n1 u1 d1 W (by omega) (by omega) h)
  have H2 := hide (fun W h => implNumOk_c n2 u2 d2 W (by omega) (by omega) h)
  unfold numB at H1 H2
  show Calls Tryz.prog 129 #[.agg #[.bool n1, .string (B u1), .string (B d1)], .agg #[.bool n2, .string (B u2), .string (B d2)]] w _
  clear ha1 ha2 hb1 hb2 hoo hT h3
  go_enter Tryz.func129, Tryz.ntmps129
  go_wp2_with fail
  obtain ⟨W, hW⟩ : ∃ W, (w.alloc (.cells #[.bool n1, .string (B u1), .string (B d1)] 79)).alloc (.cells #[.bool n2, .string (B u2), .string (B d2)] 79) = W := ⟨_, rfl⟩
  rw [hW] at HB HA1 HA2 ⊢
  clear hW
  refine (unhide H1 W (unhide HT W (unhide HB))).mono ?_
  rintro e w1 ⟨rfl, hb1⟩
  have HB1 := hide (step_b (unhide HB) hb1)
  have HC2 := hide ((unhide HA2).below hb1)
  clear hb1 HB HA1 HA2
  cases ho1 : okM n1 u1 d1 with
  | false =>
    clear ho1
    go_wp2_with fail
    go_ret
    exact ⟨ret_int (unhide HQ).symm, unhide HB1⟩
  | true =>
    have HNO := hide (unhide HN ho1)
    have q0 := (unhide HC2).n0
    have q1 := (unhide HC2).n1
    have q2 := (unhide HC2).n2
    clear ho1
    go_wp2_with fail
    refine (unhide H2 w1 (unhide HT w1 (unhide HB1))).mono ?_
    rintro e w2 ⟨rfl, hb2⟩
    have HB2 := hide (step_b (unhide HB1) hb2)
    rw [unhide HNO]
    clear hb2 HB1 HC2 q0 q1 q2
    go_wp2_with fail
    go_ret
    exact ⟨ret_int (unhide HQ).symm, unhide HB2⟩
end Go.Proofs.YtpbnmhnbkfnaeaaGreatDoor
/- Contracts of Go's library at this program: as the kit's lay-shelf.mjs and lay-plain.mjs print them (the numbers are this seat's: lay anew at another). -/
namespace Go.Proofs.YtpbnmhnbkfnaeaaGreatDoor
open Go.Shelf
def Tryz.lays119_ren : Go.Shelf.Ren := ⟨fun | 119 => 229 | n => n, fun | 21 => 21 | 4 => 4 | n => n, fun | n => n⟩
theorem Tryz.lays119 : Go.Proofs.Lays.n119 Tryz.prog Tryz.lays119_ren := {
  mixed := by kernel_rfl
  f119 := Tryz.func229.trans (congrArg some (by kernel_rfl))
  t4 := Tryz.underlying4
  a4 := Tryz.isAgg4
  z4 := Tryz.sizeOf4
  v4 := Tryz.zeroValue4
  t21 := Tryz.underlying21
  a21 := Tryz.isAgg21
  z21 := Tryz.sizeOf21
  v21 := Tryz.zeroValue21 }
/-- utf8.ValidRune: "ValidRune reports whether r can be legally encoded as UTF-8. Code points that are out of range or a surrogate half are illegal.": IT RETURNS 'Lib.validRune r'; the world is as it was. (LAID: no walk: one application.) -/
theorem Tryz.utf8_ValidRune (r : Int) (w : World) :
    Calls Tryz.prog 229 #[.int .i32 r] w fun e w' => e = .returned (.bool (Lib.validRune r)) ∧ w' = w := Any.utf8_ValidRune Tryz.lays119 r w
def Tryz.lays213_ren : Go.Shelf.Ren := ⟨fun | 213 => 154 | 265 => 177 | n => n, fun | 9 => 9 | 3 => 3 | n => n, fun | n => n⟩
theorem Tryz.lays213 : Go.Proofs.Lays.n213 Tryz.prog Tryz.lays213_ren := {
  mixed := by kernel_rfl
  f213 := Tryz.func154.trans (congrArg some (by kernel_rfl))
  f265 := Tryz.func177.trans (congrArg some (by kernel_rfl))
  t3 := Tryz.underlying3
  a3 := Tryz.isAgg3
  z3 := Tryz.sizeOf3
  v3 := Tryz.zeroValue3
  t9 := Tryz.underlying9
  a9 := Tryz.isAgg9
  z9 := Tryz.sizeOf9
  v9 := Tryz.zeroValue9 }
open Go.RowKit in
/-- internal/bytealg.CompareString (what strings.Compare calls): IT RETURNS 'Lib.compareBytes a b'; the world is as it was. (LAID: no walk: one application.) -/
theorem Tryz.bytealg_CompareString (a b : ByteArray) (w : World) :
    Calls Tryz.prog 154 #[.string a, .string b] w fun e w' => e = .returned (.int .i64 (Lib.compareBytes a.data.toList b.data.toList)) ∧ w' = w := Any.bytealg_CompareString Tryz.lays213 a b w
def Tryz.lays106_ren : Go.Shelf.Ren := ⟨fun | 106 => 127 | 213 => 154 | 265 => 177 | n => n, fun | 9 => 9 | 3 => 3 | n => n, fun | n => n⟩
theorem Tryz.lays106 : Go.Proofs.Lays.n106 Tryz.prog Tryz.lays106_ren := {
  mixed := by kernel_rfl
  f106 := Tryz.func127.trans (congrArg some (by kernel_rfl))
  f213 := Tryz.func154.trans (congrArg some (by kernel_rfl))
  f265 := Tryz.func177.trans (congrArg some (by kernel_rfl))
  t3 := Tryz.underlying3
  a3 := Tryz.isAgg3
  z3 := Tryz.sizeOf3
  v3 := Tryz.zeroValue3
  t9 := Tryz.underlying9
  a9 := Tryz.isAgg9
  z9 := Tryz.sizeOf9
  v9 := Tryz.zeroValue9 }
open Go.RowKit in
/-- strings.Compare: "Compare returns an integer comparing two strings lexicographically. The result will be 0 if a == b, -1 if a < b, and +1 if a > b.": IT RETURNS 'Lib.compareBytes a b'; the world is as it was. (LAID: no walk: one application.) -/
theorem Tryz.strings_Compare (a b : ByteArray) (w : World) :
    Calls Tryz.prog 127 #[.string a, .string b] w fun e w' => e = .returned (.int .i64 (Lib.compareBytes a.data.toList b.data.toList)) ∧ w' = w := Any.strings_Compare Tryz.lays106 a b w
def Tryz.lays137_ren : Go.Shelf.Ren := ⟨fun | 137 => 228 | 217 => 221 | 266 => 226 | n => n, fun | 9 => 9 | 5 => 5 | 3 => 3 | n => n, fun | n => n⟩
theorem Tryz.lays137 : Go.Proofs.Lays.n137 Tryz.prog Tryz.lays137_ren := {
  mixed := by kernel_rfl
  f137 := Tryz.func228.trans (congrArg some (by kernel_rfl))
  f217 := Tryz.func221.trans (congrArg some (by kernel_rfl))
  f266 := Tryz.func226.trans (congrArg some (by kernel_rfl))
  t3 := Tryz.underlying3
  a3 := Tryz.isAgg3
  z3 := Tryz.sizeOf3
  v3 := Tryz.zeroValue3
  t5 := Tryz.underlying5
  a5 := Tryz.isAgg5
  z5 := Tryz.sizeOf5
  v5 := Tryz.zeroValue5
  t9 := Tryz.underlying9
  a9 := Tryz.isAgg9
  z9 := Tryz.sizeOf9
  v9 := Tryz.zeroValue9 }
open Go.RowKit in
/-- strings.IndexByte: "IndexByte returns the index of the first instance of c in s, or -1 if c is not present in s.": IT RETURNS 'Lib.indexByte s c'; the world is as it was. (LAID: no walk: one application.) -/
theorem Tryz.strings_IndexByte (s : ByteArray) (c : Int) (w : World) :
    Calls Tryz.prog 228 #[.string s, .int .u8 c] w fun e w' => e = .returned (.int .i64 (Lib.indexByte s.data.toList c.toNat.toUInt8)) ∧ w' = w := Any.strings_IndexByte Tryz.lays137 s c w
def Tryz.lays195_ren : Go.Shelf.Ren := ⟨fun | 195 => 168 | n => n, fun | 9 => 9 | 3 => 3 | 0 => 0 | 4 => 4 | n => n, fun | n => n⟩
theorem Tryz.lays195 : Go.Proofs.Lays.n195 Tryz.prog Tryz.lays195_ren := {
  mixed := by kernel_rfl
  f195 := Tryz.func168.trans (congrArg some (by kernel_rfl))
  t0 := Tryz.underlying0
  a0 := Tryz.isAgg0
  z0 := Tryz.sizeOf0
  v0 := Tryz.zeroValue0
  t3 := Tryz.underlying3
  a3 := Tryz.isAgg3
  z3 := Tryz.sizeOf3
  v3 := Tryz.zeroValue3
  t4 := Tryz.underlying4
  a4 := Tryz.isAgg4
  z4 := Tryz.sizeOf4
  v4 := Tryz.zeroValue4
  t9 := Tryz.underlying9
  a9 := Tryz.isAgg9
  z9 := Tryz.sizeOf9
  v9 := Tryz.zeroValue9 }
open Go.RowKit in
/-- unicode/utf8.RuneCountInString: "RuneCountInString is like RuneCount but its input is a string." ("RuneCount returns the number of runes in p. Erroneous and short encodings are treated as single runes of width 1 byte."): EVERY STRING, valid UTF-8 or not: 'Lib.runeCount s' (plain Lean over the model's own 'Utf8.decode'; 'Lib.runeCount_le': at most len(s); 'Lib.runeCount_ascii': on ASCII: len(s)). THE ONE CONDITION: len(s) below 2^63 - 1 (the counter does not wrap): the form's reach pays it. THE WORLD BEHIND THE CALL: ONE BLOCK MORE: the model's iterator over s, at its end: all else as it was. (LAID: no walk: one application.) -/
theorem Tryz.utf8_RuneCountInString (s : ByteArray) (w : World) (hs : s.size < 9223372036854775807) :
    Calls Tryz.prog 168 #[.string s] w fun e w' => e = .returned (.int .i64 (Lib.runeCount s)) ∧ ∃ pos, w' = w.iter s pos := Any.utf8_RuneCountInString Tryz.lays195 s w hs
def Tryz.lays152_ren : Go.Shelf.Ren := ⟨fun | 152 => 225 | 137 => 228 | 119 => 229 | 224 => 223 | 225 => 222 | 217 => 221 | 266 => 226 | n => n, fun | 9 => 9 | 21 => 21 | 3 => 3 | 4 => 4 | 5 => 5 | 0 => 0 | 46 => 150 | n => n, fun | n => n⟩
theorem Tryz.lays152 : Go.Proofs.Lays.n152 Tryz.prog Tryz.lays152_ren := {
  mixed := by kernel_rfl
  f119 := Tryz.func229.trans (congrArg some (by kernel_rfl))
  f137 := Tryz.func228.trans (congrArg some (by kernel_rfl))
  f152 := Tryz.func225.trans (congrArg some (by kernel_rfl))
  f217 := Tryz.func221.trans (congrArg some (by kernel_rfl))
  f224 := Tryz.func223.trans (congrArg some (by kernel_rfl))
  f225 := Tryz.func222.trans (congrArg some (by kernel_rfl))
  f266 := Tryz.func226.trans (congrArg some (by kernel_rfl))
  t0 := Tryz.underlying0
  a0 := Tryz.isAgg0
  z0 := Tryz.sizeOf0
  v0 := Tryz.zeroValue0
  t3 := Tryz.underlying3
  a3 := Tryz.isAgg3
  z3 := Tryz.sizeOf3
  v3 := Tryz.zeroValue3
  t4 := Tryz.underlying4
  a4 := Tryz.isAgg4
  z4 := Tryz.sizeOf4
  v4 := Tryz.zeroValue4
  t5 := Tryz.underlying5
  a5 := Tryz.isAgg5
  z5 := Tryz.sizeOf5
  v5 := Tryz.zeroValue5
  t9 := Tryz.underlying9
  a9 := Tryz.isAgg9
  z9 := Tryz.sizeOf9
  v9 := Tryz.zeroValue9
  t21 := Tryz.underlying21
  a21 := Tryz.isAgg21
  z21 := Tryz.sizeOf21
  v21 := Tryz.zeroValue21
  t46 := Tryz.underlying150
  a46 := Tryz.isAgg150
  z46 := Tryz.sizeOf150
  v46 := Tryz.zeroValue150 }
open Go.RowKit Go.Lib in
theorem Tryz.strings_IndexRune_ascii (s : ByteArray) (r : Int) (w : World) (h0 : 0 ≤ r) (h1 : r < 128) :
    Calls Tryz.prog 225 #[.string s, .int .i32 r] w fun e w' => e = .returned (.int .i64 (Lib.indexByte s.data.toList r.toNat.toUInt8)) ∧ w' = w := Any.strings_IndexRune_ascii Tryz.lays152 s r w h0 h1
def Tryz.lays151_ren : Go.Shelf.Ren := ⟨fun | 151 => 218 | 152 => 225 | 137 => 228 | 119 => 229 | 224 => 223 | 225 => 222 | 217 => 221 | 266 => 226 | n => n, fun | 9 => 9 | 21 => 21 | 4 => 4 | 3 => 3 | 5 => 5 | 0 => 0 | 46 => 150 | n => n, fun | n => n⟩
theorem Tryz.lays151 : Go.Proofs.Lays.n151 Tryz.prog Tryz.lays151_ren := {
  mixed := by kernel_rfl
  f119 := Tryz.func229.trans (congrArg some (by kernel_rfl))
  f137 := Tryz.func228.trans (congrArg some (by kernel_rfl))
  f151 := Tryz.func218.trans (congrArg some (by kernel_rfl))
  f152 := Tryz.func225.trans (congrArg some (by kernel_rfl))
  f217 := Tryz.func221.trans (congrArg some (by kernel_rfl))
  f224 := Tryz.func223.trans (congrArg some (by kernel_rfl))
  f225 := Tryz.func222.trans (congrArg some (by kernel_rfl))
  f266 := Tryz.func226.trans (congrArg some (by kernel_rfl))
  t0 := Tryz.underlying0
  a0 := Tryz.isAgg0
  z0 := Tryz.sizeOf0
  v0 := Tryz.zeroValue0
  t3 := Tryz.underlying3
  a3 := Tryz.isAgg3
  z3 := Tryz.sizeOf3
  v3 := Tryz.zeroValue3
  t4 := Tryz.underlying4
  a4 := Tryz.isAgg4
  z4 := Tryz.sizeOf4
  v4 := Tryz.zeroValue4
  t5 := Tryz.underlying5
  a5 := Tryz.isAgg5
  z5 := Tryz.sizeOf5
  v5 := Tryz.zeroValue5
  t9 := Tryz.underlying9
  a9 := Tryz.isAgg9
  z9 := Tryz.sizeOf9
  v9 := Tryz.zeroValue9
  t21 := Tryz.underlying21
  a21 := Tryz.isAgg21
  z21 := Tryz.sizeOf21
  v21 := Tryz.zeroValue21
  t46 := Tryz.underlying150
  a46 := Tryz.isAgg150
  z46 := Tryz.sizeOf150
  v46 := Tryz.zeroValue150 }
open Go.RowKit Go.Lib in
theorem Tryz.strings_ContainsRune_ascii (s : ByteArray) (r : Int) (w : World) (h0 : 0 ≤ r) (h1 : r < 128) :
    Calls Tryz.prog 218 #[.string s, .int .i32 r] w fun e w' => e = .returned (.bool (decide (0 ≤ Lib.indexByte s.data.toList r.toNat.toUInt8))) ∧ w' = w := Any.strings_ContainsRune_ascii Tryz.lays151 s r w h0 h1
end Go.Proofs.YtpbnmhnbkfnaeaaGreatDoor
/- The specification's symbols. -/
namespace Go.Proofs.YtpbnmhnbkfnaeaaGreatDoor
open Go.RowKit Nt

theorem numO_form (o : Option (Bool × Nat × Nat)) : ∃ b u d, numO o = .agg #[.bool b, .string u, .string d] := by
  cases o with
  | none => exact ⟨_, _, _, rfl⟩
  | some p => obtain ⟨a, b, c⟩ := p; exact ⟨_, _, _, rfl⟩

theorem B_ne (l m : List UInt8) (h : l ≠ m) : ((B l).toList == m) = false := by
  rw [B_tl, beq_eq_false_iff_ne]; exact h
theorem B_eqq (l : List UInt8) : ((B l).toList == l) = true := by
  rw [B_tl]; simp
theorem B_head (c : UInt8) (r : List UInt8) (h : 0 < (B (c :: r)).size) : (B (c :: r))[0]'h = c := by rw [B_get]; rfl

theorem all_bad {l : List UInt8} {k : Nat} (h : k < l.length) (hb : badN (l[k]'h).toNat = true) : (l.all fun c => !badN c.toNat) = false := by
  rw [List.all_eq_false]; exact ⟨l[k]'h, List.getElem_mem h, by simp [hb]⟩
theorem all_good {l : List UInt8} (h : ∀ i (hi : i < l.length), badN (l[i]'hi).toNat = false) : (l.all fun c => !badN c.toNat) = true := by
  rw [List.all_eq_true]
  intro c hc
  obtain ⟨i, hi, rfl⟩ := List.mem_iff_getElem.1 hc
  simp [h i hi]
theorem neI {a : Nat} {b : Nat} (h : a ≠ b) : ((a : Int) == (b : Int)) = false := by rw [beq_eq_false_iff_ne]; omega
theorem bad_cases {n : Nat} (h : badN n = true) : endN n = true ∨ (endN n = false ∧ n < 33) ∨ (endN n = false ∧ ¬ n < 33 ∧ (n = 127 ∨ n = 92 ∨ n = 124)) := by
  unfold badN at h
  cases he : endN n with
  | true => exact .inl rfl
  | false =>
    rw [he] at h
    simp only [Bool.false_or, Bool.or_eq_true, decide_eq_true_eq, beq_iff_eq] at h
    by_cases h3 : n < 33
    · exact .inr (.inl ⟨rfl, h3⟩)
    · exact .inr (.inr ⟨rfl, h3, by omega⟩)
theorem good_parts {n : Nat} (h : badN n = false) : endN n = false ∧ ¬ n < 33 ∧ n ≠ 127 ∧ n ≠ 92 ∧ n ≠ 124 := by
  unfold badN at h
  simp only [Bool.or_eq_false_iff, decide_eq_false_iff_not, beq_eq_false_iff_ne] at h
  obtain ⟨⟨⟨⟨a, b⟩, c⟩, d⟩, e⟩ := h
  exact ⟨a, b, c, d, e⟩

set_option maxHeartbeats 4000000 in
set_option maxRecDepth 100000 in
theorem l11SymbolOk_c (t : List UInt8) (w : World) (hs : t.length ≤ 1048576) :
    Calls Tryz.prog 65 #[.string (B t)] w fun e w' => e = .returned (.bool (symM t)) ∧ Below w.heap.size w w' := by
  obtain ⟨nb, nu, nd, hN⟩ := numO_form (parseM t 10)
  have h1 := specNumParse_c t 10 w (by omega)
  unfold numAns at h1
  rw [hN] at h1
  obtain ⟨K, hK⟩ : ∃ K, (parseM t 10).isSome = K := ⟨_, rfl⟩
  rw [hK] at h1
  have H1 := hide h1
  have hnone : (parseM t 10).isNone = !K := by rw [← hK]; cases parseM t 10 <;> rfl
  have HNO := hide hnone
  have HA := hide (fun (W : World) => step_a (Below.refl W.heap.size W) (.cells #[.bool nb, .string nu, .string nd] 79))
  clear h1 hN hK hnone
  by_cases hne : t = []
  · subst hne
    have HR : Hid (symM [] = false) := hide (by unfold symM wordM; simp)
    have e0 : ((B []).toList == []) = true := B_eqq []
    go_enter Tryz.func65, Tryz.ntmps65
    go_wp2_with fail
    refine (unhide H1).mono ?_
    rintro e w1 ⟨rfl, hb1⟩
    have HB := hide (hb1.trans ((unhide HA w1).mono hb1.size))
    clear hb1
    go_wp2_with fail
    go_ret
    exact ⟨by rw [unhide HR]; rfl, unhide HB⟩
  · obtain ⟨c, r, hcr⟩ : ∃ c r, t = c :: r := by cases t with | nil => exact absurd rfl hne | cons c r => exact ⟨c, r, rfl⟩
    have HW : Hid (wordM t = (!headN c.toNat && decide (t.length ≤ 200) && Lib.validD t && t.all fun c => !badN c.toNat)) := hide (by rw [hcr]; rfl)
    have hz : 0 < (B t).size := by rw [B_size, hcr]; simp
    have hc : (B t)[0]'hz = c := by subst hcr; exact B_head c r hz
    clear hcr
    have e0 : ((B t).toList == []) = false := B_ne _ _ hne
    clear hne
    by_cases h46 : t = [46]
    · have HR : Hid (symM t = false) := hide (by unfold symM; simp [h46])
      have e1 : ((B t).toList == [46]) = true := by rw [h46]; exact B_eqq _
      clear h46
      go_enter Tryz.func65, Tryz.ntmps65
      go_wp2_with fail
      refine (unhide H1).mono ?_
      rintro e w1 ⟨rfl, hb1⟩
      have HB := hide (hb1.trans ((unhide HA w1).mono hb1.size))
      clear hb1
      go_wp2_with fail
      go_ret
      exact ⟨by rw [unhide HR]; rfl, unhide HB⟩
    · have e1 : ((B t).toList == [46]) = false := B_ne _ _ h46
      cases K with
      | true =>
        have HR : Hid (symM t = false) := hide (by unfold symM; rw [unhide HNO]; rfl)
        clear h46
        go_enter Tryz.func65, Tryz.ntmps65
        go_wp2_with fail
        refine (unhide H1).mono ?_
        rintro e w1 ⟨rfl, hb1⟩
        have HB := hide (hb1.trans ((unhide HA w1).mono hb1.size))
        clear hb1
        go_wp2_with fail
        go_ret
        exact ⟨by rw [unhide HR]; rfl, unhide HB⟩
      | false =>
        have HS : Hid (symM t = wordM t) := hide (by unfold symM; rw [unhide HNO]; simp [h46])
        obtain ⟨n, hn⟩ : ∃ n, c.toNat = n := ⟨_, rfl⟩
        have hn256 : n < 256 := by rw [← hn]; exact c.toNat_lt
        have hw : wrap64 (n : Int) = n := by unfold wrap64; omega
        clear hn256
        have HHEAD : Hid (headN n = true → symM t = false) := hide (fun h => by rw [unhide HS, unhide HW, hn, h]; rfl)
        clear h46
        by_cases h3 : n = 35 ∨ n = 44 ∨ n = 96
        · have HR : Hid (symM t = false) := hide (unhide HHEAD (by rcases h3 with rfl | rfl | rfl <;> rfl))
          rcases h3 with rfl | rfl | rfl
          all_goals
            go_enter Tryz.func65, Tryz.ntmps65
            go_wp2_with fail
            refine (unhide H1).mono ?_
            rintro e w1 ⟨rfl, hb1⟩
            have HB := hide (hb1.trans ((unhide HA w1).mono hb1.size))
            clear hb1
            go_wp2_with fail
            go_ret
            exact ⟨by rw [unhide HR]; rfl, unhide HB⟩
        · have n1 : ((n : Int) == 35) = false := neI (b := 35) (by omega)
          have n2 : ((n : Int) == 44) = false := neI (b := 44) (by omega)
          have n3 : ((n : Int) == 96) = false := neI (b := 96) (by omega)
          by_cases hd : (decide ((48 : Int) ≤ n) && decide ((n : Int) ≤ 57)) = true
          · have HR : Hid (symM t = false) := hide (unhide HHEAD (by
              unfold headN
              simp only [Bool.and_eq_true, decide_eq_true_eq] at hd
              have : (decide (48 ≤ n) && decide (n ≤ 57)) = true := by simp only [Bool.and_eq_true, decide_eq_true_eq]; omega
              rw [this, Bool.or_true]))
            have HD := hide hd
            clear h3 hd
            go_enter Tryz.func65, Tryz.ntmps65
            go_wp2_with fail
            refine (unhide H1).mono ?_
            rintro e w1 ⟨rfl, hb1⟩
            have HB := hide (hb1.trans ((unhide HA w1).mono hb1.size))
            clear hb1
            go_wp2_with fail
            refine (l1In_g n 48 57 _).mono ?_
            rintro e w2 ⟨rfl, rfl⟩
            rw [unhide HD]
            go_wp2_with fail
            go_ret
            exact ⟨by rw [unhide HR]; rfl, unhide HB⟩
          · have hd : (decide ((48 : Int) ≤ n) && decide ((n : Int) ≤ 57)) = false := by simpa using hd
            have HH : Hid (headN n = false) := hide (by
              have : (decide (48 ≤ n) && decide (n ≤ 57)) = false := by
                simp only [Bool.and_eq_false_iff, decide_eq_false_iff_not] at hd ⊢; omega
              unfold headN
              rw [this, Bool.or_false]
              simp only [Bool.or_eq_false_iff, beq_eq_false_iff_ne]
              omega)
            have HD := hide hd
            clear h3 hd
            by_cases hl : t.length ≤ 200
            · have hl' : ¬ (200 : Int) < ((B t).size : Int) := by rw [B_size]; omega
              have HV := hide (l11Runes_c t)
              cases hv : Lib.validD t with
              | false =>
                have HR : Hid (symM t = false) := hide (by rw [unhide HS, unhide HW, hv, Bool.and_false]; rfl)
                rw [hv] at HV
                clear hl hv
                go_enter Tryz.func65, Tryz.ntmps65
                go_wp2_with fail
                refine (unhide H1).mono ?_
                rintro e w1 ⟨rfl, hb1⟩
                have HB := hide (hb1.trans ((unhide HA w1).mono hb1.size))
                clear hb1
                go_wp2_with fail
                refine (l1In_g n 48 57 _).mono ?_
                rintro e w2 ⟨rfl, rfl⟩
                rw [unhide HD]
                go_wp2_with fail
                refine (unhide HV _ hs).mono ?_
                rintro e w2 ⟨rfl, hb2⟩
                have HB2 := hide (step_b (unhide HB) hb2)
                clear hb2
                go_wp2_with fail
                go_ret
                exact ⟨by rw [unhide HR]; rfl, unhide HB2⟩
              | true =>
                have HALL : Hid (symM t = (t.all fun c => !badN c.toNat)) := hide (by rw [unhide HS, unhide HW, hv, hn, unhide HH, decide_eq_true hl]; rfl)
                rw [hv] at HV
                clear hl hv
                go_enter Tryz.func65, Tryz.ntmps65
                go_wp2_with fail
                refine (unhide H1).mono ?_
                rintro e w1 ⟨rfl, hb1⟩
                have HB := hide (hb1.trans ((unhide HA w1).mono hb1.size))
                clear hb1
                go_wp2_with fail
                refine (l1In_g n 48 57 _).mono ?_
                rintro e w2 ⟨rfl, rfl⟩
                rw [unhide HD]
                go_wp2_with fail
                refine (unhide HV _ hs).mono ?_
                rintro e w2 ⟨rfl, hb2⟩
                have HB2 := hide (step_b (unhide HB) hb2)
                clear hb2
                go_wp2_with fail
                clear e0 e1 hc hn hw n1 n2 n3 hl' HD HH HHEAD HB
                have HSZ := hide (B_size t)
                go_loopw [5] (fun i wr => ∃ k : Nat, k ≤ t.length ∧ i = .int .i64 k ∧ Hid (∀ j (hj : j < t.length), j < k → badN (t[j]'hj).toNat = false) ∧ Hid (Below w.heap.size w wr)) (fun i _ => t.length - (intOf i).toNat)
                case atStart => exact ⟨0, Nat.zero_le _, rfl, hide (fun j _ h => by omega), HB2⟩
                case round =>
                  clear HB2
                  obtain ⟨k, hk, rfl, HG, HB2⟩ := hrel
                  by_cases hlt : k < t.length
                  · have hlt' : k < (B t).size := by rw [unhide HSZ]; exact hlt
                    obtain ⟨d, hd⟩ : ∃ d, t[k]'hlt = d := ⟨_, rfl⟩
                    have hg : (B t)[k]'hlt' = d := (B_get t k hlt').trans hd
                    have HD := hide hd
                    clear hd
                    obtain ⟨n, hn⟩ : ∃ n, d.toNat = n := ⟨_, rfl⟩
                    have HE := hide (l11Ends_c n wr)
                    rcases Bool.eq_false_or_eq_true (badN n) with hb | hb
                    ·
                      have hbk : badN (t[k]'hlt).toNat = true := by rw [unhide HD, hn]; exact hb
                      have HR : Hid (symM t = false) := hide ((unhide HALL).trans (all_bad hlt hbk))
                      clear hbk
                      rcases bad_cases hb with he | ⟨he, h3⟩ | ⟨he, h3, h4⟩
                      · rw [he] at HE
                        clear hb he
                        go_wp2_with fail
                        refine (unhide HE).mono ?_
                        rintro e w3 ⟨rfl, rfl⟩
                        go_wp2_with fail
                        go_ret
                        exact ⟨by rw [unhide HR]; rfl, unhide HB2⟩
                      · rw [he] at HE
                        have h3' : (n : Int) < 33 := by omega
                        clear hb he h3
                        go_wp2_with fail
                        refine (unhide HE).mono ?_
                        rintro e w3 ⟨rfl, rfl⟩
                        go_wp2_with fail
                        go_ret
                        exact ⟨by rw [unhide HR]; rfl, unhide HB2⟩
                      · rw [he] at HE
                        clear hb he
                        rcases h4 with h4 | h4 | h4
                        all_goals
                          rw [h4] at HE hn
                          clear h4 h3
                          go_wp2_with fail
                          refine (unhide HE).mono ?_
                          rintro e w3 ⟨rfl, rfl⟩
                          go_wp2_with fail
                          go_ret
                          exact ⟨by rw [unhide HR]; rfl, unhide HB2⟩
                    ·
                      obtain ⟨he, h3, h127, h92, h124⟩ := good_parts hb
                      have HG2 : Hid (∀ j (hj : j < t.length), j < k + 1 → badN (t[j]'hj).toNat = false) := hide (fun j hj h => by
                        by_cases hjk : j = k
                        · subst hjk; rw [unhide HD, hn]; exact hb
                        · exact unhide HG j hj (by omega))
                      rw [he] at HE
                      have h3' : ¬ (n : Int) < 33 := by omega
                      have n1 : ((n : Int) == 127) = false := neI (b := 127) h127
                      have n2 : ((n : Int) == 92) = false := neI (b := 92) h92
                      have n3 : ((n : Int) == 124) = false := neI (b := 124) h124
                      clear hb he h3 h127 h92 h124
                      go_wp2_with fail
                      refine (unhide HE).mono ?_
                      rintro e w3 ⟨rfl, rfl⟩
                      go_wp2_with fail
                      go_roundw
                      case rel => exact ⟨k + 1, by omega, by go_num, HG2, HB2⟩
                      case measure => simp [intOf]; omega
                  · have hnl : ¬ (k : Int) < ((B t).size : Int) := by rw [unhide HSZ]; omega
                    obtain rfl : k = t.length := by omega
                    have HR : Hid (symM t = true) := hide (by rw [unhide HALL]; exact all_good (fun i hi => unhide HG i hi hi))
                    go_wp2_with fail
                    go_ret
                    exact ⟨by rw [unhide HR]; rfl, unhide HB2⟩
            · have hl' : (200 : Int) < ((B t).size : Int) := by rw [B_size]; omega
              have HR : Hid (symM t = false) := hide (by rw [unhide HS, unhide HW, decide_eq_false hl, Bool.and_false]; rfl)
              clear hl
              go_enter Tryz.func65, Tryz.ntmps65
              go_wp2_with fail
              refine (unhide H1).mono ?_
              rintro e w1 ⟨rfl, hb1⟩
              have HB := hide (hb1.trans ((unhide HA w1).mono hb1.size))
              clear hb1
              go_wp2_with fail
              refine (l1In_g n 48 57 _).mono ?_
              rintro e w2 ⟨rfl, rfl⟩
              rw [unhide HD]
              go_wp2_with fail
              go_ret
              exact ⟨by rw [unhide HR]; rfl, unhide HB⟩
end Go.Proofs.YtpbnmhnbkfnaeaaGreatDoor
/- cmp.Compare on ints; nodes held against each other by the program. -/
namespace Go.Proofs.YtpbnmhnbkfnaeaaGreatDoor
open Go.RowKit Nt

theorem isNaN_c (a : Int) (w : World) : Calls Tryz.prog 126 #[.int .i64 a] w fun e w' => e = .returned (.bool false) ∧ w' = w := by
  go_enter Tryz.func126, Tryz.ntmps126
  go_wp2_with fail
  go_ret
  exact ⟨rfl, rfl⟩
theorem cmpInt_c (a b : Int) (w : World) : Calls Tryz.prog 99 #[.int .i64 a, .int .i64 b] w fun e w' => e = .returned (.int .i64 (cmpI a b)) ∧ w' = w := by
  obtain ⟨c, hc⟩ : ∃ c, cmpI a b = c := ⟨_, rfl⟩
  rw [hc]
  unfold cmpI at hc
  have HC := hide hc
  clear hc
  go_enter Tryz.func99, Tryz.ntmps99
  go_wp2_with fail
  refine (isNaN_c a w).mono ?_
  rintro e w' ⟨rfl, rfl⟩
  go_wp2_with fail
  refine (isNaN_c b _).mono ?_
  rintro e w' ⟨rfl, rfl⟩
  by_cases h1 : a < b
  · have k1 : decide (a < b) = true := decide_eq_true h1
    obtain rfl : c = -1 := by have := unhide HC; rw [if_pos h1] at this; exact this.symm
    clear HC
    go_wp2_with fail
    go_ret
    exact ⟨rfl, rfl⟩
  · have k1 : decide (a < b) = false := decide_eq_false h1
    by_cases h2 : b < a
    · have k2 : decide (b < a) = true := decide_eq_true h2
      obtain rfl : c = 1 := by have := unhide HC; rw [if_neg h1, if_pos h2] at this; exact this.symm
      clear HC
      go_wp2_with fail
      go_ret
      exact ⟨rfl, rfl⟩
    · have k2 : decide (b < a) = false := decide_eq_false h2
      obtain rfl : c = 0 := by have := unhide HC; rw [if_neg h1, if_neg h2] at this; exact this.symm
      clear HC
      go_wp2_with fail
      go_ret
      exact ⟨rfl, rfl⟩

/-- what two texts of one sort say -/
def texC (k : Int) (t s : List UInt8) : Int := if k ≠ 1 ∨ t = s then Lib.compareBytes t s else cmpT (numTx t) (numTx s)
set_option maxRecDepth 100000 in
set_option maxHeartbeats 4000000 in
theorem textCmp_c (k m : Int) (t s : List UInt8) (p q : Option Addr) (l r c d : Nat) (w : World) (hsT : t.length ≤ 1000) (hsS : s.length ≤ 1000) (hT : Tens w) (h3 : 3 < w.heap.size) :
    Calls Tryz.prog 100 #[.agg #[.int .i64 k, .string (B t), .slice p l c], .agg #[.int .i64 m, .string (B s), .slice q r d]] w fun e w' => e = .returned (.int .i64 (texC k t s)) ∧ Below w.heap.size w w' := by
  have HB := hide (below_two w (.int .i64 k) (.string (B t)) (.slice p l c) (.int .i64 m) (.string (B s)) (.slice q r d) 56)
  have HA1 := hide ((AtC3.new w (.int .i64 k) (.string (B t)) (.slice p l c) 56).below (step_a (Below.refl _ _) (.cells #[.int .i64 m, .string (B s), .slice q r d] 56)))
  have HA2 := hide (AtC3.new (w.alloc (.cells #[.int .i64 k, .string (B t), .slice p l c] 56)) (.int .i64 m) (.string (B s)) (.slice q r d) 56)
  rw [World.size_alloc] at HA2
  have HT := hide (fun W h => hT.belowB (w' := W) h h3)
  have HP1 := hide (fun W h => implNumParse_c t 10 W (by omega) h)
  have HP2 := hide (fun W h => implNumParse_c s 10 W (by omega) h)
  by_cases hk : k = 1
  · subst hk
    by_cases hts : t = s
    · obtain rfl := hts
      have HR := hide (show texC 1 t t = _ from if_pos (Or.inr rfl))
      obtain ⟨R, hR⟩ : ∃ R, texC 1 t t = R := ⟨_, rfl⟩
      rw [hR] at HR ⊢
      clear hR hsT hsS hT h3
      -- 1 the first's sort, t the second's text
      go_enter Tryz.func100, Tryz.ntmps100
      go_wp2_with fail
      obtain ⟨W, hW⟩ : ∃ W, (w.alloc (.cells #[.int .i64 1, .string (B t), .slice p l c] 56)).alloc (.cells #[.int .i64 m, .string (B t), .slice q r d] 56) = W := ⟨_, rfl⟩
      rw [hW] at HB HA1 HA2 ⊢
      clear hW
      have a0 := (unhide HA1).n0
      have a1 := (unhide HA1).n1
      have a2 := (unhide HA1).n2
      have b0 := (unhide HA2).n0
      have b1 := (unhide HA2).n1
      have b2 := (unhide HA2).n2
      refine (Tryz.strings_Compare (B t) (B t) W).mono ?_
      rintro e w' ⟨rfl, rfl⟩
      obtain rfl := unhide HR
      go_wp2_with fail
      go_ret
      exact ⟨by simp [B], unhide HB⟩
    · have HR := hide (show texC 1 t s = _ from if_neg (by rintro (h | h); exact h rfl; exact hts h))
      obtain ⟨R, hR⟩ : ∃ R, texC 1 t s = R := ⟨_, rfl⟩
      rw [hR] at HR ⊢
      obtain ⟨n1, u1, d1, z1⟩ : ∃ n u d, numTx t = (n, u, d) := ⟨_, _, _, rfl⟩
      obtain ⟨n2, u2, d2, z2⟩ : ∃ n u d, numTx s = (n, u, d) := ⟨_, _, _, rfl⟩
      obtain ⟨v1, hv1⟩ : ∃ v, (parseM t 10).isSome = v := ⟨_, rfl⟩
      obtain ⟨v2, hv2⟩ : ∃ v, (parseM s 10).isSome = v := ⟨_, rfl⟩
      have HQ1 : Hid (∀ W, Tens W → Calls Tryz.prog 128 #[.string (B t), .int .i64 10] W fun e w' => e = .returned (.tuple #[.agg #[.bool n1, .string (B u1), .string (B d1)], .bool v1]) ∧ Below W.heap.size W w') := hide (fun W h => by
        have := unhide HP1 W h
        unfold numAns at this
        rw [numO_tx, z1, hv1] at this
        exact this)
      have HQ2 : Hid (∀ W, Tens W → Calls Tryz.prog 128 #[.string (B s), .int .i64 10] W fun e w' => e = .returned (.tuple #[.agg #[.bool n2, .string (B u2), .string (B d2)], .bool v2]) ∧ Below W.heap.size W w') := hide (fun W h => by
        have := unhide HP2 W h
        unfold numAns at this
        rw [numO_tx, z2, hv2] at this
        exact this)
      have HC : Hid (∀ W, Below w.heap.size w W → Calls Tryz.prog 129 #[.agg #[.bool n1, .string (B u1), .string (B d1)], .agg #[.bool n2, .string (B u2), .string (B d2)]] W fun e w' => e = .returned (.int .i64 R) ∧ Below W.heap.size W w') := hide (fun W h => by
        have := implNumCmp_c (numTx t) (numTx s) W (numTx_small t) (numTx_small s) (unhide HT W h) (Nat.lt_of_lt_of_le h3 h.size)
        rw [← unhide HR, z1, z2] at this
        exact this)
      have e1 : ((B t).toList == (B s).toList) = false := by rw [B_tl s]; exact B_ne _ _ hts
      clear hsT hsS hT h3 hts z1 z2 hv1 hv2 HP1 HP2 HR
      -- 1 the first's sort, s the second's text
      go_enter Tryz.func100, Tryz.ntmps100
      go_wp2_with fail
      obtain ⟨W, hW⟩ : ∃ W, (w.alloc (.cells #[.int .i64 1, .string (B t), .slice p l c] 56)).alloc (.cells #[.int .i64 m, .string (B s), .slice q r d] 56) = W := ⟨_, rfl⟩
      rw [hW] at HB HA1 HA2 ⊢
      clear hW
      have a0 := (unhide HA1).n0
      have a1 := (unhide HA1).n1
      have a2 := (unhide HA1).n2
      have b0 := (unhide HA2).n0
      have b1 := (unhide HA2).n1
      have b2 := (unhide HA2).n2
      refine (unhide HQ1 W (unhide HT W (unhide HB))).mono ?_
      rintro e w1 ⟨rfl, hb1⟩
      have HB1 := hide (step_b (unhide HB) hb1)
      have HD2 := hide ((unhide HA2).below hb1)
      have q1 := fun o => ((unhide HD2).below (step_a (Below.refl _ _) o)).n1
      have HN1 := hide (AtC3.new w1 (.bool n1) (.string (B u1)) (.string (B d1)) 79)
      have HB1' := hide (step_a (unhide HB1) (.cells #[.bool n1, .string (B u1), .string (B d1)] 79))
      clear hb1
      go_wp2_with fail
      refine (unhide HQ2 _ (unhide HT _ (unhide HB1'))).mono ?_
      rintro e w2 ⟨rfl, hb2⟩
      have HB2 := hide (step_b (unhide HB1') hb2)
      have HN2 := hide ((unhide HN1).below hb2)
      have HB3 := hide (step_a (unhide HB2) (.cells #[.bool n2, .string (B u2), .string (B d2)] 79))
      have HN3 := hide ((unhide HN2).below (step_a (Below.refl _ _) (.cells #[.bool n2, .string (B u2), .string (B d2)] 79)))
      have x0 := (unhide HN3).n0
      have x1 := (unhide HN3).n1
      have x2 := (unhide HN3).n2
      clear hb2 q1
      go_wp2_with fail
      refine (unhide HC _ (unhide HB3)).mono ?_
      rintro e w3 ⟨rfl, hb3⟩
      have HB4 := hide (step_b (unhide HB3) hb3)
      clear hb3
      go_wp2_with fail
      go_ret
      exact ⟨rfl, unhide HB4⟩
  · have HR := hide (show texC k t s = _ from if_pos (Or.inl hk))
    obtain ⟨R, hR⟩ : ∃ R, texC k t s = R := ⟨_, rfl⟩
    rw [hR] at HR ⊢
    have hk1 : (k == 1) = false := by simp [hk]
    have hk2 : (k != 1) = true := by simp [hk]
    clear hR hsT hsS hT h3
    -- k the first's sort, s the second's text
    go_enter Tryz.func100, Tryz.ntmps100
    go_wp2_with fail
    obtain ⟨W, hW⟩ : ∃ W, (w.alloc (.cells #[.int .i64 k, .string (B t), .slice p l c] 56)).alloc (.cells #[.int .i64 m, .string (B s), .slice q r d] 56) = W := ⟨_, rfl⟩
    rw [hW] at HB HA1 HA2 ⊢
    clear hW
    have a0 := (unhide HA1).n0
    have a1 := (unhide HA1).n1
    have a2 := (unhide HA1).n2
    have b0 := (unhide HA2).n0
    have b1 := (unhide HA2).n1
    have b2 := (unhide HA2).n2
    refine (Tryz.strings_Compare (B t) (B s) W).mono ?_
    rintro e w' ⟨rfl, rfl⟩
    obtain rfl := unhide HR
    go_wp2_with fail
    go_ret
    exact ⟨by simp [B], unhide HB⟩
end Go.Proofs.YtpbnmhnbkfnaeaaGreatDoor
/- Nodes held against each other by the program. -/
namespace Go.Proofs.YtpbnmhnbkfnaeaaGreatDoor
open Go.RowKit Nt

def KidOk (a : Nd) : Prop := a.1 = 1 → a.2.2 = []
theorem kidOk_of {n : Nat} {a : Nd} (h : ndOk n a = true) : KidOk a := by
  intro h1
  have c := ok_cnt h
  rw [h1] at c
  exact List.length_eq_zero_iff.1 (cnt_num c)
theorem nd_lab {a b : Nd} (ha : KidOk a) (hb : KidOk b) : labCmp a b = if cmpI a.1 b.1 ≠ 0 then cmpI a.1 b.1 else if texC a.1 a.2.1 b.2.1 ≠ 0 then texC a.1 a.2.1 b.2.1 else cmpI a.2.2.length b.2.2.length := by
  by_cases hs : a.1 = b.1
  · rw [if_neg (by simpa using cmpI_eq.2 hs)]
    by_cases h1 : a.1 = 1
    · have e : cmpI a.2.2.length b.2.2.length = 0 := by rw [ha h1, hb (hs ▸ h1)]; rfl
      rw [lab_num hs h1, e]
      by_cases ht : a.2.1 = b.2.1
      · rw [ht, cmpT_self]
        have : texC a.1 b.2.1 b.2.1 = 0 := by unfold texC; rw [if_pos (.inr rfl)]; exact (less_cmp _ _).2.2.1.2 rfl
        rw [this]; rfl
      · have : texC a.1 a.2.1 b.2.1 = cmpT (numTx a.2.1) (numTx b.2.1) := by unfold texC; rw [if_neg (by rintro (h | h); exact h h1; exact ht h)]
        rw [this]
        split
        · rfl
        · omega
    · have ht' : texC a.1 a.2.1 b.2.1 = Lib.compareBytes a.2.1 b.2.1 := by unfold texC; rw [if_pos (.inl h1)]
      rw [ht']
      by_cases ht : a.2.1 = b.2.1
      · rw [lab_len hs h1 ht, if_neg (by simpa using (less_cmp _ _).2.2.1.2 ht)]
      · rw [lab_text hs h1 ht, if_pos (fun e => ht ((less_cmp _ _).2.2.1.1 e))]
  · rw [lab_sort hs, if_pos (fun e => hs (cmpI_eq.1 e))]

set_option maxRecDepth 100000 in
set_option maxHeartbeats 4000000 in
theorem nodeCmp_c (a b : Nd) (a1 a2 : Option Addr) (c1 c2 : Nat) (w : World) (ha : KidOk a) (hb : KidOk b) (ht1 : a.2.1.length ≤ 1000) (ht2 : b.2.1.length ≤ 1000) (hT : Tens w) (h3 : 3 < w.heap.size) :
    Calls Tryz.prog 62 #[.agg #[.int .i64 a.1, .string (B a.2.1), .slice a1 a.2.2.length c1], .agg #[.int .i64 b.1, .string (B b.2.1), .slice a2 b.2.2.length c2]] w fun e w' => e = .returned (.int .i64 (labCmp a b)) ∧ Below w.heap.size w w' := by
  have HQ := hide (nd_lab ha hb)
  obtain ⟨R, hR⟩ : ∃ R, labCmp a b = R := ⟨_, rfl⟩
  rw [hR] at HQ ⊢
  clear hR ha hb
  -- $1 the function: two nodes in their boxes
  obtain ⟨s1, t1, k1⟩ := a
  obtain ⟨s2, t2, k2⟩ := b
  simp only at *
  have HB := hide (below_two w (.int .i64 s1) (.string (B t1)) (.slice a1 k1.length c1) (.int .i64 s2) (.string (B t2)) (.slice a2 k2.length c2) 56)
  have HA1 := hide ((AtC3.new w (.int .i64 s1) (.string (B t1)) (.slice a1 k1.length c1) 56).below (step_a (Below.refl _ _) (.cells #[.int .i64 s2, .string (B t2), .slice a2 k2.length c2] 56)))
  have HA2 := hide (AtC3.new (w.alloc (.cells #[.int .i64 s1, .string (B t1), .slice a1 k1.length c1] 56)) (.int .i64 s2) (.string (B t2)) (.slice a2 k2.length c2) 56)
  rw [World.size_alloc] at HA2
  have HT := hide (fun W h => (⟨hT.belowB (w' := W) h h3, Nat.lt_of_lt_of_le h3 h.size⟩ : Tens W ∧ 3 < W.heap.size))
  have HX := hide (fun W h => textCmp_c s1 s2 t1 t2 a1 a2 k1.length k2.length c1 c2 W ht1 ht2 (unhide HT W h).1 (unhide HT W h).2)
  have HI := hide (fun W => cmpInt_c s1 s2 W)
  have HL := hide (fun W => cmpInt_c k1.length k2.length W)
  obtain ⟨x, hx⟩ : ∃ x, cmpI s1 s2 = x := ⟨_, rfl⟩
  obtain ⟨y, hy⟩ : ∃ y, texC s1 t1 t2 = y := ⟨_, rfl⟩
  obtain ⟨z, hz⟩ : ∃ z, cmpI k1.length k2.length = z := ⟨_, rfl⟩
  rw [hx] at HI
  rw [hy] at HX
  rw [hz] at HL
  rw [hx, hy, hz] at HQ
  obtain ⟨m1, hm1⟩ : ∃ m, k1.length = m := ⟨_, rfl⟩
  obtain ⟨m2, hm2⟩ : ∃ m, k2.length = m := ⟨_, rfl⟩
  rw [hm1] at HB HA1 HA2 HX HL ⊢
  rw [hm2] at HB HA1 HA2 HX HL ⊢
  clear hx hy hz hm1 hm2 hT h3 ht1 ht2 HT
  go_enter Tryz.func62, Tryz.ntmps62
  go_wp2_with fail
  obtain ⟨W, hW⟩ : ∃ W, (w.alloc (.cells #[.int .i64 s1, .string (B t1), .slice a1 m1 c1] 56)).alloc (.cells #[.int .i64 s2, .string (B t2), .slice a2 m2 c2] 56) = W := ⟨_, rfl⟩
  rw [hW] at HB HA1 HA2 ⊢
  clear hW
  refine (unhide HI W).mono ?_
  rintro e w' ⟨rfl, rfl⟩
  by_cases hx0 : x = 0
  · subst hx0
    have p0 := (unhide HA1).n0
    have p1 := (unhide HA1).n1
    have p2 := (unhide HA1).n2
    have q0 := (unhide HA2).n0
    have q1 := (unhide HA2).n1
    have q2 := (unhide HA2).n2
    go_wp2_with fail
    refine (unhide HX w' (unhide HB)).mono ?_
    rintro e w2 ⟨rfl, hb2⟩
    have HB2 := hide (step_b (unhide HB) hb2)
    have r2 := ((unhide HA1).below hb2).n2
    have u2 := ((unhide HA2).below hb2).n2
    clear p0 p1 p2 q0 q1 q2 hb2
    by_cases hy0 : y = 0
    · subst hy0
      obtain rfl : R = z := by simpa using unhide HQ
      clear HQ
      go_wp2_with fail
      refine (unhide HL w2).mono ?_
      rintro e w3 ⟨rfl, rfl⟩
      go_wp2_with fail
      go_ret
      exact ⟨rfl, unhide HB2⟩
    · have k : (y != 0) = true := by simp [hy0]
      obtain rfl : R = y := by simpa [hy0] using unhide HQ
      clear HQ
      go_wp2_with fail
      go_ret
      exact ⟨rfl, unhide HB2⟩
  · have k : (x != 0) = true := by simp [hx0]
    obtain rfl : R = x := by simpa [hx0] using unhide HQ
    clear HQ
    go_wp2_with fail
    go_ret
    exact ⟨rfl, unhide HB⟩
end Go.Proofs.YtpbnmhnbkfnaeaaGreatDoor
/- impl.ReadNode.beside: an iterator over a node's kids. -/
namespace Go.Proofs.YtpbnmhnbkfnaeaaGreatDoor
open Go.RowKit Go.Shelf Nt
attribute [local go_sem] Oper.semAt_some

/-- a slice of ints whose cells lie below a block -/
def IntsIn (n₀ : Nat) (W : World) (v : Value) (zs : List Int) : Prop :=
  ∃ a cap, v = .slice a zs.length cap ∧ zs.length ≤ cap ∧ cap ≤ maxLen ∧ (0 < zs.length → ∃ b off, a = some ⟨b, off, none⟩ ∧ b < n₀ ∧ ∀ j x, zs[j]? = some x → W.cell? ⟨b, off + j, none⟩ = some (.int .i64 x))
theorem IntsIn.below {n₀ : Nat} {A B : World} {v : Value} {zs : List Int} (h : IntsIn n₀ A v zs) (k : Below n₀ A B) : IntsIn n₀ B v zs := by
  obtain ⟨a, cap, rfl, h1, h2, h3⟩ := h
  refine ⟨a, cap, rfl, h1, h2, fun h0 => ?_⟩
  obtain ⟨b, off, rfl, hb, hc⟩ := h3 h0
  exact ⟨b, off, rfl, hb, fun j x hx => (k.cell (p := ⟨b, off + j, none⟩) hb).trans (hc j x hx)⟩
theorem IntsAt.in {W : World} {v : Value} {zs : List Int} (h : IntsAt W v zs) : IntsIn W.heap.size W v zs := h
theorem IntsIn.mono {n₀ n₁ : Nat} {W : World} {v : Value} {zs : List Int} (h : IntsIn n₀ W v zs) (hn : n₀ ≤ n₁) : IntsIn n₁ W v zs := by
  obtain ⟨a, cap, rfl, h1, h2, h3⟩ := h
  refine ⟨a, cap, rfl, h1, h2, fun h0 => ?_⟩
  obtain ⟨b, off, rfl, hb, hc⟩ := h3 h0
  exact ⟨b, off, rfl, Nat.lt_of_lt_of_le hb hn, hc⟩

set_option maxRecDepth 100000 in
set_option maxHeartbeats 4000000 in
theorem beside1_in (F : Fence) (n : Nat) (hF : F.fn 117) (hro : F.round = none) (hn : 1 ≤ n) (l Bs n₀ : Nat) (kv : Value) (zs : List Int) (hreach : zs.length ≤ 140737488355328) (J Jx : List Int → World → Prop)
    (hY : ∀ pre x W, J pre W → pre.length < zs.length → YieldAt F (n - 1) Tryz.prog l #[.int .i64 x] W fun e W' =>
      (e = .returned (.bool true) ∧ J (pre ++ [x]) W' ∧ Below n₀ W W') ∨ (e = .returned (.bool false) ∧ Jx (pre ++ [x]) W'))
    (W : World) (hBs : W.cell? ⟨Bs, 2, none⟩ = some kv) (hI : IntsIn n₀ W kv zs) (h0 : J [] W) :
    CallsIn F n Tryz.prog 117 #[.func (.yield l) #[] #[], .pointer (some ⟨Bs, 0, none⟩)] W fun e W' => (∃ v, e = .returned v) ∧ (J zs W' ∨ (∃ pre, pre <+: zs ∧ Jx pre W')) := by
  have HI := hide hI
  obtain ⟨a, cap, rfl, h1, h2, _⟩ := hI
  unfold maxLen at h2
  refine callsIn_of_wp Tryz.func117 rfl hF ?_ hro
  simp only [Tryz.ntmps117, List.size_toArray, List.length_cons, List.length_nil, Nat.reduceAdd, Nat.reduceSub, Array.replicate_succ, Array.replicate_zero, List.push_toArray, List.append_toArray, List.nil_append, List.cons_append]
  gi_wp2
  gi_loopw [8] (fun i wr => ∃ k : Nat, k ≤ zs.length ∧ i = .int .i64 k ∧ J (zs.take k) wr ∧ Below n₀ W wr)
    (fun i _ => zs.length - (intOf i).toNat)
  case atStart => exact ⟨0, Nat.zero_le _, rfl, by simpa using h0, Below.refl _ _⟩
  case round =>
    obtain ⟨k, hk, rfl, hJs, hnx⟩ := hrel
    by_cases hlt : k < zs.length
    · obtain ⟨x, hx⟩ : ∃ x, zs[k]? = some x := ⟨_, List.getElem?_eq_getElem hlt⟩
      obtain ⟨a', cap', e1, _, _, h3⟩ := (unhide HI).below hnx
      injection e1 with e2 e3 e4
      obtain ⟨b, off, e5, hb, hcs⟩ := h3 (by omega)
      rw [← e2] at e5
      subst e5
      have hcx := hcs k x hx
      obtain ⟨fn, tmps, assign, body, hy, hR⟩ := hY _ x wr hJs (by simp; omega)
      have HX := hide (show zs.take (k + 1) = zs.take k ++ [x] by rw [List.take_add_one, hx]; rfl)
      clear e2 e4 h3 hcs hx
      gi_wp2
      refine hR.mono ?_
      rintro e W3 (⟨rfl, hJ3, hk3⟩ | ⟨rfl, hJx3⟩)
      · gi_wp2
        go_roundw
        case rel => exact ⟨k + 1, by omega, by go_num, by rw [unhide HX]; exact hJ3, hnx.trans hk3⟩
        case measure => simp [intOf]; omega
      · gi_wp2
        refine bodyPost_ret (results_none rfl _ _ _) rfl ?_
        exact ⟨⟨_, rfl⟩, .inr ⟨_, List.take_prefix (k + 1) zs, by rw [unhide HX]; exact hJx3⟩⟩
    · obtain rfl : k = zs.length := by omega
      rw [List.take_of_length_le (Nat.le_refl _)] at hJs
      gi_wp2
      go_end0
      exact ⟨⟨_, rfl⟩, .inl hJs⟩

/-- what beside hands back tells the kids, whatever the loop's body does above a block -/
theorem beside_stops (F : Fence) (n : Nat) (hF : F.fn 117) (hro : F.round = none) (hn : 1 ≤ n) (Bs n₀ : Nat) (kv : Value) (zs : List Int) (hreach : zs.length ≤ 140737488355328) (w : World) (hBs : Bs < w.heap.size) (hn₀ : n₀ ≤ w.heap.size)
    (hc : w.cell? ⟨Bs, 2, none⟩ = some kv) (hI : IntsIn n₀ w kv zs) :
    SeqStopsK F n Tryz.prog 117 #[.pointer (some ⟨Bs, 0, none⟩)] (fun x : Int => #[Value.int .i64 x]) (Below n₀) (fun ys => ys = zs) (fun pre => pre <+: zs) zs.length w := fun l J Jx W hW _ _ hY h0 => by
  have hc' := (hW.cell (p := ⟨Bs, 2, none⟩) hBs).trans hc
  refine (beside1_in F n hF hro hn l Bs n₀ kv zs hreach J Jx hY W hc' (hI.below (hW.mono hn₀)) h0).mono ?_
  rintro e W' ⟨he, hj | hj⟩
  · exact ⟨he, .inl ⟨_, rfl, hj⟩⟩
  · exact ⟨he, .inr hj⟩

set_option maxHeartbeats 4000000 in
theorem beside_c (s : Int) (t : ByteArray) (kv : Value) (w : World) :
    Calls Tryz.prog 82 #[.agg #[.int .i64 s, .string t, kv]] w fun e w' => e = .returned (.func (.func 117) #[] #[.pointer (some ⟨w.heap.size, 0, none⟩)]) ∧ w' = w.alloc (.cells #[.int .i64 s, .string t, kv] 56) := by
  go_enter Tryz.func82, Tryz.ntmps82
  go_wp2
  go_ret
  exact ⟨rfl, rfl⟩
end Go.Proofs.YtpbnmhnbkfnaeaaGreatDoor
/- A range over a function whose iterator keeps cells of its own (the library's laws speak of iterators that keep none): what the loop's invariant says must abide the turn of any block laid since. -/
namespace Go.Proofs.YtpbnmhnbkfnaeaaGreatDoor
open Go.RowKit Nt

/-- all cells lie as they lay -/
structure KC (W W' : World) : Prop where
  size : W.heap.size ≤ W'.heap.size
  cells : ∀ (b : Nat) (o : Obj), W.heap[b]? = some o → o.isCells = true → W'.heap[b]? = some o
theorem KC.refl (W : World) : KC W W := ⟨Nat.le_refl _, fun _ _ h _ => h⟩
theorem KC.trans {A B C : World} (h : KC A B) (k : KC B C) : KC A C := ⟨Nat.le_trans h.size k.size, fun b o e ho => k.cells b o (h.cells b o e ho) ho⟩
theorem KC.of_below {W W' : World} (h : Below W.heap.size W W') : KC W W' := ⟨h.size, fun b _ e _ => (h.block b (Array.getElem?_eq_some_iff.1 e).1).trans e⟩
theorem KC.put {W : World} {l : Nat} {o o' : Obj} (h : W.heap[l]? = some o) (ho : o.isCells = false) : KC W (W.putObj l o') :=
  ⟨by simp, fun b p e hp => by
    refine (World.putObj_heap_other (fun q => ?_)).trans e
    rw [q, h] at e
    cases e
    rw [ho] at hp
    cases hp⟩
/-- what is said abides the turn of a block from B on -/
def Turns {β : Type} (B : Nat) (J : β → World → Prop) : Prop := ∀ s W W' row, J s W → W.grownBy W' row → (∀ r, row = some r → B ≤ r) → J s W'
/-- .. of a block of cells, or of a walk's -/
def TurnsC {β : Type} (B : Nat) (J : β → World → Prop) : Prop := ∀ s W W' row, J s W → W.grownBy W' row → (∀ r, row = some r → B ≤ r ∧ ∃ o, W.heap[r]? = some o ∧ o.isCells = true) → J s W'
theorem Turns.and {β : Type} {B : Nat} {I J : β → World → Prop} (h : Turns B I) (k : Turns B J) : Turns B (fun s W => I s W ∧ J s W) := fun s W W' row hs hg hr => ⟨h s W W' row hs.1 hg hr, k s W W' row hs.2 hg hr⟩
theorem Turns.pure {β : Type} (B : Nat) (p : β → Prop) : Turns B (fun s (_ : World) => p s) := fun _ _ _ _ hs _ _ => hs
theorem Turns.below {β : Type} {n₀ B : Nat} {w₀ : World} (hn : n₀ ≤ w₀.heap.size) (hB : n₀ ≤ B) : Turns B (fun (_ : β) W => Below n₀ w₀ W) :=
  fun _ _ _ _ hs hg hr => hs.grown hg (Nat.le_trans hn hs.size) (fun k e => Nat.le_trans hB (hr k e))
theorem Turns.block {β : Type} {B b : Nat} {f : β → Obj} (hb : b < B) : Turns B (fun s W => W.heap[b]? = some (f s)) :=
  fun s W W' row hs hg hr => (hg.block b (Array.getElem?_eq_some_iff.1 hs).1 (fun e => by have := hr b e.symm; omega)).trans hs

variable {F : Fence} {n : Nat} {P : Program}
/-- an iterator that tells the list L, or as much of it as it is let -/
def SeqC {α : Type} (F : Fence) (n : Nat) (P : Program) (g : Nat) (lb : Array Value) (encs : α → Array Value) (L : List α) (w : World) : Prop :=
  ∀ (l : Nat) (J Jx : List α → World → Prop) (W : World), Below w.heap.size w W → TurnsC W.heap.size J → TurnsC W.heap.size Jx →
    (∀ pre x W1, J pre W1 → (pre ++ [x]) <+: L → YieldAt F (n - 1) P l (encs x) W1 fun e W' =>
      (e = .returned (.bool true) ∧ J (pre ++ [x]) W' ∧ KC W1 W') ∨ (e = .returned (.bool false) ∧ Jx (pre ++ [x]) W')) →
    J [] W →
    CallsIn F n P g (#[.func (.yield l) #[] #[]] ++ lb) W fun e W' => (∃ v, e = .returned v) ∧ (J L W' ∨ (∃ pre, pre <+: L ∧ Jx pre W'))
/-- how a round's body may be left: on, or by 'return' -/
def LeftC {α : Type} (B : Nat) (I Ix : List α → World → Prop) (xs : List α) (W : World) : Exit → Act → World → Prop
  | .normal, _, W' => KeepsFrom B W W' ∧ KC W W' ∧ I xs W'
  | .ret, _, W' => KeepsFrom B W W' ∧ Ix xs W'
  | .exit _, _, _ => False
  | .goto _, _, _ => False
  | .panic _, _, _ => False
  | .outgrown, _, _ => False
/-- the loop's record and the block of its rounds' deferred calls -/
def Recs (W : World) (D l : Nat) (r : Loop) : Prop := W.heap[l]? = some (.loop r) ∧ W.heap[D]? = some (.deferred (some []))
theorem Recs.put {W : World} {D l : Nat} {r : Loop} (h : Recs W D l r) (hne : D ≠ l) (r' : Loop) : Recs (W.putObj l (.loop r')) D l r' :=
  ⟨World.putObj_heap_same (Array.getElem?_eq_some_iff.1 h.1).1, (World.putObj_heap_other hne).trans h.2⟩
theorem Recs.from {W W' : World} {B D l : Nat} {r : Loop} (h : Recs W D l r) (k : KeepsFrom B W W') (hD : B ≤ D) (hl : B ≤ l) : Recs W' D l r :=
  ⟨k.same _ _ hl h.1 rfl, k.same _ _ hD h.2 rfl⟩
theorem Recs.turn {W W' : World} {D l : Nat} {r : Loop} {row : Option Nat} (h : Recs W D l r) (hg : W.grownBy W' row) (hr : ∀ k, row = some k → ∃ o, W.heap[k]? = some o ∧ o.isCells = true) : Recs W' D l r := by
  have hk : ∀ {b : Nat} {o : Obj}, W.heap[b]? = some o → o.isCells = false → W'.heap[b]? = some o := fun {b o} e ho => by
    refine (hg.block b (Array.getElem?_eq_some_iff.1 e).1 (fun q => ?_)).trans e
    obtain ⟨p, hp, hc⟩ := hr b q.symm
    rw [e] at hp
    cases hp
    rw [ho] at hc
    cases hc
  exact ⟨hk h.1 rfl, hk h.2 rfl⟩
theorem Turns.put {β : Type} {B : Nat} {I : β → World → Prop} (h : Turns B I) {s : β} {W : World} {l : Nat} (hl : B ≤ l) (hs : I s W) (o : Obj) : I s (W.putObj l o) :=
  h s W _ (some l) hs (grownBy_putObj' W l o) (fun r e => by cases e; exact hl)
theorem Turns.new {β : Type} {B : Nat} {I : β → World → Prop} (h : Turns B I) {s : β} {W : World} (hs : I s W) (o : Obj) : I s (W.alloc o) :=
  h s W _ none hs (World.grownBy_alloc W o none) (fun r e => by cases e)

theorem wpIn_range_cells {α : Type} {g : Operand} {ps : Array Tmp} {assign body : Code} {Q : Exit → Act → World → Prop} {a : Act} {w : World}
    (hro : F.round = none) (h1 : 1 ≤ n) {gf : Nat} {lb : Array Value} (hg : a.eval g = .func (.func gf) #[] lb) (hFg : F.fn gf) (eg : ∀ args w, (callFunc gf args).run P w = .ok (.enter gf args) w)
    {encs : α → Array Value} {L : List α} (hseq : SeqC F (n - 1) P gf lb encs L w) (hps : ∀ x, (encs x).size = ps.size)
    (I Ix : List α → World → Prop) (hI : Turns w.heap.size I) (hIx : Turns w.heap.size Ix) (h0 : I [] w) (a₁ : α → Act)
    (hassign : ∀ (l : Nat) (x : α) (W : World) (K : Act → World → Prop), K (a₁ x) W →
      assign.wpIn (F.inRound l) (n - 1 - 1) P (Exit.then K (fun _ _ _ => False)) { tmps := (ps.zip (encs x)).foldl (fun t (p, v) => t.setIfInBounds p v) a.tmps, defers := [] } W)
    (hbody : ∀ (l : Nat) (pre : List α) (x : α) (W : World), I pre W → (pre ++ [x]) <+: L → body.wpIn (F.inRound l) (n - 1 - 1) P (LeftC w.heap.size I Ix (pre ++ [x]) W) (a₁ x) W)
    (hdone : ∀ (D : Nat) (W : World), w.heap.size ≤ D → I L W → W.heap[D]? = some (.deferred (some [])) → Q .normal { a with defers := { target := .collected D, args := #[] } :: a.defers } W)
    (hstop : ∀ (D : Nat) (pre : List α) (W : World), w.heap.size ≤ D → pre <+: L → Ix pre W → W.heap[D]? = some (.deferred (some [])) → Code.ret.wpIn F n P Q { a with defers := { target := .collected D, args := #[] } :: a.defers } W) :
    (Code.rangeFunc g ps assign body).wpIn F n P Q a w := by
  refine wpIn_rangeFunc (fun fn hfn => ?_)
  rw [hro]
  obtain ⟨R, hR⟩ : ∃ R : LoopState → Option Code → Loop, ∀ s p, R s p = { state := s, pending := p, fn, tmps := a.tmps, params := ps, assign, body, defers := w.heap.size } := ⟨_, fun _ _ => rfl⟩
  have hne : w.heap.size ≠ w.heap.size + 1 := by omega
  have hrec : Recs ((w.alloc (.deferred (some []))).alloc (.loop (R .ready none))) w.heap.size (w.heap.size + 1) (R .ready none) := by
    refine ⟨?_, (Below.heap_alloc _ _ _ (by simp)).trans (World.alloc_heap_new w _)⟩
    have h := World.alloc_heap_new (w.alloc (.deferred (some []))) (.loop (R .ready none))
    rwa [World.size_alloc] at h
  have hin : I [] ((w.alloc (.deferred (some []))).alloc (.loop (R .ready none))) := hI.new (hI.new h0 _) _
  have hbel := step_a (step_a (Below.refl w.heap.size w) (.deferred (some []))) (.loop (R .ready none))
  have hent : (Instr.enterLoop fn a.tmps ps assign body none).run P w = .ok (w.heap.size + 1, [{ target := .collected w.heap.size, args := #[] }]) ((w.alloc (.deferred (some []))).alloc (.loop (R .ready none))) := by
    rw [hR]; exact run_enterLoop_outer _ _ _ _ _
  have hsz : w.heap.size + 2 = ((w.alloc (.deferred (some []))).alloc (.loop (R .ready none))).heap.size := by simp
  obtain ⟨W1, hW1⟩ : ∃ W1, (w.alloc (.deferred (some []))).alloc (.loop (R .ready none)) = W1 := ⟨_, rfl⟩
  rw [hW1] at hrec hin hbel hent hsz
  have turn : ∀ {β : Type} {K : β → World → Prop}, Turns w.heap.size K → TurnsC W1.heap.size K := fun hK s A B row hs hg' hr => hK s A B row hs hg' (fun r e => by have := (hr r e).1; omega)
  refine ⟨w.heap.size + 1, _, W1, { target := .fn (.func gf) lb, args := #[.func (.yield (w.heap.size + 1)) #[] #[]] }, W1, gf, #[.func (.yield (w.heap.size + 1)) #[] #[]] ++ lb, W1, hent, ?_, ?_, ?_, fun _ => h1, ?_⟩
  · simp only [resolve, hg]
    simp [go_sem]
  · intro f' hf'
    simp [Target.leads] at hf'
    subst hf'
    exact hFg
  · simp [invoke, go_sem, eg]
  refine (hseq (w.heap.size + 1) (fun pre W => I pre W ∧ Recs W w.heap.size (w.heap.size + 1) (R .ready none)) (fun pre W => Ix pre W ∧ Recs W w.heap.size (w.heap.size + 1) (R .done (some .ret))) W1 hbel
    (fun s A B row hs hg' hr => ⟨turn hI s A B row hs.1 hg' hr, hs.2.turn hg' (fun k e => (hr k e).2)⟩)
    (fun s A B row hs hg' hr => ⟨turn hIx s A B row hs.1 hg' hr, hs.2.turn hg' (fun k e => (hr k e).2)⟩)
    ?_ ⟨hin, hrec⟩).mono ?_
  · rintro pre x W ⟨hi, hr⟩ hpx
    have hy := run_yield (P := P) (args := encs x) hr.1 (by rw [hR]; exact hps x)
    rw [hR] at hy
    refine ⟨fn, _, assign, body, hy, roundIn_of_wpIn hfn (hassign _ x W _ ⟨_, run_beginRound hr.1 (by rw [hR]), ?_⟩)⟩
    have hr2 := hr.put hne { R .ready none with state := .busy }
    refine wpIn_mono (hbody _ pre x _ (hI.put (by omega) hi _) hpx) ?_
    have kc := KC.put (o' := .loop { R .ready none with state := .busy }) hr.1 rfl
    obtain ⟨W2, hW2⟩ : ∃ W2, W.putObj (w.heap.size + 1) (.loop { R .ready none with state := .busy }) = W2 := ⟨_, rfl⟩
    rw [hW2] at hr2 kc ⊢
    rintro e a3 W3 hp
    cases e with
    | normal =>
      obtain ⟨k1, k2, k3⟩ := hp
      have hr3 := hr2.from k1 (by omega) (by omega)
      have he := run_endRound (P := P) none hr3.1
      have hr4 := hr3.put hne (R .ready none)
      rw [hR] at he hr4 ⊢
      exact ⟨_, _, he, .inl ⟨rfl, ⟨hI.put (by omega) k3 _, hr4⟩, (kc.trans k2).trans (KC.put hr3.1 rfl)⟩⟩
    | ret =>
      obtain ⟨k1, k3⟩ := hp
      have hr3 := hr2.from k1 (by omega) (by omega)
      have he := run_endRound (P := P) (some .ret) hr3.1
      have hr4 := hr3.put hne (R .done (some .ret))
      rw [hR] at he
      rw [hR] at hr4
      exact ⟨_, _, he, .inr ⟨rfl, hIx.put (by omega) k3 _, by rw [hR]; exact hr4⟩⟩
    | exit id => exact hp.elim
    | goto t => exact hp.elim
    | panic ch => exact hp.elim
    | outgrown => exact hp.elim
  · rintro e W2 ⟨⟨v, rfl⟩, (⟨hi, hr⟩ | ⟨pre, hp, hi, hr⟩)⟩
    · have he := run_endLoop (P := P) hr.1 (by rw [hR]; simp)
      have hr4 := hr.put hne { R .ready none with state := .exhausted }
      rw [hR] at he hr4
      exact ⟨none, _, he, hdone _ _ (Nat.le_refl _) (hI.put (by omega) hi _) hr4.2⟩
    · have he := run_endLoop (P := P) hr.1 (by rw [hR]; simp)
      have hr4 := hr.put hne { R .done (some .ret) with state := .exhausted }
      rw [hR] at he hr4
      exact ⟨some .ret, _, he, hstop _ pre _ (Nat.le_refl _) hp (hIx.put (by omega) hi _) hr4.2⟩
end Go.Proofs.YtpbnmhnbkfnaeaaGreatDoor
/- Plain: the list of pairs that the program's walk tells; what is compared is the first of them that differs. -/
namespace Go.Proofs.YtpbnmhnbkfnaeaaGreatDoor

/-- the pairs, level by level, from the place i of the list on -/
def lstP (kids : Int → Int → List (Int × Int)) : Nat → Nat → List (Int × Int) → List (Int × Int)
  | 0, _, l => l
  | f + 1, i, l => match l[i]? with
    | none => l
    | some (a, b) => lstP kids f (i + 1) (nxtP l (kids a b))
def fstN (c : Int → Int → Int) : List (Int × Int) → Int
  | [] => 0
  | x :: r => if c x.1 x.2 = 0 then fstN c r else c x.1 x.2
theorem nxt_pre (l ks : List (Int × Int)) : l <+: nxtP l ks := by
  obtain ⟨r, hr⟩ := nxtP_pre (ks := ks) (l := l)
  exact ⟨r, hr.symm⟩
theorem lst_pre (kids : Int → Int → List (Int × Int)) : ∀ (f i : Nat) (l : List (Int × Int)), l <+: lstP kids f i l
  | 0, _, l => ⟨[], by simp [lstP]⟩
  | f + 1, i, l => by
    unfold lstP
    cases h : l[i]? with
    | none => exact ⟨[], by simp⟩
    | some x => exact (nxt_pre l (kids x.1 x.2)).trans (lst_pre kids f (i + 1) _)
theorem pre_get {α : Type} {l L : List α} (h : l <+: L) {i : Nat} {x : α} (hx : l[i]? = some x) : L[i]? = some x := by
  obtain ⟨r, rfl⟩ := h
  rw [List.getElem?_append_left (List.getElem?_eq_some_iff.1 hx).1, hx]
theorem walk_fst {c : Int → Int → Int} {kids : Int → Int → List (Int × Int)} {n m : Nat} (hk : ∀ a b, InP n m (a, b) → ∀ x ∈ kids a b, InP n m x) :
    ∀ {f i : Nat} {l : List (Int × Int)}, l.Nodup → (∀ x ∈ l, InP n m x) → i ≤ l.length → n * m < f + i → walkP c kids f i l = fstN c ((lstP kids f i l).drop i) ∧ (lstP kids f i l).Nodup ∧ (∀ x ∈ lstP kids f i l, InP n m x) := by
  intro f
  induction f with
  | zero =>
    intro i l hn hl hi hf
    have := pairs_few hn hl
    omega
  | succ f ih =>
    intro i l hn hl hi hf
    unfold walkP lstP
    cases h : l[i]? with
    | none =>
      have := List.getElem?_eq_none_iff.1 h
      simp only
      rw [List.drop_of_length_le this]
      exact ⟨rfl, hn, hl⟩
    | some x =>
      obtain ⟨a, b⟩ := x
      simp only
      have hab := hl _ (List.mem_of_getElem? h)
      obtain ⟨h1, h2, r, hr⟩ := nxtP_ok hn hl (hk a b hab)
      have hlen : i + 1 ≤ (nxtP l (kids a b)).length := by
        have := (List.getElem?_eq_some_iff.1 h).1
        rw [hr, List.length_append]; omega
      obtain ⟨w1, w2, w3⟩ := ih h1 h2 hlen (by omega)
      have hg : (lstP kids f (i + 1) (nxtP l (kids a b)))[i]? = some (a, b) := pre_get ((nxt_pre l _).trans (lst_pre kids f (i + 1) _)) h
      have hd : (lstP kids f (i + 1) (nxtP l (kids a b))).drop i = (a, b) :: (lstP kids f (i + 1) (nxtP l (kids a b))).drop (i + 1) := by
        obtain ⟨hlt, e⟩ := List.getElem?_eq_some_iff.1 hg
        rw [List.drop_eq_getElem_cons hlt, e]
      refine ⟨?_, w2, w3⟩
      have e : ∀ r, fstN c ((a, b) :: r) = if c a b = 0 then fstN c r else c a b := fun _ => rfl
      rw [hd, w1, e]
theorem fst_zero {c : Int → Int → Int} : ∀ {l : List (Int × Int)}, (∀ x ∈ l, c x.1 x.2 = 0) → fstN c l = 0
  | [], _ => rfl
  | x :: r, h => by
    unfold fstN
    rw [if_pos (h x List.mem_cons_self)]
    exact fst_zero (fun y hy => h y (List.mem_cons_of_mem _ hy))
theorem fst_at {c : Int → Int → Int} {x : Int × Int} (hx : c x.1 x.2 ≠ 0) : ∀ {pre L : List (Int × Int)}, (pre ++ [x]) <+: L → (∀ y ∈ pre, c y.1 y.2 = 0) → fstN c L = c x.1 x.2
  | [], L, ⟨r, hr⟩, _ => by
    subst hr
    show fstN c (x :: r) = _
    unfold fstN
    rw [if_neg hx]
  | y :: pre, L, ⟨r, hr⟩, h => by
    subst hr
    show fstN c (y :: (pre ++ [x] ++ r)) = _
    unfold fstN
    rw [if_pos (h y List.mem_cons_self)]
    exact fst_at hx ⟨r, rfl⟩ (fun z hz => h z (List.mem_cons_of_mem _ hz))
/-- all pairs that are told -/
def allL (ns ms : List Nd) (a b : Int) : List (Int × Int) := lstP (kidsP ns ms) (ns.length * ms.length + 1) 0 [(a, b)]
theorem cmpAt_fst {ns ms : List Nd} (hn : ns.all (ndOk ns.length) = true) (hm : ms.all (ndOk ms.length) = true) {a b : Int} (hab : InP ns.length ms.length (a, b)) :
    cmpAt ns ms a b = fstN (labP ns ms) (allL ns ms a b) ∧ ∀ x ∈ allL ns ms a b, InP ns.length ms.length x := by
  have h := walk_fst (c := labP ns ms) (kidsP_in hn hm) (f := ns.length * ms.length + 1) (i := 0) (l := [(a, b)]) (by simp) (fun x hx => by
    have : x = (a, b) := by simpa using hx
    rw [this]; exact hab) (by simp) (by omega)
  exact ⟨h.1, h.2.2⟩
/-- from the place i on it is the list L that is told -/
def Lst (ns ms : List Nd) (L : List (Int × Int)) (i : Nat) (l : List (Int × Int)) : Prop := ∀ f, ns.length * ms.length < f + i → lstP (kidsP ns ms) f i l = L
theorem lst_fuel {kids : Int → Int → List (Int × Int)} {n m : Nat} (hk : ∀ a b, InP n m (a, b) → ∀ x ∈ kids a b, InP n m x) :
    ∀ {f g i : Nat} {l : List (Int × Int)}, l.Nodup → (∀ x ∈ l, InP n m x) → n * m < f + i → n * m < g + i → lstP kids f i l = lstP kids g i l := by
  intro f
  induction f with
  | zero =>
    intro g i l hn hl hf hg
    have := pairs_few hn hl
    cases g with
    | zero => rfl
    | succ g =>
      unfold lstP
      rw [List.getElem?_eq_none (by omega)]
  | succ f ih =>
    intro g i l hn hl hf hg
    cases g with
    | zero =>
      have := pairs_few hn hl
      unfold lstP
      rw [List.getElem?_eq_none (by omega)]
    | succ g =>
      unfold lstP
      cases h : l[i]? with
      | none => rfl
      | some x =>
        obtain ⟨a, b⟩ := x
        simp only
        obtain ⟨h1, h2, _⟩ := nxtP_ok hn hl (hk a b (hl _ (List.mem_of_getElem? h)))
        exact ih h1 h2 (by omega) (by omega)
theorem Lst.start {ns ms : List Nd} (hn : ns.all (ndOk ns.length) = true) (hm : ms.all (ndOk ms.length) = true) {a b : Int} (hab : InP ns.length ms.length (a, b)) : Lst ns ms (allL ns ms a b) 0 [(a, b)] := fun f hf =>
  lst_fuel (kidsP_in hn hm) (by simp) (fun x hx => by
    have : x = (a, b) := by simpa using hx
    rw [this]; exact hab) (by omega) (by omega)
theorem Lst.done {ns ms : List Nd} {L : List (Int × Int)} {l : List (Int × Int)} (h : Lst ns ms L l.length l) : L = l := by
  rw [← h (ns.length * ms.length + 1) (by omega)]
  unfold lstP
  rw [List.getElem?_eq_none (Nat.le_refl _)]
theorem Lst.pre {ns ms : List Nd} {L : List (Int × Int)} {i : Nat} {l : List (Int × Int)} (h : Lst ns ms L i l) : l <+: L := by
  rw [← h (ns.length * ms.length + 1) (by omega)]
  exact lst_pre _ _ _ _
theorem Lst.next {ns ms : List Nd} {L : List (Int × Int)} {i : Nat} {l : List (Int × Int)} (h : Lst ns ms L i l) {a b : Int} (hx : l[i]? = some (a, b)) : Lst ns ms L (i + 1) (nxtP l (kidsP ns ms a b)) := fun f hf => by
  rw [← h (f + 1) (by omega)]
  conv => rhs; unfold lstP
  rw [hx]
theorem Lst.take {ns ms : List Nd} {L : List (Int × Int)} {i : Nat} {l : List (Int × Int)} (h : Lst ns ms L i l) {x : Int × Int} (hx : l[i]? = some x) : l.take i ++ [x] = L.take (i + 1) := by
  have hlt := (List.getElem?_eq_some_iff.1 hx).1
  obtain ⟨r, hr⟩ := h.pre
  rw [← hr, List.take_append_of_le_length (by omega), List.take_add_one, hx]
  rfl
end Go.Proofs.YtpbnmhnbkfnaeaaGreatDoor
/- tabCompared's closure meet: a pair that is met for the first time is marked and put behind those that wait. -/
namespace Go.Proofs.YtpbnmhnbkfnaeaaGreatDoor
open Go.RowKit Nt

/-- steps that turn blocks of cells from B on, one after another -/
structure Steps (B : Nat) (W W' : World) : Prop where
  bl : Below B W W'
  tr : ∀ {β : Type} (J : β → World → Prop) (s : β), TurnsC B J → J s W → J s W'
theorem Steps.refl (B : Nat) (W : World) : Steps B W W := ⟨Below.refl _ _, fun _ _ _ h => h⟩
theorem Steps.trans {B : Nat} {A C D : World} (h : Steps B A C) (k : Steps B C D) : Steps B A D := ⟨h.bl.trans k.bl, fun J s hJ hs => k.tr J s hJ (h.tr J s hJ hs)⟩
theorem Steps.below {B : Nat} {W W' : World} (hB : B ≤ W.heap.size) (h : Below W.heap.size W W') : Steps B W W' :=
  ⟨h.mono hB, fun J s hJ hs => hJ s W W' none hs ⟨h.os, h.tape, h.output, h.size, fun k hk _ => h.block k hk⟩ (fun r e => by cases e)⟩
theorem Steps.set {B : Nat} {W : World} {b i : Nat} {cs : Array Value} {T : TypeId} (h : AtC W b cs T) (hB : B ≤ b) (u : Value) : Steps B W (W.setCell ⟨b, i, none⟩ u) :=
  ⟨(Below.refl B W).setCell (p := ⟨b, i, none⟩) hB u, fun J s hJ hs => hJ s W _ (some b) hs ⟨rfl, rfl, rfl, by simp, fun k _ hk => Below.heap_setCell _ _ _ k (fun e => hk (by rw [e]))⟩ (fun r e => by cases e; exact ⟨hB, _, h, rfl⟩)⟩
theorem Steps.grown {B base size k : Nat} {W W' : World} {e : TypeId} {v : Value} {xs : List Value} (h : W.ownsRow base e size v k xs) (hg : W.grownBy W' v.ownBlock) (hB : B ≤ base) (hW : B ≤ W.heap.size) : Steps B W W' := by
  have hr : ∀ r, v.ownBlock = some r → B ≤ r ∧ ∃ o, W.heap[r]? = some o ∧ o.isCells = true := fun r e => by
    rcases h.2 with ⟨rfl, _⟩ | ⟨g, c, cur, rfl, hb, hg, _⟩
    · cases e
    · simp [Value.ownBlock] at e
      subst e
      exact ⟨by omega, _, hg, rfl⟩
  exact ⟨(Below.refl B W).grown hg hW (fun r e => (hr r e).1), fun J s hJ hs => hJ s W W' _ hs hg hr⟩

theorem AtC.put1 {w : World} {b i : Nat} {cs : Array Value} {T : TypeId} (h : AtC w b cs T) (u : Value) : AtC (w.setCell ⟨b, i, none⟩ u) b (cs.setIfInBounds i u) T := by
  show (w.heap.modify b _)[b]? = _
  rw [Array.getElem?_modify, if_pos rfl, show w.heap[b]? = _ from h]; rfl
/-- which pair is marked where -/
def metB (m : Nat) (l : List (Int × Int)) (k : Nat) : Bool := decide ((((k / m : Nat) : Int), ((k % m : Nat) : Int)) ∈ l)
def metA (m nm : Nat) (l : List (Int × Int)) : Array Value := ((List.range nm).map fun k => Value.bool (metB m l k)).toArray
theorem metA_get {m nm k : Nat} {l : List (Int × Int)} (h : k < nm) : (metA m nm l)[k]? = some (.bool (metB m l k)) := by
  unfold metA
  simp [h]
theorem metB_snoc (m : Nat) (l : List (Int × Int)) (k j : Nat) : metB m (l ++ [(((k / m : Nat) : Int), ((k % m : Nat) : Int))]) j = (metB m l j || decide (j = k)) := by
  have hq : (((j / m : Nat) : Int), ((j % m : Nat) : Int)) = (((k / m : Nat) : Int), ((k % m : Nat) : Int)) ↔ j = k := by
    constructor
    · intro q
      rw [Prod.mk.injEq] at q
      have h1 : j / m = k / m := by omega
      have h2 : j % m = k % m := by omega
      have h3 := Nat.div_add_mod j m
      have h4 := Nat.div_add_mod k m
      rw [h1, h2] at h3
      omega
    · rintro rfl; rfl
  unfold metB
  rw [Bool.eq_iff_iff, decide_eq_true_eq, Bool.or_eq_true, decide_eq_true_eq, decide_eq_true_eq, List.mem_append, List.mem_singleton, hq]
theorem metA_set {m nm k : Nat} {l : List (Int × Int)} (h : k < nm) : (metA m nm l).setIfInBounds k (.bool true) = metA m nm (l ++ [(((k / m : Nat) : Int), ((k % m : Nat) : Int))]) := by
  apply Array.ext_getElem?
  intro j
  rw [Array.getElem?_setIfInBounds]
  by_cases hj : j < nm
  · rw [metA_get hj, metA_get hj, metB_snoc]
    by_cases e : k = j
    · subst e
      rw [if_pos rfl, if_pos (by simpa [metA] using h), decide_eq_true rfl, Bool.or_true]
    · rw [if_neg e, decide_eq_false (fun q => e q.symm), Bool.or_false]
  · have e : ∀ l, (metA m nm l)[j]? = none := fun l => by simp [metA, Nat.le_of_not_lt hj]
    rw [e, e, if_neg (by omega)]
theorem met_at {m n : Nat} {x y : Int} (h : InP n m (x, y)) : ∃ k : Nat, k < n * m ∧ (k : Int) = x * m + y ∧ ((k / m : Nat) : Int) = x ∧ ((k % m : Nat) : Int) = y := by
  obtain ⟨⟨x0, x1⟩, y0, y1⟩ := h
  simp only at x0 x1 y0 y1
  obtain ⟨a, rfl⟩ := Int.eq_ofNat_of_zero_le x0
  obtain ⟨b, rfl⟩ := Int.eq_ofNat_of_zero_le y0
  have ha : a < n := by omega
  have hb : b < m := by omega
  refine ⟨a * m + b, ?_, by push_cast; rfl, ?_, ?_⟩
  · calc a * m + b < a * m + m := by omega
      _ = (a + 1) * m := by rw [Nat.succ_mul]
      _ ≤ n * m := Nat.mul_le_mul_right _ ha
  · rw [Nat.mul_comm, Nat.mul_add_div (by omega), Nat.div_eq_of_lt hb]; rfl
  · rw [Nat.mul_comm, Nat.mul_add_mod, Nat.mod_eq_of_lt hb]
/-- what the walk keeps: the marks, and the pairs in a row of its own -/
structure MeetS (W : World) (B g mB pB m nm : Nat) (l : List (Int × Int)) : Prop where
  gm : AtC W g (metA m nm l) 4
  mb : AtC W mB #[.slice (some ⟨g, 0, none⟩) nm nm] 126
  pb : ∃ v, AtC W pB #[v] 127 ∧ RowP W B 129 v l
  lg : B ≤ g
  lm : B ≤ mB
  lp : B ≤ pB
theorem MeetS.below {W W' : World} {B g mB pB m nm : Nat} {l : List (Int × Int)} (h : MeetS W B g mB pB m nm l) (k : Below W.heap.size W W') : MeetS W' B g mB pB m nm l := by
  obtain ⟨a, b, ⟨v, c, d⟩, e1, e2, e3⟩ := h
  exact ⟨a.below k, b.below k, ⟨v, c.below k, own_below d k⟩, e1, e2, e3⟩
theorem AtC.kc {w w' : World} {b : Nat} {cs : Array Value} {T : TypeId} (h : AtC w b cs T) (k : KC w w') : AtC w' b cs T := k.cells b _ h rfl
theorem own_kc {w w' : World} {base size n : Nat} {e : TypeId} {v : Value} {xs : List Value} (h : w.ownsRow base e size v n xs) (k : KC w w') : w'.ownsRow base e size v n xs := by
  refine ⟨h.1, ?_⟩
  rcases h.2 with ⟨rfl, h1⟩ | ⟨g, cap, cur, rfl, hb, hg, r⟩
  · exact .inl ⟨rfl, h1⟩
  · exact .inr ⟨g, cap, cur, rfl, hb, k.cells g _ hg rfl, r⟩
theorem MeetS.kc {W W' : World} {B g mB pB m nm : Nat} {l : List (Int × Int)} (h : MeetS W B g mB pB m nm l) (k : KC W W') : MeetS W' B g mB pB m nm l := by
  obtain ⟨a, b, ⟨v, c, d⟩, e1, e2, e3⟩ := h
  exact ⟨a.kc k, b.kc k, ⟨v, c.kc k, own_kc d k⟩, e1, e2, e3⟩
theorem Tryz.infoTabPair : (Tryz.prog.info? 129).map (fun i => (i.zero, i.size, i.bytes)) = some (some (.agg #[.int .i64 0, .int .i64 0]), 2, 16) := by kernel_rfl
end Go.Proofs.YtpbnmhnbkfnaeaaGreatDoor
