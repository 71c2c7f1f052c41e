/- PROVED: for every two byte slices, and whatever lies in memory besides the table of tens, which reads as the program's text lays it, laws.FnNumTop returns true and leaves both slices and the table as they were. The only condition is the row's own: impl.natTens reads as listed; the card ties that to the program's text. -/
import Derived.Test.YtchginjabaobfaaDoorM7
import Derived.Test.YtchginjabaobfaaDoorCards
import Derived.Test.YtchginjabaobfaaDoorTie
import Derived.Deep.CutRange
import Derived.Deep.RegionHeld3
import Derived.ProofKit
import Derived.OpenShut
import Derived.ShutString
import Derived.ChangeOld
import Derived.ChangeVars
import Derived.Lay
import Derived.LaidOnce
import Derived.JoinedOf
import Derived.Handy
import Derived.Lib.LaidTab
import Derived.SevenTiedAt
namespace Go.Proofs.YtchginjabaobfaaDoor
open Go.RowKit Nt

/-- a number in a box of its own, behind a world -/
def Box1 (W : World) (t : T3) (s : Value) (wx : World) : Prop :=
  ∃ g, s = .pointer (some ⟨g, 0, none⟩) ∧ AtC wx g #[.bool t.1, .string (B t.2.1), .string (B t.2.2)] 26 ∧ Below W.heap.size W wx
theorem box1_new {W w : World} {n : Bool} {u d : List UInt8} (h : Below W.heap.size W w) : Box1 W (n, u, d) (.pointer (some ⟨w.heap.size, 0, none⟩)) (w.alloc (.cells #[.bool n, .string (B u), .string (B d)] 26)) :=
  ⟨_, rfl, AtC.new _ _ _, below_al h (Nat.le_refl _) _⟩
theorem box1_old {W w : World} {n : Bool} {u d : List UInt8} {b : Nat} {x y z : Value} (hM : AtC w b #[x, y, z] 26) (hb : W.heap.size ≤ b) (h : Below W.heap.size W w) : Box1 W (n, u, d) (.pointer (some ⟨b, 0, none⟩)) (((w.setCell ⟨b, 0, none⟩ (.bool n)).setCell ⟨b, 1, none⟩ (.string (B u))).setCell ⟨b, 2, none⟩ (.string (B d))) :=
  ⟨b, rfl, hM.put3 _ _ _, below_set3 h hb _ _ _⟩
theorem far3' {w : World} {b : Nat} {u0 u1 u2 : Value} {a : Addr} (h : b ≠ a.block) : (((w.setCell ⟨b, 0, none⟩ u0).setCell ⟨b, 1, none⟩ u1).setCell ⟨b, 2, none⟩ u2).cell? a = w.cell? a := by
  rw [World.cell?_setCell_far _ _ _ _ h, World.cell?_setCell_far _ _ _ _ h, World.cell?_setCell_far _ _ _ _ h]

set_option maxRecDepth 100000 in
set_option maxHeartbeats 8000000 in
theorem lawTop_main (a0 a1 : Option Addr) (n0 cap0 n1 cap1 : Nat) (w : World) (h0 : Bytes0 w a0 n0) (h1 : Bytes0 w a1 n1) (hc0 : n0 ≤ cap0) (hc1 : n1 ≤ cap1) (hm0 : cap0 ≤ maxLen) (hm1 : cap1 ≤ maxLen) (hT : Tens w) (hs0 : n0 ≤ 1048576) (hs1 : n1 ≤ 1048576) :
    Calls Tryd.prog 4 #[.slice a0 n0 cap0, .slice a1 n1 cap1] w fun e w' => e = .returned (.bool true) ∧ Below w.heap.size w w' := by
  have H0 := hide h0
  have H1 := hide h1
  have HT := hide hT
  clear h0 h1 hT
  have d0 : decide (1048576 < (n0 : Int)) = false := by rw [decide_eq_false_iff_not]; omega
  have d1 : decide (1048576 < (n1 : Int)) = false := by rw [decide_eq_false_iff_not]; omega
  go_enter Tryd.func4, Tryd.ntmps4
  go_wp2_with fail
  refine (drawAdd_t a0 n0 cap0 w (unhide H0) hc0 hm0).mono ?_
  rintro e w1 ⟨⟨na, ua, da, nb, ub, db, rfl, hsa, hsb⟩, hb1⟩
  have HB1 := hide hb1
  have HsA := hide hsa
  have HsBb := hide hsb
  clear hb1 d0 d1 hsa hsb
  go_wp2_with fail
  refine (drawMul_t a1 n1 cap1 ((w1.alloc (.cells #[.bool na, .string (B ua), .string (B da)] 26)).alloc (.cells #[.bool nb, .string (B ub), .string (B db)] 26)) ((unhide H1).below (below_al (below_al (unhide HB1) (Nat.le_refl _) (.cells #[.bool na, .string (B ua), .string (B da)] 26)) (Nat.le_refl _) (.cells #[.bool nb, .string (B ub), .string (B db)] 26))) hc1 hm1).mono ?_
  rintro e w2 ⟨⟨nc, uc, dc, nc2, uc2, dc2, rfl, hsc, hsc2⟩, hb⟩
  have HsC := hide hsc
  clear hsc hsc2
  have HB2 := hide (below_step (below_al (below_al (unhide HB1) (Nat.le_refl _) (.cells #[.bool na, .string (B ua), .string (B da)] 26)) (Nat.le_refl _) (.cells #[.bool nb, .string (B ub), .string (B db)] 26)) hb)
  have HXA := hide (((AtC.new w1 #[.bool na, .string (B ua), .string (B da)] 26).alloc (.cells #[.bool nb, .string (B ub), .string (B db)] 26)).below hb)
  have HXBb := hide ((AtC.new (w1.alloc (.cells #[.bool na, .string (B ua), .string (B da)] 26)) #[.bool nb, .string (B ub), .string (B db)] 26).below hb)
  rw [World.size_alloc] at HXBb
  clear hb HB1
  clear H0 H1 hc0 hc1 hm0 hm1 hs0 hs1
  obtain ⟨⟨⟨ns, us, ds⟩, xs⟩, hr⟩ : ∃ r, fld addP (na, ua, da) (nb, ub, db) = r := ⟨_, rfl⟩
  have HsS := hide (fld_small low_add hr)
  have HrS := hide hr
  clear hr
  obtain ⟨⟨⟨np, up, dp⟩, xp⟩, hr⟩ : ∃ r, fld mulP (na, ua, da) (nb, ub, db) = r := ⟨_, rfl⟩
  have HsP := hide (fld_small low_mul hr)
  have HrP := hide hr
  clear hr
  have A0 := (unhide HXA).n0
  have A1 := (unhide HXA).n1
  have A2 := (unhide HXA).n2
  have Al := (unhide HXA).lt
  have Bb0 := (unhide HXBb).n0
  have Bb1 := (unhide HXBb).n1
  have Bb2 := (unhide HXBb).n2
  have Bbl := (unhide HXBb).lt
  go_wp2_with fail
  have h := implAdd_s (unhide HrS) ((w2.alloc (.cells #[.bool nc, .string (B uc), .string (B dc)] 26)).alloc (.cells #[.bool nc2, .string (B uc2), .string (B dc2)] 26)) (unhide HsA) (unhide HsBb) ((unhide HT).below (below_al (below_al (unhide HB2) (Nat.le_refl _) (.cells #[.bool nc, .string (B uc), .string (B dc)] 26)) (Nat.le_refl _) (.cells #[.bool nc2, .string (B uc2), .string (B dc2)] 26)))
  refine h.mono ?_
  clear h
  clear A0 A1 A2 Al Bb0 Bb1 Bb2 Bbl
  rintro e w3 ⟨rfl, hb⟩
  have HB3 := hide (below_step (below_al (below_al (unhide HB2) (Nat.le_refl _) (.cells #[.bool nc, .string (B uc), .string (B dc)] 26)) (Nat.le_refl _) (.cells #[.bool nc2, .string (B uc2), .string (B dc2)] 26)) hb)
  replace HXA := hide (((((unhide HXA).alloc _).alloc _)).below hb)
  replace HXBb := hide (((((unhide HXBb).alloc _).alloc _)).below hb)
  have HXC := hide (((AtC.new w2 #[.bool nc, .string (B uc), .string (B dc)] 26).alloc (.cells #[.bool nc2, .string (B uc2), .string (B dc2)] 26)).below hb)
  have HXC2 := hide ((AtC.new (w2.alloc (.cells #[.bool nc, .string (B uc), .string (B dc)] 26)) #[.bool nc2, .string (B uc2), .string (B dc2)] 26).below hb)
  rw [World.size_alloc] at HXC2
  clear hb HB2
  have A0 := (unhide HXA).n0
  have A1 := (unhide HXA).n1
  have A2 := (unhide HXA).n2
  have Al := (unhide HXA).lt
  have Bb0 := (unhide HXBb).n0
  have Bb1 := (unhide HXBb).n1
  have Bb2 := (unhide HXBb).n2
  have Bbl := (unhide HXBb).lt
  go_wp2_with fail
  have h := implAdd_s ((add_comm_t (nb, ub, db) (na, ua, da)).trans (unhide HrS)) (w3.alloc (.cells #[.bool ns, .string (B us), .string (B ds)] 26)) (unhide HsBb) (unhide HsA) ((unhide HT).below (below_al (unhide HB3) (Nat.le_refl _) (.cells #[.bool ns, .string (B us), .string (B ds)] 26)))
  refine h.mono ?_
  clear h
  clear A0 A1 A2 Al Bb0 Bb1 Bb2 Bbl
  rintro e w4 ⟨rfl, hb⟩
  have HB4 := hide (below_step (below_al (unhide HB3) (Nat.le_refl _) (.cells #[.bool ns, .string (B us), .string (B ds)] 26)) hb)
  replace HXA := hide ((((unhide HXA).alloc _)).below hb)
  replace HXBb := hide ((((unhide HXBb).alloc _)).below hb)
  replace HXC := hide ((((unhide HXC).alloc _)).below hb)
  replace HXC2 := hide ((((unhide HXC2).alloc _)).below hb)
  have HXS := hide ((AtC.new w3 #[.bool ns, .string (B us), .string (B ds)] 26).below hb)
  clear hb HB3
  have A0 := (unhide HXA).n0
  have A1 := (unhide HXA).n1
  have A2 := (unhide HXA).n2
  have Al := (unhide HXA).lt
  have Bb0 := (unhide HXBb).n0
  have Bb1 := (unhide HXBb).n1
  have Bb2 := (unhide HXBb).n2
  have Bbl := (unhide HXBb).lt
  go_wp2_with fail
  have h := specAdd_s (unhide HrS) (w4.alloc (.cells #[.bool ns, .string (B us), .string (B ds)] 26)) (unhide HsA) (unhide HsBb)
  refine h.mono ?_
  clear h
  clear A0 A1 A2 Al Bb0 Bb1 Bb2 Bbl
  rintro e w5 ⟨rfl, hb⟩
  have HB5 := hide (below_step (below_al (unhide HB4) (Nat.le_refl _) (.cells #[.bool ns, .string (B us), .string (B ds)] 26)) hb)
  replace HXA := hide ((((unhide HXA).alloc _)).below hb)
  replace HXBb := hide ((((unhide HXBb).alloc _)).below hb)
  replace HXC := hide ((((unhide HXC).alloc _)).below hb)
  replace HXC2 := hide ((((unhide HXC2).alloc _)).below hb)
  replace HXS := hide ((((unhide HXS).alloc _)).below hb)
  have HXS2 := hide ((AtC.new w4 #[.bool ns, .string (B us), .string (B ds)] 26).below hb)
  clear hb HB4
  have S0 := (unhide HXS).n0
  have S1 := (unhide HXS).n1
  have S2 := (unhide HXS).n2
  have Sl := (unhide HXS).lt
  have S20 := (unhide HXS2).n0
  have S21 := (unhide HXS2).n1
  have S22 := (unhide HXS2).n2
  have S2l := (unhide HXS2).lt
  have A0 := (unhide HXA).n0
  have A1 := (unhide HXA).n1
  have A2 := (unhide HXA).n2
  have Al := (unhide HXA).lt
  have Bb0 := (unhide HXBb).n0
  have Bb1 := (unhide HXBb).n1
  have Bb2 := (unhide HXBb).n2
  have Bbl := (unhide HXBb).lt
  go_wp2_with fail
  have h := implMul_s (unhide HrP) (w5.alloc (.cells #[.bool ns, .string (B us), .string (B ds)] 26)) (unhide HsA) (unhide HsBb) ((unhide HT).below (below_al (unhide HB5) (Nat.le_refl _) (.cells #[.bool ns, .string (B us), .string (B ds)] 26)))
  refine h.mono ?_
  clear h
  clear S0 S1 S2 Sl S20 S21 S22 S2l A0 A1 A2 Al Bb0 Bb1 Bb2 Bbl
  rintro e w6 ⟨rfl, hb⟩
  have HB6 := hide (below_step (below_al (unhide HB5) (Nat.le_refl _) (.cells #[.bool ns, .string (B us), .string (B ds)] 26)) hb)
  replace HXA := hide ((((unhide HXA).alloc _)).below hb)
  replace HXBb := hide ((((unhide HXBb).alloc _)).below hb)
  replace HXC := hide ((((unhide HXC).alloc _)).below hb)
  replace HXC2 := hide ((((unhide HXC2).alloc _)).below hb)
  replace HXS := hide ((((unhide HXS).alloc _)).below hb)
  replace HXS2 := hide ((((unhide HXS2).alloc _)).below hb)
  have HXS3 := hide ((AtC.new w5 #[.bool ns, .string (B us), .string (B ds)] 26).below hb)
  clear hb HB5
  clear HXC2
  clear HXS2
  clear HXS3
  have A0 := (unhide HXA).n0
  have A1 := (unhide HXA).n1
  have A2 := (unhide HXA).n2
  have Al := (unhide HXA).lt
  have Bb0 := (unhide HXBb).n0
  have Bb1 := (unhide HXBb).n1
  have Bb2 := (unhide HXBb).n2
  have Bbl := (unhide HXBb).lt
  go_wp2_with fail
  have h := implMul_s ((mul_comm_t (nb, ub, db) (na, ua, da)).trans (unhide HrP)) (w6.alloc (.cells #[.bool np, .string (B up), .string (B dp)] 26)) (unhide HsBb) (unhide HsA) ((unhide HT).below (below_al (unhide HB6) (Nat.le_refl _) (.cells #[.bool np, .string (B up), .string (B dp)] 26)))
  refine h.mono ?_
  clear h
  clear A0 A1 A2 Al Bb0 Bb1 Bb2 Bbl
  rintro e w7 ⟨rfl, hb⟩
  have HB7 := hide (below_step (below_al (unhide HB6) (Nat.le_refl _) (.cells #[.bool np, .string (B up), .string (B dp)] 26)) hb)
  replace HXA := hide ((((unhide HXA).alloc _)).below hb)
  replace HXBb := hide ((((unhide HXBb).alloc _)).below hb)
  replace HXC := hide ((((unhide HXC).alloc _)).below hb)
  replace HXS := hide ((((unhide HXS).alloc _)).below hb)
  have HXP := hide ((AtC.new w6 #[.bool np, .string (B up), .string (B dp)] 26).below hb)
  clear hb HB6
  have P0 := (unhide HXP).n0
  have P1 := (unhide HXP).n1
  have P2 := (unhide HXP).n2
  have Pl := (unhide HXP).lt
  have S0 := (unhide HXS).n0
  have S1 := (unhide HXS).n1
  have S2 := (unhide HXS).n2
  have Sl := (unhide HXS).lt
  go_upto_region 12 with fail
  go_cut [128] from 103 to 128 (fun s wx => s = .bool false ∧ Below ((w7.alloc (.cells #[.bool np, .string (B up), .string (B dp)] 26))).heap.size ((w7.alloc (.cells #[.bool np, .string (B up), .string (B dp)] 26))) wx)
  case first =>
    by_cases hp : xp = 0
    · subst hp
      by_cases hx : xs = 0
      · subst hx
        go_wp2_with fail
        have h := implOk_s (w7.alloc (.cells #[.bool np, .string (B up), .string (B dp)] 26)) (fld_isok low_mul (unhide HrP)) ((unhide HT).below (below_al (unhide HB7) (Nat.le_refl _) (.cells #[.bool np, .string (B up), .string (B dp)] 26)))
        refine h.mono ?_
        clear h
        clear P0 P1 P2 Pl S0 S1 S2 Sl
        rintro e wy ⟨rfl, hb⟩
        have HY := hide hb
        have S0 := (((unhide HXS).alloc _).below hb).n0
        have S1 := (((unhide HXS).alloc _).below hb).n1
        have S2 := (((unhide HXS).alloc _).below hb).n2
        have Sl := (((unhide HXS).alloc _).below hb).lt
        clear hb
        go_wp2_with fail
        have h := implOk_s wy (fld_isok low_add (unhide HrS)) (Tens.below ((unhide HT).below (below_al (unhide HB7) (Nat.le_refl _) (.cells #[.bool np, .string (B up), .string (B dp)] 26))) (unhide HY))
        refine h.mono ?_
        clear h S0 S1 S2 Sl
        rintro e wz ⟨rfl, hb⟩
        replace HY := hide (below_step (unhide HY) hb)
        clear hb
        go_wp2_with fail
        go_meet
        exact ⟨rfl, unhide HY⟩
      · skip
        go_wp2_with fail
        have h := implOk_s (w7.alloc (.cells #[.bool np, .string (B up), .string (B dp)] 26)) (fld_isok low_mul (unhide HrP)) ((unhide HT).below (below_al (unhide HB7) (Nat.le_refl _) (.cells #[.bool np, .string (B up), .string (B dp)] 26)))
        refine h.mono ?_
        clear h
        clear P0 P1 P2 Pl S0 S1 S2 Sl
        rintro e wy ⟨rfl, hb⟩
        have HY := hide hb
        clear hb
        go_wp2_with fail
        go_meet
        exact ⟨rfl, unhide HY⟩
    · by_cases hx : xs = 0
      · subst hx
        go_wp2_with fail
        have h := implOk_s (w7.alloc (.cells #[.bool np, .string (B up), .string (B dp)] 26)) (fld_isok low_add (unhide HrS)) ((unhide HT).below (below_al (unhide HB7) (Nat.le_refl _) (.cells #[.bool np, .string (B up), .string (B dp)] 26)))
        refine h.mono ?_
        clear h
        clear P0 P1 P2 Pl S0 S1 S2 Sl
        rintro e wy ⟨rfl, hb⟩
        have HY := hide hb
        clear hb
        go_wp2_with fail
        go_meet
        exact ⟨rfl, unhide HY⟩
      · skip
        go_wp2_with fail
        go_meet
        exact ⟨rfl, Below.refl _ _⟩
  case rest =>
  obtain ⟨rfl, hb⟩ := hcut
  rename World => w8
  clear P0 P1 P2 Pl S0 S1 S2 Sl
  have HB8 := hide (below_step (below_al (unhide HB7) (Nat.le_refl _) (.cells #[.bool np, .string (B up), .string (B dp)] 26)) hb)
  replace HXA := hide ((((unhide HXA).alloc _)).below hb)
  replace HXBb := hide ((((unhide HXBb).alloc _)).below hb)
  replace HXC := hide ((((unhide HXC).alloc _)).below hb)
  replace HXS := hide ((((unhide HXS).alloc _)).below hb)
  replace HXP := hide ((((unhide HXP).alloc _)).below hb)
  have HXP2 := hide ((AtC.new w7 #[.bool np, .string (B up), .string (B dp)] 26).below hb)
  clear hb HB7
  clear HXP2
  obtain ⟨ka, hka⟩ : ∃ k, okT (na, ua, da) = k := ⟨_, rfl⟩
  have HoA := hide hka
  obtain ⟨kb, hkb⟩ : ∃ k, okT (nb, ub, db) = k := ⟨_, rfl⟩
  have HoBb := hide hkb
  obtain ⟨kc, hkc⟩ : ∃ k, okT (nc, uc, dc) = k := ⟨_, rfl⟩
  have HoC := hide hkc
  clear hka hkb hkc
  cases ka with
  | false =>
    have hno : (okT (na, ua, da) && okT (nb, ub, db)) = false := by rw [unhide HoA, unhide HoBb]; rfl
    have h1 := (fld_no (f := addP) hno).symm.trans (unhide HrS)
    have h2 := (fld_no (f := mulP) hno).symm.trans (unhide HrP)
    have hx : xs = 1 := (congrArg Prod.snd h1).symm
    have hp : xp = 1 := (congrArg Prod.snd h2).symm
    clear h1 h2 hno
    subst hx hp
    have A0 := (unhide HXA).n0
    have A1 := (unhide HXA).n1
    have A2 := (unhide HXA).n2
    have Al := (unhide HXA).lt
    go_wp2_with fail
    have h := specOk_s w8 (unhide HoA) (unhide HsA)
    refine h.mono ?_
    clear h
    clear A0 A1 A2 Al
    rintro e w9 ⟨rfl, hb⟩
    have HB9 := hide (below_step (unhide HB8) hb)
    replace HXA := hide (((unhide HXA)).below hb)
    replace HXBb := hide (((unhide HXBb)).below hb)
    replace HXC := hide (((unhide HXC)).below hb)
    replace HXS := hide (((unhide HXS)).below hb)
    replace HXP := hide (((unhide HXP)).below hb)
    clear hb HB8
    have A0 := (unhide HXA).n0
    have A1 := (unhide HXA).n1
    have A2 := (unhide HXA).n2
    have Al := (unhide HXA).lt
    go_wp2_with fail
    have h := specOk_s w9 (unhide HoA) (unhide HsA)
    refine h.mono ?_
    clear h
    clear A0 A1 A2 Al
    rintro e w10 ⟨rfl, hb⟩
    have HB10 := hide (below_step (unhide HB9) hb)
    replace HXA := hide (((unhide HXA)).below hb)
    replace HXBb := hide (((unhide HXBb)).below hb)
    replace HXC := hide (((unhide HXC)).below hb)
    replace HXS := hide (((unhide HXS)).below hb)
    replace HXP := hide (((unhide HXP)).below hb)
    clear hb HB9
    go_wp2_with fail
    go_ret
    exact ⟨rfl, (unhide HB10)⟩
  | true =>
    cases kb with
    | false =>
      have hno : (okT (na, ua, da) && okT (nb, ub, db)) = false := by rw [unhide HoA, unhide HoBb]; rfl
      have h1 := (fld_no (f := addP) hno).symm.trans (unhide HrS)
      have h2 := (fld_no (f := mulP) hno).symm.trans (unhide HrP)
      have hx : xs = 1 := (congrArg Prod.snd h1).symm
      have hp : xp = 1 := (congrArg Prod.snd h2).symm
      clear h1 h2 hno
      subst hx hp
      have A0 := (unhide HXA).n0
      have A1 := (unhide HXA).n1
      have A2 := (unhide HXA).n2
      have Al := (unhide HXA).lt
      go_wp2_with fail
      have h := specOk_s w8 (unhide HoA) (unhide HsA)
      refine h.mono ?_
      clear h
      clear A0 A1 A2 Al
      rintro e w9 ⟨rfl, hb⟩
      have HB9 := hide (below_step (unhide HB8) hb)
      replace HXA := hide (((unhide HXA)).below hb)
      replace HXBb := hide (((unhide HXBb)).below hb)
      replace HXC := hide (((unhide HXC)).below hb)
      replace HXS := hide (((unhide HXS)).below hb)
      replace HXP := hide (((unhide HXP)).below hb)
      clear hb HB8
      have Bb0 := (unhide HXBb).n0
      have Bb1 := (unhide HXBb).n1
      have Bb2 := (unhide HXBb).n2
      have Bbl := (unhide HXBb).lt
      go_wp2_with fail
      have h := specOk_s w9 (unhide HoBb) (unhide HsBb)
      refine h.mono ?_
      clear h
      clear Bb0 Bb1 Bb2 Bbl
      rintro e w10 ⟨rfl, hb⟩
      have HB10 := hide (below_step (unhide HB9) hb)
      replace HXA := hide (((unhide HXA)).below hb)
      replace HXBb := hide (((unhide HXBb)).below hb)
      replace HXC := hide (((unhide HXC)).below hb)
      replace HXS := hide (((unhide HXS)).below hb)
      replace HXP := hide (((unhide HXP)).below hb)
      clear hb HB9
      have A0 := (unhide HXA).n0
      have A1 := (unhide HXA).n1
      have A2 := (unhide HXA).n2
      have Al := (unhide HXA).lt
      go_wp2_with fail
      have h := specOk_s w10 (unhide HoA) (unhide HsA)
      refine h.mono ?_
      clear h
      clear A0 A1 A2 Al
      rintro e w11 ⟨rfl, hb⟩
      have HB11 := hide (below_step (unhide HB10) hb)
      replace HXA := hide (((unhide HXA)).below hb)
      replace HXBb := hide (((unhide HXBb)).below hb)
      replace HXC := hide (((unhide HXC)).below hb)
      replace HXS := hide (((unhide HXS)).below hb)
      replace HXP := hide (((unhide HXP)).below hb)
      clear hb HB10
      have Bb0 := (unhide HXBb).n0
      have Bb1 := (unhide HXBb).n1
      have Bb2 := (unhide HXBb).n2
      have Bbl := (unhide HXBb).lt
      go_wp2_with fail
      have h := specOk_s w11 (unhide HoBb) (unhide HsBb)
      refine h.mono ?_
      clear h
      clear Bb0 Bb1 Bb2 Bbl
      rintro e w12 ⟨rfl, hb⟩
      have HB12 := hide (below_step (unhide HB11) hb)
      replace HXA := hide (((unhide HXA)).below hb)
      replace HXBb := hide (((unhide HXBb)).below hb)
      replace HXC := hide (((unhide HXC)).below hb)
      replace HXS := hide (((unhide HXS)).below hb)
      replace HXP := hide (((unhide HXP)).below hb)
      clear hb HB11
      go_wp2_with fail
      go_ret
      exact ⟨rfl, (unhide HB12)⟩
    | true =>
      cases kc with
      | false =>
        have A0 := (unhide HXA).n0
        have A1 := (unhide HXA).n1
        have A2 := (unhide HXA).n2
        have Al := (unhide HXA).lt
        go_wp2_with fail
        have h := specOk_s w8 (unhide HoA) (unhide HsA)
        refine h.mono ?_
        clear h
        clear A0 A1 A2 Al
        rintro e w9 ⟨rfl, hb⟩
        have HB9 := hide (below_step (unhide HB8) hb)
        replace HXA := hide (((unhide HXA)).below hb)
        replace HXBb := hide (((unhide HXBb)).below hb)
        replace HXC := hide (((unhide HXC)).below hb)
        replace HXS := hide (((unhide HXS)).below hb)
        replace HXP := hide (((unhide HXP)).below hb)
        clear hb HB8
        have Bb0 := (unhide HXBb).n0
        have Bb1 := (unhide HXBb).n1
        have Bb2 := (unhide HXBb).n2
        have Bbl := (unhide HXBb).lt
        go_wp2_with fail
        have h := specOk_s w9 (unhide HoBb) (unhide HsBb)
        refine h.mono ?_
        clear h
        clear Bb0 Bb1 Bb2 Bbl
        rintro e w10 ⟨rfl, hb⟩
        have HB10 := hide (below_step (unhide HB9) hb)
        replace HXA := hide (((unhide HXA)).below hb)
        replace HXBb := hide (((unhide HXBb)).below hb)
        replace HXC := hide (((unhide HXC)).below hb)
        replace HXS := hide (((unhide HXS)).below hb)
        replace HXP := hide (((unhide HXP)).below hb)
        clear hb HB9
        have C0 := (unhide HXC).n0
        have C1 := (unhide HXC).n1
        have C2 := (unhide HXC).n2
        have Cl := (unhide HXC).lt
        go_wp2_with fail
        have h := specOk_s w10 (unhide HoC) (unhide HsC)
        refine h.mono ?_
        clear h
        clear C0 C1 C2 Cl
        rintro e w11 ⟨rfl, hb⟩
        have HB11 := hide (below_step (unhide HB10) hb)
        replace HXA := hide (((unhide HXA)).below hb)
        replace HXBb := hide (((unhide HXBb)).below hb)
        replace HXC := hide (((unhide HXC)).below hb)
        replace HXS := hide (((unhide HXS)).below hb)
        replace HXP := hide (((unhide HXP)).below hb)
        clear hb HB10
        have A0 := (unhide HXA).n0
        have A1 := (unhide HXA).n1
        have A2 := (unhide HXA).n2
        have Al := (unhide HXA).lt
        go_wp2_with fail
        have h := specOk_s w11 (unhide HoA) (unhide HsA)
        refine h.mono ?_
        clear h
        clear A0 A1 A2 Al
        rintro e w12 ⟨rfl, hb⟩
        have HB12 := hide (below_step (unhide HB11) hb)
        replace HXA := hide (((unhide HXA)).below hb)
        replace HXBb := hide (((unhide HXBb)).below hb)
        replace HXC := hide (((unhide HXC)).below hb)
        replace HXS := hide (((unhide HXS)).below hb)
        replace HXP := hide (((unhide HXP)).below hb)
        clear hb HB11
        have Bb0 := (unhide HXBb).n0
        have Bb1 := (unhide HXBb).n1
        have Bb2 := (unhide HXBb).n2
        have Bbl := (unhide HXBb).lt
        go_wp2_with fail
        have h := specOk_s w12 (unhide HoBb) (unhide HsBb)
        refine h.mono ?_
        clear h
        clear Bb0 Bb1 Bb2 Bbl
        rintro e w13 ⟨rfl, hb⟩
        have HB13 := hide (below_step (unhide HB12) hb)
        replace HXA := hide (((unhide HXA)).below hb)
        replace HXBb := hide (((unhide HXBb)).below hb)
        replace HXC := hide (((unhide HXC)).below hb)
        replace HXS := hide (((unhide HXS)).below hb)
        replace HXP := hide (((unhide HXP)).below hb)
        clear hb HB12
        go_wp2_with fail
        go_ret
        exact ⟨rfl, (unhide HB13)⟩
      | true =>
        have A0 := (unhide HXA).n0
        have A1 := (unhide HXA).n1
        have A2 := (unhide HXA).n2
        have Al := (unhide HXA).lt
        go_wp2_with fail
        have h := specOk_s w8 (unhide HoA) (unhide HsA)
        refine h.mono ?_
        clear h
        clear A0 A1 A2 Al
        rintro e w9 ⟨rfl, hb⟩
        have HB9 := hide (below_step (unhide HB8) hb)
        replace HXA := hide (((unhide HXA)).below hb)
        replace HXBb := hide (((unhide HXBb)).below hb)
        replace HXC := hide (((unhide HXC)).below hb)
        replace HXS := hide (((unhide HXS)).below hb)
        replace HXP := hide (((unhide HXP)).below hb)
        clear hb HB8
        have Bb0 := (unhide HXBb).n0
        have Bb1 := (unhide HXBb).n1
        have Bb2 := (unhide HXBb).n2
        have Bbl := (unhide HXBb).lt
        go_wp2_with fail
        have h := specOk_s w9 (unhide HoBb) (unhide HsBb)
        refine h.mono ?_
        clear h
        clear Bb0 Bb1 Bb2 Bbl
        rintro e w10 ⟨rfl, hb⟩
        have HB10 := hide (below_step (unhide HB9) hb)
        replace HXA := hide (((unhide HXA)).below hb)
        replace HXBb := hide (((unhide HXBb)).below hb)
        replace HXC := hide (((unhide HXC)).below hb)
        replace HXS := hide (((unhide HXS)).below hb)
        replace HXP := hide (((unhide HXP)).below hb)
        clear hb HB9
        have C0 := (unhide HXC).n0
        have C1 := (unhide HXC).n1
        have C2 := (unhide HXC).n2
        have Cl := (unhide HXC).lt
        go_wp2_with fail
        obtain ⟨⟨⟨nt, ut, dt⟩, xt⟩, hr⟩ : ∃ r, fld addP (nb, ub, db) (nc, uc, dc) = r := ⟨_, rfl⟩
        have HsT := hide (fld_small low_add hr)
        have HrT := hide hr
        clear hr
        have h := specOk_s w10 (unhide HoC) (unhide HsC)
        refine h.mono ?_
        clear h
        clear C0 C1 C2 Cl
        rintro e w11 ⟨rfl, hb⟩
        have HB11 := hide (below_step (unhide HB10) hb)
        replace HXA := hide (((unhide HXA)).below hb)
        replace HXBb := hide (((unhide HXBb)).below hb)
        replace HXC := hide (((unhide HXC)).below hb)
        replace HXS := hide (((unhide HXS)).below hb)
        replace HXP := hide (((unhide HXP)).below hb)
        clear hb HB10
        have Bb0 := (unhide HXBb).n0
        have Bb1 := (unhide HXBb).n1
        have Bb2 := (unhide HXBb).n2
        have Bbl := (unhide HXBb).lt
        have C0 := (unhide HXC).n0
        have C1 := (unhide HXC).n1
        have C2 := (unhide HXC).n2
        have Cl := (unhide HXC).lt
        go_wp2_with fail
        obtain ⟨⟨⟨nl, ul, dl⟩, xl⟩, hr⟩ : ∃ r, fld addP (ns, us, ds) (nc, uc, dc) = r := ⟨_, rfl⟩
        have HsL := hide (fld_small low_add hr)
        have HrL := hide hr
        clear hr
        obtain ⟨⟨⟨nr, ur, dr⟩, xr⟩, hr⟩ : ∃ r, fld addP (na, ua, da) (nt, ut, dt) = r := ⟨_, rfl⟩
        have HsR := hide (fld_small low_add hr)
        have HrR := hide hr
        clear hr
        have h := implAdd_s (unhide HrT) w11 (unhide HsBb) (unhide HsC) ((unhide HT).below (unhide HB11))
        refine h.mono ?_
        clear h
        clear Bb0 Bb1 Bb2 Bbl C0 C1 C2 Cl
        rintro e w12 ⟨rfl, hb⟩
        have HB12 := hide (below_step (unhide HB11) hb)
        replace HXA := hide (((unhide HXA)).below hb)
        replace HXBb := hide (((unhide HXBb)).below hb)
        replace HXC := hide (((unhide HXC)).below hb)
        replace HXS := hide (((unhide HXS)).below hb)
        replace HXP := hide (((unhide HXP)).below hb)
        clear hb HB11
        have S0 := (unhide HXS).n0
        have S1 := (unhide HXS).n1
        have S2 := (unhide HXS).n2
        have Sl := (unhide HXS).lt
        have C0 := (unhide HXC).n0
        have C1 := (unhide HXC).n1
        have C2 := (unhide HXC).n2
        have Cl := (unhide HXC).lt
        go_wp2_with fail
        have h := implAdd_s (unhide HrL) (w12.alloc (.cells #[.bool nt, .string (B ut), .string (B dt)] 26)) (unhide HsS) (unhide HsC) ((unhide HT).below (below_al (unhide HB12) (Nat.le_refl _) (.cells #[.bool nt, .string (B ut), .string (B dt)] 26)))
        refine h.mono ?_
        clear h
        clear S0 S1 S2 Sl C0 C1 C2 Cl
        rintro e w13 ⟨rfl, hb⟩
        have HB13 := hide (below_step (below_al (unhide HB12) (Nat.le_refl _) (.cells #[.bool nt, .string (B ut), .string (B dt)] 26)) hb)
        replace HXA := hide ((((unhide HXA).alloc _)).below hb)
        replace HXBb := hide ((((unhide HXBb).alloc _)).below hb)
        replace HXC := hide ((((unhide HXC).alloc _)).below hb)
        replace HXS := hide ((((unhide HXS).alloc _)).below hb)
        replace HXP := hide ((((unhide HXP).alloc _)).below hb)
        have HXT := hide ((AtC.new w12 #[.bool nt, .string (B ut), .string (B dt)] 26).below hb)
        clear hb HB12
        have A0 := (unhide HXA).n0
        have A1 := (unhide HXA).n1
        have A2 := (unhide HXA).n2
        have Al := (unhide HXA).lt
        have T0 := (unhide HXT).n0
        have T1 := (unhide HXT).n1
        have T2 := (unhide HXT).n2
        have Tl := (unhide HXT).lt
        go_wp2_with fail
        have h := implAdd_s (unhide HrR) (w13.alloc (.cells #[.bool nl, .string (B ul), .string (B dl)] 26)) (unhide HsA) (unhide HsT) ((unhide HT).below (below_al (unhide HB13) (Nat.le_refl _) (.cells #[.bool nl, .string (B ul), .string (B dl)] 26)))
        refine h.mono ?_
        clear h
        clear A0 A1 A2 Al T0 T1 T2 Tl
        rintro e w14 ⟨rfl, hb⟩
        have HB14 := hide (below_step (below_al (unhide HB13) (Nat.le_refl _) (.cells #[.bool nl, .string (B ul), .string (B dl)] 26)) hb)
        replace HXA := hide ((((unhide HXA).alloc _)).below hb)
        replace HXBb := hide ((((unhide HXBb).alloc _)).below hb)
        replace HXC := hide ((((unhide HXC).alloc _)).below hb)
        replace HXS := hide ((((unhide HXS).alloc _)).below hb)
        replace HXP := hide ((((unhide HXP).alloc _)).below hb)
        replace HXT := hide ((((unhide HXT).alloc _)).below hb)
        have HXL := hide ((AtC.new w13 #[.bool nl, .string (B ul), .string (B dl)] 26).below hb)
        clear hb HB13
        have L0 := (unhide HXL).n0
        have L1 := (unhide HXL).n1
        have L2 := (unhide HXL).n2
        have Ll := (unhide HXL).lt
        go_upto_region 19 with fail
        go_cut [187] from 174 to 187 (fun s wx => s = .bool false ∧ Below ((w14.alloc (.cells #[.bool nr, .string (B ur), .string (B dr)] 26))).heap.size ((w14.alloc (.cells #[.bool nr, .string (B ur), .string (B dr)] 26))) wx)
        case first =>
          by_cases hxs : xs = 0
          rotate_left
          · go_wp2_with fail
            go_meet
            exact ⟨rfl, Below.refl _ _⟩
          subst hxs
          by_cases hxt : xt = 0
          rotate_left
          · go_wp2_with fail
            go_meet
            exact ⟨rfl, Below.refl _ _⟩
          subst hxt
          go_wp2_with fail
          have h := sameT_s (assoc_s (unhide HoC) (unhide HrS) (unhide HrT) (unhide HrL) (unhide HrR)) (w14.alloc (.cells #[.bool nr, .string (B ur), .string (B dr)] 26))
          refine h.mono ?_
          clear h
          rintro e wy ⟨rfl, hb⟩
          have HY := hide hb
          clear hb
          go_wp2_with fail
          go_meet
          exact ⟨rfl, unhide HY⟩
        case rest =>
        obtain ⟨rfl, hb⟩ := hcut
        rename World => w15
        clear L0 L1 L2 Ll
        have HB15 := hide (below_step (below_al (unhide HB14) (Nat.le_refl _) (.cells #[.bool nr, .string (B ur), .string (B dr)] 26)) hb)
        replace HXA := hide ((((unhide HXA).alloc _)).below hb)
        replace HXBb := hide ((((unhide HXBb).alloc _)).below hb)
        replace HXC := hide ((((unhide HXC).alloc _)).below hb)
        replace HXS := hide ((((unhide HXS).alloc _)).below hb)
        replace HXP := hide ((((unhide HXP).alloc _)).below hb)
        replace HXT := hide ((((unhide HXT).alloc _)).below hb)
        replace HXL := hide ((((unhide HXL).alloc _)).below hb)
        have HXR := hide ((AtC.new w14 #[.bool nr, .string (B ur), .string (B dr)] 26).below hb)
        clear hb HB14
        clear HXL
        clear HXR
        clear HrL HrR HsL HsR
        obtain ⟨⟨⟨nz, uz, dz⟩, xz⟩, hr⟩ : ∃ r, fld mulP (na, ua, da) (nc, uc, dc) = r := ⟨_, rfl⟩
        have HsZ := hide (fld_small low_mul hr)
        have HrZ := hide hr
        clear hr
        obtain ⟨⟨⟨nm, um, dm⟩, xm⟩, hr⟩ : ∃ r, fld mulP (na, ua, da) (nt, ut, dt) = r := ⟨_, rfl⟩
        have HsM := hide (fld_small low_mul hr)
        have HrM := hide hr
        clear hr
        obtain ⟨⟨⟨nn, un, dn⟩, xn⟩, hr⟩ : ∃ r, fld addP (np, up, dp) (nz, uz, dz) = r := ⟨_, rfl⟩
        have HsN := hide (fld_small low_add hr)
        have HrN := hide hr
        clear hr
        have A0 := (unhide HXA).n0
        have A1 := (unhide HXA).n1
        have A2 := (unhide HXA).n2
        have Al := (unhide HXA).lt
        have C0 := (unhide HXC).n0
        have C1 := (unhide HXC).n1
        have C2 := (unhide HXC).n2
        have Cl := (unhide HXC).lt
        go_wp2_with fail
        have h := implMul_s (unhide HrZ) w15 (unhide HsA) (unhide HsC) ((unhide HT).below (unhide HB15))
        refine h.mono ?_
        clear h
        clear A0 A1 A2 Al C0 C1 C2 Cl
        rintro e w16 ⟨rfl, hb⟩
        have HB16 := hide (below_step (unhide HB15) hb)
        replace HXA := hide (((unhide HXA)).below hb)
        replace HXBb := hide (((unhide HXBb)).below hb)
        replace HXC := hide (((unhide HXC)).below hb)
        replace HXS := hide (((unhide HXS)).below hb)
        replace HXP := hide (((unhide HXP)).below hb)
        replace HXT := hide (((unhide HXT)).below hb)
        clear hb HB15
        have A0 := (unhide HXA).n0
        have A1 := (unhide HXA).n1
        have A2 := (unhide HXA).n2
        have Al := (unhide HXA).lt
        have T0 := (unhide HXT).n0
        have T1 := (unhide HXT).n1
        have T2 := (unhide HXT).n2
        have Tl := (unhide HXT).lt
        go_wp2_with fail
        have h := implMul_s (unhide HrM) (w16.alloc (.cells #[.bool nz, .string (B uz), .string (B dz)] 26)) (unhide HsA) (unhide HsT) ((unhide HT).below (below_al (unhide HB16) (Nat.le_refl _) (.cells #[.bool nz, .string (B uz), .string (B dz)] 26)))
        refine h.mono ?_
        clear h
        clear A0 A1 A2 Al T0 T1 T2 Tl
        rintro e w17 ⟨rfl, hb⟩
        have HB17 := hide (below_step (below_al (unhide HB16) (Nat.le_refl _) (.cells #[.bool nz, .string (B uz), .string (B dz)] 26)) hb)
        replace HXA := hide ((((unhide HXA).alloc _)).below hb)
        replace HXBb := hide ((((unhide HXBb).alloc _)).below hb)
        replace HXC := hide ((((unhide HXC).alloc _)).below hb)
        replace HXS := hide ((((unhide HXS).alloc _)).below hb)
        replace HXP := hide ((((unhide HXP).alloc _)).below hb)
        replace HXT := hide ((((unhide HXT).alloc _)).below hb)
        have HXZ := hide ((AtC.new w16 #[.bool nz, .string (B uz), .string (B dz)] 26).below hb)
        clear hb HB16
        have P0 := (unhide HXP).n0
        have P1 := (unhide HXP).n1
        have P2 := (unhide HXP).n2
        have Pl := (unhide HXP).lt
        have Z0 := (unhide HXZ).n0
        have Z1 := (unhide HXZ).n1
        have Z2 := (unhide HXZ).n2
        have Zl := (unhide HXZ).lt
        go_wp2_with fail
        have h := implAdd_s (unhide HrN) (w17.alloc (.cells #[.bool nm, .string (B um), .string (B dm)] 26)) (unhide HsP) (unhide HsZ) ((unhide HT).below (below_al (unhide HB17) (Nat.le_refl _) (.cells #[.bool nm, .string (B um), .string (B dm)] 26)))
        refine h.mono ?_
        clear h
        clear P0 P1 P2 Pl Z0 Z1 Z2 Zl
        rintro e w18 ⟨rfl, hb⟩
        have HB18 := hide (below_step (below_al (unhide HB17) (Nat.le_refl _) (.cells #[.bool nm, .string (B um), .string (B dm)] 26)) hb)
        replace HXA := hide ((((unhide HXA).alloc _)).below hb)
        replace HXBb := hide ((((unhide HXBb).alloc _)).below hb)
        replace HXC := hide ((((unhide HXC).alloc _)).below hb)
        replace HXS := hide ((((unhide HXS).alloc _)).below hb)
        replace HXP := hide ((((unhide HXP).alloc _)).below hb)
        replace HXT := hide ((((unhide HXT).alloc _)).below hb)
        replace HXZ := hide ((((unhide HXZ).alloc _)).below hb)
        have HXM := hide ((AtC.new w17 #[.bool nm, .string (B um), .string (B dm)] 26).below hb)
        clear hb HB17
        have M0 := (unhide HXM).n0
        have M1 := (unhide HXM).n1
        have M2 := (unhide HXM).n2
        have Ml := (unhide HXM).lt
        go_upto_region 24 with fail
        go_cut [223] from 206 to 223 (fun s wx => s = .bool false ∧ Below ((w18.alloc (.cells #[.bool nn, .string (B un), .string (B dn)] 26))).heap.size ((w18.alloc (.cells #[.bool nn, .string (B un), .string (B dn)] 26))) wx)
        case first =>
          by_cases hxt : xt = 0
          rotate_left
          · go_wp2_with fail
            go_meet
            exact ⟨rfl, Below.refl _ _⟩
          subst hxt
          by_cases hxp : xp = 0
          rotate_left
          · go_wp2_with fail
            go_meet
            exact ⟨rfl, Below.refl _ _⟩
          subst hxp
          by_cases hxz : xz = 0
          rotate_left
          · go_wp2_with fail
            go_meet
            exact ⟨rfl, Below.refl _ _⟩
          subst hxz
          go_wp2_with fail
          have h := sameT_s (dist_s (unhide HrT) (unhide HrP) (unhide HrZ) (unhide HrM) (unhide HrN)) (w18.alloc (.cells #[.bool nn, .string (B un), .string (B dn)] 26))
          refine h.mono ?_
          clear h
          rintro e wy ⟨rfl, hb⟩
          have HY := hide hb
          clear hb
          go_wp2_with fail
          go_meet
          exact ⟨rfl, unhide HY⟩
        case rest =>
        obtain ⟨rfl, hb⟩ := hcut
        rename World => w19
        clear M0 M1 M2 Ml
        have HB19 := hide (below_step (below_al (unhide HB18) (Nat.le_refl _) (.cells #[.bool nn, .string (B un), .string (B dn)] 26)) hb)
        replace HXA := hide ((((unhide HXA).alloc _)).below hb)
        replace HXBb := hide ((((unhide HXBb).alloc _)).below hb)
        replace HXC := hide ((((unhide HXC).alloc _)).below hb)
        replace HXS := hide ((((unhide HXS).alloc _)).below hb)
        replace HXP := hide ((((unhide HXP).alloc _)).below hb)
        replace HXT := hide ((((unhide HXT).alloc _)).below hb)
        replace HXZ := hide ((((unhide HXZ).alloc _)).below hb)
        replace HXM := hide ((((unhide HXM).alloc _)).below hb)
        have HXN := hide ((AtC.new w18 #[.bool nn, .string (B un), .string (B dn)] 26).below hb)
        clear hb HB18
        clear HXC
        clear HXP
        clear HXT
        clear HXZ
        clear HXM
        clear HXN
        clear HrZ HrM HrN HsZ HsM HsN HrP HrT HsP HsT
        obtain ⟨⟨⟨nk, uk, dk⟩, xk⟩, hr⟩ : ∃ r, fld subP (ns, us, ds) (nb, ub, db) = r := ⟨_, rfl⟩
        have HsK := hide (fld_small low_sub hr)
        have HrK := hide hr
        clear hr
        obtain ⟨⟨⟨nq, uq, dq⟩, xq⟩, hr⟩ : ∃ r, divT (na, ua, da) (na, ua, da) = r := ⟨_, rfl⟩
        have HrQ := hide hr
        clear hr
        have S0 := (unhide HXS).n0
        have S1 := (unhide HXS).n1
        have S2 := (unhide HXS).n2
        have Sl := (unhide HXS).lt
        have Bb0 := (unhide HXBb).n0
        have Bb1 := (unhide HXBb).n1
        have Bb2 := (unhide HXBb).n2
        have Bbl := (unhide HXBb).lt
        go_wp2_with fail
        have h := implSub_s (unhide HrK) w19 (unhide HsS) (unhide HsBb) ((unhide HT).below (unhide HB19))
        refine h.mono ?_
        clear h
        clear S0 S1 S2 Sl Bb0 Bb1 Bb2 Bbl
        rintro e w20 ⟨rfl, hb⟩
        have HB20 := hide (below_step (unhide HB19) hb)
        replace HXA := hide (((unhide HXA)).below hb)
        replace HXBb := hide (((unhide HXBb)).below hb)
        replace HXS := hide (((unhide HXS)).below hb)
        clear hb HB19
        have A0 := (unhide HXA).n0
        have A1 := (unhide HXA).n1
        have A2 := (unhide HXA).n2
        have Al := (unhide HXA).lt
        go_wp2_with fail
        have h := implDiv_s (unhide HrQ) (w20.alloc (.cells #[.bool nk, .string (B uk), .string (B dk)] 26)) (unhide HoA) ((unhide HT).below (below_al (unhide HB20) (Nat.le_refl _) (.cells #[.bool nk, .string (B uk), .string (B dk)] 26)))
        refine h.mono ?_
        clear h
        clear A0 A1 A2 Al
        rintro e w21 ⟨rfl, hb⟩
        have HB21 := hide (below_step (below_al (unhide HB20) (Nat.le_refl _) (.cells #[.bool nk, .string (B uk), .string (B dk)] 26)) hb)
        replace HXA := hide ((((unhide HXA).alloc _)).below hb)
        replace HXBb := hide ((((unhide HXBb).alloc _)).below hb)
        replace HXS := hide ((((unhide HXS).alloc _)).below hb)
        have HXK := hide ((AtC.new w20 #[.bool nk, .string (B uk), .string (B dk)] 26).below hb)
        clear hb HB20
        go_upto_region 28 with fail
        have HB22 := hide (below_al (unhide HB21) (Nat.le_refl _) (.cells #[.bool nq, .string (B uq), .string (B dq)] 26))
        replace HXA := hide ((unhide HXA).alloc (.cells #[.bool nq, .string (B uq), .string (B dq)] 26))
        replace HXBb := hide ((unhide HXBb).alloc (.cells #[.bool nq, .string (B uq), .string (B dq)] 26))
        replace HXS := hide ((unhide HXS).alloc (.cells #[.bool nq, .string (B uq), .string (B dq)] 26))
        replace HXK := hide ((unhide HXK).alloc (.cells #[.bool nq, .string (B uq), .string (B dq)] 26))
        have HXQ := hide (AtC.new w21 #[.bool nq, .string (B uq), .string (B dq)] 26)
        obtain ⟨w22, hw⟩ : ∃ x, w21.alloc (.cells #[.bool nq, .string (B uq), .string (B dq)] 26) = x := ⟨_, rfl⟩
        rw [hw] at HXA HXBb HXS HXK HXQ HB22 ⊢
        clear hw
        have Hs0 : Hid (small zeroT) := ⟨by decide, by decide⟩
        have Hs1 : Hid (small oneT) := ⟨by decide, by decide⟩
        have A0 := (unhide HXA).n0
        have A1 := (unhide HXA).n1
        have A2 := (unhide HXA).n2
        have Al := (unhide HXA).lt
        have HKd := hide (Below.refl w22.heap.size w22).drew
        have HKa := hide (below_al (Below.refl w22.heap.size w22) (Nat.le_refl _) (.cells #[.bool false, .string ⟨#[]⟩, .string ⟨#[]⟩] 26)).drew
        have HTk := hide ((unhide HT).below (unhide HB22))
        go_cut [32, 33] from 236 to 241 (fun s t wx => Box1 w22 (na, ua, da) s wx ∧ t = .int .i64 0)
        case first =>
          go_region_held3 (fun w' => w'.cell? ⟨w1.heap.size, 0, none⟩ = some (.bool na) ∧ w'.cell? ⟨w1.heap.size, 1, none⟩ = some (.string (B ua)) ∧ w'.cell? ⟨w1.heap.size, 2, none⟩ = some (.string (B da))) (((try dsimp only); (repeat' apply And.intro) <;> (first | with_reducible assumption | (rw [far3' (by first | (simp; done) | (simp; omega) | omega)]; with_reducible assumption) | with_reducible exact (unhide HXA).drew.n0 | with_reducible exact (unhide HXA).drew.n1 | with_reducible exact (unhide HXA).drew.n2 | with_reducible exact ((unhide HXA).alloc _).drew.n0 | with_reducible exact ((unhide HXA).alloc _).drew.n1 | with_reducible exact ((unhide HXA).alloc _).drew.n2 | with_reducible exact ((unhide HX1).alloc _).n0 | with_reducible exact ((unhide HX1).alloc _).n1 | with_reducible exact ((unhide HX1).alloc _).n2 | with_reducible exact ((unhide HX2).alloc _).n0 | with_reducible exact ((unhide HX2).alloc _).n1 | with_reducible exact ((unhide HX2).alloc _).n2 | (rw [far3' (by first | (simp; done) | (simp; omega) | omega)]; with_reducible exact ((unhide HX2).alloc _).n0) | (rw [far3' (by first | (simp; done) | (simp; omega) | omega)]; with_reducible exact ((unhide HX2).alloc _).n1) | (rw [far3' (by first | (simp; done) | (simp; omega) | omega)]; with_reducible exact ((unhide HX2).alloc _).n2)))) (first | (go_at_call 14; refine (int0_s _ (by first | exact (unhide HTk).below (unhide HKd) | exact (unhide HTk).below (unhide HKa))).mono ?_; rintro e wi ⟨rfl, hb⟩; have HK1 : Hid (Below w22.heap.size w22 wi) := (by first | exact (unhide HKd).trans (hb.mono (unhide HKd).size) | exact (unhide HKa).trans (hb.mono (unhide HKa).size)); have HM1 := (by first | exact hide ((AtC.new w22 #[.bool false, .string ⟨#[]⟩, .string ⟨#[]⟩] 26).drew.below hb) | exact trivial : _); have k1 := (unhide HK1).size; have HX1 := hide ((unhide HXA).below (unhide HK1)); have x10 := (unhide HX1).n0; have x11 := (unhide HX1).n1; have x12 := (unhide HX1).n2; clear hb) | (go_at_call 18; refine (implAdd_s (add_zero_t (unhide HoA)) _ (unhide HsA) (unhide Hs0) (by first | exact (unhide HTk).below (unhide HK1) | exact (unhide HTk).below (below_al (unhide HK1) (Nat.le_refl _) _))).mono ?_; rintro e wj ⟨rfl, hb⟩; have HK12 : Hid (Below wi.heap.size wi wj) := (by first | exact hb | exact (below_al (Below.refl _ _) (Nat.le_refl _) _).trans (hb.mono (below_al (Below.refl _ _) (Nat.le_refl _) _).size)); have HK2 := hide ((unhide HK1).trans ((unhide HK12).mono (unhide HK1).size)); have HM2 := (by first | exact hide ((unhide HM1).below (unhide HK12)) | exact hide ((AtC.new wi #[.bool false, .string ⟨#[]⟩, .string ⟨#[]⟩] 26).below hb) | exact trivial : _); have k2 := (unhide HK12).size; have HX2 := hide ((unhide HXA).below (unhide HK2)); have x20 := (unhide HX2).n0; have x21 := (unhide HX2).n1; have x22 := (unhide HX2).n2; have m0 := (by first | exact (unhide HM2).n0 | exact trivial : _); have m1 := (by first | exact (unhide HM2).n1 | exact trivial : _); have m2 := (by first | exact (unhide HM2).n2 | exact trivial : _); have mf := (by first | exact (unhide HM2).f | exact trivial : _); have ml := (by first | exact (unhide HM2).lt | exact trivial : _); clear hb))
          all_goals (go_wp2_with fail; go_meet)
          all_goals refine ⟨?_, rfl⟩
          all_goals first | exact box1_new (unhide HK2) | exact box1_old (unhide HM2) (by omega) (unhide HK2)
        case rest =>
        obtain ⟨⟨gE, rfl, hX, hb⟩, rfl⟩ := hcut
        rename World => w23
        clear A0 A1 A2 Al
        clear HKd HKa HTk
        have HB23 := hide (below_step (unhide HB22) hb)
        replace HXA := hide (((unhide HXA)).below hb)
        replace HXBb := hide (((unhide HXBb)).below hb)
        replace HXS := hide (((unhide HXS)).below hb)
        replace HXK := hide (((unhide HXK)).below hb)
        replace HXQ := hide (((unhide HXQ)).below hb)
        clear hb HB22
        have HXE := hide hX
        clear hX
        go_upto_region 29 with fail
        have A0 := (unhide HXA).n0
        have A1 := (unhide HXA).n1
        have A2 := (unhide HXA).n2
        have Al := (unhide HXA).lt
        have HKd := hide (Below.refl w23.heap.size w23).drew
        have HKa := hide (below_al (Below.refl w23.heap.size w23) (Nat.le_refl _) (.cells #[.bool false, .string ⟨#[]⟩, .string ⟨#[]⟩] 26)).drew
        have HTk := hide ((unhide HT).below (unhide HB23))
        go_cut [34, 35] from 242 to 247 (fun s t wx => Box1 w23 (na, ua, da) s wx ∧ t = .int .i64 0)
        case first =>
          go_region_held3 (fun w' => w'.cell? ⟨w1.heap.size, 0, none⟩ = some (.bool na) ∧ w'.cell? ⟨w1.heap.size, 1, none⟩ = some (.string (B ua)) ∧ w'.cell? ⟨w1.heap.size, 2, none⟩ = some (.string (B da))) (((try dsimp only); (repeat' apply And.intro) <;> (first | with_reducible assumption | (rw [far3' (by first | (simp; done) | (simp; omega) | omega)]; with_reducible assumption) | with_reducible exact (unhide HXA).drew.n0 | with_reducible exact (unhide HXA).drew.n1 | with_reducible exact (unhide HXA).drew.n2 | with_reducible exact ((unhide HXA).alloc _).drew.n0 | with_reducible exact ((unhide HXA).alloc _).drew.n1 | with_reducible exact ((unhide HXA).alloc _).drew.n2 | with_reducible exact ((unhide HX1).alloc _).n0 | with_reducible exact ((unhide HX1).alloc _).n1 | with_reducible exact ((unhide HX1).alloc _).n2 | with_reducible exact ((unhide HX2).alloc _).n0 | with_reducible exact ((unhide HX2).alloc _).n1 | with_reducible exact ((unhide HX2).alloc _).n2 | (rw [far3' (by first | (simp; done) | (simp; omega) | omega)]; with_reducible exact ((unhide HX2).alloc _).n0) | (rw [far3' (by first | (simp; done) | (simp; omega) | omega)]; with_reducible exact ((unhide HX2).alloc _).n1) | (rw [far3' (by first | (simp; done) | (simp; omega) | omega)]; with_reducible exact ((unhide HX2).alloc _).n2)))) (first | (go_at_call 14; refine (int1_s _ (by first | exact (unhide HTk).below (unhide HKd) | exact (unhide HTk).below (unhide HKa))).mono ?_; rintro e wi ⟨rfl, hb⟩; have HK1 : Hid (Below w23.heap.size w23 wi) := (by first | exact (unhide HKd).trans (hb.mono (unhide HKd).size) | exact (unhide HKa).trans (hb.mono (unhide HKa).size)); have HM1 := (by first | exact hide ((AtC.new w23 #[.bool false, .string ⟨#[]⟩, .string ⟨#[]⟩] 26).drew.below hb) | exact trivial : _); have k1 := (unhide HK1).size; have HX1 := hide ((unhide HXA).below (unhide HK1)); have x10 := (unhide HX1).n0; have x11 := (unhide HX1).n1; have x12 := (unhide HX1).n2; clear hb) | (go_at_call 20; refine (implMul_s (mul_one_t (unhide HoA)) _ (unhide HsA) (unhide Hs1) (by first | exact (unhide HTk).below (unhide HK1) | exact (unhide HTk).below (below_al (unhide HK1) (Nat.le_refl _) _))).mono ?_; rintro e wj ⟨rfl, hb⟩; have HK12 : Hid (Below wi.heap.size wi wj) := (by first | exact hb | exact (below_al (Below.refl _ _) (Nat.le_refl _) _).trans (hb.mono (below_al (Below.refl _ _) (Nat.le_refl _) _).size)); have HK2 := hide ((unhide HK1).trans ((unhide HK12).mono (unhide HK1).size)); have HM2 := (by first | exact hide ((unhide HM1).below (unhide HK12)) | exact hide ((AtC.new wi #[.bool false, .string ⟨#[]⟩, .string ⟨#[]⟩] 26).below hb) | exact trivial : _); have k2 := (unhide HK12).size; have HX2 := hide ((unhide HXA).below (unhide HK2)); have x20 := (unhide HX2).n0; have x21 := (unhide HX2).n1; have x22 := (unhide HX2).n2; have m0 := (by first | exact (unhide HM2).n0 | exact trivial : _); have m1 := (by first | exact (unhide HM2).n1 | exact trivial : _); have m2 := (by first | exact (unhide HM2).n2 | exact trivial : _); have mf := (by first | exact (unhide HM2).f | exact trivial : _); have ml := (by first | exact (unhide HM2).lt | exact trivial : _); clear hb))
          all_goals (go_wp2_with fail; go_meet)
          all_goals refine ⟨?_, rfl⟩
          all_goals first | exact box1_new (unhide HK2) | exact box1_old (unhide HM2) (by omega) (unhide HK2)
        case rest =>
        obtain ⟨⟨gF, rfl, hX, hb⟩, rfl⟩ := hcut
        rename World => w24
        clear A0 A1 A2 Al
        clear HKd HKa HTk
        have HB24 := hide (below_step (unhide HB23) hb)
        replace HXA := hide (((unhide HXA)).below hb)
        replace HXBb := hide (((unhide HXBb)).below hb)
        replace HXS := hide (((unhide HXS)).below hb)
        replace HXK := hide (((unhide HXK)).below hb)
        replace HXQ := hide (((unhide HXQ)).below hb)
        replace HXE := hide (((unhide HXE)).below hb)
        clear hb HB23
        have HXF := hide hX
        clear hX
        go_upto_region 30 with fail
        go_cut [276] from 248 to 276 (fun s wx => s = .bool false ∧ w24 = wx)
        case first =>
          have K0 := (unhide HXK).n0
          have K1 := (unhide HXK).n1
          have K2 := (unhide HXK).n2
          have Kl := (unhide HXK).lt
          have A0 := (unhide HXA).n0
          have A1 := (unhide HXA).n1
          have A2 := (unhide HXA).n2
          have Al := (unhide HXA).lt
          have E0 := (unhide HXE).n0
          have E1 := (unhide HXE).n1
          have E2 := (unhide HXE).n2
          have El := (unhide HXE).lt
          have F0 := (unhide HXF).n0
          have F1 := (unhide HXF).n1
          have F2 := (unhide HXF).n2
          have Fl := (unhide HXF).lt
          by_cases hx : xs = 0
          · subst hx
            have hk := back_s (unhide HrS) (unhide HrK)
            injection hk with h1 h2
            injection h1 with h3 h4
            injection h4 with h5 h6
            subst h2 h3 h5 h6
            go_wp2_with fail
            go_meet
            exact ⟨rfl, rfl⟩
          · go_wp2_with fail
            go_meet
            exact ⟨rfl, rfl⟩
        case rest =>
        obtain ⟨rfl, rfl⟩ := hcut
        clear HrS HrK HsK HsS HXK HXE HXF HXS HXBb
        go_upto_region 32 with fail
        have hdiv := div_self_t (unhide HoA)
        rw [unhide HrQ] at hdiv
        by_cases hz : (na, ua, da) = zeroT
        · skip
          rw [if_pos hz] at hdiv
          have hq : xq = 2 := congrArg Prod.snd hdiv
          injection hz with h1 h2
          injection h2 with h3 h4
          subst hq h1 h3 h4
          have A0 : w24.cell? ⟨w1.heap.size, 0, none⟩ = some (.bool false) := (unhide HXA).n0
          have A1 : w24.cell? ⟨w1.heap.size, 1, none⟩ = some (.string ⟨#[48]⟩) := (unhide HXA).n1
          have A2 : w24.cell? ⟨w1.heap.size, 2, none⟩ = some (.string ⟨#[49]⟩) := (unhide HXA).n2
          have Al := (unhide HXA).lt
          have HKd := hide (Below.refl w24.heap.size w24).drew
          have HTk := hide ((unhide HT).below (unhide HB24))
          go_region_held3 (fun w' => w'.cell? ⟨w1.heap.size, 0, none⟩ = some (.bool false) ∧ w'.cell? ⟨w1.heap.size, 1, none⟩ = some (.string ⟨#[48]⟩) ∧ w'.cell? ⟨w1.heap.size, 2, none⟩ = some (.string ⟨#[49]⟩)) (((try dsimp only); (repeat' apply And.intro) <;> (first | with_reducible assumption | with_reducible exact (unhide HXA).drew.n0 | exact (unhide HXA).drew.n1 | exact (unhide HXA).drew.n2))) ((go_at_call 14; refine (int0_s _ (by exact (unhide HTk).below (unhide HKd))).mono ?_; rintro e wi ⟨rfl, hb⟩; have HK1 : Hid (Below w24.heap.size w24 wi) := (unhide HKd).trans (hb.mono (unhide HKd).size); have HX1 := hide ((unhide HXA).below (unhide HK1)); have x10 : wi.cell? ⟨w1.heap.size, 0, none⟩ = some (.bool false) := (unhide HX1).n0; have x11 : wi.cell? ⟨w1.heap.size, 1, none⟩ = some (.string ⟨#[48]⟩) := (unhide HX1).n1; have x12 : wi.cell? ⟨w1.heap.size, 2, none⟩ = some (.string ⟨#[49]⟩) := (unhide HX1).n2; clear hb))
          clear A0 A1 A2 Al
          have HBi := hide (below_step (unhide HB24) (unhide HK1))
          go_wp2_with fail
          go_region
          all_goals (go_wp2; go_ret; exact ⟨rfl, (unhide HBi).drew⟩)
        · skip
          rw [if_neg hz] at hdiv
          injection hdiv with h1 h2
          injection h1 with h3 h4
          injection h4 with h5 h6
          subst h2 h3 h5 h6
          have hzb : ((B ua).toList == [48]) = false := by rw [B_tl]; have := fun h => hz ((zero_iff (unhide HoA)).1 h); simpa using this
          have Hz := hide hz
          clear hz
          have A0 : w24.cell? ⟨w1.heap.size, 0, none⟩ = some (.bool na) := (unhide HXA).n0
          have A1 : w24.cell? ⟨w1.heap.size, 1, none⟩ = some (.string (B ua)) := (unhide HXA).n1
          have A2 : w24.cell? ⟨w1.heap.size, 2, none⟩ = some (.string (B da)) := (unhide HXA).n2
          have Al := (unhide HXA).lt
          have HKd := hide (Below.refl w24.heap.size w24).drew
          have HTk := hide ((unhide HT).below (unhide HB24))
          go_region_held3 (fun w' => w'.cell? ⟨w1.heap.size, 0, none⟩ = some (.bool na) ∧ w'.cell? ⟨w1.heap.size, 1, none⟩ = some (.string (B ua)) ∧ w'.cell? ⟨w1.heap.size, 2, none⟩ = some (.string (B da))) (((try dsimp only); (repeat' apply And.intro) <;> (first | with_reducible assumption | with_reducible exact (unhide HXA).drew.n0 | exact (unhide HXA).drew.n1 | exact (unhide HXA).drew.n2))) ((go_at_call 14; refine (int0_s _ (by exact (unhide HTk).below (unhide HKd))).mono ?_; rintro e wi ⟨rfl, hb⟩; have HK1 : Hid (Below w24.heap.size w24 wi) := (unhide HKd).trans (hb.mono (unhide HKd).size); have HX1 := hide ((unhide HXA).below (unhide HK1)); have x10 : wi.cell? ⟨w1.heap.size, 0, none⟩ = some (.bool na) := (unhide HX1).n0; have x11 : wi.cell? ⟨w1.heap.size, 1, none⟩ = some (.string (B ua)) := (unhide HX1).n1; have x12 : wi.cell? ⟨w1.heap.size, 2, none⟩ = some (.string (B da)) := (unhide HX1).n2; clear hb))
          clear A0 A1 A2 Al
          have HBi := hide (below_step (unhide HB24) (unhide HK1))
          have HXi := hide ((unhide HXQ).below (unhide HK1))
          have q0 : wi.cell? ⟨w21.heap.size, 0, none⟩ = some (.bool false) := (unhide HXi).n0
          have q1 : wi.cell? ⟨w21.heap.size, 1, none⟩ = some (.string ⟨#[49]⟩) := (unhide HXi).n1
          have q2 : wi.cell? ⟨w21.heap.size, 2, none⟩ = some (.string ⟨#[49]⟩) := (unhide HXi).n2
          have ql := (unhide HXi).lt
          have HTi := hide ((unhide HT).below (unhide HBi))
          have HKi := hide (Below.refl wi.heap.size wi).drew
          go_wp2_with fail
          clear HsA HsBb HsC HoA HoBb HoC HB21 Hs0 Hs1 HB24 HXA HXQ HrQ hzb Hz HKd HTk HK1 HX1 x10 x11 x12
          first | go_region_held (fun w' => w'.cell? ⟨w21.heap.size, 0, none⟩ = some (.bool false) ∧ w'.cell? ⟨w21.heap.size, 1, none⟩ = some (.string ⟨#[49]⟩) ∧ w'.cell? ⟨w21.heap.size, 2, none⟩ = some (.string ⟨#[49]⟩)) (((try dsimp only); (repeat' apply And.intro) <;> (first | with_reducible assumption | exact (unhide HXi).drew.n0 | exact (unhide HXi).drew.n1 | exact (unhide HXi).drew.n2 | exact (unhide HXj).n0 | exact (unhide HXj).n1 | exact (unhide HXj).n2))) ((go_at_call 14; refine (int1_s _ (by exact (unhide HTi).below (unhide HKi))).mono ?_; rintro e wj ⟨rfl, hb⟩; have HK2 : Hid (Below wi.heap.size wi wj) := (unhide HKi).trans (hb.mono (unhide HKi).size); have HXj := hide ((unhide HXi).below (unhide HK2)); clear hb)) | fail
          all_goals (go_wp2; go_ret; exact ⟨rfl, below_step (unhide HBi) (unhide HK2)⟩)

set_option maxRecDepth 100000 in
set_option maxHeartbeats 1000000 in
theorem lawTop_big (a0 a1 : Option Addr) (n0 cap0 n1 cap1 : Nat) (w : World) (h : 1048576 < n0 ∨ 1048576 < n1) :
    Calls Tryd.prog 4 #[.slice a0 n0 cap0, .slice a1 n1 cap1] w fun e w' => e = .returned (.bool true) ∧ Below w.heap.size w w' := by
  by_cases h0 : 1048576 < n0
  · have d0 : decide (1048576 < (n0 : Int)) = true := by rw [decide_eq_true_iff]; omega
    clear h
    go_enter Tryd.func4, Tryd.ntmps4
    go_wp2
    go_ret
    exact ⟨rfl, Below.refl _ _⟩
  · have h1 : 1048576 < n1 := by omega
    have d0 : decide (1048576 < (n0 : Int)) = false := by rw [decide_eq_false_iff_not]; omega
    have d1 : decide (1048576 < (n1 : Int)) = true := by rw [decide_eq_true_iff]; omega
    clear h
    go_enter Tryd.func4, Tryd.ntmps4
    go_wp2
    go_ret
    exact ⟨rfl, Below.refl _ _⟩

theorem lawTop_c (a0 a1 : Option Addr) (n0 cap0 n1 cap1 : Nat) (w : World) (h0 : Bytes0 w a0 n0) (h1 : Bytes0 w a1 n1) (hc0 : n0 ≤ cap0) (hc1 : n1 ≤ cap1) (hm0 : cap0 ≤ maxLen) (hm1 : cap1 ≤ maxLen) (hT : Tens w) :
    Calls Tryd.prog 4 #[.slice a0 n0 cap0, .slice a1 n1 cap1] w fun e w' => e = .returned (.bool true) ∧ Below w.heap.size w w' := by
  by_cases h : 1048576 < n0 ∨ 1048576 < n1
  · exact lawTop_big a0 a1 n0 cap0 n1 cap1 w h
  · exact lawTop_main a0 a1 n0 cap0 n1 cap1 w h0 h1 hc0 hc1 hm0 hm1 hT (by omega) (by omega)
end Go.Proofs.YtchginjabaobfaaDoor
namespace Go.Proofs.YtchginjabaobfaaDoor
open Go.ChangeShapes Go.WideShapes Go.ChangeAt Go.RowKit Nt

theorem own : ownKnob Tryd.prog.godebug = none := by kernel_rfl
theorem laidOut : laidOutB Tryd.prog = true := by kernel_rfl
theorem gTens : Tryd.prog.globalNamed "loop.example/sistab/impl.natTens" = some 0 := by kernel_rfl
theorem gTensType : (Tryd.prog.globals[0]?).map (·.type) = some 118 := by kernel_rfl
theorem cellsWord : Tryd.prog.cellsOf 80 = 1 := by kernel_rfl
theorem cellsTens : Tryd.prog.cellsOf 118 = 9 := by kernel_rfl

theorem var_below {P : Program} {B g : Nat} {W W' : World} {n : String} {cs : Array Value} (h : Below B W W') (hg : P.globalNamed n = some g) (hgB : g < B) (hv : W.var? P n = some cs) : W'.var? P n = some cs := by
  unfold World.var? at hv ⊢
  simp only [hg, Option.bind_some] at hv ⊢
  rw [h.block g hgB]
  exact hv

/-- the table of tens, out of the row's condition -/
theorem tens_of_laid {W : World} (h : laidMet Tryd.prog Rows.fnNumTopRow.laid W) : Tens W := by
  have hT : Lib.TabIs Tryd.prog W "loop.example/sistab/impl.natTens" .u64 [1, 10, 100, 1000, 10000, 100000, 1000000, 10000000, 100000000] :=
    Lib.tabIs_of_head gTens gTensType Tryd.underlying118 Tryd.underlying80 cellsWord cellsTens h
  intro j hj
  have h0 := hT.cell gTens j (by simpa using hj)
  rw [h0]
  match j, hj with
  | 0, _ => rfl
  | 1, _ => rfl
  | 2, _ => rfl
  | 3, _ => rfl
  | 4, _ => rfl
  | 5, _ => rfl
  | 6, _ => rfl
  | 7, _ => rfl
  | 8, _ => rfl

/-- bytes that came in, nil or not -/
theorem bytes_in {H : Type} {enc : TypeId × Value → H} {W : World} {a0 : Option Addr} {len cap : Nat} {d : DataW H} {p : List MemPlace}
    (h : DataW.Trod enc Tryd.prog W 0 (fun _ => true) true 22 (.slice a0 len cap) d p) : Bytes0 W a0 len ∧ len ≤ cap ∧ cap ≤ maxLen := by
  obtain ⟨fuel, hf⟩ := h
  rcases open_ints Tryd.underlying22 Tryd.underlying5 (by kernel_rfl) hf with ⟨hcs, _⟩ | ⟨x, l, c, zs, hcs, _, hl, hm, hz, _, hcell, hwz⟩
  · simp [Value.cells] at hcs
    obtain ⟨rfl, rfl, rfl⟩ := hcs
    exact ⟨fun h => absurd h (by omega), Nat.le_refl _, by unfold maxLen; omega⟩
  · simp [Value.cells] at hcs
    obtain ⟨rfl, rfl, rfl⟩ := hcs
    refine ⟨fun h0 => ?_, hl, hm⟩
    have hz' : zs.length = cap := by simpa using hz
    obtain ⟨b, off, spot⟩ := x
    have hc := hcell 0 (by omega)
    have hspot : spot = none := by simpa [Addr.add] using World.cell?_spot hc
    subst hspot
    refine ⟨b, off, rfl, World.block_lt_of_cell? W _ hc, fun j hj => ?_⟩
    have hcj := hcell j (by omega)
    have hjz : j < zs.length := by omega
    have hw := hwz (zs.getD j 0) (by rw [List.getD_eq_getElem?_getD, List.getElem?_eq_getElem hjz]; exact List.getElem_mem hjz)
    have hw' : 0 ≤ zs.getD j 0 ∧ zs.getD j 0 ≤ 255 := by simpa [Lit.wf, IntKind.min, IntKind.max, IntKind.signed, IntKind.bits] using hw
    refine ⟨(zs.getD j 0).toNat, by omega, ?_⟩
    rw [show (((zs.getD j 0).toNat : Nat) : Int) = zs.getD j 0 from by omega]
    by_cases hj0 : j = 0
    · subst hj0; simpa [Addr.add] using hcj
    · simpa [Addr.add, hj0] using hcj

set_option maxRecDepth 100000 in
theorem top_lifted (os : Os) (started : os.Started) (H : Type) (enc : TypeId × Value → H) :
    ReturnsInHanded {} Tryd.checked os 4 .any (fun w args => (Rows.fnNumTopSpec.pre enc Tryd.prog Tryd.f4 [] false w args ∧ laidMetH Tryd.prog Rows.fnNumTopRow.laid w) ∧ sizedMet enc Tryd.prog Tryd.f4 (OpenSpec.ofChange Rows.fnNumTopSpec) false w args)
      (Rows.fnNumTopSpec.post enc Tryd.prog Tryd.f4 false true false false) := by
  refine returnsInHanded_of_change_and (C := Tryd.checked) (X := fun w _ => laidMetH Tryd.prog Rows.fnNumTopRow.laid w) (fun _ _ _ hh h => h.of_heap hh) own started (by kernel_rfl) Tryd.func4
    (ChangeSpec.witness_shaped (enc := enc) (C := Tryd.checked) (os := os) (X := fun w _ => laidMetH Tryd.prog Rows.fnNumTopRow.laid w) false (World.laidAll Tryd.prog os Rows.fnNumTopRow.laid) #[.slice none 0 0, .slice none 0 0] 8 (World.laidAll_os _ _ _)
      (World.shaped_of_ZipB (by kernel_rfl) (by kernel_rfl)) (by kernel_rfl) (by kernel_rfl) (by kernel_rfl)
      (by rw [MakeChecks.laidMetH_plain _ _ _ (by kernel_rfl)]; exact laidMet_laidAll _ (by kernel_rfl) (by kernel_rfl))) ?_
  intro W base args ds gs before hval0 hW _ _ hL _
  have hval : ∀ (j : Nat) t v, Tryd.f4.params[j]? = some t → args[j]? = some v → Value.okWide Tryd.prog W .any base t v := hval0
  have hW' := hW
  obtain ⟨p, q, hA0, hV0, rfl, _, _⟩ := hW
  have hA : DataW.TrodAll enc Tryd.prog W 0 (fun _ => true) true Tryd.f4.params.toList args.toList ds p := hA0
  have hV : DataW.TrodVars enc Tryd.prog W (fun _ => true) ["loop.example/sistab/impl.natTens"] gs q := hV0
  rw [Tryd.params4] at hA hval
  obtain ⟨v0, vs0, d0, ds0, p0, q0, hargs, rfl, rfl, h0, r0⟩ := trodAll_cons hA
  obtain ⟨v1, vs1, d1, ds1, p1, q1, rfl, rfl, rfl, h1, r1⟩ := trodAll_cons r0
  obtain ⟨rfl, rfl, rfl⟩ := trodAll_nil r1
  obtain rfl : args = #[v0, v1] := by cases args; simp_all
  obtain ⟨g, t, cs, fuel, d, p', rfl, hg, ht, hvar, hd, rfl⟩ := trodVars_one hV
  obtain rfl := Option.some.inj (gTens.symm.trans hg)
  obtain rfl := Option.some.inj (gTensType.symm.trans ht)
  obtain ⟨a0, len0, cap0, rfl⟩ := okWide_slice Tryd.underlying22 (hval 0 22 v0 rfl rfl)
  obtain ⟨a1, len1, cap1, rfl⟩ := okWide_slice Tryd.underlying22 (hval 1 22 v1 rfl rfl)
  have k0 := h0
  have k1 := h1
  have lt0 : ∀ x ∈ p0, x.block < W.heap.size := by obtain ⟨m, hm⟩ := k0; exact DataW.trod_lt m _ _ _ hm
  have lt1 : ∀ x ∈ p1, x.block < W.heap.size := by obtain ⟨m, hm⟩ := k1; exact DataW.trod_lt m _ _ _ hm
  have ltv : ∀ x ∈ p', x.block < W.heap.size := DataW.trod_lt fuel _ _ _ hd
  have b0 := bytes_in h0
  have b1 := bytes_in h1
  have hT := tens_of_laid (W := W) (by rw [MakeChecks.laidMetH_plain _ _ _ (by kernel_rfl)] at hL; exact hL)
  have hgl : 0 < W.heap.size := World.block_lt_of_cell? W _ (hT 0 (by omega))
  clear hA0 hval0 hV0
  refine (lawTop_c a0 a1 len0 cap0 len1 cap1 W b0.1 b1.1 b0.2.1 b1.2.1 b0.2.2 b1.2.2 hT).mono fun e W' ⟨he, bel⟩ => ?_
  subst he
  obtain ⟨fuel', hd'⟩ := Below.trod laidOut (by kernel_rfl) (of_decide_eq_true (by kernel_rfl)) (v := .agg cs) (⟨fuel, by simpa [Value.cells] using hd⟩ : DataW.Trod enc Tryd.prog W 0 (fun _ => true) true 118 (.agg cs) d p') bel ltv
  have hv' := trodVars_mk1 (enc := enc) (spare := fun b => decide (b < W.heap.size)) hg ht (var_below bel hg hgl hvar) (by simpa [Value.cells] using hd')
  exact ⟨_, rfl, _, _, _, [], _, _, hW', trodAll_mk1 (shut_bool Tryd.underlying4 _), (trodAll_cons_mk (Below.trod laidOut (by kernel_rfl) (of_decide_eq_true (by kernel_rfl)) k0 bel lt0) (trodAll_cons_mk (Below.trod laidOut (by kernel_rfl) (of_decide_eq_true (by kernel_rfl)) k1 bel lt1) trodAll_mk0)), hv', bel.frame _, fun h => by cases h⟩

theorem top_holds : Rows.FnNumTopSaid :=
  OpenClaim.holds_of_wide 4 Tryd.f4 rfl rfl rfl rfl rfl rfl rfl ⟨rfl, rfl, rfl, rfl, rfl⟩ rfl rfl rfl rfl rfl (by kernel_rfl) Tryd.func4 (by kernel_rfl)
    (of_decide_eq_true (by kernel_rfl)) (by unfold Func.isWrapper; first | (rw [if_pos (by decide +kernel)]; kernel_rfl) | (rw [if_neg (by decide +kernel)]; exact ⟨rfl, rfl⟩))
    (fun os started H enc _ => top_lifted os started H enc)
theorem fnNumTop_card : Rows.FnNumTopCardSaid :=
  Claim7.holds_tied_plain_at .later [] [.data] true Rows.fnNumTopCard.stood.harness false top_holds (fun _ h => by cases h) (by kernel_rfl) (fun _ h => by cases h) fnNumTop_row_tie rfl ⟨rfl, rfl⟩ (by kernel_rfl) rfl
    (fun f fn hf hfn => by
      obtain rfl : f = 4 := Option.some.inj ((show Tryd.prog.funcNamed "loop.example/sistab/laws.FnNumTop" = some 4 by kernel_rfl).symm.trans hf) |>.symm
      obtain rfl : fn = Tryd.f4 := (Option.some.inj (Tryd.func4.symm.trans hfn)).symm
      exact ⟨by kernel_rfl, fun j t ht => by
        rw [Tryd.params4] at ht
        have hm : t ∈ [22, 22] := by simpa using Array.mem_of_getElem? ht
        have hall : ([22, 22].all fun u => !Tryd.prog.wantsStandIn u) = true := by kernel_rfl
        exact (show Tryd.prog.wantsStandIn t = false by simpa using List.all_eq_true.1 hall t hm)⟩)
    (by kernel_rfl)
#print axioms fnNumTop_card
end Go.Proofs.YtchginjabaobfaaDoor
