/- PROVED: for every datum (nodes with a sort, a text and a list of kids, and roots, all whatever they are), and whatever lies in memory besides three tables (two of unicode/utf8 and the program's table of tens), which read as their texts lay them, laws.FnExactTabSort returns true and leaves the datum and the table of tens as they were. The only conditions are the row's own: the three tables; the card ties them to their texts. -/
import Derived.Test.YtpbnmhnbkfnaeaaGreatDoorM12
import Derived.Test.YtpbnmhnbkfnaeaaGreatDoorCards
import Derived.Test.YtpbnmhnbkfnaeaaGreatDoorTie
import Derived.ProofKit
import Derived.OpenShut
import Derived.ShutString
import Derived.Lib.SmallJoins
import Derived.Lib.LaidU8
import Derived.Lib.LaidU8T
import Derived.Lib.LaidTab
import Derived.PinnedBridge
import Derived.ChangeOld
import Derived.ChangeVars
import Derived.Lay
import Derived.LaidOnce
import Derived.JoinedOf
import Derived.Handy
import Derived.SevenTiedAt
/- The law of TabSort: what holds if both sides answer alike. -/
namespace Go.Proofs.YtpbnmhnbkfnaeaaGreatDoor
open Go.RowKit Nt

set_option maxRecDepth 100000 in
set_option maxHeartbeats 4000000 in
theorem lawSort_main (nv rv : Value) (d M : Dt) (w : World) (h : DataAt w (.agg #[nv, rv]) d)
    (hspec : ∀ u W, Below w.heap.size w W → DataAt W u d → d.1.length ≤ 1048576 ∧ d.2.length ≤ 1048576 ∧ NsSmall d.1 → Calls Tryz.prog 17 #[u] W fun e W' => (∃ mn mr, e = .returned (.agg #[mn, mr]) ∧ DataAt W' (.agg #[mn, mr]) M) ∧ Below W.heap.size W W')
    (himpl : ∀ u W, Below w.heap.size w W → DataAt W u d → d.1.length ≤ 1048576 ∧ d.2.length ≤ 1048576 ∧ NsSmall d.1 → Calls Tryz.prog 15 #[u] W fun e W' => (∃ gn gr, e = .returned (.agg #[gn, gr]) ∧ DataOwn W' W.heap.size W'.heap.size (.agg #[gn, gr]) M) ∧ Below W.heap.size W W')
    (hM : d.1.length ≤ 1048576 ∧ d.2.length ≤ 1048576 ∧ NsSmall d.1 → M.1.length ≤ 1048576 ∧ M.2.length ≤ 1048576 ∧ NsSmall M.1) :
    Calls Tryz.prog 6 #[.agg #[nv, rv]] w fun e w' => e = .returned (.bool true) ∧ Below w.heap.size w w' := by
  have HD := hide h
  have HS := hide hspec
  have HI := hide himpl
  have HM := hide hM
  have HB := hide (step_a (Below.refl w.heap.size w) (.cells #[nv, rv] 42))
  have HbA := hide (AtC2.new w nv rv 42)
  clear h hspec himpl hM
  go_enter Tryz.func6, Tryz.ntmps6
  go_wp2_with fail
  have h := szReadData_c _ d _ ((unhide HD).below (unhide HB))
  refine h.mono ?_
  clear h
  rintro e w1 ⟨⟨r, rfl, hr⟩, hb⟩
  -- behind hb : Below of the world: every box, and what is below all
  replace HB := hide (step_b (unhide HB) hb)
  replace HbA := hide ((unhide HbA).below hb)
  clear hb
  by_cases hr0 : r < 0
  · go_wp2
    go_ret
    exact ⟨rfl, unhide HB⟩
  have hsm := hr (by omega)
  clear hr
  have HSM := hide hsm
  have hMs := (unhide HM) hsm
  have hcd := cntD_le hsm.1 hsm.2.1 hsm.2.2
  have hcM := cntD_le hMs.1 hMs.2.1 hMs.2.2
  clear hsm hMs HM
  have a0 := (unhide HbA).n0
  have a1 := (unhide HbA).n1
  -- the specification's answer
  go_wp2_with fail
  have h := toReadData_c _ d w1 ((unhide HD).below (unhide HB)) (unhide HSM)
  refine h.mono ?_
  clear h
  rintro e w2 ⟨⟨u1, rfl, hu1⟩, hb⟩
  -- behind hb : Below of the world: every box, and what is below all
  replace HB := hide (step_b (unhide HB) hb)
  replace HbA := hide ((unhide HbA).below hb)
  have HU1 := hide hu1.at
  clear hb hu1 a0 a1
  go_wp2_with fail
  have h := (unhide HS) u1 w2 (unhide HB) (unhide HU1) (unhide HSM)
  refine h.mono ?_
  clear h
  rintro e w3 ⟨⟨mn, mr, rfl, hm0⟩, hb⟩
  obtain ⟨p0, p1, p2, p3, p4, p5, rfl, rfl⟩ := hm0.slices

  -- behind hb : Below of the world: every box, and what is below all
  replace HB := hide (step_b (unhide HB) hb)
  replace HbA := hide ((unhide HbA).below hb)
  have HM0 := hide hm0
  have s03 := (unhide HB).size
  clear hb hm0 HU1 HS
  have a0 := (unhide HbA).n0
  have a1 := (unhide HbA).n1
  have al := (unhide HbA).lt
  -- the copy
  go_wp2_with fail
  replace HB := hide (step_a (unhide HB) (.cells #[.slice p0 p1 p2, .slice p3 p4 p5] 26))
  have h := toReadData_c _ d (w3.alloc (.cells #[.slice p0 p1 p2, .slice p3 p4 p5] 26)) ((unhide HD).below (unhide HB)) (unhide HSM)
  refine h.mono ?_
  clear h
  rintro e w4 ⟨⟨u2, rfl, hx0⟩, hb⟩
  obtain ⟨xn, xr, rfl⟩ := hx0.at.form
  obtain ⟨q0, q1, q2, q3, q4, q5, rfl, rfl⟩ := hx0.at.slices
  replace HB := hide (step_b (unhide HB) hb)
  replace HbA := hide (((unhide HbA).alloc _).below hb)
  have HbM := hide ((AtC2.new w3 (.slice p0 p1 p2) (.slice p3 p4 p5) 26).below hb)
  have HB3 := hide (step_b (step_a (Below.refl w3.heap.size w3) (.cells #[.slice p0 p1 p2, .slice p3 p4 p5] 26)) hb)
  have HX0 := hide hx0
  have e1 : (w3.alloc (.cells #[.slice p0 p1 p2, .slice p3 p4 p5] 26)).heap.size = w3.heap.size + 1 := by simp
  have s34 := hb.size
  clear hb hx0 a0 a1 al
  -- the program's answer
  go_wp2_with fail
  replace HB := hide (step_a (unhide HB) (.cells #[.slice q0 q1 q2, .slice q3 q4 q5] 26))
  have h := (unhide HI) _ (w4.alloc (.cells #[.slice q0 q1 q2, .slice q3 q4 q5] 26)) (unhide HB) (((unhide HX0).at).below ((Below.refl _ _).alloc (Nat.le_refl _) _)) (unhide HSM)
  refine h.mono ?_
  clear h
  rintro e w5 ⟨⟨gn, gr0, rfl, hg0⟩, hb⟩
  obtain ⟨r0, r1, r2, r3, r4, r5, rfl, rfl⟩ := hg0.at.slices
  replace HB := hide (step_b (unhide HB) hb)
  replace HB3 := hide (step_b (step_a (unhide HB3) (.cells #[.slice q0 q1 q2, .slice q3 q4 q5] 26)) hb)
  replace HbA := hide (((unhide HbA).alloc _).below hb)
  replace HbM := hide (((unhide HbM).alloc _).below hb)
  have HbX := hide ((AtC2.new w4 (.slice q0 q1 q2) (.slice q3 q4 q5) 26).below hb)
  have HX1 := hide (((unhide HX0).below ((Below.refl _ _).alloc (Nat.le_refl _) (.cells #[.slice q0 q1 q2, .slice q3 q4 q5] 26))).below hb)
  have HG0 := hide hg0
  have e2 : (w4.alloc (.cells #[.slice q0 q1 q2, .slice q3 q4 q5] 26)).heap.size = w4.heap.size + 1 := by simp
  have s45 := hb.size
  clear hb hg0 HX0
  have m0 := (unhide HbM).n0
  have m1 := (unhide HbM).n1
  have ml := (unhide HbM).lt
  go_wp2_with fail
  have h := eqReadData_c _ _ M (w5.alloc (.cells #[.slice r0 r1 r2, .slice r3 r4 r5] 26)) (((unhide HG0).at).below ((Below.refl _ _).alloc (Nat.le_refl _) _)) ((unhide HM0).below (step_a (unhide HB3) _))
  refine h.mono ?_
  clear h
  rintro e w6 ⟨rfl, hb⟩
  replace HB := hide (step_b (step_a (unhide HB) (.cells #[.slice r0 r1 r2, .slice r3 r4 r5] 26)) hb)
  replace HB3 := hide (step_b (step_a (unhide HB3) (.cells #[.slice r0 r1 r2, .slice r3 r4 r5] 26)) hb)
  replace HbA := hide (((unhide HbA).alloc _).below hb)
  replace HbM := hide (((unhide HbM).alloc _).below hb)
  replace HbX := hide (((unhide HbX).alloc _).below hb)
  have HbG := hide ((AtC2.new w5 (.slice r0 r1 r2) (.slice r3 r4 r5) 26).below hb)
  replace HX1 := hide (((unhide HX1).below ((Below.refl _ _).alloc (Nat.le_refl _) (.cells #[.slice r0 r1 r2, .slice r3 r4 r5] 26))).below hb)
  replace HG0 := hide (((unhide HG0).below ((Below.refl _ _).alloc (Nat.le_refl _) (.cells #[.slice r0 r1 r2, .slice r3 r4 r5] 26))).below hb)
  clear hb m0 m1 ml
  -- what was handed in is as it was
  have x0 := (unhide HbX).n0
  have x1 := (unhide HbX).n1
  have a0 := (unhide HbA).n0
  have a1 := (unhide HbA).n1
  go_wp2_with fail
  go_region_held3 (fun w' => w'.cell? ⟨w4.heap.size, 0, none⟩ = some (.slice q0 q1 q2) ∧ w'.cell? ⟨w4.heap.size, 1, none⟩ = some (.slice q3 q4 q5) ∧ w'.cell? ⟨w.heap.size, 0, none⟩ = some nv ∧ w'.cell? ⟨w.heap.size, 1, none⟩ = some rv) (((try dsimp only); (repeat' apply And.intro) <;> (first | with_reducible assumption | exact x0 | exact x1 | exact a0 | exact a1))) (first | (go_at_call 22; refine (toReadData_c _ d w6.drew ((unhide HD).below ((unhide HB).drew)) (unhide HSM)).mono ?_; rintro e w7 ⟨⟨u4, rfl, hu4⟩, hb7⟩; have HB7 : Hid (Below w6.heap.size w6 w7) := (Below.refl w6.heap.size w6).drew.trans hb7; have HU4 := hide hu4.at; have y0 := ((unhide HbX).below (unhide HB7)).n0; have y1 := ((unhide HbX).below (unhide HB7)).n1; have b0 := ((unhide HbA).below (unhide HB7)).n0; have b1 := ((unhide HbA).below (unhide HB7)).n1; clear hu4 hb7) | (go_at_call 23; refine (eqReadData_c _ _ d w7 (((unhide HX1).below (unhide HB7)).at) (unhide HU4)).mono ?_; rintro e w8 ⟨rfl, hb8⟩; have HB8 : Hid (Below w6.heap.size w6 w8) := step_b (unhide HB7) hb8; have z0 := ((unhide HbX).below (unhide HB8)).n0; have z1 := ((unhide HbX).below (unhide HB8)).n1; have c0 := ((unhide HbA).below (unhide HB8)).n0; have c1 := ((unhide HbA).below (unhide HB8)).n1; clear hb8))
  replace HB := hide (step_b (unhide HB) (unhide HB8))
  replace HB3 := hide (step_b (unhide HB3) (unhide HB8))
  replace HbA := hide ((unhide HbA).below (unhide HB8))
  replace HbM := hide ((unhide HbM).below (unhide HB8))
  replace HbX := hide ((unhide HbX).below (unhide HB8))
  replace HbG := hide ((unhide HbG).below (unhide HB8))
  replace HX1 := hide ((unhide HX1).below (unhide HB8))
  replace HG0 := hide ((unhide HG0).below (unhide HB8))
  clear x0 x1 a0 a1 y0 y1 b0 b1 c0 c1 HB7 HU4 HB8
  -- marks into what was handed in
  go_wp2_with fail
  have h := markReadData_c _ d 1 _ _ w8 (unhide HX1) (by omega) (by omega)
  refine h.mono ?_
  clear h
  rintro e w9 ⟨rfl, _, hk⟩
  rw [e1] at hk
  have s38 := (unhide HB3).size
  have hk3 : Below w3.heap.size w8 w9 := hk.below s38 (fun b hb => by have := hb.1; omega)
  replace HB := hide ((unhide HB).trans (hk3.mono s03))
  replace HB3 := hide ((unhide HB3).trans hk3)
  replace HbA := hide ((unhide HbA).kept hk (by unfold dataBlocks; omega))
  replace HbM := hide ((unhide HbM).kept hk (by unfold dataBlocks; omega))
  replace HbG := hide ((unhide HbG).kept hk (by unfold dataBlocks; omega))
  replace HG0 := hide (hk.data (unhide HG0) (fun b h1 _ h3 => by have := h3.2; omega))
  clear hk hk3 HbX HX1 z0 z1
  have g0 := (unhide HbG).n0
  have g1 := (unhide HbG).n1
  have m0 := (unhide HbM).n0
  have m1 := (unhide HbM).n1
  have hn : ¬ ((1 + cntD d : Nat) : Int) < 0 := by omega
  go_wp2_with fail
  have h := eqReadData_c _ _ M w9 (unhide HG0).at ((unhide HM0).below (unhide HB3))
  refine h.mono ?_
  clear h
  rintro e w10 ⟨rfl, hb⟩
  clear hn g0 g1 m0 m1
  replace HB := hide (step_b (unhide HB) hb)
  replace HB3 := hide (step_b (unhide HB3) hb)
  replace HbA := hide ((unhide HbA).below hb)
  replace HbM := hide ((unhide HbM).below hb)
  replace HbG := hide ((unhide HbG).below hb)
  replace HG0 := hide ((unhide HG0).below hb)
  clear hb
  -- marks into the answer
  have g0 := (unhide HbG).n0
  have g1 := (unhide HbG).n1
  go_wp2_with fail
  have h := markReadData_c _ M 1 _ _ w10 (unhide HG0) (by omega) (by omega)
  refine h.mono ?_
  clear h
  rintro e w11 ⟨rfl, hgm, hk⟩
  rw [e2] at hk
  have s310 := (unhide HB3).size
  have hk3 : Below w3.heap.size w10 w11 := hk.below s310 (fun b hb => by have := hb.1; omega)
  replace HB := hide ((unhide HB).trans (hk3.mono s03))
  replace HB3 := hide ((unhide HB3).trans hk3)
  replace HbA := hide ((unhide HbA).kept hk (by unfold dataBlocks; omega))
  replace HbM := hide ((unhide HbM).kept hk (by unfold dataBlocks; omega))
  replace HbG := hide ((unhide HbG).kept hk (by unfold dataBlocks; omega))
  clear HG0
  have HG0 := hide hgm
  clear hk hk3 hgm g0 g1
  have g0 := (unhide HbG).n0
  have g1 := (unhide HbG).n1
  go_wp2_with fail
  have h := heldReadData_c _ 1 M w11 (unhide HG0).at (by omega) (by omega)
  refine h.mono ?_
  clear h
  rintro e w12 ⟨rfl, hb⟩
  clear g0 g1
  replace HB := hide (step_b (unhide HB) hb)
  replace HB3 := hide (step_b (unhide HB3) hb)
  replace HbA := hide ((unhide HbA).below hb)
  replace HbM := hide ((unhide HbM).below hb)
  replace HbG := hide ((unhide HbG).below hb)
  replace HG0 := hide ((unhide HG0).below hb)
  clear hb
  have hn : ¬ ((1 + cntD M : Nat) : Int) < 0 := by omega
  have a0 := (unhide HbA).n0
  have a1 := (unhide HbA).n1
  -- once more
  go_wp2_with fail
  have h := toReadData_c _ d w12 ((unhide HD).below (unhide HB)) (unhide HSM)
  refine h.mono ?_
  clear h
  rintro e w13 ⟨⟨u5, rfl, hu5⟩, hb⟩
  clear a0 a1
  replace HB := hide (step_b (unhide HB) hb)
  replace HB3 := hide (step_b (unhide HB3) hb)
  replace HbA := hide ((unhide HbA).below hb)
  replace HbM := hide ((unhide HbM).below hb)
  replace HbG := hide ((unhide HbG).below hb)
  replace HG0 := hide ((unhide HG0).below hb)
  have HU5 := hide hu5.at
  clear hb hu5
  go_wp2_with fail
  have h := (unhide HI) u5 w13 (unhide HB) (unhide HU5) (unhide HSM)
  refine h.mono ?_
  clear h
  rintro e w14 ⟨⟨hn0, hr0', rfl, hh⟩, hb⟩
  obtain ⟨t0, t1, t2, t3, t4, t5, rfl, rfl⟩ := hh.at.slices
  replace HB := hide (step_b (unhide HB) hb)
  replace HB3 := hide (step_b (unhide HB3) hb)
  replace HbA := hide ((unhide HbA).below hb)
  replace HbM := hide ((unhide HbM).below hb)
  replace HbG := hide ((unhide HbG).below hb)
  replace HG0 := hide ((unhide HG0).below hb)
  have HH := hide hh.at
  clear hb hh HU5 HI
  have m0 := (unhide HbM).n0
  have m1 := (unhide HbM).n1
  have ml := (unhide HbM).lt
  go_wp2_with fail
  have h := eqReadData_c _ _ M (w14.alloc (.cells #[.slice t0 t1 t2, .slice t3 t4 t5] 26)) ((unhide HH).below ((Below.refl _ _).alloc (Nat.le_refl _) _)) ((unhide HM0).below (step_a (unhide HB3) _))
  refine h.mono ?_
  clear h
  rintro e w15 ⟨rfl, hb⟩
  replace HB := hide (step_b (step_a (unhide HB) (.cells #[.slice t0 t1 t2, .slice t3 t4 t5] 26)) hb)
  replace HbG := hide (((unhide HbG).alloc _).below hb)
  replace HG0 := hide (((unhide HG0).below ((Below.refl _ _).alloc (Nat.le_refl _) (.cells #[.slice t0 t1 t2, .slice t3 t4 t5] 26))).below hb)
  clear hb m0 m1 ml HH HM0 HB3 HbA HbM
  have g0 := (unhide HbG).n0
  have g1 := (unhide HbG).n1
  go_wp2_with fail
  have h := heldReadData_c _ 1 M w15 (unhide HG0).at (by omega) (by omega)
  refine h.mono ?_
  clear h
  rintro e w16 ⟨rfl, hb⟩
  replace HB := hide (step_b (unhide HB) hb)
  clear hb g0 g1
  go_wp2
  go_ret
  exact ⟨rfl, unhide HB⟩
end Go.Proofs.YtpbnmhnbkfnaeaaGreatDoor
namespace Go.Proofs.YtpbnmhnbkfnaeaaGreatDoor
open Go.ChangeShapes Go.WideShapes Go.ChangeAt Go.RowKit Go.Joins Nt

theorem sort_small (d : Dt) (h : d.1.length ≤ 1048576 ∧ d.2.length ≤ 1048576 ∧ NsSmall d.1) : (sortM d).1.length ≤ 1048576 ∧ (sortM d).2.length ≤ 1048576 ∧ NsSmall (sortM d).1 := by
  cases ho : okD d with
  | true => rw [sort_yes ho]; exact ⟨h.1, by rw [srt_len]; exact h.2.1, h.2.2⟩
  | false => rw [sort_no ho]; exact ⟨by simp, by simp, fun nd hm => by simp at hm⟩
theorem lawTabSort_c (nv rv : Value) (d : Dt) (w : World) (hd : DataAt w (.agg #[nv, rv]) d) (hT : Tabz w) (hN : Tens w) (h3 : 3 < w.heap.size) :
    Calls Tryz.prog 6 #[.agg #[nv, rv]] w fun r w' => r = .returned (.bool true) ∧ Below w.heap.size w w' :=
  lawSort_main nv rv d (sortM d) w hd (fun u W _ h1 s1 => specTabSort_c d u W h1 s1)
    (fun u W hW h1 s1 => by
      obtain ⟨n', r', rfl, k1, k2⟩ := h1
      exact implTabSort_c n' r' d W ⟨n', r', rfl, k1, k2⟩ s1 (hT.below (by omega) hW) (hN.belowB hW h3) (Nat.lt_of_lt_of_le h3 hW.size))
    (sort_small d)

theorem own : ownKnob Tryz.prog.godebug = none := by kernel_rfl
theorem laidOut : laidOutB Tryz.prog = true := by kernel_rfl
theorem cellsData : Tryz.prog.cellsOf 42 = 2 := by kernel_rfl
theorem gTens : Tryz.prog.globalNamed "loop.example/sistab/impl.natTens" = some 3 := by kernel_rfl
theorem gTensType : (Tryz.prog.globals[3]?).map (·.type) = some 238 := by kernel_rfl
theorem cellsWord : Tryz.prog.cellsOf 173 = 1 := by kernel_rfl
theorem cellsTens : Tryz.prog.cellsOf 238 = 9 := by kernel_rfl
theorem u8X : Go.Proofs.U8Extra Tryz.prog Tryz.lays196_ren := ⟨by kernel_rfl, by kernel_rfl, by kernel_rfl, by kernel_rfl, by kernel_rfl, by kernel_rfl, by kernel_rfl⟩
theorem accept_eq : (Rows.laid_unicode_utf8_acceptRanges : DataW Unit) = Lib.acceptData := by kernel_rfl
theorem tens_data : (Rows.laid_loop_example_sistab_impl_natTens : DataW Unit) = Lib.tabData .u64 [1, 10, 100, 1000, 10000, 100000, 1000000, 10000000, 100000000] := by kernel_rfl

theorem var_below {P : Program} {B g : Nat} {W W' : World} {n : String} {cs : Array Value} (h : Below B W W') (hg : P.globalNamed n = some g) (hgB : g < B) (hv : W.var? P n = some cs) : W'.var? P n = some cs := by
  unfold World.var? at hv ⊢
  simp only [hg, Option.bind_some] at hv ⊢
  rw [h.block g hgB]
  exact hv
/-- the two tables of unicode/utf8, out of the row's condition -/
theorem tabs_of_laid {W : World} (h : laidMet Tryz.prog Rows.fnExactTabSortRow.laid W) : Tabz W :=
  Go.Proofs.utf8Tabs_of_readsT (ρ := Tryz.lays196_ren) (Go.Proofs.U8Types.of196 Tryz.lays196) u8X (Pinned.utf8First_eq ▸ Lib.laidMet.reads h (.tail _ (.tail _ (.head _)))) (accept_eq ▸ Lib.laidMet.reads h (.head _))
/-- the table of tens, out of the row's condition -/
theorem tens_of_laid {W : World} (h : laidMet Tryz.prog Rows.fnExactTabSortRow.laid W) : Tens W := by
  have hT : Lib.TabIs Tryz.prog W "loop.example/sistab/impl.natTens" .u64 [1, 10, 100, 1000, 10000, 100000, 1000000, 10000000, 100000000] := by
    obtain ⟨g, t, cs, fuel, p, h1, h2, h3, h4⟩ := Lib.laidMet.reads h (.tail _ (.head _))
    obtain rfl := Option.some.inj (gTens.symm.trans h1)
    obtain rfl := Option.some.inj (gTensType.symm.trans h2)
    rw [tens_data] at h4
    have e := Lib.cells_of_tab Tryz.underlying238 Tryz.underlying173 cellsWord cellsTens h4
    unfold Lib.TabIs
    rw [h3, ← e]
  intro j hj
  have h0 := hT.cell gTens j (by simpa using hj)
  rw [h0]
  match j, hj with
  | 0, _ => rfl
  | 1, _ => rfl
  | 2, _ => rfl
  | 3, _ => rfl
  | 4, _ => rfl
  | 5, _ => rfl
  | 6, _ => rfl
  | 7, _ => rfl
  | 8, _ => rfl

set_option maxRecDepth 100000 in
theorem sort_lifted (os : Os) (started : os.Started) (H : Type) (enc : TypeId × Value → H) :
    ReturnsInHanded {} Tryz.checked os 6 .any (fun w args => (Rows.fnExactTabSortSpec.pre enc Tryz.prog Tryz.f6 [] false w args ∧ laidMetH Tryz.prog Rows.fnExactTabSortRow.laid w) ∧ sizedMet enc Tryz.prog Tryz.f6 (OpenSpec.ofChange Rows.fnExactTabSortSpec) false w args)
      (Rows.fnExactTabSortSpec.post enc Tryz.prog Tryz.f6 false true false false) := by
  refine returnsInHanded_of_change_and (C := Tryz.checked) (X := fun w _ => laidMetH Tryz.prog Rows.fnExactTabSortRow.laid w) (fun _ _ _ hh h => h.of_heap hh) own started (by kernel_rfl) Tryz.func6
    (ChangeSpec.witness_shaped (enc := enc) (C := Tryz.checked) (os := os) (X := fun w _ => laidMetH Tryz.prog Rows.fnExactTabSortRow.laid w) false (World.laidAll Tryz.prog os Rows.fnExactTabSortRow.laid) #[.agg #[.slice none 0 0, .slice none 0 0]] 8 (World.laidAll_os _ _ _)
      (World.shaped_of_ZipB (by kernel_rfl) (by kernel_rfl)) (by kernel_rfl) (by kernel_rfl) (by kernel_rfl)
      (by rw [MakeChecks.laidMetH_plain _ _ _ (by kernel_rfl)]; exact laidMet_laidAll _ (by kernel_rfl) (by kernel_rfl))) ?_
  intro W base args ds gs before hval0 hW _ _ hL _
  have hval : ∀ (j : Nat) t v, Tryz.f6.params[j]? = some t → args[j]? = some v → Value.okWide Tryz.prog W .any base t v := hval0
  have hW' := hW
  obtain ⟨p, q, hA0, hV0, rfl, _, _⟩ := hW
  have hA : DataW.TrodAll enc Tryz.prog W 0 (fun _ => true) true Tryz.f6.params.toList args.toList ds p := hA0
  have hV : DataW.TrodVars enc Tryz.prog W (fun _ => true) ["loop.example/sistab/impl.natTens"] gs q := hV0
  rw [Tryz.params6] at hA hval
  obtain ⟨v0, vs0, d0, ds0, p0, q0, hargs, rfl, rfl, h0, r0⟩ := trodAll_cons hA
  obtain ⟨rfl, rfl, rfl⟩ := trodAll_nil r0
  obtain rfl : args = #[v0] := by cases args; simp_all
  obtain ⟨g, t, cs, fuel, d, p', rfl, hg, ht, hvar, hd, rfl⟩ := trodVars_one hV
  obtain rfl := Option.some.inj (gTens.symm.trans hg)
  obtain rfl := Option.some.inj (gTensType.symm.trans ht)
  have k0 := h0
  have lt0 : ∀ x ∈ p0, x.block < W.heap.size := by obtain ⟨m, hm⟩ := k0; exact DataW.trod_lt m _ _ _ hm
  have ltv : ∀ x ∈ p', x.block < W.heap.size := DataW.trod_lt fuel _ _ _ hd
  obtain ⟨c0, c1, y0, y1, m0, rfl, hd0, hp0, hy0, hy1⟩ := open_agg2 Tryz.underlying42 (by kernel_rfl) cellsData (hval 0 42 v0 rfl rfl) h0
  obtain ⟨ns, hns, _⟩ := nodes_in hy0
  obtain ⟨rs, hrs⟩ := ints_in hy1
  have hL' := hL
  rw [MakeChecks.laidMetH_plain _ _ _ (by kernel_rfl)] at hL'
  have hT := tens_of_laid hL'
  have hZ := tabs_of_laid hL'
  have hgl : 3 < W.heap.size := World.block_lt_of_cell? W _ (hT 0 (by omega))
  clear hA0 hval0 hV0
  refine (lawTabSort_c c0 c1 (ns, rs) W ⟨c0, c1, rfl, hns, hrs⟩ hZ hT hgl).mono fun e W' ⟨he, bel⟩ => ?_
  subst he
  obtain ⟨fuel', hd'⟩ := Below.trod laidOut (by kernel_rfl) (of_decide_eq_true (by kernel_rfl)) (v := .agg cs) (⟨fuel, by simpa [Value.cells] using hd⟩ : DataW.Trod enc Tryz.prog W 0 (fun _ => true) true 238 (.agg cs) d p') bel ltv
  have hv' := trodVars_mk1 (enc := enc) (spare := fun b => decide (b < W.heap.size)) hg ht (var_below bel hg hgl hvar) (by simpa [Value.cells] using hd')
  exact ⟨_, rfl, _, _, _, [], _, _, hW', trodAll_mk1 (shut_bool Tryz.underlying4 _), (trodAll_cons_mk (Below.trod laidOut (by kernel_rfl) (of_decide_eq_true (by kernel_rfl)) k0 bel lt0) trodAll_mk0), hv', bel.frame _, fun h => by cases h⟩

theorem sort_holds : Rows.FnExactTabSortSaid :=
  OpenClaim.holds_of_wide 6 Tryz.f6 rfl rfl rfl rfl rfl rfl rfl ⟨rfl, rfl, rfl, rfl, rfl⟩ rfl rfl rfl rfl rfl (by kernel_rfl) Tryz.func6 (by kernel_rfl)
    (of_decide_eq_true (by kernel_rfl)) (by unfold Func.isWrapper; first | (rw [if_pos (by decide +kernel)]; kernel_rfl) | (rw [if_neg (by decide +kernel)]; exact ⟨rfl, rfl⟩))
    (fun os started H enc _ => sort_lifted os started H enc)
theorem fnExactTabSort_card : Rows.FnExactTabSortCardSaid :=
  Claim7.holds_tied_plain_at .later [] [.data, .data, .pinned] true Rows.fnExactTabSortCard.stood.harness false sort_holds (fun _ h => by cases h) (by kernel_rfl) (fun _ h => by cases h) fnExactTabSort_row_tie rfl ⟨rfl, rfl⟩ (by kernel_rfl) rfl
    (fun f fn hf hfn => by
      obtain rfl : f = 6 := Option.some.inj ((show Tryz.prog.funcNamed "loop.example/sistab/laws.FnExactTabSort" = some 6 by kernel_rfl).symm.trans hf) |>.symm
      obtain rfl : fn = Tryz.f6 := (Option.some.inj (Tryz.func6.symm.trans hfn)).symm
      exact ⟨by kernel_rfl, fun j t ht => by
        rw [Tryz.params6] at ht
        have hm : t ∈ [42] := by simpa using Array.mem_of_getElem? ht
        have hall : ([42].all fun u => !Tryz.prog.wantsStandIn u) = true := by kernel_rfl
        exact (show Tryz.prog.wantsStandIn t = false by simpa using List.all_eq_true.1 hall t hm)⟩)
    (by kernel_rfl)
#print axioms fnExactTabSort_card
end Go.Proofs.YtpbnmhnbkfnaeaaGreatDoor
