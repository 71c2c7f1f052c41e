/- PROVED: for every port (a text and a place, whatever it is), and whatever lies in memory besides the two tables of unicode/utf8, which read as Go's own library lays them, laws.FnExactTabLine returns true and leaves the port as it was. The conditions are the row's own: the two tables; the card ties them to the library's text. -/
import Derived.Test.YtnenoaenjaghhaaDoorM1
import Derived.Test.YtnenoaenjaghhaaDoorCards
import Derived.Test.YtnenoaenjaghhaaDoorTie
import Derived.ProofKit
import Derived.OpenShut
import Derived.ShutString
import Derived.Lib.SmallJoins
import Derived.Lib.LaidU8
import Derived.PinnedBridge
import Derived.ChangeOld
import Derived.ChangeVars
import Derived.Lay
import Derived.LaidOnce
import Derived.JoinedOf
import Derived.Handy
import Derived.SevenTiedAt
/- The laws of TabChar and TabLine, walked. -/
namespace Go.Proofs.YtnenoaenjaghhaaDoor
open Go.RowKit Nt

set_option maxHeartbeats 1000000 in
theorem toTabPort_c (t : ByteArray) (p : Int) (w : World) :
    Calls Tryd.prog 12 #[.agg #[.string t, .int .i64 p]] w fun e w' => e = .returned (.agg #[.string t, .int .i64 p]) ∧ Below w.heap.size w w' := by
  have HB := hide (step_a (step_a (step_a (Below.refl w.heap.size w) (.cells #[.string t, .int .i64 p] 31)) (.cells #[.string t, .int .i64 p] 24)) (.cells #[.string t, .int .i64 p] 24))
  go_enter Tryd.func12, Tryd.ntmps12
  go_wp2
  refine bodyPost_ret (v := .agg #[.string t, .int .i64 p]) (by simp [results, Tryd.results12, go_sem]) rfl ⟨rfl, ?_⟩
  exact unhide HB

theorem szTabPort_c (t : ByteArray) (p : Int) (w : World) (ht : t.size ≤ maxLen) :
    Calls Tryd.prog 11 #[.agg #[.string t, .int .i64 p], .int .i64 1048576] w fun e w' => (∃ r : Int, e = .returned (.int .i64 r) ∧ (0 ≤ r → t.size ≤ 1048576)) ∧ Below w.heap.size w w' := by
  have HB := hide (step_a (Below.refl w.heap.size w) (.cells #[.string t, .int .i64 p] 31))
  unfold maxLen at ht
  by_cases h : t.size ≤ 1048576
  · go_enter Tryd.func11, Tryd.ntmps11
    go_wp2
    go_ret
    exact ⟨⟨_, rfl, fun _ => h⟩, unhide HB⟩
  · go_enter Tryd.func11, Tryd.ntmps11
    go_wp2
    go_ret
    exact ⟨⟨_, rfl, fun h => by omega⟩, unhide HB⟩

theorem eqTabPort_c (t : ByteArray) (p : Int) (w : World) :
    Calls Tryd.prog 13 #[.agg #[.string t, .int .i64 p], .agg #[.string t, .int .i64 p]] w fun e w' => e = .returned (.bool true) ∧ Below w.heap.size w w' := by
  have HB := hide (step_a (step_a (Below.refl w.heap.size w) (.cells #[.string t, .int .i64 p] 24)) (.cells #[.string t, .int .i64 p] 24))
  have h1 : (t.toList != t.toList) = false := by simp
  have h2 : (p != p) = false := by simp
  go_enter Tryd.func13, Tryd.ntmps13
  go_wp2
  go_ret
  exact ⟨rfl, unhide HB⟩

set_option maxRecDepth 100000 in
set_option maxHeartbeats 2000000 in
theorem lawChar_main (t : ByteArray) (p : Int) (w : World) (ht : t.size ≤ maxLen) (s u : ByteArray) (q : Int)
    (hspec : t.size ≤ 1048576 → ∀ W, Below w.heap.size w W → Calls Tryd.prog 8 #[.agg #[.string t, .int .i64 p]] W fun e w' => e = .returned (.tuple #[.string s, .agg #[.string u, .int .i64 q]]) ∧ Below W.heap.size W w')
    (himpl : t.size ≤ 1048576 → ∀ W, Below w.heap.size w W → Calls Tryd.prog 7 #[.agg #[.string t, .int .i64 p]] W fun e w' => e = .returned (.tuple #[.string s, .agg #[.string u, .int .i64 q]]) ∧ Below W.heap.size W w') :
    Calls Tryd.prog 4 #[.agg #[.string t, .int .i64 p]] w fun e w' => e = .returned (.bool true) ∧ Below w.heap.size w w' := by
  have HS := hide hspec
  have HI := hide himpl
  have HB := hide (step_a (Below.refl w.heap.size w) (.cells #[.string t, .int .i64 p] 31))
  have HA := hide (AtC2.new w (.string t) (.int .i64 p) 31)
  clear hspec himpl
  go_enter Tryd.func4, Tryd.ntmps4
  go_wp2_with fail
  refine (szTabPort_c t p _ ht).mono ?_
  rintro e w1 ⟨⟨r, rfl, hr⟩, hb⟩
  replace HB := hide (step_b (unhide HB) hb)
  replace HA := hide ((unhide HA).below hb)
  clear hb ht
  by_cases h0 : r < 0
  · clear hr
    go_wp2_with fail
    go_ret
    exact ⟨rfl, unhide HB⟩
  have hsm := hr (by omega)
  replace HS := hide ((unhide HS) hsm)
  replace HI := hide ((unhide HI) hsm)
  have a0 := (unhide HA).n0
  have a1 := (unhide HA).n1
  clear hr hsm
  go_wp2_with fail
  refine (toTabPort_c t p w1).mono ?_
  rintro e w2 ⟨rfl, hb⟩
  replace HB := hide (step_b (unhide HB) hb)
  replace HA := hide ((unhide HA).below hb)
  clear hb a0 a1
  go_wp2_with fail
  refine ((unhide HS) w2 (unhide HB)).mono ?_
  rintro e w3 ⟨rfl, hb⟩
  replace HB := hide (step_b (unhide HB) hb)
  replace HA := hide ((unhide HA).below hb)
  have HP := hide (AtC2.new w3 (.string u) (.int .i64 q) 24)
  have a0 := ((unhide HA).alloc (.cells #[.string u, .int .i64 q] 24)).n0
  have a1 := ((unhide HA).alloc (.cells #[.string u, .int .i64 q] 24)).n1
  have hal := AtC2.lt (unhide HA)
  clear hb
  have HB3 := hide (step_a (unhide HB) (.cells #[.string u, .int .i64 q] 24))
  have HA3 := hide ((unhide HA).alloc (.cells #[.string u, .int .i64 q] 24))
  go_wp2_with fail
  refine (toTabPort_c t p (w3.alloc (.cells #[.string u, .int .i64 q] 24))).mono ?_
  rintro e w4 ⟨rfl, hb⟩
  replace HB := hide (step_b (unhide HB3) hb)
  replace HA := hide ((unhide HA3).below hb)
  replace HP := hide ((unhide HP).below hb)
  clear hb a0 a1 HB3 HA3
  go_wp2_with fail
  refine ((unhide HI) w4 (unhide HB)).mono ?_
  rintro e w5 ⟨rfl, hb⟩
  replace HB := hide (step_b (unhide HB) hb)
  replace HP := hide ((unhide HP).below hb)
  have p0 := ((unhide HP).alloc (.cells #[.string u, .int .i64 q] 24)).n0
  have p1 := ((unhide HP).alloc (.cells #[.string u, .int .i64 q] 24)).n1
  have hpl := AtC2.lt (unhide HP)
  have HB5 := hide (step_a (unhide HB) (.cells #[.string u, .int .i64 q] 24))
  clear hb
  have h1 : (s.toList != s.toList) = false := by simp
  go_wp2_with fail
  refine (eqTabPort_c u q _).mono ?_
  rintro e w6 ⟨rfl, hb⟩
  replace HB := hide (step_b (unhide HB5) hb)
  clear hb p0 p1 HP HB5
  go_wp2_with fail
  go_ret
  exact ⟨rfl, unhide HB⟩

set_option maxRecDepth 100000 in
set_option maxHeartbeats 2000000 in
theorem lawLine_main (t : ByteArray) (p : Int) (w : World) (ht : t.size ≤ maxLen) (s u : ByteArray) (q : Int) (k : Bool)
    (hspec : t.size ≤ 1048576 → ∀ W, Below w.heap.size w W → Calls Tryd.prog 10 #[.agg #[.string t, .int .i64 p]] W fun e w' => e = .returned (.tuple #[.string s, .agg #[.string u, .int .i64 q], .bool k]) ∧ Below W.heap.size W w')
    (himpl : t.size ≤ 1048576 → ∀ W, Below w.heap.size w W → Calls Tryd.prog 9 #[.agg #[.string t, .int .i64 p]] W fun e w' => e = .returned (.tuple #[.string s, .agg #[.string u, .int .i64 q], .bool k]) ∧ Below W.heap.size W w') :
    Calls Tryd.prog 5 #[.agg #[.string t, .int .i64 p]] w fun e w' => e = .returned (.bool true) ∧ Below w.heap.size w w' := by
  have HS := hide hspec
  have HI := hide himpl
  have HB := hide (step_a (Below.refl w.heap.size w) (.cells #[.string t, .int .i64 p] 31))
  have HA := hide (AtC2.new w (.string t) (.int .i64 p) 31)
  clear hspec himpl
  go_enter Tryd.func5, Tryd.ntmps5
  go_wp2_with fail
  refine (szTabPort_c t p _ ht).mono ?_
  rintro e w1 ⟨⟨r, rfl, hr⟩, hb⟩
  replace HB := hide (step_b (unhide HB) hb)
  replace HA := hide ((unhide HA).below hb)
  clear hb ht
  by_cases h0 : r < 0
  · clear hr
    go_wp2_with fail
    go_ret
    exact ⟨rfl, unhide HB⟩
  have hsm := hr (by omega)
  replace HS := hide ((unhide HS) hsm)
  replace HI := hide ((unhide HI) hsm)
  have a0 := (unhide HA).n0
  have a1 := (unhide HA).n1
  clear hr hsm
  go_wp2_with fail
  refine (toTabPort_c t p w1).mono ?_
  rintro e w2 ⟨rfl, hb⟩
  replace HB := hide (step_b (unhide HB) hb)
  replace HA := hide ((unhide HA).below hb)
  clear hb a0 a1
  go_wp2_with fail
  refine ((unhide HS) w2 (unhide HB)).mono ?_
  rintro e w3 ⟨rfl, hb⟩
  replace HB := hide (step_b (unhide HB) hb)
  replace HA := hide ((unhide HA).below hb)
  have HP := hide (AtC2.new w3 (.string u) (.int .i64 q) 24)
  have a0 := ((unhide HA).alloc (.cells #[.string u, .int .i64 q] 24)).n0
  have a1 := ((unhide HA).alloc (.cells #[.string u, .int .i64 q] 24)).n1
  have hal := AtC2.lt (unhide HA)
  clear hb
  have HB3 := hide (step_a (unhide HB) (.cells #[.string u, .int .i64 q] 24))
  have HA3 := hide ((unhide HA).alloc (.cells #[.string u, .int .i64 q] 24))
  go_wp2_with fail
  refine (toTabPort_c t p (w3.alloc (.cells #[.string u, .int .i64 q] 24))).mono ?_
  rintro e w4 ⟨rfl, hb⟩
  replace HB := hide (step_b (unhide HB3) hb)
  replace HA := hide ((unhide HA3).below hb)
  replace HP := hide ((unhide HP).below hb)
  clear hb a0 a1 HB3 HA3
  go_wp2_with fail
  refine ((unhide HI) w4 (unhide HB)).mono ?_
  rintro e w5 ⟨rfl, hb⟩
  replace HB := hide (step_b (unhide HB) hb)
  replace HP := hide ((unhide HP).below hb)
  have p0 := ((unhide HP).alloc (.cells #[.string u, .int .i64 q] 24)).n0
  have p1 := ((unhide HP).alloc (.cells #[.string u, .int .i64 q] 24)).n1
  have hpl := AtC2.lt (unhide HP)
  have HB5 := hide (step_a (unhide HB) (.cells #[.string u, .int .i64 q] 24))
  clear hb
  have h1 : (s.toList != s.toList) = false := by simp
  have h2 : (k != k) = false := by cases k <;> rfl
  go_wp2_with fail
  refine (eqTabPort_c u q _).mono ?_
  rintro e w6 ⟨rfl, hb⟩
  replace HB := hide (step_b (unhide HB5) hb)
  clear hb p0 p1 HP HB5
  go_wp2_with fail
  go_ret
  exact ⟨rfl, unhide HB⟩

/-- every port: at a place of its text, or nowhere -/
theorem place_of (t : ByteArray) (p : Int) : (¬ (0 ≤ p ∧ p ≤ t.size)) ∨ ∃ a : Nat, p = a ∧ a ≤ t.size := by
  by_cases h : 0 ≤ p ∧ p ≤ t.size
  · exact .inr ⟨p.toNat, by omega, by omega⟩
  · exact .inl h

theorem lawChar_c (t : ByteArray) (p : Int) (w : World) (ht : t.size ≤ maxLen) (hT : Tabs w) (h1 : 1 < w.heap.size) :
    Calls Tryd.prog 4 #[.agg #[.string t, .int .i64 p]] w fun e w' => e = .returned (.bool true) ∧ Below w.heap.size w w' := by
  rcases place_of t p with h | ⟨a, rfl, ha⟩
  · exact lawChar_main t p w ht _ _ _ (fun _ W _ => specChar_bad t p W h) (fun _ W _ => tabChar_bad t p W h)
  · rcases Nat.lt_or_ge a t.size with hl | hl
    · exact lawChar_main t a w ht _ _ _ (fun hs W _ => specChar_go t a W hs hl) (fun hs W hb => tabChar_ok t a W hs ha (hT.below h1 hb) (by have := hb.size; omega))
    · have he : a = t.size := by omega
      refine lawChar_main t a w ht _ _ _ (fun hs W _ => specChar_end t a W he) (fun hs W hb => ?_)
      have h := tabChar_ok t a W hs ha (hT.below h1 hb) (by have := hb.size; omega)
      have hbh := behind_le t a ha
      have e1 : behind t a = a := by omega
      rw [e1, empty_eq (s := t.extract a a) (by simp)] at h
      exact h

theorem lawLine_c (t : ByteArray) (p : Int) (w : World) (ht : t.size ≤ maxLen) (hT : Tabs w) (h1 : 1 < w.heap.size) :
    Calls Tryd.prog 5 #[.agg #[.string t, .int .i64 p]] w fun e w' => e = .returned (.bool true) ∧ Below w.heap.size w w' := by
  rcases place_of t p with h | ⟨a, rfl, ha⟩
  · exact lawLine_main t p w ht _ _ _ _ (fun _ W _ => specLine_bad t p W h) (fun _ W _ => tabLine_bad t p W h)
  · rcases Nat.lt_or_ge a t.size with hl | hl
    · obtain ⟨j, hj⟩ := isLine_ex t _ a ha rfl
      have hh := hj.hi
      exact lawLine_main t a w ht _ _ _ _ (fun hs W _ => specLine_go t a j W hs hl hj)
        (fun hs W hb => tabLine_ok t (t.extract a j) a (nxt t j) true W hs ha (by simp; omega) (hT.below h1 hb) (by have := hb.size; omega)
          (fun W' x b hR hx hxb hT' hb' => line_c x b a j t W' hs hl hj hR hx hxb hT' hb'))
    · have he : a = t.size := by omega
      exact lawLine_main t a w ht _ _ _ _ (fun _ W _ => specLine_end t a W he)
        (fun hs W hb => tabLine_ok t ⟨#[]⟩ a a false W hs ha (Nat.zero_le _) (hT.below h1 hb) (by have := hb.size; omega)
          (fun W' x b hR hx _ _ _ => (line_end x b a t W' he hR hx).mono (by
            rintro e w' ⟨rfl, hb2⟩
            exact ⟨rfl, hR.below hb2, Kept.of_below hb2⟩)))
end Go.Proofs.YtnenoaenjaghhaaDoor
namespace Go.Proofs.YtnenoaenjaghhaaDoor
open Go.ChangeShapes Go.WideShapes Go.ChangeAt Go.RowKit Go.Joins Nt

theorem own : ownKnob Tryd.prog.godebug = none := by kernel_rfl
theorem laidOut : laidOutB Tryd.prog = true := by kernel_rfl
theorem cellsPort : Tryd.prog.cellsOf 31 = 2 := by kernel_rfl
theorem u8X : Go.Proofs.U8Extra Tryd.prog Tryd.lays260_ren := ⟨by kernel_rfl, by kernel_rfl, by kernel_rfl, by kernel_rfl, by kernel_rfl, by kernel_rfl, by kernel_rfl⟩
theorem accept_eq : (Rows.laid_unicode_utf8_acceptRanges : DataW Unit) = Lib.acceptData := by kernel_rfl

/-- the two tables, out of the row's condition -/
theorem tabs_of_laid {W : World} (h : laidMet Tryd.prog Rows.fnExactTabLineRow.laid W) : Tabs W :=
  Go.Proofs.utf8Tabs_of_reads (ρ := Tryd.lays260_ren) Tryd.lays260 u8X (Pinned.utf8First_eq ▸ Lib.laidMet.reads h (.tail _ (.head _))) (accept_eq ▸ Lib.laidMet.reads h (.head _))

set_option maxRecDepth 100000 in
theorem port_lifted (os : Os) (started : os.Started) (H : Type) (enc : TypeId × Value → H) :
    ReturnsInHanded {} Tryd.checked os 5 .any (fun w args => (Rows.fnExactTabLineSpec.pre enc Tryd.prog Tryd.f5 [] false w args ∧ laidMetH Tryd.prog Rows.fnExactTabLineRow.laid w) ∧ sizedMet enc Tryd.prog Tryd.f5 (OpenSpec.ofChange Rows.fnExactTabLineSpec) false w args)
      (Rows.fnExactTabLineSpec.post enc Tryd.prog Tryd.f5 false true false false) := by
  refine returnsInHanded_of_change_and (C := Tryd.checked) (X := fun w _ => laidMetH Tryd.prog Rows.fnExactTabLineRow.laid w) (fun _ _ _ hh h => h.of_heap hh) own started (by kernel_rfl) Tryd.func5
    (ChangeSpec.witness_shaped (enc := enc) (C := Tryd.checked) (os := os) (X := fun w _ => laidMetH Tryd.prog Rows.fnExactTabLineRow.laid w) false (World.laidAll Tryd.prog os Rows.fnExactTabLineRow.laid) #[.agg #[.string ⟨#[]⟩, .int .i64 0]] 8 (World.laidAll_os _ _ _)
      (World.shaped_of_ZipB (by kernel_rfl) (by kernel_rfl)) (by kernel_rfl) (by kernel_rfl) (by kernel_rfl)
      (by rw [MakeChecks.laidMetH_plain _ _ _ (by kernel_rfl)]; exact laidMet_laidAll _ (by kernel_rfl) (by kernel_rfl))) ?_
  intro W base args ds gs before hval0 hW _ _ hL _
  have hval : ∀ (j : Nat) t v, Tryd.f5.params[j]? = some t → args[j]? = some v → Value.okWide Tryd.prog W .any base t v := hval0
  have hW' := hW
  obtain ⟨p, q, hA0, hV, rfl, _, _⟩ := hW
  have hA : DataW.TrodAll enc Tryd.prog W 0 (fun _ => true) true Tryd.f5.params.toList args.toList ds p := hA0
  rw [Tryd.params5] at hA hval
  obtain ⟨v0, d0, rfl, rfl, h0⟩ := trodAll_one hA
  obtain ⟨rfl, rfl⟩ := trodVars_none hV
  have k0 := h0
  have lt0 : ∀ x ∈ p, x.block < W.heap.size := by obtain ⟨m, hm⟩ := k0; exact DataW.trod_lt m _ _ _ hm
  obtain ⟨c0, c1, y0, y1, m, rfl, hd, hp, hy0, hy1⟩ := open_agg2 Tryd.underlying31 (by kernel_rfl) cellsPort (hval 0 31 v0 rfl rfl) h0
  obtain ⟨s, e0, rfl, hs⟩ := DataW.trod_string Tryd.underlying9 hy0
  obtain ⟨x, e1, rfl, wx⟩ := DataW.trod_int Tryd.underlying3 hy1
  simp at e0 e1
  subst e0 e1
  simp only [List.append_nil] at hW'
  rw [MakeChecks.laidMetH_plain _ _ _ (by kernel_rfl)] at hL
  have hT := tabs_of_laid hL
  have hg1 : 1 < W.heap.size := by
    have := (hT.2 0 (by omega)).1
    exact World.block_lt_of_cell? W ⟨1, _, none⟩ this
  refine (lawLine_c s x W hs hT hg1).mono fun e W' ⟨he, hb⟩ => ?_
  subst he
  exact ⟨_, rfl, _, _, _, [], _, [], hW', trodAll_mk1 (shut_bool Tryd.underlying4 _), trodAll_mk1 (Below.trod laidOut (by kernel_rfl) (of_decide_eq_true (by kernel_rfl)) k0 hb lt0), rfl, hb.frame _, fun h => by cases h⟩

theorem port_holds : Rows.FnExactTabLineSaid :=
  OpenClaim.holds_of_wide 5 Tryd.f5 rfl rfl rfl rfl rfl rfl rfl ⟨rfl, rfl, rfl, rfl, rfl⟩ rfl rfl rfl rfl rfl (by kernel_rfl) Tryd.func5 (by kernel_rfl)
    (of_decide_eq_true (by kernel_rfl)) (by unfold Func.isWrapper; first | (rw [if_pos (by decide +kernel)]; kernel_rfl) | (rw [if_neg (by decide +kernel)]; exact ⟨rfl, rfl⟩))
    (fun os started H enc _ => port_lifted os started H enc)
theorem fnExactTabLine_card : Rows.FnExactTabLineCardSaid :=
  Claim7.holds_tied_plain_at .later [] [.data, .pinned] true Rows.fnExactTabLineCard.stood.harness false port_holds (fun _ h => by cases h) (by kernel_rfl) (fun _ h => by cases h) fnExactTabLine_row_tie rfl ⟨rfl, rfl⟩ (by kernel_rfl) rfl
    (fun f fn hf hfn => by
      obtain rfl : f = 5 := Option.some.inj ((show Tryd.prog.funcNamed "loop.example/sistab/laws.FnExactTabLine" = some 5 by kernel_rfl).symm.trans hf) |>.symm
      obtain rfl : fn = Tryd.f5 := (Option.some.inj (Tryd.func5.symm.trans hfn)).symm
      exact ⟨by kernel_rfl, fun j t ht => by
        rw [Tryd.params5] at ht
        have hm : t ∈ [31] := by simpa using Array.mem_of_getElem? ht
        have hall : ([31].all fun u => !Tryd.prog.wantsStandIn u) = true := by kernel_rfl
        exact (show Tryd.prog.wantsStandIn t = false by simpa using List.all_eq_true.1 hall t hm)⟩)
    (by kernel_rfl)
#print axioms fnExactTabLine_card
end Go.Proofs.YtnenoaenjaghhaaDoor
