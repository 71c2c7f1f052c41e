/- A part of the proof, put together out of smaller texts: each piece says what it is for. -/
import Derived.Test.YtcnnicbaeicboaaDoorM4
import Derived.Deep.RegionHeld
import Derived.Deep.RegionLaw
import Derived.Deep.CutRange
import Derived.Deep.RegionHeldLaw
import Derived.Deep.AppendLies
import Derived.Deep.QuietTactic
namespace Go.Proofs.YtcnnicbaeicboaaDoor
open Go.RowKit Nt

theorem all_nd_step {ns : List Nd} {p : Nd → Bool} {j : Nat} {x : Nd} (h : ns[j]? = some x) : (ns.take (j + 1)).all p = ((ns.take j).all p && p x) := by
  rw [List.take_add_one, h]; simp
theorem far3y {w : World} {b : Nat} {u0 u1 u2 : Value} {a : Addr} (h : b ≠ a.block) : (((w.setCell ⟨b, 0, none⟩ u0).setCell ⟨b, 1, none⟩ u1).setCell ⟨b, 2, none⟩ u2).cell? a = w.cell? a := by
  rw [World.cell?_setCell_far _ _ _ _ h, World.cell?_setCell_far _ _ _ _ h, World.cell?_setCell_far _ _ _ _ h]
theorem minM_bad {d : Dt} (h : minOk d = false) : minM d = ([], []) := by unfold minM; rw [h]; rfl
theorem data_nil (w : World) : DataAt w (.agg #[.slice none 0 0, .slice none 0 0]) ([], []) :=
  ⟨_, _, rfl, ⟨none, 0, rfl, Nat.le_refl _, by unfold maxLen; omega, fun h => absurd h (by simp)⟩, ⟨none, 0, rfl, Nat.le_refl _, by unfold maxLen; omega, fun h => absurd h (by simp)⟩⟩

theorem AtC3.st2 {w : World} {b : Nat} {x y z : Value} {T : TypeId} (h : AtC3 w b x y z T) (u : Value) : AtC3 (w.setCell ⟨b, 2, none⟩ u) b x y u T := by
  show (w.heap.modify b _)[b]? = _
  rw [Array.getElem?_modify, if_pos rfl, show w.heap[b]? = _ from h]; rfl
theorem own_ne3 {w : World} {b base n size : Nat} {x y z kv : Value} {T e : TypeId} {xs : List Value} (h : AtC3 w b x y z T) (ho : w.ownsRow base e size kv n xs) (hne : e ≠ T) : kv.ownBlock ≠ some b := by
  unfold AtC3 at h
  rcases ho.2 with ⟨rfl, _⟩ | ⟨g1, c1, k1, rfl, _, hg1, _⟩
  · intro e; simp [Value.ownBlock] at e
  · intro e
    simp [Value.ownBlock] at e
    subst e
    rw [hg1] at h
    simp at h
    exact hne h.2
theorem AtC3.grown {w w' : World} {b : Nat} {x y z : Value} {T : TypeId} {row : Option Nat} (h : AtC3 w b x y z T) (hg : w.grownBy w' row) (hne : row ≠ some b) : AtC3 w' b x y z T :=
  (hg.block b h.lt (Ne.symm hne)).trans h

theorem AtC2.grown {w w' : World} {b : Nat} {x y : Value} {T : TypeId} {row : Option Nat} (h : AtC2 w b x y T) (hg : w.grownBy w' row) (hne : row ≠ some b) : AtC2 w' b x y T :=
  (hg.block b (Array.getElem?_eq_some_iff.1 h).1 (Ne.symm hne)).trans h
theorem own_nb {w : World} {base : Nat} {e : TypeId} {size : Nat} {v : Value} {n : Nat} {xs : List Value} (h : w.ownsRow base e size v n xs) {k : Nat} (hk : k < base) : v.ownBlock ≠ some k := by
  rcases h.2 with ⟨rfl, _⟩ | ⟨g, c, k1, rfl, hb, _⟩
  · intro e; simp [Value.ownBlock] at e
  · intro e
    simp [Value.ownBlock] at e
    omega
theorem RowN.far {w : World} {base : Nat} {v : Value} {ns : List Nd} {kvs : List Value} (h : RowN w base v ns kvs) {a : Addr} (ha : a.block < base) (u : Value) : RowN (w.setCell a u) base v ns kvs :=
  ⟨h.1, ownsRow_setCell_below h.2.1 ha u, fun j nd kv e1 e2 => ⟨(h.2.2 j nd kv e1 e2).1, ownsRow_setCell_below (h.2.2 j nd kv e1 e2).2 ha u⟩⟩

theorem RowN.kids_lt {w : World} {base : Nat} {v : Value} {ns : List Nd} {kvs : List Value} (h : RowN w base v ns kvs) : ∀ kv ∈ kvs, ∀ b, kv.ownBlock = some b → b < w.heap.size := by
  intro kv hm b hb
  obtain ⟨j, hj⟩ := List.getElem?_of_mem hm
  have hjl := (List.getElem?_eq_some_iff.1 hj).1
  have hl := h.1
  have ho := (h.2.2 j _ kv (List.getElem?_eq_getElem (show j < ns.length by omega)) hj).2
  rcases ho.2 with ⟨rfl, _⟩ | ⟨g, c, k1, rfl, _, hg, _⟩
  · simp [Value.ownBlock] at hb
  · simp [Value.ownBlock] at hb
    subst hb
    exact (Array.getElem?_eq_some_iff.1 hg).1
theorem RowN.grown {w w' : World} {base S n : Nat} {v rv : Value} {ns : List Nd} {kvs xs : List Value} (h : RowN w base v ns kvs) (hk : ∀ kv ∈ kvs, ∀ b, kv.ownBlock = some b → b < S)
    (ho : w.ownsRow S 3 1 rv n xs) (hg : w.grownBy w' rv.ownBlock) : RowN w' base v ns kvs := by
  refine ⟨h.1, h.2.1.kept hg (own_ne h.2.1 ho (by decide)), fun j nd kv e1 e2 => ⟨(h.2.2 j nd kv e1 e2).1, (h.2.2 j nd kv e1 e2).2.kept hg ?_⟩⟩
  cases e : kv.ownBlock with
  | none => exact .inl rfl
  | some b => exact .inr (fun e' => own_nb ho (hk kv (List.mem_of_getElem? e2) b e) e'.symm)

set_option maxRecDepth 100000 in
set_option maxHeartbeats 8000000 in
theorem specReadMin_c (d : Dt) (u : Value) (w : World) (h : DataAt w u d) (hsm : d.1.length ≤ 1048576 ∧ d.2.length ≤ 1048576 ∧ NsSmall d.1) :
    Calls Tryd.prog 26 #[u] w fun e W' => (∃ mn mr, e = .returned (.agg #[mn, mr]) ∧ DataAt W' (.agg #[mn, mr]) (minM d)) ∧ Below w.heap.size w W' := by
  obtain ⟨i0, hi, hz0, hz1, hz2⟩ := info_parts Tryd.infoInt
  obtain ⟨j0, hj, hy0, hy1, hy2⟩ := info_parts Tryd.infoNode
  obtain ⟨ns, rs⟩ := d
  obtain ⟨nv, rv, rfl, hn, hr⟩ := h
  simp only at hn hr hsm
  obtain ⟨an, cn, rfl, hn1, hn2⟩ := hn.form0
  obtain ⟨ar, cr, rfl, hr1, hr2⟩ := hr.form
  unfold maxLen at hn2 hr2
  obtain ⟨hs1, hs2, hs3⟩ := hsm
  have hb := step_a (step_a (Below.refl w.heap.size w) (.cells #[.slice an ns.length cn, .slice ar rs.length cr] 47)) (.cells #[.slice none 0 0, .slice none 0 0] 47)
  have HN := hide hn
  have HR := hide hr
  have HB := hide hb
  have HP := hide ((AtC2.new w (.slice an ns.length cn) (.slice ar rs.length cr) 47).alloc (.cells #[.slice none 0 0, .slice none 0 0] 47))
  have HQ := hide (AtC2.new (w.alloc (.cells #[.slice an ns.length cn, .slice ar rs.length cr] 47)) (.slice none 0 0) (.slice none 0 0) 47)
  rw [World.size_alloc] at HQ
  have HS3 := hide hs3
  clear hn hr hb hs3
  go_enter Tryd.func26, Tryd.ntmps26
  go_wp2
  -- are all nodes' kids as many as they should be, and places
  go_loopw [3] (fun iv' wr => ∃ i : Nat, i ≤ ns.length ∧ iv' = .int .i64 i ∧ Hid ((ns.take i).all (kidsOk · ns.length) = true) ∧ Hid (Below w.heap.size w wr) ∧ Hid (AtC2 wr w.heap.size (.slice an ns.length cn) (.slice ar rs.length cr) 47) ∧ Hid (AtC2 wr (w.heap.size + 1) (.slice none 0 0) (.slice none 0 0) 47))
    (fun iv' _ => ns.length - (intOf iv').toNat)
  case atStart => exact ⟨0, by omega, rfl, hide (by simp), HB, HP, HQ⟩
  case round =>
    clear HB HP HQ
    obtain ⟨i, hile, rfl, hall, HB, HP, HQ⟩ := hrel
    have p0 := (unhide HP).n0
    have p1 := (unhide HP).n1
    by_cases hil : i < ns.length
    · obtain ⟨nd, hnd⟩ : ∃ nd, ns[i]? = some nd := ⟨_, List.getElem?_eq_getElem hil⟩
      obtain ⟨b, off, rfl, hba⟩ := (unhide HN).addr (by omega)
      obtain ⟨kv, c0, c1, c2, htl, hk⟩ := ((unhide HN).below (unhide HB)).node hnd
      have HND := hide (⟨kv, rfl, htl, hk⟩ : NdAt wr (.agg #[.int .i64 nd.1, .string (B nd.2.1), kv]) nd)
      have hst := all_nd_step (p := (kidsOk · ns.length)) hnd
      rw [unhide hall, Bool.true_and] at hst
      have HST := hide hst
      have HMEM := hide (List.mem_of_getElem? hnd)
      clear hst hnd hk
      go_upto_region 4 with fail
      go_cut [28] from 19 to 28 (fun s wx => s = .bool (!kidsOk nd ns.length) ∧ Below wr.heap.size wr wx)
      case first =>
        go_region_held3 (fun w' => w'.cell? ⟨w.heap.size, 0, none⟩ = some (.slice (some ⟨b, off, none⟩) ns.length cn) ∧ w'.cell? ⟨b, off + i * 3, none⟩ = some (.int .i64 nd.1) ∧ w'.cell? ⟨b, off + i * 3 + 1, none⟩ = some (.string (B nd.2.1)) ∧ w'.cell? ⟨b, off + i * 3 + 2, none⟩ = some kv) (((try dsimp only); (repeat' apply And.intro) <;> (first | with_reducible assumption | exact p0 | exact c0 | exact c1 | exact c2))) ((go_at_call 69; refine (l12KidsOk_c _ nd ns.length wr.drew (by exact unhide HND) hs1).mono ?_; rintro e w5 ⟨rfl, hb5⟩; have HB5 : Hid (Below wr.heap.size wr w5) := (Below.refl wr.heap.size wr).drew.trans hb5; have q0 := ((unhide HP).below (unhide HB5)).n0; have d0 := (unhide HB5).cell (p := ⟨b, off + i * 3, none⟩) (World.block_lt_of_cell? _ _ c0); have d1 := (unhide HB5).cell (p := ⟨b, off + i * 3 + 1, none⟩) (World.block_lt_of_cell? _ _ c1); have d2 := (unhide HB5).cell (p := ⟨b, off + i * 3 + 2, none⟩) (World.block_lt_of_cell? _ _ c2); rw [c0] at d0; rw [c1] at d1; rw [c2] at d2; clear hb5))
        go_wp2_with fail
        go_meet
        exact ⟨rfl, unhide HB5⟩
      case rest =>
      obtain ⟨rfl, hbc⟩ := hcut
      rename World => w2
      have HB2 := hide (step_b (unhide HB) hbc)
      have HP2 := hide ((unhide HP).below hbc)
      have HQ2 := hide ((unhide HQ).below hbc)
      clear hbc HB HP HQ p0 p1 c0 c1 c2
      cases hko : kidsOk nd ns.length with
      | false =>
        have hbad : minOk (ns, rs) = false := by
          unfold minOk
          have : ns.all (kidsOk · ns.length) = false := by rw [List.all_eq_false]; exact ⟨nd, unhide HMEM, by simp [hko]⟩
          simp only [this, Bool.false_and]
        have HBAD := hide hbad
        have q0 := (unhide HQ2).n0
        have q1 := (unhide HQ2).n1
        have qf := (unhide HQ2).f
        clear hbad hko
        go_wp2
        refine bodyPost_ret (v := .agg #[.slice none 0 0, .slice none 0 0]) (by simp [results, Tryd.results26, go_sem, q0, q1]) rfl ⟨⟨_, _, rfl, by rw [minM_bad (unhide HBAD)]; exact data_nil _⟩, ?_⟩
        refine (unhide HB2).trans ?_
        repeat (first | exact Below.refl _ _ | refine Below.setCell ?_ (by first | exact Nat.le_refl _ | exact Nat.le_succ _ | (simp; done) | (simp; omega)) _ | refine Below.alloc ?_ (by first | exact Nat.le_refl _ | (simp; done) | (simp; omega)) _)
      | true =>
        have HKO := hide hko
        clear hko
        go_wp2
        go_roundw
        case rel => exact ⟨i + 1, by omega, by go_num, hide (by rw [unhide HST]; exact unhide HKO), HB2, HP2, HQ2⟩
        case measure => simp [intOf]; omega
    · have hie : i = ns.length := by omega
      subst hie
      have hall' := unhide hall
      rw [List.take_of_length_le (Nat.le_refl _)] at hall'
      have HALL := hide hall'
      have HKR := hide (kidsR_of hall')
      clear hall' hall
      go_wp2_with fail
      have h := l14Groups_c _ ns wr ((unhide HN).below (unhide HB)) hs1 (unhide HKR)
      refine h.mono ?_
      clear h
      rintro e w3 ⟨⟨gv, rfl, hown⟩, hb3⟩
      have hgi := own_ints_at hown (grp_len ns)
      obtain ⟨ag, cg, rfl, hg1, hg2⟩ := hgi.form
      rw [grp_len] at hg1 hgi
      rw [grp_len]
      unfold maxLen at hg2
      have HG := hide hgi
      have HB3 := hide (step_b (unhide HB) hb3)
      have HP3 := hide ((unhide HP).below hb3)
      have HQ3 := hide ((unhide HQ).below hb3)
      have HN3 := hide ((unhide HN).below (unhide HB3))
      clear hown hgi hb3 HB HP HQ p0 p1
      have HO0 := hide (World.ownsRow_made (base := w3.heap.size) (e := 3) (size := 1) w3 #[] 0 (Nat.le_refl _) (by decide) (by simp))
      have HB0 := hide (step_a (Below.refl w3.heap.size w3) (.cells #[] 3))
      go_wp2
      -- the roots, one by one
      go_loopw [5, 6] (fun ov jv wr => ∃ (j : Nat) (o : List Int), j ≤ rs.length ∧ jv = .int .i64 j ∧ Hid (o = (rs.take j).foldl (fun o r => walkM ns (grpM ns) (ns.length + 1) r o) []) ∧ Hid ((rs.take j).all (inR · ns.length) = true) ∧ Hid (wr.ownsRow w3.heap.size 3 1 ov o.length (iv o)) ∧ Hid (Below w3.heap.size w3 wr) ∧ Hid (InR ns.length o))
        (fun _ jv _ => rs.length - (intOf jv).toNat)
      case atStart => exact ⟨0, [], by omega, rfl, hide rfl, hide (by simp), HO0, HB0, hide (inr_nil _)⟩
      case round =>
        clear HO0 HB0
        obtain ⟨j, o, hjl, rfl, ho, hall, hown, hbl, hin⟩ := hrel
        have p0 := ((unhide HP3).below (unhide hbl)).n0
        have p1 := ((unhide HP3).below (unhide hbl)).n1
        by_cases hjlt : j < rs.length
        · obtain ⟨x, hx⟩ : ∃ x, rs[j]? = some x := ⟨_, List.getElem?_eq_getElem hjlt⟩
          obtain ⟨b, off, rfl, hb, hcw⟩ := (unhide HR).cell hx
          have hc := (step_b (unhide HB3) (unhide hbl)).cell (p := ⟨b, off + j, none⟩) hb
          rw [hcw] at hc
          have HCW := hide (And.intro hb hcw)
          clear hb hcw
          have hst := all_take_step (p := (inR · ns.length)) hx
          rw [unhide hall, Bool.true_and] at hst
          have hft : (rs.take (j + 1)).foldl (fun o r => walkM ns (grpM ns) (ns.length + 1) r o) [] = walkM ns (grpM ns) (ns.length + 1) x o := by
            rw [unhide ho]; exact foldl_take hx
          have HST := hide (And.intro hst hft)
          have HX := hide (List.mem_of_getElem? hx)
          clear hst hft hx
          go_upto_region 11 with fail
          go_cut [51] from 41 to 51 (fun s wx => s = .bool (!inR x ns.length) ∧ Below wr.heap.size wr wx)
          case first =>
            go_quiet ((go_at_call 71; exact Calls.quiet_of_same (l1In_c x ns.length _)))
            go_wp2_with fail
            go_meet
            exact ⟨rfl, below_drewN (Below.refl _ _) _⟩
          case rest =>
          obtain ⟨rfl, hbc⟩ := hcut
          rename World => w4
          have HB4 := hide (step_b (unhide hbl) hbc)
          have HO4 := hide (own_below (unhide hown) hbc)
          have hc4 := (step_b (unhide HB3) (unhide HB4)).cell (p := ⟨b, off + j, none⟩) (unhide HCW).1
          rw [(unhide HCW).2] at hc4
          clear hbc hbl hown p0 p1 hc
          cases hxr : inR x ns.length with
          | false =>
            have hbad : minOk (ns, rs) = false := by
              unfold minOk
              have : rs.all (inR · ns.length) = false := by rw [List.all_eq_false]; exact ⟨x, unhide HX, by simp [hxr]⟩
              simp only [this, Bool.and_false]
            have HBAD := hide hbad
            have HB2 := hide (step_b (unhide HB3) (unhide HB4))
            have q0 := ((unhide HQ3).below (unhide HB4)).n0
            have q1 := ((unhide HQ3).below (unhide HB4)).n1
            have qf := ((unhide HQ3).below (unhide HB4)).f
            clear hbad hxr
            go_wp2
            refine bodyPost_ret (v := .agg #[.slice none 0 0, .slice none 0 0]) (by simp [results, Tryd.results26, go_sem, q0, q1]) rfl ⟨⟨_, _, rfl, by rw [minM_bad (unhide HBAD)]; exact data_nil _⟩, ?_⟩
            refine (unhide HB2).trans ?_
            repeat (first | exact Below.refl _ _ | refine Below.setCell ?_ (by first | exact Nat.le_refl _ | exact Nat.le_succ _ | (simp; done) | (simp; omega)) _ | refine Below.alloc ?_ (by first | exact Nat.le_refl _ | (simp; done) | (simp; omega)) _)
          | true =>
            have hxr2 := inR_iff.1 hxr
            have hwk := walkM_ok (unhide HKR) (grp_ok ns) (ns.length + 1) x o hxr2.1 hxr2.2 (unhide hin)
            have HWK := hide hwk.1
            have HXR := hide hxr
            have HXR2 := hide hxr2
            clear hxr hxr2 hwk
            have p0 := ((unhide HP3).below (unhide HB4)).n0
            have p1 := ((unhide HP3).below (unhide HB4)).n1
            go_upto_region 13 with fail
            have HAW := hide (own_below (unhide HO4) (Below.refl w4.heap.size w4).drew)
            have HBW := hide (unhide HB4).drew
            go_region_held3 (fun w' => w'.cell? ⟨w.heap.size, 0, none⟩ = some (.slice an ns.length cn) ∧ w'.cell? ⟨w.heap.size, 1, none⟩ = some (.slice (some ⟨b, off, none⟩) rs.length cr) ∧ w'.cell? ⟨b, off + j, none⟩ = some (.int .i64 x)) (((try dsimp only); (repeat' apply And.intro) <;> (first | with_reducible assumption | exact p0 | exact p1 | exact hc4))) ((go_at_call 72; refine (l14Walk_c w3 _ _ ns (grpM ns) (unhide HN3) (by exact unhide HG) (grp_len ns) (unhide HKR) (grp_ok ns) hs1 (ns.length + 1) x o _ w4.drew (unhide HXR2).1 (unhide HXR2).2 (unhide hin) (by omega) (unhide HBW) (by exact unhide HAW)).mono ?_; rintro e w5 ⟨⟨ov5, rfl, hown5⟩, hb5⟩; have HO5 := hide hown5; have HB5 := hide hb5; have d0 := ((unhide HP3).below hb5).n0; have d1 := ((unhide HP3).below hb5).n1; have d2 := (step_b (unhide HB3) hb5).cell (p := ⟨b, off + j, none⟩) (unhide HCW).1; rw [(unhide HCW).2] at d2; clear hown5 hb5))
            clear d0 d1 d2 p0 p1 hc4
            go_wp2
            go_roundw
            case rel => exact ⟨j + 1, _, by omega, by go_num, hide (unhide HST).2.symm, hide (by rw [(unhide HST).1]; exact unhide HXR), HO5, HB5, HWK⟩
            case measure => simp [intOf]; omega
        · have hje : j = rs.length := by omega
          subst hje
          have hall' := unhide hall
          have ho' := unhide ho
          rw [List.take_of_length_le (Nat.le_refl _)] at hall' ho'
          have hok : minOk (ns, rs) = true := by
            unfold minOk
            simp only [unhide HALL, hall', Bool.and_self]
          have hom : o = ordM ns (grpM ns) rs := ho'
          have HM := hide (show minM (ns, rs) = (o.map (minNd ns (grpM ns) o), rs.map fun r => placeM o (gAt (grpM ns) r)) by
            unfold minM; rw [hok, if_pos rfl, hom])
          have HRR := hide (fun r (hm : r ∈ rs) => inR_iff.1 (List.all_eq_true.1 hall' r hm))
          clear hall' ho' hok hom hall ho
          obtain ⟨W5, hW5⟩ : ∃ W5, W5 = wr := ⟨_, rfl⟩
          subst hW5
          have hoi := owns_ints (unhide hown)
          obtain ⟨oa, oc, rfl, ho1, ho2⟩ := hoi.form
          unfold maxLen at ho2
          have HB5 := hide (step_b (unhide HB3) (unhide hbl))
          have HO5 := hide hoi
          have HN5 := hide ((unhide HN).below (unhide HB5))
          have HR5 := hide ((unhide HR).below (unhide HB5))
          have HG5 := hide ((unhide HG).below (unhide hbl))
          have HP5 := hide ((unhide HP3).below (unhide hbl))
          have HQ5 := hide ((unhide HQ3).below (unhide hbl))
          have hol := (unhide hin).len
          clear hoi hown hbl HN HR HG HP3 HQ3 HN3 HB3
          go_wp2
          have HX0 := hide (AtC2.new W5 (.slice none 0 0) (.slice none 0 0) 47)
          have HR0 : Hid (RowN (W5.alloc (.cells #[.slice none 0 0, .slice none 0 0] 47)) (W5.heap.size + 1) (.slice none 0 0) [] []) := ⟨rfl, World.ownsRow_nil _ _ _ _, fun j nd kv e => by simp at e⟩
          have HBX := hide (step_a (Below.refl W5.heap.size W5) (.cells #[.slice none 0 0, .slice none 0 0] 47))
          -- the nodes
          go_loopw [8] (fun iv' wr => ∃ (i : Nat) (nvv : Value) (kvs : List Value), i ≤ o.length ∧ iv' = .int .i64 i ∧ Hid (AtC2 wr W5.heap.size nvv (.slice none 0 0) 47) ∧ Hid (RowN wr (W5.heap.size + 1) nvv ((o.take i).map (minNd ns (grpM ns) o)) kvs) ∧ Hid (Below W5.heap.size W5 wr))
            (fun iv' _ => o.length - (intOf iv').toNat)
          case atStart => exact ⟨0, _, [], by omega, rfl, HX0, HR0, HBX⟩
          case round =>
            clear HX0 HR0 HBX p0 p1
            obtain ⟨i, nvv, kvs, hil, rfl, HX, HROW, HBW⟩ := hrel
            obtain ⟨Wi, hWi⟩ : ∃ Wi, Wi = wr := ⟨_, rfl⟩
            subst hWi
            have p0 := ((unhide HP5).below (unhide HBW)).n0
            have p1 := ((unhide HP5).below (unhide HBW)).n1
            by_cases hilt : i < o.length
            · obtain ⟨g, hgo⟩ : ∃ g, o[i]? = some g := ⟨_, List.getElem?_eq_getElem hilt⟩
              have hgr := (unhide hin).2 g (List.mem_of_getElem? hgo)
              obtain ⟨gn, rfl⟩ := Int.eq_ofNat_of_zero_le hgr.1
              have hgnl : gn < ns.length := by omega
              obtain ⟨nd, hnd⟩ : ∃ nd, ns[gn]? = some nd := ⟨_, List.getElem?_eq_getElem hgnl⟩
              obtain ⟨bo, oo, rfl, hbo, hco⟩ := ((unhide HO5).below (unhide HBW)).cell hgo
              obtain ⟨bn, on, rfl, hbn⟩ := (unhide HN5).addr (by omega)
              obtain ⟨kv0, c0, c1, c2, htl, hkk⟩ := ((unhide HN5).below (unhide HBW)).node hnd
              obtain ⟨ka, kc, rfl, hkc1, hkc2⟩ := hkk.form
              unfold maxLen at hkc2
              have hmk : minNd ns (grpM ns) o (gn : Int) = (nd.1, nd.2.1, nd.2.2.map fun k => placeM o (gAt (grpM ns) k)) := by
                unfold minNd; rw [Int.toNat_natCast, ndAt_get hnd]
              have HMK := hide (And.intro hmk hgo)
              have HND := hide hnd
              have HTL := hide htl
              have HKR2 := hide ((unhide HKR) nd (List.mem_of_getElem? hnd))
              have HCI := hide (And.intro c2 hkk)
              have hkl : nd.2.2.length ≤ 1048576 := ((unhide HS3) nd (List.mem_of_getElem? hnd)).2
              clear hmk hgo hnd htl hkk
              go_upto_region 18 with fail
              go_cut [9] from 70 to 88 (fun s wx => ∃ gb, s = .pointer (some ⟨gb, 0, none⟩) ∧ AtC3 wx gb (.int .i64 nd.1) (.string (B nd.2.1)) (.slice none 0 0) 93 ∧ Below Wi.heap.size Wi wx ∧ Wi.heap.size ≤ gb)
              case first =>
                have HAL := hide (step_a (Below.refl Wi.heap.size Wi) (.cells #[.int .i64 0, .string ⟨#[]⟩, .slice none 0 0] 93)).drew
                have l0 := World.block_lt_of_cell? _ _ p0
                have l1 := World.block_lt_of_cell? _ _ hco
                have l2 := World.block_lt_of_cell? _ _ c0
                simp only at l0 l1 l2
                have y0 := ((unhide HAL).cell (p := ⟨w.heap.size, 0, none⟩) l0).trans p0
                have y1 := ((unhide HAL).cell (p := ⟨bo, oo + i, none⟩) l1).trans hco
                have y2 := ((unhide HAL).cell (p := ⟨bn, on + gn * 3, none⟩) l2).trans c0
                have y3 := ((unhide HAL).cell (p := ⟨bn, on + gn * 3 + 1, none⟩) l2).trans c1
                have HAZ := hide (step_a (Below.refl Wi.heap.size Wi) (.cells #[.int .i64 nd.1, .string (B nd.2.1), .slice none 0 0] 93)).drew
                have z0 := ((unhide HAZ).cell (p := ⟨w.heap.size, 0, none⟩) l0).trans p0
                have z1 := ((unhide HAZ).cell (p := ⟨bo, oo + i, none⟩) l1).trans hco
                have z2 := ((unhide HAZ).cell (p := ⟨bn, on + gn * 3, none⟩) l2).trans c0
                have z3 := ((unhide HAZ).cell (p := ⟨bn, on + gn * 3 + 1, none⟩) l2).trans c1
                go_region_held3 (fun w' => w'.cell? ⟨w.heap.size, 0, none⟩ = some (.slice (some ⟨bn, on, none⟩) ns.length cn) ∧ w'.cell? ⟨bo, oo + i, none⟩ = some (.int .i64 (gn : Int)) ∧ w'.cell? ⟨bn, on + gn * 3, none⟩ = some (.int .i64 nd.1) ∧ w'.cell? ⟨bn, on + gn * 3 + 1, none⟩ = some (.string (B nd.2.1))) (((try dsimp only); (repeat' apply And.intro) <;> (first | with_reducible assumption | exact p0 | exact hco | exact c0 | exact c1 | with_reducible exact y0 | with_reducible exact y1 | with_reducible exact y2 | with_reducible exact y3 | with_reducible exact z0 | with_reducible exact z1 | with_reducible exact z2 | with_reducible exact z3))) (fail)
                go_wp2_with fail
                go_meet
                exact ⟨Wi.heap.size, rfl, AtC3.new Wi _ _ _ _, unhide HAZ, Nat.le_refl _⟩
              case rest =>
              obtain ⟨gb, rfl, hgb, hbc, hgbl⟩ := hcut
              rename World => w6
              have HGB := hide hgb
              have HGBL := hide hgbl
              have HB6 := hide hbc
              have HM0 := hide (World.ownsRow_nil w6 Wi.heap.size 3 1)
              clear hgb hbc p0 p1 hco c0 c1 c2
              have hml : (nd.2.2.map fun k => placeM o (gAt (grpM ns) k)).length = nd.2.2.length := by simp
              obtain ⟨mk, hmkd⟩ : ∃ mk, mk = nd.2.2.map fun k => placeM o (gAt (grpM ns) k) := ⟨_, rfl⟩
              rw [← hmkd] at hml
              have HMKD := hide hmkd
              clear hmkd
              go_wp2
              -- its kids
              go_loopw [10] (fun kv' wr => ∃ (k : Nat) (kv : Value), k ≤ nd.2.2.length ∧ kv' = .int .i64 k ∧ Hid (AtC3 wr gb (.int .i64 nd.1) (.string (B nd.2.1)) kv 93) ∧ Hid (wr.ownsRow Wi.heap.size 3 1 kv k (iv (mk.take k))) ∧ Hid (Below Wi.heap.size Wi wr))
                (fun kv' _ => nd.2.2.length - (intOf kv').toNat)
              case atStart => exact ⟨0, _, by omega, rfl, HGB, hide (by simpa [iv] using unhide HM0), HB6⟩
              case round =>
                clear HGB HM0 HB6
                obtain ⟨k, kv, hkle, rfl, HGB, HKV, HBK⟩ := hrel
                obtain ⟨Wk, hWk⟩ : ∃ Wk, Wk = wr := ⟨_, rfl⟩
                subst hWk
                have HB5k := hide ((unhide HBW).trans ((unhide HBK).mono (unhide HBW).size))
                have p0 := ((unhide HP5).below (unhide HB5k)).n0
                have hco' := ((unhide HO5).below (unhide HB5k)).cell (unhide HMK).2
                obtain ⟨bo', oo', eo, hbo', hco⟩ := hco'
                injection eo with eo
                injection eo with eo1 eo2
                subst eo1 eo2
                have c2 := ((unhide HBK).cell (p := ⟨bn, on + gn * 3 + 2, none⟩) (World.block_lt_of_cell? _ _ (unhide HCI).1)).trans (unhide HCI).1
                have e3 := (unhide HGB).n2
                have gbf := (unhide HGB).f
                have gbl := (unhide HGB).lt
                by_cases hklt : k < nd.2.2.length
                · obtain ⟨x, hx⟩ : ∃ x, nd.2.2[k]? = some x := ⟨_, List.getElem?_eq_getElem hklt⟩
                  have hxr := (unhide HKR2) x (List.mem_of_getElem? hx)
                  obtain ⟨bk, ok, rfl, hbk, hck⟩ := ((unhide HCI).2.below (unhide HBK)).cell hx
                  have hgx := gAt_get (g := grpM ns) hxr.1 (by rw [grp_len]; exact hxr.2)
                  obtain ⟨bg, og, rfl, hbg, hcg⟩ := ((unhide HG5).below (unhide HB5k)).cell hgx
                  have hxr1 := hxr.1
                  have hxr2 := hxr.2
                  have hplace : mk[k]? = some (placeM o (gAt (grpM ns) x)) := by rw [unhide HMKD]; simp [hx]
                  have HPL := hide (show mk.take (k + 1) = mk.take k ++ [placeM o (gAt (grpM ns) x)] by rw [List.take_add_one, hplace]; rfl)
                  have HO9 := hide ((unhide HO5).below (unhide HB5k))
                  obtain ⟨gx, hgxe⟩ : ∃ gx, gAt (grpM ns) x = gx := ⟨_, rfl⟩
                  rw [hgxe] at hcg HPL
                  clear hx hxr hgx hplace hgxe
                  go_upto_region 20 with fail
                  go_cut [100] from 89 to 100 (fun s wx => s = .bool true ∧ Below Wk.heap.size Wk wx)
                  case first =>
                    go_quiet (fail)
                    go_wp2_with fail
                    go_meet
                    exact ⟨rfl, below_drewN (Below.refl _ _) _⟩
                  case rest =>
                  obtain ⟨rfl, hb7⟩ := hcut
                  rename World => w7
                  have b0 := World.block_lt_of_cell? _ _ p0
                  have b1 := World.block_lt_of_cell? _ _ hco
                  have b2 := World.block_lt_of_cell? _ _ c2
                  have b3 := World.block_lt_of_cell? _ _ hck
                  have b4 := World.block_lt_of_cell? _ _ hcg
                  have b5 := World.block_lt_of_cell? _ _ e3
                  simp only at b0 b1 b2 b3 b4 b5
                  have HS6 := hide (fun (W : World) (hW : Below Wk.heap.size Wk W) => (⟨(hW.cell (p := ⟨w.heap.size, 0, none⟩) b0).trans p0, (hW.cell (p := ⟨bo, oo + i, none⟩) b1).trans hco, (hW.cell (p := ⟨bn, on + gn * 3 + 2, none⟩) b2).trans c2, (hW.cell (p := ⟨bk, ok + k, none⟩) b3).trans hck, (hW.cell (p := ⟨bg, og + x.toNat, none⟩) b4).trans hcg, (hW.cell (p := ⟨gb, 2, none⟩) b5).trans e3⟩ : W.cell? ⟨w.heap.size, 0, none⟩ = some (.slice (some ⟨bn, on, none⟩) ns.length cn) ∧ W.cell? ⟨bo, oo + i, none⟩ = some (.int .i64 (gn : Int)) ∧ W.cell? ⟨bn, on + gn * 3 + 2, none⟩ = some (.slice (some ⟨bk, ok, none⟩) nd.2.2.length kc) ∧ W.cell? ⟨bk, ok + k, none⟩ = some (.int .i64 x) ∧ W.cell? ⟨bg, og + x.toNat, none⟩ = some (.int .i64 gx) ∧ W.cell? ⟨gb, 2, none⟩ = some kv))
                  have HBI := hide hb7
                  obtain ⟨f0, f1, f2, f3, f4, f5⟩ := (unhide HS6) w7 hb7
                  have HO7 := hide (((unhide HO9).below hb7).below (Below.refl _ _).drew)
                  clear p0 hco c2 hck hcg e3 hb7 gbf
                  go_wp2_with fail
                  go_region_law (first | ((refine step_append_lies _ (by rfl) _ _ _ (by rfl) Wi.heap.size 3 i0 (.int .i64 0) 1 8 Tryd.underlying41 hi hz0 hz1 hz2 rfl (by decide) kv k (iv (mk.take k)) (by rfl) ((own_below (unhide HKV) (unhide HB8)).alloc _) ⟨w8.heap.size, 0, none⟩ 1 1 [.int .i64 (placeM o gx)] (by rfl) (by rfl) (World.news_of_block (cs := #[.int .i64 (placeM o gx)]) (t := 3) (fr := (0, 0)) (heap_alloc_new w8 _)) (by simp [Value.oneCell']) (by omega) (by unfold maxLen; omega) (by omega) (by have := (unhide HB8).size; have := (unhide HBK).size; simp; omega) (w8.heap.size + 1) (by simp) ?_; intro gg cap w9 hown9 hgrow9 hat hlt9; have q8 := step_a (unhide HB8) (.cells #[.int .i64 (placeM o gx)] 3); have A9 := AtC3.grown ((unhide HGB).below q8) hgrow9 (own_ne3 (unhide HGB) (unhide HKV) (by decide)); have e9 := A9.n2; have g9 := A9.f 2; have HX9 := hide (A9.st2 (.slice (some ⟨gg, 0, none⟩) (k + 1) cap)); have HV9 := hide (own_s1 (i := 2) (u := .slice (some ⟨gg, 0, none⟩) (k + 1) cap) hown9 (own_ne3 A9 hown9 (by decide))); have HBL9 := hide ((below_grown (step_b (unhide HBK) q8) (own_below (unhide HKV) q8) hgrow9 (step_b (unhide HBK) q8).size).setCell (p := ⟨gb, 2, none⟩) (unhide HGBL) (.slice (some ⟨gg, 0, none⟩) (k + 1) cap)); clear hown9 hgrow9 hat hlt9 q8 A9)) | (go_simp; go_at_call 73; refine (l14Place_c _ o gx w7.drew (by exact unhide HO7)).mono ?_; rintro e w8 ⟨rfl, hb8⟩; have HB8 : Hid (Below Wk.heap.size Wk w8) := hide (step_b (unhide HBI).drew hb8); have h80 := (unhide HS6) w8 (unhide HB8); have h85 := h80.2.2.2.2.2; have h8a := ((unhide HS6) (w8.alloc (.cells #[.int .i64 (placeM o gx)] 3)) (step_a (unhide HB8) _)).2.2.2.2.2; clear hb8; (try dsimp only)))
                  all_goals go_wp2
                  all_goals go_roundw
                  all_goals (first | (refine ⟨k + 1, _, by omega, by go_num, HX9, hide (by rw [unhide HPL]; simpa [iv] using unhide HV9), HBL9⟩) | (simp [intOf]; omega))
                · have hke : k = nd.2.2.length := by omega
                  subst hke
                  have e0 := (unhide HGB).n0
                  have e1 := (unhide HGB).n1
                  have HKV2 : Hid (Wk.ownsRow Wi.heap.size 3 1 kv nd.2.2.length (iv mk)) := hide (by have := unhide HKV; rwa [List.take_of_length_le (by omega)] at this)
                  have p0 := ((unhide HP5).below (unhide HB5k)).n0
                  go_upto_region 20 with fail
                  go_cut [100] from 89 to 100 (fun s wx => s = .bool false ∧ Below Wk.heap.size Wk wx)
                  case first =>
                    go_quiet (fail)
                    go_wp2_with fail
                    go_meet
                    exact ⟨rfl, below_drewN (Below.refl _ _) _⟩
                  case rest =>
                  obtain ⟨rfl, hb7⟩ := hcut
                  rename World => w7
                  have HX7 := hide ((unhide HX).below ((unhide HBK).trans (hb7.mono (unhide HBK).size)))
                  have HR7 := hide ((unhide HROW).below ((unhide HBK).trans (hb7.mono (unhide HBK).size)))
                  have HK7 := hide (own_below (unhide HKV2) hb7)
                  have HG7 := hide ((unhide HGB).below hb7)
                  have HBW7 := hide (step_b (unhide HBW) ((unhide HBK).trans (hb7.mono (unhide HBK).size)))
                  have p0 := (unhide HX7).n0
                  have e0 := (unhide HG7).n0
                  have e1 := (unhide HG7).n1
                  have e2 := (unhide HG7).n2
                  have hln : ((o.take i).map (minNd ns (grpM ns) o)).length = i := by simp; omega
                  have hmk' : minNd ns (grpM ns) o (gn : Int) = (nd.1, nd.2.1, mk) := by rw [(unhide HMK).1, unhide HMKD]
                  have HTK := hide (show (o.take (i + 1)).map (minNd ns (grpM ns) o) = (o.take i).map (minNd ns (grpM ns) o) ++ [(nd.1, nd.2.1, mk)] by rw [List.take_add_one, (unhide HMK).2]; simp [hmk'])
                  have HML := hide hml
                  have hsz7 := (unhide HX7).lt
                  have HR8 := hide ((unhide HR7).below (step_a (Below.refl w7.heap.size w7) (.cells #[.int .i64 nd.1, .string (B nd.2.1), kv] 93)))
                  have HX8 := hide ((unhide HX7).alloc (.cells #[.int .i64 nd.1, .string (B nd.2.1), kv] 93))
                  have kvOne : kv.oneCell' = true := by rcases (unhide HK7).2 with ⟨rfl, _⟩ | ⟨g, c, k1, rfl, _⟩ <;> rfl
                  clear hmk' hml
                  go_wp2_with (at_builtin; refine wpList_append_lies _ rfl (.tmp 126) (.tmp 128) 45 rfl (W5.heap.size + 1) 93 j0 (.agg #[.int .i64 0, .string ⟨#[]⟩, .slice none 0 0]) 3 48 Tryd.underlying45 hj hy0 hy1 hy2 rfl (by decide) nvv ((o.take i).map (minNd ns (grpM ns) o)).length (flatN ((o.take i).map (minNd ns (grpM ns) o)) kvs) rfl (unhide HR8).2.1 ⟨w7.heap.size, 0, none⟩ 1 1 (nd3 (nd.1, nd.2.1, mk) kv) rfl rfl (World.news_of_block (cs := #[.int .i64 nd.1, .string (B nd.2.1), kv]) (t := 93) (fr := (0, 0)) (heap_alloc_new w7 _)) (by intro u hu; simp [nd3] at hu; rcases hu with rfl | rfl | rfl <;> first | rfl | exact kvOne) (by decide) (by rw [hln]; unfold maxLen; omega) (by rw [hln]; omega) (by simp; omega) _ rfl ?_; intro gg cap w2 hown2 hg2 hat hlt; clear hat hlt; have hx2 := (unhide HX8).grown hg2 (own_nb (unhide HR8).2.1 (Nat.lt_succ_self _)); have px := hx2.n0; have fx := hx2.f; have HX2 := hide (hx2.st0 (.slice (some ⟨gg, 0, none⟩) (((o.take i).map (minNd ns (grpM ns) o)).length + 1) cap)); clear hx2)
                  have HR2 := hide ((RowN.push (unhide HR8) (nd := (nd.1, nd.2.1, mk)) (unhide HTL) (by rw [unhide HML]; exact own_base (own_below (unhide HK7) (step_a (Below.refl w7.heap.size w7) (.cells #[.int .i64 nd.1, .string (B nd.2.1), kv] 93))) (unhide HX).lt) hown2 hg2).far (a := ⟨W5.heap.size, 0, none⟩) (Nat.lt_succ_self _) (.slice (some ⟨gg, 0, none⟩) (((o.take i).map (minNd ns (grpM ns) o)).length + 1) cap))
                  have HB2 := hide ((below_grown (step_a (unhide HBW7) (.cells #[.int .i64 nd.1, .string (B nd.2.1), kv] 93)) (own_base (unhide HR8).2.1 (Nat.le_succ _)) hg2 (by simp; omega)).setCell (p := ⟨W5.heap.size, 0, none⟩) (Nat.le_refl _) (.slice (some ⟨gg, 0, none⟩) (((o.take i).map (minNd ns (grpM ns) o)).length + 1) cap))
                  clear hown2 hg2
                  rw [hln] at HX2 HR2 HB2
                  go_wp2
                  go_roundw
                  case rel => exact ⟨i + 1, _, kvs ++ [kv], by omega, by go_num, HX2, hide (by rw [unhide HTK]; exact unhide HR2), HB2⟩
                  case measure => simp [intOf]; omega
            · have hie : i = o.length := by omega
              subst hie
              have HROWf : Hid (RowN Wi (W5.heap.size + 1) nvv (o.map (minNd ns (grpM ns) o)) kvs) := hide (by have := unhide HROW; rwa [List.take_of_length_le (Nat.le_refl _)] at this)
              have HKL := hide (unhide HROWf).kids_lt
              have HR0 := hide (World.ownsRow_nil Wi Wi.heap.size 3 1)
              have hWi := (unhide HX).lt
              obtain ⟨pr, hprd⟩ : ∃ pr, pr = rs.map fun r => placeM o (gAt (grpM ns) r) := ⟨_, rfl⟩
              rw [← hprd] at HM
              have hpl : pr.length = rs.length := by simp [hprd]
              have HPRD := hide hprd
              clear hprd HROW
              go_wp2
              -- the roots
              go_loopw [11] (fun jv' wr => ∃ (j : Nat) (rv : Value), j ≤ rs.length ∧ jv' = .int .i64 j ∧ Hid (AtC2 wr W5.heap.size nvv rv 47) ∧ Hid (RowN wr (W5.heap.size + 1) nvv (o.map (minNd ns (grpM ns) o)) kvs) ∧ Hid (wr.ownsRow Wi.heap.size 3 1 rv j (iv (pr.take j))) ∧ Hid (Below W5.heap.size W5 wr) ∧ Wi.heap.size ≤ wr.heap.size)
                (fun jv' _ => rs.length - (intOf jv').toNat)
              case atStart => exact ⟨0, _, by omega, rfl, HX, HROWf, hide (by simpa [iv] using unhide HR0), HBW, Nat.le_refl _⟩
              case round =>
                clear HX HROWf HBW HR0 p0 p1
                obtain ⟨j, rv, hjl, rfl, HX, HROW, HRV, HBJ, hWj⟩ := hrel
                obtain ⟨Wj, hWj'⟩ : ∃ Wj, Wj = wr := ⟨_, rfl⟩
                subst hWj'
                have p0 := ((unhide HP5).below (unhide HBJ)).n0
                have p1 := ((unhide HP5).below (unhide HBJ)).n1
                have e1 := (unhide HX).n1
                by_cases hjlt : j < rs.length
                · obtain ⟨x, hx⟩ : ∃ x, rs[j]? = some x := ⟨_, List.getElem?_eq_getElem hjlt⟩
                  have hxr := (unhide HRR) x (List.mem_of_getElem? hx)
                  obtain ⟨bk, ok, rfl, hbk, hck⟩ := ((unhide HR5).below (unhide HBJ)).cell hx
                  have hgx := gAt_get (g := grpM ns) hxr.1 (by rw [grp_len]; exact hxr.2)
                  obtain ⟨bg, og, rfl, hbg, hcg⟩ := ((unhide HG5).below (unhide HBJ)).cell hgx
                  have hxr1 := hxr.1
                  have hxr2 := hxr.2
                  have hplace : pr[j]? = some (placeM o (gAt (grpM ns) x)) := by rw [unhide HPRD]; simp [hx]
                  have HPL := hide (show pr.take (j + 1) = pr.take j ++ [placeM o (gAt (grpM ns) x)] by rw [List.take_add_one, hplace]; rfl)
                  have HO7 := hide (((unhide HO5).below (unhide HBJ)).below (Below.refl _ _).drew)
                  obtain ⟨gx, hgxe⟩ : ∃ gx, gAt (grpM ns) x = gx := ⟨_, rfl⟩
                  rw [hgxe] at hcg HPL
                  have b1 := World.block_lt_of_cell? _ _ p1
                  have b3 := World.block_lt_of_cell? _ _ hck
                  have b4 := World.block_lt_of_cell? _ _ hcg
                  have b5 := World.block_lt_of_cell? _ _ e1
                  simp only at b1 b3 b4 b5
                  have HS6 := hide (fun (W : World) (hW : Below Wj.heap.size Wj W) => (⟨(hW.cell (p := ⟨w.heap.size, 1, none⟩) b1).trans p1, (hW.cell (p := ⟨bk, ok + j, none⟩) b3).trans hck, (hW.cell (p := ⟨bg, og + x.toNat, none⟩) b4).trans hcg, (hW.cell (p := ⟨W5.heap.size, 1, none⟩) b5).trans e1⟩ : W.cell? ⟨w.heap.size, 1, none⟩ = some (.slice (some ⟨bk, ok, none⟩) rs.length cr) ∧ W.cell? ⟨bk, ok + j, none⟩ = some (.int .i64 x) ∧ W.cell? ⟨bg, og + x.toNat, none⟩ = some (.int .i64 gx) ∧ W.cell? ⟨W5.heap.size, 1, none⟩ = some rv))
                  have HWI := hide hWi
                  have HWJ := hide hWj
                  clear hx hxr hgx hplace hgxe b1 b3 b4 b5 p0 hWi hWj
                  go_upto_region 27 with fail
                  go_region_law (first | ((refine step_append_lies _ (by rfl) _ _ _ (by rfl) Wi.heap.size 3 i0 (.int .i64 0) 1 8 Tryd.underlying41 hi hz0 hz1 hz2 rfl (by decide) rv j (iv (pr.take j)) (by rfl) ((own_below (unhide HRV) (unhide HB8)).alloc _) ⟨w8.heap.size, 0, none⟩ 1 1 [.int .i64 (placeM o gx)] (by rfl) (by rfl) (World.news_of_block (cs := #[.int .i64 (placeM o gx)]) (t := 3) (fr := (0, 0)) (heap_alloc_new w8 _)) (by simp [Value.oneCell']) (by omega) (by unfold maxLen; omega) (by omega) (by have := (unhide HB8).size; have := unhide HWJ; simp; omega) (w8.heap.size + 1) (by simp) ?_; intro gg cap w9 hown9 hgrow9 hat hlt9; have q8 := step_a (unhide HB8) (.cells #[.int .i64 (placeM o gx)] 3); have A9 := AtC2.grown ((unhide HX).below q8) hgrow9 (own_nb (unhide HRV) (unhide HWI)); have e9 := A9.n1; have g9 := A9.f 1; have HX9 := hide (A9.st1 (.slice (some ⟨gg, 0, none⟩) (j + 1) cap)); have HV9 := hide (own_s1 (i := 1) (u := .slice (some ⟨gg, 0, none⟩) (j + 1) cap) hown9 (own_nb hown9 (unhide HWI))); have HR9 := hide ((RowN.grown ((unhide HROW).below q8) (unhide HKL) (own_below (unhide HRV) q8) hgrow9).far (a := ⟨W5.heap.size, 1, none⟩) (Nat.lt_succ_self _) (.slice (some ⟨gg, 0, none⟩) (j + 1) cap)); have HBL9 := hide ((below_grown (step_b (unhide HBJ) q8) (own_base (own_below (unhide HRV) q8) (Nat.le_of_lt (unhide HWI))) hgrow9 (step_b (unhide HBJ) q8).size).setCell (p := ⟨W5.heap.size, 1, none⟩) (Nat.le_refl _) (.slice (some ⟨gg, 0, none⟩) (j + 1) cap)); have HW9 : Hid (Wi.heap.size ≤ (w9.setCell ⟨W5.heap.size, 1, none⟩ (.slice (some ⟨gg, 0, none⟩) (j + 1) cap)).heap.size) := hide (by have h1 := hgrow9.size; have h2 := q8.size; have h3 := unhide HWJ; simp at h1 h2 ⊢; omega); clear hown9 hgrow9 hat hlt9 q8 A9)) | (go_simp; go_at_call 73; refine (l14Place_c _ o gx Wj.drew (by exact unhide HO7)).mono ?_; rintro e w8 ⟨rfl, hb8⟩; have HB8 : Hid (Below Wj.heap.size Wj w8) := hide (step_b (Below.refl _ _).drew hb8); have h80 := (unhide HS6) w8 (unhide HB8); have h85 := h80.2.2.2; have h8a := ((unhide HS6) (w8.alloc (.cells #[.int .i64 (placeM o gx)] 3)) (step_a (unhide HB8) _)).2.2.2; clear hb8; (try dsimp only)))
                  all_goals go_wp2
                  all_goals go_roundw
                  all_goals (first | (refine ⟨j + 1, _, by omega, by go_num, HX9, HR9, hide (by rw [unhide HPL]; simpa [iv] using unhide HV9), HBL9, unhide HW9⟩) | (simp [intOf]; omega))
                · have hje : j = rs.length := by omega
                  subst hje
                  have e0 := (unhide HX).n0
                  have hqj := (unhide HQ5).below (unhide HBJ)
                  have q0 := hqj.n0
                  have q1 := hqj.n1
                  have qf := hqj.f
                  have HQJ := hide hqj
                  have hrv := unhide HRV
                  rw [List.take_of_length_le (by omega)] at hrv
                  have HRV2 : Hid (Wj.ownsRow Wi.heap.size 3 1 rv pr.length (iv pr)) := hide (by rw [hpl]; exact hrv)
                  clear hqj hrv HRV
                  obtain ⟨a1, n1, c1, rfl⟩ : ∃ a1 n1 c1, nvv = .slice a1 n1 c1 := by rcases (unhide HROW).2.1.2 with ⟨rfl, _⟩ | ⟨g, c, k, rfl, _⟩ <;> exact ⟨_, _, _, rfl⟩
                  obtain ⟨a2, n2, c2, rfl⟩ : ∃ a2 n2 c2, rv = .slice a2 n2 c2 := by rcases (unhide HRV2).2 with ⟨rfl, _⟩ | ⟨g, c, k, rfl, _⟩ <;> exact ⟨_, _, _, rfl⟩
                  have hq5 := (unhide HQ5).lt
                  have HBF := hide (((step_b (unhide HB5) (unhide HBJ)).setCell (p := ⟨w.heap.size + 1, 0, none⟩) (Nat.le_succ _) (.slice a1 n1 c1)).setCell (p := ⟨w.heap.size + 1, 1, none⟩) (Nat.le_succ _) (.slice a2 n2 c2))
                  have HRF := hide (((unhide HROW).far (a := ⟨w.heap.size + 1, 0, none⟩) (by show w.heap.size + 1 < _; omega) (.slice a1 n1 c1)).far (a := ⟨w.heap.size + 1, 1, none⟩) (by show w.heap.size + 1 < _; omega) (.slice a2 n2 c2))
                  have HIF := hide (owns_ints (ownsRow_setCell_below (ownsRow_setCell_below (unhide HRV2) (a := ⟨w.heap.size + 1, 0, none⟩) (by show w.heap.size + 1 < _; omega) (.slice a1 n1 c1)) (a := ⟨w.heap.size + 1, 1, none⟩) (by show w.heap.size + 1 < _; omega) (.slice a2 n2 c2)))
                  have HQF := hide (((unhide HQJ).st0 (.slice a1 n1 c1)).st1 (.slice a2 n2 c2))
                  go_wp2
                  have r0 := (unhide HQF).n0
                  have r1 := (unhide HQF).n1
                  refine bodyPost_ret (v := .agg #[.slice a1 n1 c1, .slice a2 n2 c2]) (by simp [results, Tryd.results26, go_sem, r0, r1]) rfl ⟨⟨_, _, rfl, by rw [unhide HM]; exact ⟨_, _, rfl, (unhide HRF).at, unhide HIF⟩⟩, unhide HBF⟩
end Go.Proofs.YtcnnicbaeicboaaDoor
/- Go's stable sort of a row of slices, as far as it is asked: the row comes to hold what it held, in some order. swapRange, rotate. -/
namespace Go.Proofs.YtcnnicbaeicboaaDoor
open Go.RowKit Nt

/-- slices -/
def IsSl (v : Value) : Prop := ∃ a k c, v = .slice a k c ∧ k ≤ 1099511627776
/-- the row holds what it held, in some order -/
structure SR (w W : World) (g cap n : Nat) (vs0 vs : List Value) : Prop where
  row : W.ownsRow g 41 1 (.slice (some ⟨g, 0, none⟩) n cap) n vs
  perm : vs.Perm vs0
  sl : ∀ x ∈ vs0, IsSl x
  kept : Kept (· = g) w W
theorem SR.len {w W : World} {g cap n : Nat} {vs0 vs : List Value} (h : SR w W g cap n vs0 vs) : vs.length = n := by simpa using h.row.1
theorem SR.cap {w W : World} {g cap n : Nat} {vs0 vs : List Value} (h : SR w W g cap n vs0 vs) : n ≤ cap ∧ cap ≤ 9223372036854775807 := by
  rcases h.row.2 with ⟨e, _⟩ | ⟨g', c', cur, e, _, _, h1, h2, _⟩
  · cases e
  · cases e; unfold maxLen at h2; exact ⟨h1, h2⟩
theorem SR.drew {w W : World} {g cap n : Nat} {vs0 vs : List Value} (h : SR w W g cap n vs0 vs) : SR w W.drew g cap n vs0 vs :=
  ⟨h.row.drew, h.perm, h.sl, h.kept.trans (Kept.of_below (Below.refl _ _).drew)⟩
theorem SR.drewN {w W : World} {g cap n : Nat} {vs0 vs : List Value} (h : SR w W g cap n vs0 vs) (k : Nat) : SR w (W.drewN k) g cap n vs0 vs :=
  ⟨own_below h.row (drewN_below W k), h.perm, h.sl, h.kept.trans (Kept.of_below (drewN_below W k))⟩
theorem SR.at {w W : World} {g cap n : Nat} {vs0 vs : List Value} (h : SR w W g cap n vs0 vs) (i : Nat) (hi : i < n) : ∃ a k c, vs[i]? = some (.slice a k c) ∧ W.cell? ⟨g, i, none⟩ = some (.slice a k c) ∧ k ≤ 1099511627776 := by
  have hl := h.len
  have e : vs[i]? = some (vs[i]'(by omega)) := List.getElem?_eq_getElem _
  obtain ⟨a, k, c, e2, hk⟩ := h.sl _ (h.perm.mem_iff.1 (List.mem_of_getElem? e))
  refine ⟨a, k, c, by rw [e, e2], ?_, hk⟩
  rw [h.row.cellAt i (by omega), e, e2]
theorem SR.mid {w W : World} {g cap n : Nat} {vs0 vs : List Value} (h : SR w W g cap n vs0 vs) (i j : Nat) (hj : j < n) (y : Value) :
    (∃ z, (W.setCell ⟨g, i, none⟩ y).cell? ⟨g, j, none⟩ = some z) ∧ (W.setCell ⟨g, i, none⟩ y).frozen? ⟨g, j, none⟩ = false := by
  have hl := h.len
  have h1 := (h.row.stored i y).1
  refine ⟨⟨(vs.set i y)[j]'(by simp; omega), ?_⟩, h1.frozenAt j⟩
  rw [h1.cellAt j (by omega), List.getElem?_eq_getElem]
theorem swap_perm (l : List Value) (i j : Nat) (x y : Value) (hi : l[i]? = some x) (hj : l[j]? = some y) : ((l.set i y).set j x).Perm l := by
  obtain ⟨h1, rfl⟩ := List.getElem?_eq_some_iff.1 hi
  obtain ⟨h2, rfl⟩ := List.getElem?_eq_some_iff.1 hj
  exact List.set_set_perm h1 h2
theorem SR.swap {w W : World} {g cap n : Nat} {vs0 vs : List Value} (h : SR w W g cap n vs0 vs) {i j : Nat} {x y : Value} (hi : vs[i]? = some x) (hj : vs[j]? = some y) :
    SR w ((W.setCell ⟨g, i, none⟩ y).setCell ⟨g, j, none⟩ x) g cap n vs0 ((vs.set i y).set j x) :=
  ⟨(((h.row.stored i y).1).stored j x).1, (swap_perm vs i j x y hi hj).trans h.perm, h.sl, (h.kept.trans (Kept.set (S := (· = g)) (a := ⟨g, i, none⟩) rfl y)).trans (Kept.set (S := (· = g)) (a := ⟨g, j, none⟩) rfl x)⟩

set_option maxRecDepth 100000 in
set_option maxHeartbeats 4000000 in
theorem swapRange_c (g cap n a b k : Nat) (vs0 vs : List Value) (w W : World) (h : SR w W g cap n vs0 vs) (hn : n ≤ 1073741824) (ha : a + k ≤ n) (hb : b + k ≤ n) (cv : Value) :
    Calls Tryd.prog 178 #[.slice (some ⟨g, 0, none⟩) n cap, .int .i64 a, .int .i64 b, .int .i64 k, cv] W fun e w' => (∃ u, e = .returned u) ∧ ∃ vs', SR w w' g cap n vs0 vs' := by
  have HS0 := hide h
  have hcap := h.cap
  clear h
  go_enter Tryd.func178, Tryd.ntmps178
  go_wp2
  go_loopw [10] (fun i wr => ∃ m : Nat, m ≤ k ∧ i = .int .i64 m ∧ ∃ us, Hid (SR w wr g cap n vs0 us))
    (fun i _ => k - (intOf i).toNat)
  case atStart => exact ⟨0, by omega, rfl, _, HS0⟩
  case round =>
    clear HS0
    obtain ⟨m, hm, rfl, us, HS⟩ := hrel
    by_cases hlt : m < k
    · obtain ⟨xa, xn, xc, e1, c1, _⟩ := (unhide HS).at (a + m) (by omega)
      obtain ⟨ya, yn, yc, e2, c2, _⟩ := (unhide HS).at (b + m) (by omega)
      have f1 := (unhide HS).row.frozenAt (a + m)
      have f2 := (unhide HS).row.frozenAt (b + m)
      have i1 : IntKind.i64.wrap ((a : Int) + m) = ((a + m : Nat) : Int) := by rw [wi64] <;> omega
      have i2 : IntKind.i64.wrap ((b : Int) + m) = ((b + m : Nat) : Int) := by rw [wi64] <;> omega
      have HSW := hide ((unhide HS).swap e1 e2)
      obtain ⟨⟨z, m1⟩, m2⟩ := (unhide HS).mid (a + m) (b + m) (by omega) (.slice ya yn yc)
      clear e1 e2
      go_wp2_with fail
      go_region
      all_goals
        go_wp2_with fail
        go_roundw
        case rel => exact ⟨m + 1, by omega, by go_num, _, hide (by first | exact (unhide HSW).drew | exact unhide HSW)⟩
        case measure => simp [intOf]; omega
    · go_wp2_with fail
      go_end0
      exact ⟨⟨_, rfl⟩, _, unhide HS⟩

set_option maxRecDepth 100000 in
set_option maxHeartbeats 4000000 in
theorem rotate_c (g cap n a m b : Nat) (vs0 vs : List Value) (w W : World) (h : SR w W g cap n vs0 vs) (hn : n ≤ 1073741824) (ha : a < m) (hm : m < b) (hb : b ≤ n) (cv : Value) :
    Calls Tryd.prog 172 #[.slice (some ⟨g, 0, none⟩) n cap, .int .i64 a, .int .i64 m, .int .i64 b, cv] W fun e w' => (∃ u, e = .returned u) ∧ ∃ vs', SR w w' g cap n vs0 vs' := by
  have HS0 := hide h
  clear h
  have i1 : IntKind.i64.wrap ((m : Int) - a) = ((m - a : Nat) : Int) := by rw [wi64] <;> omega
  have i2 : IntKind.i64.wrap ((b : Int) - m) = ((b - m : Nat) : Int) := by rw [wi64] <;> omega
  go_enter Tryd.func172, Tryd.ntmps172
  go_wp2_with fail
  go_loopw [10, 11] (fun u v wr => ∃ i j : Nat, 1 ≤ i ∧ i ≤ m - a ∧ 1 ≤ j ∧ j ≤ b - m ∧ u = .int .i64 i ∧ v = .int .i64 j ∧ ∃ us, Hid (SR w wr g cap n vs0 us))
    (fun u v _ => (intOf u).toNat + (intOf v).toNat)
  case atStart => exact ⟨m - a, b - m, by omega, by omega, by omega, by omega, by go_num, by go_num, _, HS0⟩
  case round =>
    clear HS0 i1 i2
    obtain ⟨i, j, hi1, hi2, hj1, hj2, rfl, rfl, us, HS⟩ := hrel
    have k1 : IntKind.i64.wrap ((m : Int) - i) = ((m - i : Nat) : Int) := by rw [wi64] <;> omega
    by_cases hne : i = j
    · subst hne
      go_wp2_with fail
      refine (swapRange_c g cap n (m - i) m i vs0 us w wr (unhide HS) hn (by omega) (by omega) cv).mono ?_
      rintro e w2 ⟨⟨u, rfl⟩, vs2, h2⟩
      go_wp2_with fail
      go_end0
      exact ⟨⟨_, rfl⟩, _, h2⟩
    · have hne' : ¬ ((i : Int) = j) := by omega
      by_cases hgt : j < i
      · have k2 : IntKind.i64.wrap ((i : Int) - j) = ((i - j : Nat) : Int) := by rw [wi64] <;> omega
        go_wp2_with fail
        refine (swapRange_c g cap n (m - i) m j vs0 us w wr (unhide HS) hn (by omega) (by omega) cv).mono ?_
        rintro e w2 ⟨⟨u, rfl⟩, vs2, h2⟩
        have HS2 := hide h2
        clear h2
        go_wp2_with fail
        go_roundw
        case rel => exact ⟨i - j, j, by omega, by omega, by omega, by omega, by go_num, rfl, _, HS2⟩
        case measure => simp [intOf]; omega
      · have k2 : IntKind.i64.wrap ((j : Int) - i) = ((j - i : Nat) : Int) := by rw [wi64] <;> omega
        have h := swapRange_c g cap n (m - i) (m + j - i) i vs0 us w wr (unhide HS) hn (by omega) (by omega) cv
        rw [show ((m + j - i : Nat) : Int) = (m : Int) + j - i by omega] at h
        have H := hide h
        clear h
        go_wp2_with fail
        have h := unhide H
        refine h.mono ?_
        clear h
        rintro e w2 ⟨⟨u, rfl⟩, vs2, h2⟩
        have HS2 := hide h2
        clear h2
        go_wp2_with fail
        go_roundw
        case rel => exact ⟨i, j - i, by omega, by omega, by omega, by omega, rfl, by go_num, _, HS2⟩
        case measure => simp [intOf]; omega
end Go.Proofs.YtcnnicbaeicboaaDoor
/- Go's stable sort of a row of slices: the comparison; insertion. -/
namespace Go.Proofs.YtcnnicbaeicboaaDoor
open Go.RowKit Nt

set_option maxHeartbeats 1000000 in
theorem cmp_c (a1 a2 : Option Addr) (k1 k2 c1 c2 : Nat) (w : World) (h1 : k1 ≤ 1099511627776) (h2 : k2 ≤ 1099511627776) :
    Calls Tryd.prog 138 #[.slice a1 k1 c1, .slice a2 k2 c2] w fun e w' => e = .returned (.int .i64 ((k2 : Int) - k1)) ∧ w' = w := by
  go_enter Tryd.func138, Tryd.ntmps138
  go_wp2
  go_ret
  exact ⟨rfl, rfl⟩

set_option maxRecDepth 100000 in
set_option maxHeartbeats 8000000 in
theorem insSort_c (g cap n a b : Nat) (vs0 vs : List Value) (w W : World) (h : SR w W g cap n vs0 vs) (hn : n ≤ 1073741824) (hb : b ≤ n) (ha : a ≤ n) :
    Calls Tryd.prog 161 #[.slice (some ⟨g, 0, none⟩) n cap, .int .i64 a, .int .i64 b, .func (.func 138) #[] #[]] W fun e w' => (∃ u, e = .returned u) ∧ ∃ vs', SR w w' g cap n vs0 vs' := by
  have HS0 := hide h
  have hcap := h.cap
  clear h
  go_enter Tryd.func161, Tryd.ntmps161
  go_wp2_with fail
  go_loopw [8] (fun u wr => ∃ i : Nat, a + 1 ≤ i ∧ u = .int .i64 i ∧ i ≤ n + 1 ∧ ∃ us, Hid (SR w wr g cap n vs0 us))
    (fun u _ => b + 1 - (intOf u).toNat)
  case atStart => exact ⟨a + 1, by omega, by go_num, by omega, _, HS0⟩
  case round =>
    clear HS0
    obtain ⟨i, hi1, rfl, hi2, us, HS⟩ := hrel
    by_cases hlt : i < b
    · obtain ⟨Wo, hWo⟩ : ∃ Wo, wr = Wo := ⟨_, rfl⟩
      subst hWo
      go_wp2_with fail
      go_loopw [9] (fun u wj => ∃ j : Nat, a ≤ j ∧ j < n ∧ u = .int .i64 j ∧ ∃ us, Hid (SR w wj g cap n vs0 us))
        (fun u _ => (intOf u).toNat)
      case atStart => exact ⟨i, by omega, by omega, rfl, _, HS⟩
      case round =>
        clear HS
        obtain ⟨j, hj1, hj2, rfl, us, HS⟩ := hrel
        by_cases hja : a < j
        · obtain ⟨k, rfl⟩ : ∃ k, j = k + 1 := ⟨j - 1, by omega⟩
          obtain ⟨xa, xn, xc, e1, c1, hx⟩ := (unhide HS).at (k + 1) (by omega)
          obtain ⟨ya, yn, yc, e2, c2, hy⟩ := (unhide HS).at k (by omega)
          have hja' : (a : Int) < (k : Int) + 1 := by omega
          have q1 : (0 : Int) ≤ (k : Int) + 1 := by omega
          have q2 : (k : Int) + 1 < n := by omega
          have q3 : ((k : Int) + 1).toNat = k + 1 := by omega
          have q4 : (k : Int) < n := by omega
          have q5 : IntKind.i64.wrap (k : Int) = (k : Int) := by rw [wi64] <;> omega
          go_wp2_with fail
          go_quiet ((go_at_call 138; exact Calls.quiet_of_same (cmp_c xa ya xn yn xc yc _ hx hy)))
          have HS2 := hide ((unhide HS).drewN nq)
          obtain ⟨W2, hW2⟩ : ∃ W2, wr.drewN nq = W2 := ⟨_, rfl⟩
          rw [hW2] at HS2 ⊢
          clear hW2 c1 c2 HS
          generalize decide ((yn : Int) - xn < 0) = d
          cases d with
          | true =>
            obtain ⟨xa', xn', xc', e1', c1, _⟩ := (unhide HS2).at (k + 1) (by omega)
            obtain ⟨ya', yn', yc', e2', c2, _⟩ := (unhide HS2).at k (by omega)
            have f1 := (unhide HS2).row.frozenAt (k + 1)
            have f2 := (unhide HS2).row.frozenAt k
            obtain ⟨⟨z, m1⟩, m2⟩ := (unhide HS2).mid (k + 1) k (by omega) (.slice ya' yn' yc')
            have HSW := hide ((unhide HS2).swap e1' e2')
            clear e1 e2 e1' e2' HS2
            go_wp2_with fail
            go_region
            all_goals
              go_wp2_with fail
              go_roundw
              case rel => exact ⟨k, by omega, by omega, by go_num, _, hide (by first | exact (unhide HSW).drew | exact unhide HSW)⟩
              case measure => simp [intOf]; try omega
          | false =>
            clear e1 e2
            go_wp2_with fail
            go_roundw
            case rel => exact ⟨i + 1, by omega, by go_num, by omega, _, HS2⟩
            case measure => simp [intOf]; omega
        · obtain rfl : j = a := by omega
          have hjj : decide ((j : Int) < (j : Int)) = false := by simp
          go_wp2_with fail
          go_region
          all_goals
            go_wp2_with fail
            go_roundw
            case rel => exact ⟨i + 1, by omega, by go_num, by omega, _, hide (unhide HS).drew⟩
            case measure => simp [intOf]; omega
    · go_wp2_with fail
      go_end0
      exact ⟨⟨_, rfl⟩, _, unhide HS⟩
end Go.Proofs.YtcnnicbaeicboaaDoor
/- Go's stable sort of a row of slices: a merge, where the first part is of one element. -/
namespace Go.Proofs.YtcnnicbaeicboaaDoor
open Go.RowKit Nt

set_option maxRecDepth 100000 in
set_option maxHeartbeats 8000000 in
theorem symMerge1_c (g cap n a b : Nat) (vs0 vs : List Value) (w W : World) (h : SR w W g cap n vs0 vs) (hn : n ≤ 1073741824) (ha : a + 1 < b) (hb : b ≤ n) :
    Calls Tryd.prog 162 #[.slice (some ⟨g, 0, none⟩) n cap, .int .i64 a, .int .i64 (a + 1), .int .i64 b, .func (.func 138) #[] #[]] W fun e w' => (∃ u, e = .returned u) ∧ ∃ vs', SR w w' g cap n vs0 vs' := by
  have HS0 := hide h
  have hcap := h.cap
  clear h
  have hone : ((a : Int) + 1 - a == 1) = true := by simp; omega
  go_enter Tryd.func162, Tryd.ntmps162
  go_wp2_with fail
  go_loopw [10, 11] (fun u v wr => ∃ i j : Nat, a + 1 ≤ i ∧ i ≤ j ∧ j ≤ b ∧ u = .int .i64 i ∧ v = .int .i64 j ∧ ∃ us, Hid (SR w wr g cap n vs0 us))
    (fun u v _ => (intOf v).toNat - (intOf u).toNat)
  case atStart => exact ⟨a + 1, b, by omega, by omega, by omega, by go_num, rfl, _, HS0⟩
  case round =>
    clear HS0
    obtain ⟨i, j, hi1, hi2, hi3, rfl, rfl, us, HS⟩ := hrel
    by_cases hlt : i < j
    · obtain ⟨k, hk0, hk1, Q0⟩ : ∃ k : Nat, i ≤ k ∧ k < j ∧ Hid (((i : Int) + j) / 2 = (k : Int)) := ⟨(i + j) / 2, by omega, by omega, hide (by omega)⟩
      obtain ⟨xa, xn, xc, e1, c1, hx⟩ := (unhide HS).at k (by omega)
      obtain ⟨ya, yn, yc, e2, c2, hy⟩ := (unhide HS).at a (by omega)
      have q1 : (k : Int) < n := by omega
      have q2 : (a : Int) < n := by omega
      go_wp2_with fail
      rw [unhide Q0]
      go_quiet ((go_at_call 138; exact Calls.quiet_of_same (cmp_c xa ya xn yn xc yc _ hx hy)))
      have HS2 := hide ((unhide HS).drewN nq)
      generalize decide ((yn : Int) - xn < 0) = d
      clear e1 e2 c1 c2 HS
      cases d with
      | true =>
        go_wp2_with fail
        go_roundw
        case rel => exact ⟨k + 1, j, by omega, by omega, by omega, by go_num, rfl, _, HS2⟩
        case measure => simp [intOf]; omega
      | false =>
        go_wp2_with fail
        go_roundw
        case rel => exact ⟨i, k, by omega, by omega, by omega, rfl, rfl, _, HS2⟩
        case measure => simp [intOf]; omega
    · obtain rfl : j = i := by omega
      go_wp2_with fail
      go_loopw [13] (fun u wr => ∃ k : Nat, a ≤ k ∧ k + 1 ≤ j ∧ u = .int .i64 k ∧ ∃ us, Hid (SR w wr g cap n vs0 us))
        (fun u _ => j - (intOf u).toNat)
      case atStart => exact ⟨a, by omega, by omega, rfl, _, HS⟩
      case round =>
        clear HS
        obtain ⟨k, hk1, hk2, rfl, us, HS⟩ := hrel
        by_cases hkj : k + 1 < j
        · obtain ⟨xa, xn, xc, e1, c1, hx⟩ := (unhide HS).at k (by omega)
          obtain ⟨ya, yn, yc, e2, c2, hy⟩ := (unhide HS).at (k + 1) (by omega)
          have f1 := (unhide HS).row.frozenAt (k + 1)
          have f2 := (unhide HS).row.frozenAt k
          obtain ⟨⟨z, m1⟩, m2⟩ := (unhide HS).mid k (k + 1) (by omega) (.slice ya yn yc)
          have HSW := hide ((unhide HS).swap e1 e2)
          clear e1 e2
          go_wp2_with fail
          go_region
          all_goals
            go_wp2_with fail
            go_roundw
            case rel => exact ⟨k + 1, by omega, by omega, by go_num, _, hide (by first | exact (unhide HSW).drew | exact unhide HSW)⟩
            case measure => simp [intOf]; try omega
        · go_wp2_with fail
          refine bodyPost_ret (results_none rfl _ _ _) rfl ?_
          exact ⟨⟨_, rfl⟩, _, unhide HS⟩
end Go.Proofs.YtcnnicbaeicboaaDoor
/- Go's stable sort of a row of slices: a merge, where the second part is of one element. -/
namespace Go.Proofs.YtcnnicbaeicboaaDoor
open Go.RowKit Nt

set_option maxRecDepth 100000 in
set_option maxHeartbeats 8000000 in
theorem symMerge2_c (g cap n a m : Nat) (vs0 vs : List Value) (w W : World) (h : SR w W g cap n vs0 vs) (hn : n ≤ 1073741824) (ha : a + 1 < m) (hb : m + 1 ≤ n) :
    Calls Tryd.prog 162 #[.slice (some ⟨g, 0, none⟩) n cap, .int .i64 a, .int .i64 m, .int .i64 (m + 1), .func (.func 138) #[] #[]] W fun e w' => (∃ u, e = .returned u) ∧ ∃ vs', SR w w' g cap n vs0 vs' := by
  have HS0 := hide h
  have hcap := h.cap
  clear h
  have hone : ((m : Int) + 1 - m == 1) = true := by simp; omega
  have hno : ((m : Int) - a == 1) = false := by simp; omega
  go_enter Tryd.func162, Tryd.ntmps162
  go_wp2_with fail
  go_loopw [14, 15] (fun u v wr => ∃ i j : Nat, a ≤ i ∧ i ≤ j ∧ j ≤ m ∧ u = .int .i64 i ∧ v = .int .i64 j ∧ ∃ us, Hid (SR w wr g cap n vs0 us))
    (fun u v _ => (intOf v).toNat - (intOf u).toNat)
  case atStart => exact ⟨a, m, by omega, by omega, by omega, rfl, rfl, _, HS0⟩
  case round =>
    clear HS0
    obtain ⟨i, j, hi1, hi2, hi3, rfl, rfl, us, HS⟩ := hrel
    by_cases hlt : i < j
    · obtain ⟨k, hk0, hk1, Q0⟩ : ∃ k : Nat, i ≤ k ∧ k < j ∧ Hid (((i : Int) + j) / 2 = (k : Int)) := ⟨(i + j) / 2, by omega, by omega, hide (by omega)⟩
      obtain ⟨xa, xn, xc, e1, c1, hx⟩ := (unhide HS).at k (by omega)
      obtain ⟨ya, yn, yc, e2, c2, hy⟩ := (unhide HS).at m (by omega)
      have q1 : (k : Int) < n := by omega
      have q2 : (m : Int) < n := by omega
      go_wp2_with fail
      rw [unhide Q0]
      go_quiet ((go_at_call 138; exact Calls.quiet_of_same (cmp_c ya xa yn xn yc xc _ hy hx)))
      have HS2 := hide ((unhide HS).drewN nq)
      generalize decide ((xn : Int) - yn < 0) = d
      clear e1 e2 c1 c2 HS
      cases d with
      | false =>
        go_wp2_with fail
        go_roundw
        case rel => exact ⟨k + 1, j, by omega, by omega, by omega, by go_num, rfl, _, HS2⟩
        case measure => simp [intOf]; omega
      | true =>
        go_wp2_with fail
        go_roundw
        case rel => exact ⟨i, k, by omega, by omega, by omega, rfl, rfl, _, HS2⟩
        case measure => simp [intOf]; omega
    · obtain rfl : j = i := by omega
      go_wp2_with fail
      go_loopw [17] (fun u wr => ∃ k : Nat, j ≤ k ∧ k ≤ m ∧ u = .int .i64 k ∧ ∃ us, Hid (SR w wr g cap n vs0 us))
        (fun u _ => (intOf u).toNat)
      case atStart => exact ⟨m, by omega, by omega, rfl, _, HS⟩
      case round =>
        clear HS
        obtain ⟨k, hk1, hk2, rfl, us, HS⟩ := hrel
        by_cases hkj : j < k
        · obtain ⟨k, rfl⟩ : ∃ k', k = k' + 1 := ⟨k - 1, by omega⟩
          obtain ⟨xa, xn, xc, e1, c1, hx⟩ := (unhide HS).at (k + 1) (by omega)
          obtain ⟨ya, yn, yc, e2, c2, hy⟩ := (unhide HS).at k (by omega)
          have f1 := (unhide HS).row.frozenAt (k + 1)
          have f2 := (unhide HS).row.frozenAt k
          obtain ⟨⟨z, m1⟩, m2⟩ := (unhide HS).mid (k + 1) k (by omega) (.slice ya yn yc)
          have HSW := hide ((unhide HS).swap e1 e2)
          clear e1 e2
          go_wp2_with fail
          go_region
          all_goals
            go_wp2_with fail
            go_roundw
            case rel => exact ⟨k, by omega, by omega, by go_num, _, hide (by first | exact (unhide HSW).drew | exact unhide HSW)⟩
            case measure => simp [intOf]; try omega
        · obtain rfl : k = j := by omega
          go_wp2_with fail
          refine bodyPost_ret (results_none rfl _ _ _) rfl ?_
          exact ⟨⟨_, rfl⟩, _, unhide HS⟩
end Go.Proofs.YtcnnicbaeicboaaDoor
/- Go's stable sort of a row of slices: a merge of two longer parts. -/
namespace Go.Proofs.YtcnnicbaeicboaaDoor
open Go.RowKit Nt

/-- what a merge is asked -/
def MergeTo (w : World) (g cap n : Nat) (vs0 : List Value) (a m b : Nat) : Prop :=
  ∀ (vs : List Value) (W : World), SR w W g cap n vs0 vs → Calls Tryd.prog 162 #[.slice (some ⟨g, 0, none⟩) n cap, .int .i64 a, .int .i64 m, .int .i64 b, .func (.func 138) #[] #[]] W fun e w' => (∃ u, e = .returned u) ∧ ∃ vs', SR w w' g cap n vs0 vs'

set_option maxRecDepth 100000 in
set_option maxHeartbeats 8000000 in
theorem symMerge3_c (g cap n a m b : Nat) (vs0 vs : List Value) (w W : World) (h : SR w W g cap n vs0 vs) (hn : n ≤ 1073741824) (ha : a + 1 < m) (hm : m + 1 < b) (hb : b ≤ n)
    (ih : ∀ a' m' b' : Nat, a' < m' → m' < b' → b' ≤ n → b' - a' < b - a → MergeTo w g cap n vs0 a' m' b') :
    Calls Tryd.prog 162 #[.slice (some ⟨g, 0, none⟩) n cap, .int .i64 a, .int .i64 m, .int .i64 b, .func (.func 138) #[] #[]] W fun e w' => (∃ u, e = .returned u) ∧ ∃ vs', SR w w' g cap n vs0 vs' := by
  have HS0 := hide h
  have HI := hide ih
  have hcap := h.cap
  clear h ih
  have hone : ((m : Int) - a == 1) = false := by simp; omega
  have htwo : ((b : Int) - m == 1) = false := by simp; omega
  obtain ⟨mid, hd0, hd1, hd2, Q0⟩ : ∃ mid : Nat, 2 * mid ≤ a + b ∧ a + b ≤ 2 * mid + 1 ∧ a < mid ∧ Hid (((a : Int) + b) / 2 = (mid : Int)) := ⟨(a + b) / 2, by omega, by omega, by omega, hide (by omega)⟩
  go_enter Tryd.func162, Tryd.ntmps162
  by_cases hgt : mid < m
  · have hgt' : ((a : Int) + b) / 2 < m := by rw [unhide Q0]; omega
    go_wp2_with fail
    rw [unhide Q0]
    obtain ⟨N, hN0, hN1⟩ : ∃ N : Nat, N ≤ mid + m ∧ mid + m ≤ N := ⟨mid + m, by omega, by omega⟩
    obtain ⟨P, hP0, hP1⟩ : ∃ P : Nat, P + 1 ≤ N ∧ N ≤ P + 1 := ⟨N - 1, by omega, by omega⟩
    rw [show (mid : Int) + m = (N : Int) by omega, show (N : Int) - 1 = (P : Int) by omega]
    obtain ⟨S0, hS0, hS1⟩ : ∃ S0 : Nat, S0 + b ≤ N ∧ N ≤ S0 + b := ⟨N - b, by omega, by omega⟩
    rw [show (N : Int) - b = (S0 : Int) by omega]
    clear hgt'
    go_loopw [20, 21] (fun u v wr => ∃ s r : Nat, S0 ≤ s ∧ s ≤ r ∧ r ≤ mid ∧ u = .int .i64 s ∧ v = .int .i64 r ∧ ∃ us, Hid (SR w wr g cap n vs0 us))
      (fun u v _ => (intOf v).toNat - (intOf u).toNat)
    case atStart => exact ⟨S0, mid, by omega, by omega, by omega, rfl, rfl, _, HS0⟩
    case round =>
      clear HS0
      obtain ⟨s, r, hi1, hi2, hi3, rfl, rfl, us, HS⟩ := hrel
      by_cases hlt : s < r
      · obtain ⟨k, hk0, hk1, Q1⟩ : ∃ k : Nat, s ≤ k ∧ k < r ∧ Hid (((s : Int) + r) / 2 = (k : Int)) := ⟨(s + r) / 2, by omega, by omega, hide (by omega)⟩
        obtain ⟨pc, hpc0, hpc1⟩ : ∃ pc : Nat, pc + k ≤ P ∧ P ≤ pc + k := ⟨P - k, by omega, by omega⟩
        obtain ⟨xa, xn, xc, e1, d1, hx⟩ := (unhide HS).at pc (by omega)
        obtain ⟨ya, yn, yc, e2, d2, hy⟩ := (unhide HS).at k (by omega)
        have q1 : (k : Int) < n := by omega
        have q2 : (pc : Int) < n := by omega
        have q3 : IntKind.i64.wrap ((P : Int) - k) = (pc : Int) := by rw [wi64] <;> omega
        go_wp2_with fail
        rw [unhide Q1]
        go_quiet ((go_at_call 138; exact Calls.quiet_of_same (cmp_c xa ya xn yn xc yc _ hx hy)))
        have HS2 := hide ((unhide HS).drewN nq)
        generalize decide ((yn : Int) - xn < 0) = d
        clear e1 e2 d1 d2 HS
        cases d with
        | false =>
          go_wp2_with fail
          go_roundw
          case rel => exact ⟨k + 1, r, by omega, by omega, by omega, by go_num, rfl, _, HS2⟩
          case measure => simp [intOf]; omega
        | true =>
          go_wp2_with fail
          go_roundw
          case rel => exact ⟨s, k, by omega, by omega, by omega, rfl, rfl, _, HS2⟩
          case measure => simp [intOf]; omega
      · obtain rfl : r = s := by omega
        obtain ⟨E, hE0, hE1⟩ : ∃ E : Nat, E + r ≤ N ∧ N ≤ E + r := ⟨N - r, by omega, by omega⟩
        have q4 : IntKind.i64.wrap ((N : Int) - r) = (E : Int) := by rw [wi64] <;> omega
        clear Q0
        by_cases c1 : r < m
        · by_cases c2 : m < E
          · go_wp2_with fail
            have h := rotate_c g cap n r m E vs0 _ w _ (unhide HS) hn c1 c2 (by omega) (.func (.func 138) #[] #[])
            refine h.mono ?_
            clear h HS
            rintro e w4 ⟨⟨u, rfl⟩, us4, h4⟩
            have HS := hide h4
            clear h4
            by_cases c3 : a < r
            · by_cases c4 : r < mid
              · go_wp2_with fail
                have h := (unhide HI) a r mid c3 c4 (by omega) (by omega) _ _ (unhide HS)
                refine h.mono ?_
                clear h HS
                rintro e w5 ⟨⟨u, rfl⟩, us5, h5⟩
                have HS := hide h5
                clear h5
                by_cases c5 : mid < E
                · by_cases c6 : E < b
                  · go_wp2_with fail
                    have h := (unhide HI) mid E b c5 c6 hb (by omega) _ _ (unhide HS)
                    refine h.mono ?_
                    clear h
                    rintro e w6 ⟨⟨u, rfl⟩, us6, h6⟩
                    go_wp2_with fail
                    go_end0
                    exact ⟨⟨_, rfl⟩, _, h6⟩
                  · go_wp2_with fail
                    go_end0
                    exact ⟨⟨_, rfl⟩, _, unhide HS⟩
                · go_wp2_with fail
                  go_end0
                  exact ⟨⟨_, rfl⟩, _, unhide HS⟩
              · skip
                by_cases c5 : mid < E
                · by_cases c6 : E < b
                  · go_wp2_with fail
                    have h := (unhide HI) mid E b c5 c6 hb (by omega) _ _ (unhide HS)
                    refine h.mono ?_
                    clear h
                    rintro e w6 ⟨⟨u, rfl⟩, us6, h6⟩
                    go_wp2_with fail
                    go_end0
                    exact ⟨⟨_, rfl⟩, _, h6⟩
                  · go_wp2_with fail
                    go_end0
                    exact ⟨⟨_, rfl⟩, _, unhide HS⟩
                · go_wp2_with fail
                  go_end0
                  exact ⟨⟨_, rfl⟩, _, unhide HS⟩
            · skip
              by_cases c5 : mid < E
              · by_cases c6 : E < b
                · go_wp2_with fail
                  have h := (unhide HI) mid E b c5 c6 hb (by omega) _ _ (unhide HS)
                  refine h.mono ?_
                  clear h
                  rintro e w6 ⟨⟨u, rfl⟩, us6, h6⟩
                  go_wp2_with fail
                  go_end0
                  exact ⟨⟨_, rfl⟩, _, h6⟩
                · go_wp2_with fail
                  go_end0
                  exact ⟨⟨_, rfl⟩, _, unhide HS⟩
              · go_wp2_with fail
                go_end0
                exact ⟨⟨_, rfl⟩, _, unhide HS⟩
          · skip
            by_cases c3 : a < r
            · by_cases c4 : r < mid
              · go_wp2_with fail
                have h := (unhide HI) a r mid c3 c4 (by omega) (by omega) _ _ (unhide HS)
                refine h.mono ?_
                clear h HS
                rintro e w5 ⟨⟨u, rfl⟩, us5, h5⟩
                have HS := hide h5
                clear h5
                by_cases c5 : mid < E
                · by_cases c6 : E < b
                  · go_wp2_with fail
                    have h := (unhide HI) mid E b c5 c6 hb (by omega) _ _ (unhide HS)
                    refine h.mono ?_
                    clear h
                    rintro e w6 ⟨⟨u, rfl⟩, us6, h6⟩
                    go_wp2_with fail
                    go_end0
                    exact ⟨⟨_, rfl⟩, _, h6⟩
                  · go_wp2_with fail
                    go_end0
                    exact ⟨⟨_, rfl⟩, _, unhide HS⟩
                · go_wp2_with fail
                  go_end0
                  exact ⟨⟨_, rfl⟩, _, unhide HS⟩
              · skip
                by_cases c5 : mid < E
                · by_cases c6 : E < b
                  · go_wp2_with fail
                    have h := (unhide HI) mid E b c5 c6 hb (by omega) _ _ (unhide HS)
                    refine h.mono ?_
                    clear h
                    rintro e w6 ⟨⟨u, rfl⟩, us6, h6⟩
                    go_wp2_with fail
                    go_end0
                    exact ⟨⟨_, rfl⟩, _, h6⟩
                  · go_wp2_with fail
                    go_end0
                    exact ⟨⟨_, rfl⟩, _, unhide HS⟩
                · go_wp2_with fail
                  go_end0
                  exact ⟨⟨_, rfl⟩, _, unhide HS⟩
            · skip
              by_cases c5 : mid < E
              · by_cases c6 : E < b
                · go_wp2_with fail
                  have h := (unhide HI) mid E b c5 c6 hb (by omega) _ _ (unhide HS)
                  refine h.mono ?_
                  clear h
                  rintro e w6 ⟨⟨u, rfl⟩, us6, h6⟩
                  go_wp2_with fail
                  go_end0
                  exact ⟨⟨_, rfl⟩, _, h6⟩
                · go_wp2_with fail
                  go_end0
                  exact ⟨⟨_, rfl⟩, _, unhide HS⟩
              · go_wp2_with fail
                go_end0
                exact ⟨⟨_, rfl⟩, _, unhide HS⟩
        · skip
          by_cases c3 : a < r
          · by_cases c4 : r < mid
            · go_wp2_with fail
              have h := (unhide HI) a r mid c3 c4 (by omega) (by omega) _ _ (unhide HS)
              refine h.mono ?_
              clear h HS
              rintro e w5 ⟨⟨u, rfl⟩, us5, h5⟩
              have HS := hide h5
              clear h5
              by_cases c5 : mid < E
              · by_cases c6 : E < b
                · go_wp2_with fail
                  have h := (unhide HI) mid E b c5 c6 hb (by omega) _ _ (unhide HS)
                  refine h.mono ?_
                  clear h
                  rintro e w6 ⟨⟨u, rfl⟩, us6, h6⟩
                  go_wp2_with fail
                  go_end0
                  exact ⟨⟨_, rfl⟩, _, h6⟩
                · go_wp2_with fail
                  go_end0
                  exact ⟨⟨_, rfl⟩, _, unhide HS⟩
              · go_wp2_with fail
                go_end0
                exact ⟨⟨_, rfl⟩, _, unhide HS⟩
            · skip
              by_cases c5 : mid < E
              · by_cases c6 : E < b
                · go_wp2_with fail
                  have h := (unhide HI) mid E b c5 c6 hb (by omega) _ _ (unhide HS)
                  refine h.mono ?_
                  clear h
                  rintro e w6 ⟨⟨u, rfl⟩, us6, h6⟩
                  go_wp2_with fail
                  go_end0
                  exact ⟨⟨_, rfl⟩, _, h6⟩
                · go_wp2_with fail
                  go_end0
                  exact ⟨⟨_, rfl⟩, _, unhide HS⟩
              · go_wp2_with fail
                go_end0
                exact ⟨⟨_, rfl⟩, _, unhide HS⟩
          · skip
            by_cases c5 : mid < E
            · by_cases c6 : E < b
              · go_wp2_with fail
                have h := (unhide HI) mid E b c5 c6 hb (by omega) _ _ (unhide HS)
                refine h.mono ?_
                clear h
                rintro e w6 ⟨⟨u, rfl⟩, us6, h6⟩
                go_wp2_with fail
                go_end0
                exact ⟨⟨_, rfl⟩, _, h6⟩
              · go_wp2_with fail
                go_end0
                exact ⟨⟨_, rfl⟩, _, unhide HS⟩
            · go_wp2_with fail
              go_end0
              exact ⟨⟨_, rfl⟩, _, unhide HS⟩
  · have hgt' : ¬ (((a : Int) + b) / 2 < m) := by rw [unhide Q0]; omega
    go_wp2_with fail
    rw [unhide Q0]
    obtain ⟨N, hN0, hN1⟩ : ∃ N : Nat, N ≤ mid + m ∧ mid + m ≤ N := ⟨mid + m, by omega, by omega⟩
    obtain ⟨P, hP0, hP1⟩ : ∃ P : Nat, P + 1 ≤ N ∧ N ≤ P + 1 := ⟨N - 1, by omega, by omega⟩
    rw [show (mid : Int) + m = (N : Int) by omega, show (N : Int) - 1 = (P : Int) by omega]
    clear hgt'
    go_loopw [20, 21] (fun u v wr => ∃ s r : Nat, a ≤ s ∧ s ≤ r ∧ r ≤ m ∧ u = .int .i64 s ∧ v = .int .i64 r ∧ ∃ us, Hid (SR w wr g cap n vs0 us))
      (fun u v _ => (intOf v).toNat - (intOf u).toNat)
    case atStart => exact ⟨a, m, by omega, by omega, by omega, rfl, rfl, _, HS0⟩
    case round =>
      clear HS0
      obtain ⟨s, r, hi1, hi2, hi3, rfl, rfl, us, HS⟩ := hrel
      by_cases hlt : s < r
      · obtain ⟨k, hk0, hk1, Q1⟩ : ∃ k : Nat, s ≤ k ∧ k < r ∧ Hid (((s : Int) + r) / 2 = (k : Int)) := ⟨(s + r) / 2, by omega, by omega, hide (by omega)⟩
        obtain ⟨pc, hpc0, hpc1⟩ : ∃ pc : Nat, pc + k ≤ P ∧ P ≤ pc + k := ⟨P - k, by omega, by omega⟩
        obtain ⟨xa, xn, xc, e1, d1, hx⟩ := (unhide HS).at pc (by omega)
        obtain ⟨ya, yn, yc, e2, d2, hy⟩ := (unhide HS).at k (by omega)
        have q1 : (k : Int) < n := by omega
        have q2 : (pc : Int) < n := by omega
        have q3 : IntKind.i64.wrap ((P : Int) - k) = (pc : Int) := by rw [wi64] <;> omega
        go_wp2_with fail
        rw [unhide Q1]
        go_quiet ((go_at_call 138; exact Calls.quiet_of_same (cmp_c xa ya xn yn xc yc _ hx hy)))
        have HS2 := hide ((unhide HS).drewN nq)
        generalize decide ((yn : Int) - xn < 0) = d
        clear e1 e2 d1 d2 HS
        cases d with
        | false =>
          go_wp2_with fail
          go_roundw
          case rel => exact ⟨k + 1, r, by omega, by omega, by omega, by go_num, rfl, _, HS2⟩
          case measure => simp [intOf]; omega
        | true =>
          go_wp2_with fail
          go_roundw
          case rel => exact ⟨s, k, by omega, by omega, by omega, rfl, rfl, _, HS2⟩
          case measure => simp [intOf]; omega
      · obtain rfl : r = s := by omega
        obtain ⟨E, hE0, hE1⟩ : ∃ E : Nat, E + r ≤ N ∧ N ≤ E + r := ⟨N - r, by omega, by omega⟩
        have q4 : IntKind.i64.wrap ((N : Int) - r) = (E : Int) := by rw [wi64] <;> omega
        clear Q0
        by_cases c1 : r < m
        · by_cases c2 : m < E
          · go_wp2_with fail
            have h := rotate_c g cap n r m E vs0 _ w _ (unhide HS) hn c1 c2 (by omega) (.func (.func 138) #[] #[])
            refine h.mono ?_
            clear h HS
            rintro e w4 ⟨⟨u, rfl⟩, us4, h4⟩
            have HS := hide h4
            clear h4
            by_cases c3 : a < r
            · by_cases c4 : r < mid
              · go_wp2_with fail
                have h := (unhide HI) a r mid c3 c4 (by omega) (by omega) _ _ (unhide HS)
                refine h.mono ?_
                clear h HS
                rintro e w5 ⟨⟨u, rfl⟩, us5, h5⟩
                have HS := hide h5
                clear h5
                by_cases c5 : mid < E
                · by_cases c6 : E < b
                  · go_wp2_with fail
                    have h := (unhide HI) mid E b c5 c6 hb (by omega) _ _ (unhide HS)
                    refine h.mono ?_
                    clear h
                    rintro e w6 ⟨⟨u, rfl⟩, us6, h6⟩
                    go_wp2_with fail
                    go_end0
                    exact ⟨⟨_, rfl⟩, _, h6⟩
                  · go_wp2_with fail
                    go_end0
                    exact ⟨⟨_, rfl⟩, _, unhide HS⟩
                · go_wp2_with fail
                  go_end0
                  exact ⟨⟨_, rfl⟩, _, unhide HS⟩
              · skip
                by_cases c5 : mid < E
                · by_cases c6 : E < b
                  · go_wp2_with fail
                    have h := (unhide HI) mid E b c5 c6 hb (by omega) _ _ (unhide HS)
                    refine h.mono ?_
                    clear h
                    rintro e w6 ⟨⟨u, rfl⟩, us6, h6⟩
                    go_wp2_with fail
                    go_end0
                    exact ⟨⟨_, rfl⟩, _, h6⟩
                  · go_wp2_with fail
                    go_end0
                    exact ⟨⟨_, rfl⟩, _, unhide HS⟩
                · go_wp2_with fail
                  go_end0
                  exact ⟨⟨_, rfl⟩, _, unhide HS⟩
            · skip
              by_cases c5 : mid < E
              · by_cases c6 : E < b
                · go_wp2_with fail
                  have h := (unhide HI) mid E b c5 c6 hb (by omega) _ _ (unhide HS)
                  refine h.mono ?_
                  clear h
                  rintro e w6 ⟨⟨u, rfl⟩, us6, h6⟩
                  go_wp2_with fail
                  go_end0
                  exact ⟨⟨_, rfl⟩, _, h6⟩
                · go_wp2_with fail
                  go_end0
                  exact ⟨⟨_, rfl⟩, _, unhide HS⟩
              · go_wp2_with fail
                go_end0
                exact ⟨⟨_, rfl⟩, _, unhide HS⟩
          · skip
            by_cases c3 : a < r
            · by_cases c4 : r < mid
              · go_wp2_with fail
                have h := (unhide HI) a r mid c3 c4 (by omega) (by omega) _ _ (unhide HS)
                refine h.mono ?_
                clear h HS
                rintro e w5 ⟨⟨u, rfl⟩, us5, h5⟩
                have HS := hide h5
                clear h5
                by_cases c5 : mid < E
                · by_cases c6 : E < b
                  · go_wp2_with fail
                    have h := (unhide HI) mid E b c5 c6 hb (by omega) _ _ (unhide HS)
                    refine h.mono ?_
                    clear h
                    rintro e w6 ⟨⟨u, rfl⟩, us6, h6⟩
                    go_wp2_with fail
                    go_end0
                    exact ⟨⟨_, rfl⟩, _, h6⟩
                  · go_wp2_with fail
                    go_end0
                    exact ⟨⟨_, rfl⟩, _, unhide HS⟩
                · go_wp2_with fail
                  go_end0
                  exact ⟨⟨_, rfl⟩, _, unhide HS⟩
              · skip
                by_cases c5 : mid < E
                · by_cases c6 : E < b
                  · go_wp2_with fail
                    have h := (unhide HI) mid E b c5 c6 hb (by omega) _ _ (unhide HS)
                    refine h.mono ?_
                    clear h
                    rintro e w6 ⟨⟨u, rfl⟩, us6, h6⟩
                    go_wp2_with fail
                    go_end0
                    exact ⟨⟨_, rfl⟩, _, h6⟩
                  · go_wp2_with fail
                    go_end0
                    exact ⟨⟨_, rfl⟩, _, unhide HS⟩
                · go_wp2_with fail
                  go_end0
                  exact ⟨⟨_, rfl⟩, _, unhide HS⟩
            · skip
              by_cases c5 : mid < E
              · by_cases c6 : E < b
                · go_wp2_with fail
                  have h := (unhide HI) mid E b c5 c6 hb (by omega) _ _ (unhide HS)
                  refine h.mono ?_
                  clear h
                  rintro e w6 ⟨⟨u, rfl⟩, us6, h6⟩
                  go_wp2_with fail
                  go_end0
                  exact ⟨⟨_, rfl⟩, _, h6⟩
                · go_wp2_with fail
                  go_end0
                  exact ⟨⟨_, rfl⟩, _, unhide HS⟩
              · go_wp2_with fail
                go_end0
                exact ⟨⟨_, rfl⟩, _, unhide HS⟩
        · skip
          by_cases c3 : a < r
          · by_cases c4 : r < mid
            · go_wp2_with fail
              have h := (unhide HI) a r mid c3 c4 (by omega) (by omega) _ _ (unhide HS)
              refine h.mono ?_
              clear h HS
              rintro e w5 ⟨⟨u, rfl⟩, us5, h5⟩
              have HS := hide h5
              clear h5
              by_cases c5 : mid < E
              · by_cases c6 : E < b
                · go_wp2_with fail
                  have h := (unhide HI) mid E b c5 c6 hb (by omega) _ _ (unhide HS)
                  refine h.mono ?_
                  clear h
                  rintro e w6 ⟨⟨u, rfl⟩, us6, h6⟩
                  go_wp2_with fail
                  go_end0
                  exact ⟨⟨_, rfl⟩, _, h6⟩
                · go_wp2_with fail
                  go_end0
                  exact ⟨⟨_, rfl⟩, _, unhide HS⟩
              · go_wp2_with fail
                go_end0
                exact ⟨⟨_, rfl⟩, _, unhide HS⟩
            · skip
              by_cases c5 : mid < E
              · by_cases c6 : E < b
                · go_wp2_with fail
                  have h := (unhide HI) mid E b c5 c6 hb (by omega) _ _ (unhide HS)
                  refine h.mono ?_
                  clear h
                  rintro e w6 ⟨⟨u, rfl⟩, us6, h6⟩
                  go_wp2_with fail
                  go_end0
                  exact ⟨⟨_, rfl⟩, _, h6⟩
                · go_wp2_with fail
                  go_end0
                  exact ⟨⟨_, rfl⟩, _, unhide HS⟩
              · go_wp2_with fail
                go_end0
                exact ⟨⟨_, rfl⟩, _, unhide HS⟩
          · skip
            by_cases c5 : mid < E
            · by_cases c6 : E < b
              · go_wp2_with fail
                have h := (unhide HI) mid E b c5 c6 hb (by omega) _ _ (unhide HS)
                refine h.mono ?_
                clear h
                rintro e w6 ⟨⟨u, rfl⟩, us6, h6⟩
                go_wp2_with fail
                go_end0
                exact ⟨⟨_, rfl⟩, _, h6⟩
              · go_wp2_with fail
                go_end0
                exact ⟨⟨_, rfl⟩, _, unhide HS⟩
            · go_wp2_with fail
              go_end0
              exact ⟨⟨_, rfl⟩, _, unhide HS⟩
end Go.Proofs.YtcnnicbaeicboaaDoor
/- Go's stable sort of a row of slices: whole. -/
namespace Go.Proofs.YtcnnicbaeicboaaDoor
open Go.RowKit Nt

theorem symMerge_c (w : World) (g cap n : Nat) (vs0 : List Value) (hn : n ≤ 1073741824) : ∀ d a m b : Nat, b - a ≤ d → a < m → m < b → b ≤ n → MergeTo w g cap n vs0 a m b
  | 0, a, m, b, h, h1, h2, _ => by omega
  | d + 1, a, m, b, h, h1, h2, h3 => by
    intro vs W hS
    by_cases e1 : m = a + 1
    · subst e1
      exact symMerge1_c g cap n a b vs0 vs w W hS hn h2 h3
    · by_cases e2 : b = m + 1
      · subst e2
        exact symMerge2_c g cap n a m vs0 vs w W hS hn (by omega) h3
      · exact symMerge3_c g cap n a m b vs0 vs w W hS hn (by omega) (by omega) h3 (fun a' m' b' k1 k2 k3 k4 => symMerge_c w g cap n vs0 hn d a' m' b' (by omega) k1 k2 k3)

set_option maxRecDepth 100000 in
set_option maxHeartbeats 8000000 in
theorem stable_c (g cap n : Nat) (vs0 vs : List Value) (w W : World) (h : SR w W g cap n vs0 vs) (hn : n ≤ 1073741824) :
    Calls Tryd.prog 144 #[.slice (some ⟨g, 0, none⟩) n cap, .int .i64 n, .func (.func 138) #[] #[]] W fun e w' => (∃ u, e = .returned u) ∧ ∃ vs', SR w w' g cap n vs0 vs' := by
  have HS0 := hide h
  clear h
  go_enter Tryd.func144, Tryd.ntmps144
  go_wp2_with fail
  go_loopw [7, 8] (fun u v wr => ∃ a : Nat, a ≤ n ∧ u = .int .i64 a ∧ v = .int .i64 (a + 20) ∧ ∃ us, Hid (SR w wr g cap n vs0 us))
    (fun u _ _ => n + 20 - (intOf u).toNat)
  case atStart => exact ⟨0, by omega, rfl, rfl, _, HS0⟩
  case round =>
    clear HS0
    obtain ⟨a, ha, rfl, rfl, us, HS⟩ := hrel
    by_cases hle : a + 20 ≤ n
    · go_wp2_with fail
      have h := insSort_c g cap n a (a + 20) vs0 us w wr (unhide HS) hn hle ha
      rw [show ((a + 20 : Nat) : Int) = (a : Int) + 20 by omega] at h
      refine h.mono ?_
      clear h HS
      rintro e w2 ⟨⟨u, rfl⟩, us2, h2⟩
      have HS := hide h2
      clear h2
      go_wp2_with fail
      go_roundw
      case rel => exact ⟨a + 20, by omega, by go_num, by go_num, _, HS⟩
      case measure => simp [intOf]; omega
    · go_wp2_with fail
      have h := insSort_c g cap n a n vs0 us w wr (unhide HS) hn (Nat.le_refl _) ha
      refine h.mono ?_
      clear h HS
      rintro e w2 ⟨⟨u, rfl⟩, us2, h2⟩
      have HS := hide h2
      clear h2 hle
      go_wp2_with fail
      go_loopw [6] (fun u wb => ∃ bs : Nat, 1 ≤ bs ∧ bs ≤ 2147483700 ∧ u = .int .i64 bs ∧ ∃ us, Hid (SR w wb g cap n vs0 us))
        (fun u _ => n - (intOf u).toNat)
      case atStart => exact ⟨20, by omega, by omega, rfl, _, HS⟩
      case round =>
        clear HS
        obtain ⟨bs, hb1, hb2, rfl, us, HS⟩ := hrel
        by_cases hlt : bs < n
        · obtain ⟨d, hd1, hd2⟩ : ∃ d : Nat, d ≤ 2 * bs ∧ 2 * bs ≤ d := ⟨2 * bs, by omega, by omega⟩
          go_wp2_with fail
          rw [show (2 : Int) * bs = (d : Int) by omega]
          go_loopw [7, 8] (fun u v wc => ∃ a : Nat, a ≤ n ∧ u = .int .i64 a ∧ v = .int .i64 (a + d) ∧ ∃ us, Hid (SR w wc g cap n vs0 us))
            (fun u _ _ => n + 20 - (intOf u).toNat)
          case atStart => exact ⟨0, by omega, rfl, by simp, _, HS⟩
          case round =>
            clear HS
            obtain ⟨a, ha, rfl, rfl, us, HS⟩ := hrel
            by_cases hle : a + d ≤ n
            · go_wp2_with fail
              have h := symMerge_c w g cap n vs0 hn n a (a + bs) (a + d) (by omega) (by omega) (by omega) hle us _ (unhide HS)
              rw [show ((a + bs : Nat) : Int) = (a : Int) + bs by omega, show ((a + d : Nat) : Int) = (a : Int) + d by omega] at h
              refine h.mono ?_
              clear h HS
              rintro e w3 ⟨⟨u, rfl⟩, us3, h3⟩
              have HS := hide h3
              clear h3
              go_wp2_with fail
              go_roundw
              case rel => exact ⟨a + d, by omega, by go_num, by go_num, _, HS⟩
              case measure => simp [intOf]; omega
            · by_cases hm : a + bs < n
              · go_wp2_with fail
                have h := symMerge_c w g cap n vs0 hn n a (a + bs) n (by omega) (by omega) hm (Nat.le_refl _) us _ (unhide HS)
                rw [show ((a + bs : Nat) : Int) = (a : Int) + bs by omega] at h
                refine h.mono ?_
                clear h HS
                rintro e w3 ⟨⟨u, rfl⟩, us3, h3⟩
                have HS := hide h3
                clear h3
                go_wp2_with fail
                go_roundw
                case rel => exact ⟨d, by omega, by omega, by go_num, _, HS⟩
                case measure => simp [intOf]; omega
              · go_wp2_with fail
                go_roundw
                case rel => exact ⟨d, by omega, by omega, by go_num, _, HS⟩
                case measure => simp [intOf]; omega
        · go_wp2_with fail
          go_end0
          exact ⟨⟨_, rfl⟩, _, unhide HS⟩

set_option maxRecDepth 100000 in
set_option maxHeartbeats 8000000 in
theorem sortStable_c (g cap n : Nat) (vs0 vs : List Value) (w W : World) (h : SR w W g cap n vs0 vs) (hn : n ≤ 1073741824) :
    Calls Tryd.prog 137 #[.slice (some ⟨g, 0, none⟩) n cap, .func (.func 138) #[] #[]] W fun e w' => (∃ u, e = .returned u) ∧ ∃ vs', SR w w' g cap n vs0 vs' := by
  have HS0 := hide h
  clear h
  go_enter Tryd.func137, Tryd.ntmps137
  go_wp2_with fail
  have h := stable_c g cap n vs0 vs w W (unhide HS0) hn
  refine h.mono ?_
  clear h HS0
  rintro e w2 ⟨⟨u, rfl⟩, us2, h2⟩
  go_wp2_with fail
  go_end0
  exact ⟨⟨_, rfl⟩, _, h2⟩
end Go.Proofs.YtcnnicbaeicboaaDoor
/- impl.split: what its loops keep. -/
namespace Go.Proofs.YtcnnicbaeicboaaDoor
open Go.RowKit Go.Shelf Nt

/-! a map of counts -/
structure Cnt (W : World) (b : Nat) (m : Nat) (D : DataW Unit) (f : Int → Int) : Prop where
  own : W.ownsMap Tryd.prog 3 (plainElem Tryd.prog 3) b m D
  map : Maps.IsMap D
  at' : ∀ x : Int, D.atKey (.int .i64 x) (I64 0) = I64 (f x)
theorem lawInt : Maps.Keyed Tryd.prog 3 := Maps.int_keyed Tryd.underlying3
theorem Cnt.made (W : World) : Cnt (W.alloc (.map #[] 0)) W.heap.size 0 (.map []) (fun _ => 0) := ⟨World.ownsMap_made _ _ _ _, Maps.isMap_empty, fun _ => rfl⟩
theorem Cnt.keeps {W W' : World} {b m : Nat} {D : DataW Unit} {f : Int → Int} (h : Cnt W b m D f) (hk : KeepsOthers W W') : Cnt W' b m D f := by
  obtain ⟨⟨es, clock, hb, r⟩, h2, h3⟩ := h
  exact ⟨⟨es, clock, hk.same b _ hb rfl, r⟩, h2, h3⟩
theorem Cnt.isMap {W : World} {b m : Nat} {D : DataW Unit} {f : Int → Int} (h : Cnt W b m D f) : ∃ o, W.heap[b]? = some o ∧ o.isCells = false := by
  obtain ⟨⟨es, clock, hb, r⟩, _⟩ := h
  exact ⟨_, hb, rfl⟩
theorem Cnt.look {W : World} {b m : Nat} {D : DataW Unit} {f : Int → Int} (h : Cnt W b m D f) (x : Int) (h0 : -9223372036854775808 ≤ x) (h1 : x ≤ 9223372036854775807) :
    (Instr.lookup 174 (.map (some b)) (.int .i64 x) false).run Tryd.prog W = .ok (.int .i64 (f x)) W := by
  obtain ⟨c, hr, hc, _⟩ := World.ownsMap.lookup_int h.own lawInt Tryd.underlying174 Tryd.underlying3 (zeroInt W) (Maps.keyOf_int_mk Tryd.underlying3 (wf64 x h0 h1))
  have h3 : I64 c = I64 (f x) := hc.symm.trans (h.at' x)
  simp only [DataW.lit.injEq, Lit.int.injEq, true_and] at h3
  rw [hr, h3]
theorem Cnt.store {W : World} {b m : Nat} {D : DataW Unit} {f : Int → Int} (h : Cnt W b m D f) (hm : m < maxLen) (x y : Int) (h0 : -9223372036854775808 ≤ x) (h1 : x ≤ 9223372036854775807) (h2 : -9223372036854775808 ≤ y) (h3 : y ≤ 9223372036854775807) :
    ∃ W' D', (Instr.mapUpdate 174 (.map (some b)) (.int .i64 x) (.int .i64 y)).run Tryd.prog W = .ok () W' ∧ Cnt W' b (m + 1) D' (fun z => if z = x then y else f z) ∧ W.grownBy W' (some b) := by
  obtain ⟨W', hr, ho, hg⟩ := World.ownsMap.update h.own lawInt Tryd.underlying174 hm (Maps.keyOf_int_mk Tryd.underlying3 (wf64 x h0 h1)) (plainElem_int (H := Unit) Tryd.underlying3 (wf64 y h2 h3))
  refine ⟨W', _, hr, ⟨ho, h.map.put _ _, fun z => ?_⟩, hg⟩
  have hk : WideAt.IsKeyLit (.int .i64 x) := lawInt.key (Maps.keyOf_int_mk Tryd.underlying3 (wf64 x h0 h1))
  by_cases hz : z = x
  · subst hz; rw [if_pos rfl]; exact Maps.atKey_put_same h.map hk _ _
  · rw [if_neg hz]; rw [Maps.atKey_put_other (fun e => hz (by injection e))]; exact h.at' z

/-- the groups, what is gone, and the parts, in memory -/
structure SpS (w W : World) (N B g : Nat) (nv ov sv0 sv gv pv : Value) (of sz gone : List Int) (ps : List (List Int)) (vs : List Value) : Prop where
  box : AtC3 W g nv ov sv 144
  ofr : W.ownsRow N 3 1 ov of.length (iv of)
  szr : W.ownsRow N 3 1 sv sz.length (iv sz)
  gor : W.ownsRow w.heap.size 3 1 gv gone.length (iv gone)
  par : RoR W B pv ps vs
  os : ApartV ov sv
  olt : ∀ b, ov.ownBlock = some b → b < B
  plt : ∀ x ∈ vs, ∀ b, x.ownBlock = some b → B ≤ b ∧ b < w.heap.size
  sok : ∀ b, sv.ownBlock = some b → b < B ∨ w.heap.size ≤ b
  s0 : sv.ownBlock = sv0.ownBlock ∨ ∀ b, sv.ownBlock = some b → w.heap.size ≤ b
  sg : ApartV sv gv
  bw : B ≤ w.heap.size
  kept : Kept (fun b => b = g ∨ ov.ownBlock = some b ∨ sv0.ownBlock = some b ∨ pv.ownBlock = some b) w W
section
variable {w W W' : World} {N B g : Nat} {nv ov sv0 sv gv pv : Value} {of sz gone : List Int} {ps : List (List Int)} {vs : List Value}
theorem Kept.new {S S' : Nat → Prop} {w W W' : World} (h : Kept S w W) (k : Kept S' W W') (hs : ∀ b, S' b → b < w.heap.size → S b) : Kept S w W' :=
  ⟨k.os.trans h.os, k.tape.trans h.tape, k.output.trans h.output, Nat.le_trans h.size k.size, fun b hb hn => (k.block b (Nat.lt_of_lt_of_le hb h.size) (fun e => hn (hs b e hb))).trans (h.block b hb hn)⟩
theorem AtC3.kept' {S : Nat → Prop} {w w' : World} {b : Nat} {x y z : Value} {T : TypeId} (h : AtC3 w b x y z T) (k : Kept S w w') (hb : ¬ S b) : AtC3 w' b x y z T := (k.block b h.lt hb).trans h
theorem SpS.up (h : SpS w W N B g nv ov sv0 sv gv pv of sz gone ps vs) (k : Below W.heap.size W W') : SpS w W' N B g nv ov sv0 sv gv pv of sz gone ps vs :=
  { h with box := h.box.below k, ofr := own_below h.ofr k, szr := own_below h.szr k, gor := own_below h.gor k, par := h.par.up k, kept := h.kept.trans (Kept.of_below k) }
theorem SpS.map (h : SpS w W N B g nv ov sv0 sv gv pv of sz gone ps vs) {b : Nat} (k : W.grownBy W' (some b)) (hb : ∃ o, W.heap[b]? = some o ∧ o.isCells = false) (hbw : w.heap.size ≤ b) : SpS w W' N B g nv ov sv0 sv gv pv of sz gone ps vs :=
  have hr : ∀ c, some b = some c → ∃ o, W.heap[c]? = some o ∧ o.isCells = false := fun c e => by cases e; exact hb
  { h with
    box := by
      refine AtC3.grown h.box k (fun e => ?_)
      cases e
      obtain ⟨o, ho, hc⟩ := hb
      rw [show W.heap[g]? = _ from h.box] at ho; cases ho; cases hc
    ofr := own_grown' h.ofr k hr, szr := own_grown' h.szr k hr, gor := own_grown' h.gor k hr, par := h.par.grownC k hr, kept := h.kept.new (Kept.of_grown (S := fun c => c = b) k (fun i e => by cases e; rfl)) (fun c e hc => by omega) }
theorem SpS.pv_ne (h : SpS w W N B g nv ov sv0 sv gv pv of sz gone ps vs) {v : Value} {base n : Nat} {xs : List Value} (ho : W.ownsRow base 3 1 v n xs) {b : Nat} (hb : pv.ownBlock = some b) : v.ownBlock ≠ some b := by
  rcases own_ne ho h.par.row (by decide) with e | e
  · rw [e]; simp
  · intro e'; exact e (e'.trans hb.symm)
/-- a cell of the groups' row is stored -/
theorem SpS.setOf {cap i o : Nat} {x : Int} (h : SpS w W N B g nv (.slice (some ⟨o, 0, none⟩) of.length cap) sv0 sv gv pv of sz gone ps vs) :
    SpS w (W.setCell ⟨o, i, none⟩ (.int .i64 x)) N B g nv (.slice (some ⟨o, 0, none⟩) of.length cap) sv0 sv gv pv (of.set i x) sz gone ps vs := by
  have k : Kept (· = o) W (W.setCell ⟨o, i, none⟩ (.int .i64 x)) := Kept.set (S := (· = o)) (a := ⟨o, i, none⟩) rfl _
  have hoB := h.olt o rfl
  refine { h with box := ?_, ofr := ?_, szr := ?_, gor := ?_, par := ?_, kept := ?_ }
  · exact h.box.kept' k (fun e => own_ne3 h.box h.ofr (by decide) (by rw [e]; rfl))
  · have := (h.ofr.stored i (.int .i64 x)).1
    rw [iv_set] at this
    simpa using this
  · exact own_keptS h.szr k (fun b hb e => h.os o rfl (by rw [← e]; exact hb))
  · exact own_keptS h.gor k (fun b hb e => by have := (own_lt h.gor hb).1; have := h.bw; omega)
  · exact h.par.keptAll k (fun b hb e => h.pv_ne h.ofr hb (by rw [e]; rfl)) (fun y hy b hb e => by have := (h.plt y hy b hb).1; omega)
  · exact h.kept.new k (fun b e _ => .inr (.inl (by rw [e]; rfl)))
/-- a cell of the sizes' row is stored -/
theorem SpS.setSz {cap i o : Nat} {x : Int} (h : SpS w W N B g nv ov sv0 (.slice (some ⟨o, 0, none⟩) sz.length cap) gv pv of sz gone ps vs) :
    SpS w (W.setCell ⟨o, i, none⟩ (.int .i64 x)) N B g nv ov sv0 (.slice (some ⟨o, 0, none⟩) sz.length cap) gv pv of (sz.set i x) gone ps vs := by
  have k : Kept (· = o) W (W.setCell ⟨o, i, none⟩ (.int .i64 x)) := Kept.set (S := (· = o)) (a := ⟨o, i, none⟩) rfl _
  have hso := h.sok o rfl
  refine { h with box := ?_, ofr := ?_, szr := ?_, gor := ?_, par := ?_, kept := ?_ }
  · exact h.box.kept' k (fun e => own_ne3 h.box h.szr (by decide) (by rw [e]; rfl))
  · exact own_keptS h.ofr k (fun b hb e => h.os b hb (by rw [e]; rfl))
  · have := (h.szr.stored i (.int .i64 x)).1
    rw [iv_set] at this
    simpa using this
  · exact own_keptS h.gor k (fun b hb e => h.sg o rfl (by rw [← e]; exact hb))
  · exact h.par.keptAll k (fun b hb e => h.pv_ne h.szr hb (by rw [e]; rfl)) (fun y hy b hb e => by have := h.plt y hy b hb; omega)
  · refine h.kept.new k (fun b e hb => ?_)
    rcases h.s0 with e' | e'
    · exact .inr (.inr (.inl (by rw [← e', e]; rfl)))
    · have := e' o rfl; omega
/-- the sizes' row has grown, and is laid into the box -/
theorem SpS.appSz {w1 : World} {ob : Obj} {sv' : Value} {z : Int} (h : SpS w W N B g nv ov sv0 sv gv pv of sz gone ps vs) (ho : w1.ownsRow N 3 1 sv' (sz.length + 1) (iv sz ++ [.int .i64 z])) (hg : (W.alloc ob).grownBy w1 sv.ownBlock) (hl : Lies W sv sv') :
    SpS w (w1.setCell ⟨g, 2, none⟩ sv') N B g nv ov sv0 sv' gv pv of (sz ++ [z]) gone ps vs := by
  have k0 : Kept (fun b => sv.ownBlock = some b) W w1 := (Kept.of_below ((Below.refl _ _).alloc (Nat.le_refl _) ob)).trans (Kept.of_grown hg (fun _ e => e))
  have k1 : Kept (· = g) w1 (w1.setCell ⟨g, 2, none⟩ sv') := Kept.set (S := (· = g)) (a := ⟨g, 2, none⟩) rfl _
  have hbx := h.box.kept' k0 (own_ne3 h.box h.szr (by decide))
  have hW := h.kept.size
  have keep : ∀ {base n : Nat} {v : Value} {xs : List Value}, W.ownsRow base 3 1 v n xs → ApartV v sv → (w1.setCell ⟨g, 2, none⟩ sv').ownsRow base 3 1 v n xs := fun hv ha => by
    have h1 := own_keptS hv k0 (fun b hb e => ha b hb e)
    exact own_keptS h1 k1 (fun b hb e => own_ne3 hbx h1 (by decide) (by rw [← e]; exact hb))
  have hnew : ∀ b, sv'.ownBlock = some b → sv.ownBlock = some b ∨ W.heap.size ≤ b := fun b hb => by
    rcases hl with e | ⟨c, e, hc⟩
    · exact .inl (by rw [← e]; exact hb)
    · rw [e] at hb; cases hb; exact .inr hc
  refine { h with box := ?_, ofr := ?_, szr := ?_, gor := ?_, par := ?_, os := ?_, sok := ?_, s0 := ?_, sg := ?_, kept := ?_ }
  · exact AtC3.st2 hbx _
  · exact keep h.ofr h.os
  · have := own_s1 (i := 2) (u := sv') ho (by exact own_ne3 hbx ho (by decide))
    simpa [iv] using this
  · exact keep h.gor h.sg.symm
  · have h1 := h.par.keptAll k0 (fun b hb e => h.pv_ne h.szr hb e) (fun y hy b hb e => by have := h.plt y hy b hb; have := h.sok b e; omega)
    refine h1.keptAll k1 (fun b hb e => ?_) (fun y hy b hb e => ?_)
    · exact own_ne3 hbx h1.row (by decide) (by rw [← e]; exact hb)
    · obtain ⟨j, hj⟩ := List.getElem?_of_mem hy
      have hjl := (List.getElem?_eq_some_iff.1 hj).1
      exact own_ne3 hbx (h1.each j y _ hj (List.getElem?_eq_getElem (by rw [← h1.len]; exact hjl))) (by decide) (by rw [← e]; exact hb)
  · exact ApartV.lies h.os h.ofr hl
  · intro b hb
    rcases hnew b hb with e | e
    · exact h.sok b e
    · exact .inr (by omega)
  · rcases hl with e | ⟨c, e, hc⟩
    · rw [e]; exact h.s0
    · exact .inr (fun b hb => by rw [e] at hb; cases hb; omega)
  · exact (ApartV.lies h.sg.symm h.gor hl).symm
  · refine (h.kept.new k0 (fun b e hb => ?_)).new k1 (fun b e _ => .inl e)
    rcases h.s0 with e' | e'
    · exact .inr (.inr (.inl (by rw [← e']; exact e)))
    · have := e' b e; omega
/-- what is gone has grown -/
theorem SpS.appGone {w1 : World} {gv' : Value} {p : List Int} (h : SpS w W N B g nv ov sv0 sv gv pv of sz gone ps vs) (ho : w1.ownsRow w.heap.size 3 1 gv' (gone.length + p.length) (iv gone ++ iv p)) (hg : W.grownBy w1 gv.ownBlock) (hl : Lies W gv gv') :
    SpS w w1 N B g nv ov sv0 sv gv' pv of sz (gone ++ p) ps vs := by
  have k0 : Kept (fun b => gv.ownBlock = some b) W w1 := Kept.of_grown hg (fun _ e => e)
  have hlo := fun b e => (own_lt h.gor (b := b) e).1
  have hbw := h.bw
  refine { h with box := ?_, ofr := ?_, szr := ?_, gor := ?_, par := ?_, sg := ?_, kept := ?_ }
  · exact h.box.kept' k0 (own_ne3 h.box h.gor (by decide))
  · exact own_keptS h.ofr k0 (fun b hb e => by have := h.olt b hb; have := hlo b e; omega)
  · exact own_keptS h.szr k0 (fun b hb e => h.sg b hb e)
  · simpa [iv] using ho
  · exact h.par.keptAll k0 (fun b hb e => h.pv_ne h.gor hb e) (fun y hy b hb e => by have := h.plt y hy b hb; have := hlo b e; omega)
  · exact ApartV.lies h.sg h.szr hl
  · exact h.kept.new k0 (fun b e hb => by have := hlo b e; omega)
end
end Go.Proofs.YtcnnicbaeicboaaDoor
/- impl.split: plain, and its first loop. -/
namespace Go.Proofs.YtcnnicbaeicboaaDoor
open Go.RowKit Go.Shelf Nt

theorem perm_pair {vs' vs : List Value} (hp : vs'.Perm vs) : ∀ ps : List (List Int), ps.length = vs.length → ∃ ps' : List (List Int), ps'.Perm ps ∧ ps'.length = vs'.length ∧ ∀ (i : Nat) (x : Value) (p : List Int), vs'[i]? = some x → ps'[i]? = some p → ∃ j : Nat, vs[j]? = some x ∧ ps[j]? = some p := by
  induction hp with
  | nil => intro ps h; exact ⟨[], by rw [List.eq_nil_of_length_eq_zero h], rfl, fun i x p e => by simp at e⟩
  | cons x hp ih =>
    intro ps h
    cases ps with
    | nil => simp at h
    | cons q r =>
      obtain ⟨r', a, b, c⟩ := ih r (by simpa using h)
      refine ⟨q :: r', a.cons q, by simp [b], fun i y p e1 e2 => ?_⟩
      cases i with
      | zero => exact ⟨0, e1, e2⟩
      | succ i => obtain ⟨j, j1, j2⟩ := c i y p (by simpa using e1) (by simpa using e2); exact ⟨j + 1, by simpa using j1, by simpa using j2⟩
  | swap x y l =>
    intro ps h
    match ps, h with
    | q :: r :: t, h =>
      refine ⟨r :: q :: t, List.Perm.swap q r t, by simpa using h, fun i z p e1 e2 => ?_⟩
      match i, e1, e2 with
      | 0, e1, e2 => exact ⟨1, e1, e2⟩
      | 1, e1, e2 => exact ⟨0, e1, e2⟩
      | i + 2, e1, e2 => exact ⟨i + 2, by simpa using e1, by simpa using e2⟩
  | trans h1 h2 ih1 ih2 =>
    intro ps h
    obtain ⟨p2, a2, b2, c2⟩ := ih2 ps h
    obtain ⟨p1, a1, b1, c1⟩ := ih1 p2 b2
    refine ⟨p1, a1.trans a2, b1, fun i x p e1 e2 => ?_⟩
    obtain ⟨j, j1, j2⟩ := c1 i x p e1 e2
    exact c2 j x p j1 j2
theorem RoR.pairwise {W : World} {base : Nat} {v : Value} {ps : List (List Int)} {vs : List Value} (h : RoR W base v ps vs) : vs.Pairwise ApartV := by
  rw [List.pairwise_iff_getElem]
  intro i j hi hj hij
  exact h.apart i j _ _ (by omega) (List.getElem?_eq_getElem hi) (List.getElem?_eq_getElem hj)
theorem RoR.toSR {w : World} {B pg cap : Nat} {ps : List (List Int)} {vs : List Value} (h : RoR w B (.slice (some ⟨pg, 0, none⟩) ps.length cap) ps vs) (hl : ∀ p ∈ ps, p.length ≤ 1048576) : SR w w pg cap ps.length vs vs := by
  refine ⟨?_, List.Perm.refl _, fun x hx => ?_, Kept.refl _ _⟩
  · refine ⟨h.row.1, ?_⟩
    rcases h.row.2 with ⟨e, _⟩ | ⟨g', c', cur, e, hb, r⟩
    · cases e
    · cases e; exact .inr ⟨pg, cap, cur, rfl, Nat.le_refl _, r⟩
  · obtain ⟨j, hj⟩ := List.getElem?_of_mem hx
    have hjl := (List.getElem?_eq_some_iff.1 hj).1
    have e2 : ps[j]? = some (ps[j]'(by rw [← h.len]; exact hjl)) := List.getElem?_eq_getElem _
    obtain ⟨a, c, rfl⟩ := own_slice (h.each j x _ hj e2)
    exact ⟨a, _, c, rfl, by have := hl _ (List.mem_of_getElem? e2); omega⟩
theorem RoR.sorted {w W : World} {B pg cap : Nat} {ps : List (List Int)} {vs vs' : List Value} (h : RoR w B (.slice (some ⟨pg, 0, none⟩) ps.length cap) ps vs) (hs : SR w W pg cap ps.length vs vs') :
    ∃ ps' : List (List Int), ps'.Perm ps ∧ RoR W B (.slice (some ⟨pg, 0, none⟩) ps.length cap) ps' vs' := by
  obtain ⟨ps', a, b, c⟩ := perm_pair hs.perm ps h.len.symm
  have hB : B ≤ pg := (own_lt h.row rfl).1
  refine ⟨ps', a, b.symm, ?_, fun i x p e1 e2 => ?_, fun i j x y hij e1 e2 => ?_⟩
  · rw [a.length_eq]; exact own_base hs.row hB
  · obtain ⟨j, j1, j2⟩ := c i x p e1 e2
    exact own_keptS (h.each j x p j1 j2) hs.kept (fun b hb e => h.outer (List.mem_of_getElem? j1) hb (by rw [e]; rfl))
  · have hp := (hs.perm.pairwise_iff (fun {a b} (k : ApartV a b) => k.symm)).2 h.pairwise
    rw [List.pairwise_iff_getElem] at hp
    obtain ⟨hi, rfl⟩ := List.getElem?_eq_some_iff.1 e1
    obtain ⟨hj, rfl⟩ := List.getElem?_eq_some_iff.1 e2
    rcases Nat.lt_or_gt_of_ne hij with h1 | h1
    · exact hp i j hi hj h1
    · exact (hp j i hj hi h1).symm

theorem rem_cons (of : List Int) (p : List Int) (ps : List (List Int)) (x : Int) : remOf of (p :: ps) x = (if gAt of (p.headD 0) = x then p.length else 0) + remOf of ps x := by
  unfold remOf
  rw [List.filter_cons]
  by_cases h : gAt of (p.headD 0) = x
  · rw [if_pos (by simpa using h), if_pos h]; simp
  · rw [if_neg (by simpa using h), if_neg h]; simp
theorem rem_append (of : List Int) (ps qs : List (List Int)) (x : Int) : remOf of (ps ++ qs) x = remOf of ps x + remOf of qs x := by
  unfold remOf; simp
theorem Parts.take {n : Nat} {of : List Int} {ps : List (List Int)} (h : Parts n of ps) (k : Nat) : Parts n of (ps.take k) where
  nd := by
    have h1 := h.nd
    rw [← List.take_append_drop k ps, List.flatten_append, List.nodup_append] at h1
    exact h1.1
  rng := fun p hp => h.rng p (List.mem_of_mem_take hp)
  ne := fun p hp => h.ne p (List.mem_of_mem_take hp)
  one := fun p hp => h.one p (List.mem_of_mem_take hp)
theorem rem_lt {n : Nat} {of : List Int} {ps : List (List Int)} (hl : of.length = n) (h : Parts n of ps) (k : Nat) (x : Int) : remOf of (ps.take k) x ≤ n := by
  have := (rem_le hl (h.take k) x).1
  have h2 := List.count_le_length (a := x) (l := of)
  omega
theorem part_len {n : Nat} {of : List Int} {ps : List (List Int)} (h : Parts n of ps) {p : List Int} (hp : p ∈ ps) : p.length ≤ n := by
  have h1 : p.Nodup := by
    obtain ⟨a, b, rfl⟩ := List.append_of_mem hp
    have := h.nd
    rw [List.flatten_append, List.nodup_append] at this
    have h2 := this.2.1
    rw [List.flatten_cons, List.nodup_append] at h2
    exact h2.1
  have h3 := nodup_len h1 (m := (List.range n).map fun (i : Nat) => (i : Int)) (fun x hx => by
    have := h.rng p hp x hx
    exact List.mem_map.2 ⟨x.toNat, by simp; omega, by omega⟩)
  simpa using h3
theorem iv_at {p : List Int} {j : Nat} {x : Int} (h : p[j]? = some x) : (iv p)[j]? = some (.int .i64 x) := by simp [iv, h]
end Go.Proofs.YtcnnicbaeicboaaDoor
