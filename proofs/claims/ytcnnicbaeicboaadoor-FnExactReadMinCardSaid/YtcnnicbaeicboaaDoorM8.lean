/- PROVED: for every datum (nodes with a sort, a text and a list of kids, and roots, all whatever they are), and whatever lies in memory besides three tables of Go's own library, which read as its text lays them, laws.FnExactReadMin returns true and leaves the datum as it was. The only conditions are the row's own: the three tables; the card ties them to the library's text. -/
import Derived.Test.YtcnnicbaeicboaaDoorM7
import Derived.Test.YtcnnicbaeicboaaDoorCards
import Derived.Test.YtcnnicbaeicboaaDoorTie
import Derived.Lib.SmallJoins
import Derived.ChangeSlices
import Derived.Deep.Strs
import Derived.ProofKit
import Derived.OpenShut
import Derived.ShutString
import Derived.Lib.LaidU8
import Derived.Lib.LaidTab
import Derived.ChangeOld
import Derived.ChangeVars
import Derived.Lay
import Derived.LaidOnce
import Derived.JoinedOf
import Derived.Handy
import Derived.SevenTiedAt
/- impl.ReadMin. -/
namespace Go.Proofs.YtcnnicbaeicboaaDoor
open Go.RowKit Go.Shelf Nt

theorem cloneS_c (t : ByteArray) (w : World) (ht : t.size ≤ 1048576) :
    Calls Tryd.prog 82 #[.string t] w fun e w' => e = .returned (.string t) ∧ Below w.heap.size w w' := by
  have HC := hide (Tryd.stringslite_Clone t w (by omega))
  go_enter Tryd.func82, Tryd.ntmps82
  go_wp2_with fail
  refine (unhide HC).mono ?_
  rintro e w1 ⟨rfl, hb1⟩
  have HB := hide hb1
  clear hb1
  go_wp2
  go_ret
  exact ⟨rfl, unhide HB⟩
theorem minOk_fit {ns : List Nd} {rs : List Int} (h : minOk (ns, rs) = true) : KidsR' ns ∧ (∀ nd ∈ ns, nd.2.2.length ≤ 40) ∧ ∀ r ∈ rs, 0 ≤ r ∧ r < ns.length := by
  refine ⟨fun i hi x hx => ?_, fun nd hnd => ?_, fun r hr => ?_⟩
  · have h1 := minOk_kids h
    have e := List.getElem?_eq_getElem hi
    rw [ndAt_get e] at hx
    exact h1 _ (List.getElem_mem hi) x hx
  · rw [minOk_eq, Bool.and_eq_true] at h
    have h2 := List.all_eq_true.1 h.2 nd hnd
    unfold cntOk at h2
    split at h2
    · simp at h2; omega
    · split at h2
      · simp at h2; omega
      · simp at h2; simp [h2]
  · unfold minOk at h
    simp only [Bool.and_eq_true] at h
    exact inR_iff.1 (List.all_eq_true.1 h.2 r hr)

theorem RowN.low {w : World} {base b i : Nat} {v u : Value} {ns : List Nd} {kvs : List Value} (h : RowN w base v ns kvs) (hb : b < base) : RowN (w.setCell ⟨b, i, none⟩ u) base v ns kvs :=
  ⟨h.1, own_s1 h.2.1 (own_nb h.2.1 hb), fun j nd kv e1 e2 => ⟨(h.2.2 j nd kv e1 e2).1, own_s1 (h.2.2 j nd kv e1 e2).2 (own_nb (h.2.2 j nd kv e1 e2).2 hb)⟩⟩
theorem apart_snoc {l : List Value} {x : Value} (h : Apart l) (hx : ∀ y ∈ l, ∀ i, y.ownBlock = some i → x.ownBlock ≠ some i) : Apart (l ++ [x]) := by
  unfold Apart at h ⊢
  rw [List.pairwise_append]
  refine ⟨h, by simp, fun a ha b hb i hi => ?_⟩
  have : b = x := by simpa using hb
  subst this
  exact hx a ha i hi
theorem dataOwn_of {W : World} {base L : Nat} {nvv rv : Value} {ns : List Nd} {rs : List Int} {kvs : List Value} (h : RowN W L nvv ns kvs) (hr : W.ownsRow base 3 1 rv rs.length (iv rs)) (hap : Apart kvs) (hL : base ≤ L) (hrv : ∀ b, rv.ownBlock = some b → b < L) :
    DataOwn W base W.heap.size (.agg #[nvv, rv]) (ns, rs) := by
  obtain ⟨hl, hrow, hk⟩ := h
  have hkv : ∀ kv ∈ kvs, ∃ (j : Nat) (nd : Nd), ns[j]? = some nd ∧ kvs[j]? = some kv ∧ W.ownsRow L 3 1 kv nd.2.2.length (iv nd.2.2) := fun kv hm => by
    obtain ⟨j, hj⟩ := List.getElem?_of_mem hm
    have hjl := (List.getElem?_eq_some_iff.1 hj).1
    have e1 : ns[j]? = some (ns[j]'(by omega)) := List.getElem?_eq_getElem _
    exact ⟨j, _, e1, hj, (hk j _ kv e1 hj).2⟩
  refine ⟨nvv, rv, kvs, rfl, ?_, hr, ?_, ?_, ?_, Nat.le_refl _⟩
  · rcases hrow.2 with ⟨rfl, h0⟩ | ⟨g, cap, cur, rfl, hb, hg, h1, h2, h3, h4⟩
    · have hn : ns = [] := List.eq_nil_of_length_eq_zero h0
      subst hn
      exact .inl ⟨rfl, rfl, List.eq_nil_of_length_eq_zero hl⟩
    · refine .inr ⟨g, cap, rfl, h1, h2, ⟨by omega, (Array.getElem?_eq_some_iff.1 hg).1, hl⟩, fun j => hrow.frozenAt j, fun j hj => ?_, fun j nd kv e1 e2 => ?_, hap, fun kv hm => ?_⟩
      · have hj : j < ns.length * 3 := hj
        have hlen := hrow.1
        exact ⟨_, (hrow.cellAt j (by omega)).trans (List.getElem?_eq_getElem (by omega))⟩
      · have e1 : ns[j]? = some nd := e1
        have hj := (List.getElem?_eq_some_iff.1 e1).1
        obtain ⟨f0, f1, f2⟩ := flatN_get e1 e2
        obtain ⟨hl2, ho⟩ := hk j nd kv e1 e2
        exact ⟨by rw [hrow.cellAt (j * 3) (by omega)]; exact f0, by rw [hrow.cellAt (j * 3 + 1) (by omega)]; exact f1, by rw [hrow.cellAt (j * 3 + 2) (by omega)]; exact f2, hl2, own_base ho hL⟩
      · obtain ⟨j, nd, _, _, ho⟩ := hkv kv hm
        rcases own_ne ho hrow (by decide) with e | e
        · rw [e]; simp
        · exact e
  · unfold Apart at hap ⊢
    rw [List.pairwise_cons]
    refine ⟨fun kv hm i hi hc => ?_, hap⟩
    obtain ⟨j, nd, _, _, ho⟩ := hkv kv hm
    have := hrv i hi
    have := (own_lt ho hc).1
    omega
  · intro i hi hc
    have := hrv i hc
    have := (own_lt hrow hi).1
    omega
  · rintro x (rfl | rfl | hm) i hi
    · exact (own_lt hrow hi).2
    · exact (own_lt hr hi).2
    · obtain ⟨j, nd, _, _, ho⟩ := hkv x hm
      exact (own_lt ho hi).2
theorem dataOwn_nil (w : World) (base : Nat) : DataOwn w base w.heap.size (.agg #[.slice none 0 0, .slice none 0 0]) ([], []) := by
  refine ⟨_, _, [], rfl, .inl ⟨rfl, rfl, rfl⟩, World.ownsRow_nil _ _ _ _, ?_, fun i h => by simp [Value.ownBlock] at h, fun x hx i h => ?_, Nat.le_refl _⟩
  · unfold Apart; simp
  · rcases hx with rfl | rfl | hx
    · simp [Value.ownBlock] at h
    · simp [Value.ownBlock] at h
    · simp at hx

set_option maxRecDepth 100000 in
set_option maxHeartbeats 16000000 in
theorem readMin_c (nv rv : Value) (d : Dt) (w : World) (h : DataAt w (.agg #[nv, rv]) d) (hs : d.1.length ≤ 1048576 ∧ d.2.length ≤ 1048576 ∧ NsSmall d.1) (hwf : ∀ nd ∈ d.1, (Lit.int .i64 nd.1).wf = true)
    (htab : Lib.TabBelow Tryd.prog w.heap.size w "internal/strconv.uint64pow10" .u64 Lib.pow10Tab) :
    Calls Tryd.prog 28 #[.agg #[nv, rv]] w fun e w' => (∃ gn gr, e = .returned (.agg #[gn, gr]) ∧ DataOwn w' w.heap.size w'.heap.size (.agg #[gn, gr]) (minM d)) ∧ Below w.heap.size w w' := by
  obtain ⟨i0, hi, hz0, hz1, hz2⟩ := info_parts Tryd.infoInt
  obtain ⟨j0, hj, hy0, hy1, hy2⟩ := info_parts Tryd.infoNode
  have HDT := hide h
  obtain ⟨ns, rs⟩ := d
  obtain ⟨nv', rv', e, hn0, hr0⟩ := h
  simp only [Value.agg.injEq, Array.mk.injEq, List.cons.injEq, and_true] at e
  obtain ⟨rfl, rfl⟩ := e
  simp only at hs hn0 hr0 hwf
  have HN := hide hn0
  have HR := hide hr0
  obtain ⟨na, nc, rfl, hn1, hn2, -⟩ := hn0
  obtain ⟨ra, rc, rfl, hr1, hr2, -⟩ := hr0
  unfold maxLen at hn2 hr2
  have HS := hide hs
  have HWF := hide hwf
  have HT := hide htab
  obtain ⟨s1, s2, s3⟩ := hs
  have HSM := hide s3
  clear hwf htab s3
  have hmk := fun W => make_run (P := Tryd.prog) Tryd.underlying41 hi hz0 hz1 hz2 rfl ns.length (by omega) (by omega) W
  obtain ⟨Y0, hY0⟩ : ∃ Y0, Obj.cells #[.slice na ns.length nc, .slice ra rs.length rc] 47 = Y0 := ⟨_, rfl⟩
  obtain ⟨Y1, hY1⟩ : ∃ Y1, Obj.cells #[.slice none 0 0, .slice none 0 0] 47 = Y1 := ⟨_, rfl⟩
  obtain ⟨TF, Y2, hY2⟩ : ∃ (TF : TypeId) (Y2 : Obj), Obj.cells #[.func (.func 77) #[] #[], .func (.func 78) #[] #[]] TF = Y2 ∧ TF = 100 := ⟨_, _, rfl, rfl⟩
  have hB0 := step_a (step_a (step_a (Below.refl w.heap.size w) Y0) Y1) Y2
  have HDB : Hid (AtC2 (((w.alloc Y0).alloc Y1).alloc Y2) w.heap.size (.slice na ns.length nc) (.slice ra rs.length rc) 47) := hide (by
    have h := AtC2.new w (.slice na ns.length nc) (.slice ra rs.length rc) 47
    rw [hY0] at h
    exact (h.alloc Y1).alloc Y2)
  have HRB : Hid (AtC2 (((w.alloc Y0).alloc Y1).alloc Y2) (w.heap.size + 1) (.slice none 0 0) (.slice none 0 0) 47) := hide (by
    have h := AtC2.new (w.alloc Y0) (.slice none 0 0) (.slice none 0 0) 47
    rw [hY1, World.size_alloc] at h
    exact h.alloc Y2)
  have HFB : Hid (AtC2 (((w.alloc Y0).alloc Y1).alloc Y2) (w.heap.size + 1 + 1) (.func (.func 77) #[] #[]) (.func (.func 78) #[] #[]) TF) := hide (by
    have h := AtC2.new ((w.alloc Y0).alloc Y1) (.func (.func 77) #[] #[]) (.func (.func 78) #[] #[]) TF
    rw [hY2.1, World.size_alloc, World.size_alloc] at h
    exact h)
  have HB0 := hide hB0
  obtain ⟨hY2, hTF⟩ := hY2
  subst hTF
  have HY0 := hide hY0
  have HY1 := hide hY1
  have HY2 := hide hY2
  clear hY0 hY1 hY2 hB0
  go_enter Tryd.func28, Tryd.ntmps28
  go_wp2_with fail
  rw [unhide HY0, unhide HY1, unhide HY2]
  obtain ⟨W0, hW0⟩ : ∃ W0, ((w.alloc Y0).alloc Y1).alloc Y2 = W0 := ⟨_, rfl⟩
  rw [hW0] at HDB HRB HFB HB0 ⊢
  clear HY0 HY1 HY2 hW0
  have h := readHolds_c (.slice na ns.length nc) (.slice ra rs.length rc) (ns, rs) (w.heap.size + 1 + 1) _ W0 ((unhide HDT).below (unhide HB0)) (unhide HS) (unhide HFB)
  refine h.mono ?_
  clear h
  rintro e w1 ⟨rfl, hb1⟩
  have HB1 := hide (step_b (unhide HB0) hb1)
  have HD1 := hide ((unhide HDB).below hb1)
  have HR1 := hide ((unhide HRB).below hb1)
  clear hb1 HFB HDB HRB HB0
  cases hok : minOk (ns, rs) with
  | false =>
    have HMB : Hid (minM (ns, rs) = ([], [])) := hide (minM_bad hok)
    have r0 := (unhide HR1).n0
    have r1 := (unhide HR1).n1
    have f0 := (unhide HR1).f 0
    have f1 := (unhide HR1).f 1
    have HRF := hide (((unhide HR1).st0 (.slice none 0 0)).st1 (.slice none 0 0))
    have z0 := (unhide HRF).n0
    have z1 := (unhide HRF).n1
    have HBF := hide (((unhide HB1).setCell (p := ⟨w.heap.size + 1, 0, none⟩) (Nat.le_succ _) (.slice none 0 0)).setCell (p := ⟨w.heap.size + 1, 1, none⟩) (Nat.le_succ _) (.slice none 0 0))
    clear hok
    go_wp2_with fail
    refine bodyPost_ret (v := .agg #[.slice none 0 0, .slice none 0 0]) (by simp [results, Tryd.f28, go_sem, z0, z1]) rfl ⟨⟨_, _, rfl, ?_⟩, unhide HBF⟩
    rw [unhide HMB]
    exact dataOwn_nil _ _
  | true =>
    have d0 := (unhide HD1).n0
    have d1 := (unhide HD1).n1
    obtain ⟨hkr, hk40, hrr⟩ := minOk_fit hok
    have HOK := hide hok
    have HKR := hide hkr
    have HK40 := hide hk40
    have HRR := hide hrr
    clear hok hkr hk40 hrr
    go_wp2_with fail
    have h := groupsOf_c (.slice na ns.length nc) ns w1 ((unhide HN).below (unhide HB1)) s1 (unhide HKR) (unhide HK40) (unhide HWF) (fun w' hb => ((unhide HT).on (unhide HB1)) w' (hb.mono (unhide HB1).size))
    refine h.mono ?_
    clear h
    rintro e w2 ⟨⟨gv, of, rfl, hgr, hol, hrg, hpt⟩, hb2⟩
    rw [hol] at hgr
    have HGR := hide hgr
    have HRG := hide hrg
    have HPT := hide hpt
    have HB2 := hide (step_b (unhide HB1) hb2)
    have HD2 := hide ((unhide HD1).below hb2)
    have HR2 := hide ((unhide HR1).below hb2)
    clear hgr hrg hpt hb2 d0 d1 HD1 HR1
    obtain ⟨ga, gc, e4⟩ := own_slice (unhide HGR)
    subst e4
    have d0 := ((unhide HD2).alloc (.cells #[.slice ga ns.length gc] 41)).n0
    have d1 := ((unhide HD2).alloc (.cells #[.slice ga ns.length gc] 41)).n1
    go_wp2_with fail
    have HOL := hide hol
    have hb3 := step_a (Below.refl w2.heap.size w2) (.cells #[.slice ga ns.length gc] 41)
    have HGB3 := hide (Boxed.new w2 41 (.slice ga ns.length gc))
    have HB3 := hide (step_b (unhide HB2) hb3)
    have HD3 := hide ((unhide HD2).below hb3)
    have HR3 := hide ((unhide HR2).below hb3)
    have HG3 := hide (own_below (unhide HGR) hb3)
    obtain ⟨w3, hw3⟩ : ∃ w3, w2.alloc (.cells #[.slice ga ns.length gc] 41) = w3 := ⟨_, rfl⟩
    have hs3 : w2.heap.size < w3.heap.size := by rw [← hw3]; simp
    rw [hw3] at HGB3 HB3 HD3 HR3 HG3 ⊢
    have hN2 := (unhide HB2).size
    clear hw3 hb3 d0 d1 HD2 HR2 HGR hol
    have hgi : IntsAt w3 (.slice ga ns.length gc) of := by
      have h := unhide HG3
      rw [← unhide HOL] at h ⊢
      exact owns_ints h
    have HGI := hide hgi
    have h := readOrder_c (.slice na ns.length nc) (.slice ra rs.length rc) (.slice ga ns.length gc) (ns, rs) of w3 ((unhide HDT).below (unhide HB3)) hgi (unhide HS) (unhide HOK) (unhide HOL) (unhide HRG) (unhide HPT)
    refine h.mono ?_
    clear h hgi
    rintro e w4 ⟨⟨ov, po, rfl, hor, hdf, hro⟩, hb4⟩
    have HOR := hide hor
    have HDF := hide hdf
    have HRO := hide hro
    have hfew := hdf.few
    have HB4 := hide (step_b (unhide HB3) hb4)
    have HD4 := hide ((unhide HD3).below hb4)
    have HR4 := hide ((unhide HR3).below hb4)
    have hN1 : w.heap.size + 1 < w4.heap.size := (unhide HR4).lt
    have HG4 := hide (own_below (unhide HG3) hb4)
    have HGB4 := hide (boxed_below (unhide HGB3) hb4)
    have HGLT : Hid (∀ b, (Value.slice ga ns.length gc).ownBlock = some b → b < w4.heap.size) := hide (fun b hb => (own_lt (own_below (unhide HG3) hb4) hb).2)
    have hN3 := (unhide HB3).size
    have hs4 := hb4.size
    clear hor hdf hro hb4 HD3 HR3 HG3 HGB3 HGI
    obtain ⟨oa, oc, e5⟩ := own_slice (unhide HOR)
    subst e5
    have d0 := (unhide HD4).n0
    have d1 := (unhide HD4).n1
    obtain ⟨Z0, hZ0⟩ : ∃ Z0, Obj.cells (madeCells #[.int .i64 0] ns.length) 3 = Z0 := ⟨_, rfl⟩
    obtain ⟨Z1, hZ1⟩ : ∃ Z1, Obj.cells #[.slice (some ⟨w4.heap.size, 0, none⟩) ns.length ns.length] 41 = Z1 := ⟨_, rfl⟩
    have HPL5 : Hid (((w4.alloc Z0).alloc Z1).ownsRow w.heap.size 3 1 (.slice (some ⟨w4.heap.size, 0, none⟩) ns.length ns.length) ns.length (iv (List.replicate ns.length 0))) := hide (by
      have h := made_own (base := w.heap.size) (e := 3) (z := .int .i64 0) (n := ns.length) (w := w4) (unhide HB4).size (by unfold maxLen; omega)
      rw [hZ0] at h
      simpa [iv] using h.alloc Z1)
    have HPB5 : Hid (Boxed ((w4.alloc Z0).alloc Z1) (w4.heap.size + 1) 41 (.slice (some ⟨w4.heap.size, 0, none⟩) ns.length ns.length)) := hide (by
      have h := Boxed.new (w4.alloc Z0) 41 (.slice (some ⟨w4.heap.size, 0, none⟩) ns.length ns.length)
      rw [hZ1, World.size_alloc] at h
      exact h)
    have hb5 := step_a (step_a (Below.refl w4.heap.size w4) Z0) Z1
    have HB5 := hide (step_b (unhide HB4) hb5)
    have HD5 := hide ((unhide HD4).below hb5)
    have HR5 := hide ((unhide HR4).below hb5)
    have HG5 := hide (own_below (unhide HG4) hb5)
    have HGB5 := hide (boxed_below (unhide HGB4) hb5)
    have HOR5 := hide (own_below (unhide HOR) hb5)
    have hs5 : ((w4.alloc Z0).alloc Z1).heap.size = w4.heap.size + 2 := by simp
    have HZ0 := hide hZ0
    have HZ1 := hide hZ1
    clear hb5 hZ0 hZ1 HD4 HR4 HG4 HGB4
    go_wp2_with fail
    rw [unhide HZ0, unhide HZ1]
    obtain ⟨W5, hW5⟩ : ∃ W5, (w4.alloc Z0).alloc Z1 = W5 := ⟨_, rfl⟩
    rw [hW5] at HPL5 HPB5 HB5 HD5 HR5 HG5 HGB5 HOR5 hs5 ⊢
    clear HZ0 HZ1 hW5 d0 d1
    go_loopw [30] (fun u wr => ∃ (k : Nat) (pl : List Int), k ≤ po.length ∧ u = .int .i64 k ∧ pl.length = ns.length ∧ Hid (wr.ownsRow w.heap.size 3 1 (.slice (some ⟨w4.heap.size, 0, none⟩) ns.length ns.length) ns.length (iv pl)) ∧ Hid (∀ (t : Nat) (p : Int), t < k → po[t]? = some p → gAt pl (gAt of p) = (t : Int)) ∧ Hid (Kept (· = w4.heap.size) W5 wr))
      (fun u _ => po.length - (intOf u).toNat)
    case atStart => exact ⟨0, List.replicate ns.length 0, by omega, rfl, by simp, HPL5, hide (fun t p h => by omega), hide (Kept.refl _ _)⟩
    case round =>
      clear HPL5 hmk
      obtain ⟨k, pl, hk, rfl, hpl, HPL, HPT2, HKP⟩ := hrel
      have HORk := hide (own_keptS (unhide HOR5) (unhide HKP) (fun b hb e => by have := (own_lt (unhide HOR) hb).2; omega))
      have HGk := hide (own_keptS (unhide HG5) (unhide HKP) (fun b hb e => by have := (unhide HGLT) b hb; omega))
      have hbx1 := Boxed.keptS (unhide HGB5) (unhide HKP) (by omega)
      have hbx2 := Boxed.keptS (unhide HPB5) (unhide HKP) (by omega)
      by_cases hlt : k < po.length
      · obtain ⟨p, hp⟩ : ∃ p, po[k]? = some p := ⟨_, List.getElem?_eq_getElem hlt⟩
        have hpr := (unhide HDF).pr p (List.mem_of_getElem? hp)
        obtain ⟨pn, rfl⟩ : ∃ pn : Nat, p = pn := ⟨p.toNat, by omega⟩
        have hgr := (unhide HRG) pn hpr.1 hpr.2
        obtain ⟨gn, hgn⟩ : ∃ gn : Nat, gAt of pn = gn := ⟨(gAt of pn).toNat, by omega⟩
        rw [hgn] at hgr
        obtain ⟨ob, oc', e6, _, _, _⟩ := own_some (unhide HORk) (by omega)
        injection e6 with e7 e8 e9
        subst e7 e9
        have hn0 : 0 < ns.length := by omega
        obtain ⟨gb, gc', e6, _, _, _⟩ := own_some (unhide HGk) hn0
        injection e6 with e7 e8 e9
        subst e7 e9
        have c1 : wr.cell? ⟨ob, k, none⟩ = some (.int .i64 pn) := by
          rw [(unhide HORk).cellAt k (by omega)]; exact iv_at hp
        have c2 : wr.cell? ⟨gb, pn, none⟩ = some (.int .i64 gn) := by
          rw [(unhide HGk).cellAt pn (by omega)]
          have := gAt_lt (g := of) (x := (pn : Int)) (by rw [unhide HOL]; omega)
          rw [Int.toNat_natCast, hgn] at this
          exact iv_at this
        have b1 := hbx1.cell
        have b2 := hbx2.cell
        have f1 := (unhide HPL).frozenAt gn
        obtain ⟨v0, hv0⟩ := own_cell_some (unhide HPL) gn (by omega)
        have hst := (unhide HPL).stored gn (.int .i64 (k : Int))
        rw [iv_set] at hst
        have HST := hide hst.1
        have HK2 := hide ((unhide HKP).trans (Kept.set (S := (· = w4.heap.size)) (a := ⟨w4.heap.size, gn, none⟩) rfl (.int .i64 (k : Int))))
        have HPT3 : Hid (∀ (t : Nat) (p : Int), t < k + 1 → po[t]? = some p → gAt (pl.set gn (k : Int)) (gAt of p) = (t : Int)) := hide (fun t p ht htp => by
          have hpr2 := (unhide HDF).pr p (List.mem_of_getElem? htp)
          have hgr2 := (unhide HRG) p hpr2.1 hpr2.2
          have hset := gAt_set (of := pl) (x := (gn : Int)) (y := gAt of p) (m := (k : Int)) ⟨by omega, by omega⟩ hgr2.1
          rw [Int.toNat_natCast] at hset
          rw [hset]
          by_cases htk : t = k
          · subst htk
            rw [hp] at htp
            cases htp
            rw [if_pos hgn]
          · have hne : ¬ gAt of p = (gn : Int) := fun e => by
              have h1 := ((unhide HPT) p.toNat pn (by omega) (by omega)).1 (by rw [show ((p.toNat : Nat) : Int) = p by omega, e, hgn])
              rw [show ((p.toNat : Nat) : Int) = p by omega] at h1
              have hnd := (unhide HDF).inr.1
              have g1 : (po.map (gAt (grpM ns)))[t]? = some (gAt (grpM ns) pn) := by rw [List.getElem?_map, htp, Option.map_some, h1]
              have g2 : (po.map (gAt (grpM ns)))[k]? = some (gAt (grpM ns) pn) := by rw [List.getElem?_map, hp, Option.map_some]
              obtain ⟨l1, x1⟩ := List.getElem?_eq_some_iff.1 g1
              obtain ⟨l2, x2⟩ := List.getElem?_eq_some_iff.1 g2
              exact htk ((List.getElem_inj hnd).1 (x1.trans x2.symm))
            rw [if_neg hne]
            exact unhide HPT2 t p (by omega) htp)
        have q1 : (pn : Int) < ns.length := by omega
        have q2 : (gn : Int) < ns.length := by omega
        clear hst hgn hp hpr hgr hbx1 hbx2
        go_wp2_with fail
        go_region
        all_goals
          go_wp2_with fail
          go_roundw
          case rel => exact ⟨k + 1, pl.set gn (k : Int), by omega, by go_num, by simp [hpl], hide (by first | exact (unhide HST).drew | exact unhide HST), HPT3, hide (by first | exact (unhide HK2).trans (Kept.of_below (Below.refl _ _).drew) | exact unhide HK2)⟩
          case measure => simp [intOf]; omega
      · obtain rfl : k = po.length := by omega
        obtain ⟨W6, hW6⟩ : ∃ W6, wr = W6 := ⟨_, rfl⟩
        rw [hW6] at HPL HKP HORk HGk hbx1 hbx2 ⊢
        have hs6 := (unhide HKP).size
        have HB6 := hide ((unhide HB5).trans ((unhide HKP).below (base := w.heap.size) (by omega) (fun b hb => by omega)))
        have HD6 := hide ((unhide HD5).kept (unhide HKP) (by omega))
        have HR6 := hide ((unhide HR5).kept (unhide HKP) (by omega))
        have HGI6 : Hid (IntsAt W6 (.slice ga ns.length gc) of) := hide (by
          have h := unhide HGk
          rw [← unhide HOL] at h ⊢
          exact owns_ints h)
        have HPI6 : Hid (IntsAt W6 (.slice (some ⟨w4.heap.size, 0, none⟩) ns.length ns.length) pl) := hide (by
          have h := unhide HPL
          rw [← hpl] at h ⊢
          exact owns_ints h)
        have HX6 := hide hbx1
        have HY6 := hide hbx2
        have HPL2 := hide hpl
        have d1 := (unhide HD6).n1
        have hmv := fun (W : World) (hW : Below W6.heap.size W6 W) (fv : Value) (xs : List Int) (hf : IntsAt W fv xs) (hn : xs.length ≤ 1048576) (hr : ∀ x ∈ xs, 0 ≤ x ∧ x < ns.length) =>
          moved_c (w4.heap.size + 1) w2.heap.size fv (.slice (some ⟨w4.heap.size, 0, none⟩) ns.length ns.length) (.slice ga ns.length gc) xs pl of W hf ((unhide HPI6).below hW) ((unhide HGI6).below hW) (boxed_below (unhide HY6) hW).cell (boxed_below (unhide HX6) hW).cell hn
            (fun x hx => by have h1 := hr x hx; have h2 := (unhide HRG) x h1.1 h1.2; rw [unhide HOL, unhide HPL2]; exact ⟨h1, h2⟩)
        have HMV := hide hmv
        have HRT := hide (hmv W6 (Below.refl _ _) (.slice ra rs.length rc) rs ((unhide HR).below (unhide HB6)) s2 (unhide HRR))
        clear hmv hbx1 hbx2 hpl hW6 HPL HKP HGk
        go_wp2_with fail
        have h := unhide HRT
        refine h.mono ?_
        clear h HRT
        rintro e w7 ⟨⟨rv7, rfl, hrow7⟩, hb7⟩
        obtain ⟨ta, tc, e8⟩ := own_slice hrow7
        subst e8
        have hN6 := (unhide HB6).size
        have hb8 := step_a (Below.refl w7.heap.size w7) (.cells #[.slice none 0 0, .slice ta rs.length tc] 47)
        have HT9 := hide (AtC2.new w7 (.slice none 0 0) (.slice ta rs.length tc) 47)
        have hB68 := step_b hb7 hb8
        have HB8 := hide (step_b (unhide HB6) hB68)
        have HB68 := hide hB68
        have HD8 := hide ((unhide HD6).below hB68)
        have HR8 := hide ((unhide HR6).below hB68)
        have HO8 := hide (own_below (unhide HORk) hB68)
        have HRW := hide (own_below hrow7 hb8)
        have hrl := fun b hb => (own_lt hrow7 (b := b) hb).2
        have hs67 := hb7.size
        obtain ⟨W8, hW8⟩ : ∃ W8, w7.alloc (.cells #[.slice none 0 0, .slice ta rs.length tc] 47) = W8 := ⟨_, rfl⟩
        have hs8 : W8.heap.size = w7.heap.size + 1 := by rw [← hW8]; simp
        rw [hW8] at HT9 HB8 HB68 HD8 HR8 HO8 HRW
        have HW8 := hide hW8
        have HRL := hide hrl
        clear hb8 hB68 hW8 hrow7 hb7 hrl HD6 HR6 HORk d1
        go_wp2_with fail
        rw [unhide HW8]
        clear HW8
        obtain ⟨nf, hnf⟩ : ∃ nf : Int → Nd, (fun p : Int => ((ndAt ns p.toNat).1, (ndAt ns p.toNat).2.1, (ndAt ns p.toNat).2.2.map fun k => gAt pl (gAt of k))) = nf := ⟨_, rfl⟩
        have HNF : Hid (∀ (pn : Nat) (nd : Nd), ns[pn]? = some nd → nf pn = (nd.1, nd.2.1, nd.2.2.map fun k => gAt pl (gAt of k))) := hide (fun pn nd h => by
          rw [← hnf]
          simp only [Int.toNat_natCast, ndAt_get h])
        have HMIN : Hid (minM (ns, rs) = (po.map nf, rs.map fun r => gAt pl (gAt of r))) := hide (by
          rw [← hnf]
          exact min_same (unhide HOK) (unhide HPT) (unhide HDF) (unhide HRO) (fun t p htp => (unhide HPT2) t p (by have := (List.getElem?_eq_some_iff.1 htp).1; omega) htp))
        have HK0 := hide (Kept.refl (· = w7.heap.size) W8)
        have HN0 : Hid (RowN W8 W8.heap.size (.slice none 0 0) ((po.take 0).map nf) []) := hide ⟨by simp, World.ownsRow_nil _ _ _ _, fun j nd kv e => by simp at e⟩
        clear hnf HPT2
        go_loopw [51] (fun u wr => ∃ (k : Nat) (nvv : Value) (kvs : List Value), k ≤ po.length ∧ u = .int .i64 k ∧ Hid (AtC2 wr w7.heap.size nvv (.slice ta rs.length tc) 47) ∧ Hid (RowN wr W8.heap.size nvv ((po.take k).map nf) kvs) ∧ Hid (Apart kvs) ∧ Hid (Kept (· = w7.heap.size) W8 wr))
          (fun u _ => po.length - (intOf u).toNat)
        case atStart => exact ⟨0, _, [], by omega, rfl, HT9, HN0, hide (by unfold Apart; simp), HK0⟩
        case round =>
          clear HT9 HN0 HK0
          obtain ⟨k, nvv, kvs, hk, rfl, HT, HRN, HAP, HKP⟩ := hrel
          obtain ⟨Wk, hWk⟩ : ∃ Wk, wr = Wk := ⟨_, rfl⟩
          rw [hWk] at HT HRN HKP ⊢
          clear hWk
          have HDk := hide ((unhide HD8).kept (unhide HKP) (by omega))
          have HOk := hide (own_keptS (unhide HO8) (unhide HKP) (fun b hb e => by have := (own_lt (unhide HOR) hb).2; omega))
          have HB6k := hide ((unhide HB68).trans ((unhide HKP).below (base := W6.heap.size) (unhide HB68).size (fun b hb => by omega)))
          have hsk := (unhide HKP).size
          have hlk : ((po.take k).map nf).length = k := by simp; omega
          by_cases hlt : k < po.length
          · obtain ⟨p, hp⟩ : ∃ p, po[k]? = some p := ⟨_, List.getElem?_eq_getElem hlt⟩
            have hpr := (unhide HDF).pr p (List.mem_of_getElem? hp)
            obtain ⟨pn, rfl⟩ : ∃ pn : Nat, p = pn := ⟨p.toNat, by omega⟩
            obtain ⟨nd, hnd⟩ : ∃ nd, ns[pn]? = some nd := ⟨_, List.getElem?_eq_getElem (by omega)⟩
            have hnfp := (unhide HNF) pn nd hnd
            obtain ⟨ob, oc', e6, _, _, _⟩ := own_some (unhide HOk) (by omega)
            injection e6 with e7 e8 e9
            subst e7 e9
            have c1 : Wk.cell? ⟨ob, k, none⟩ = some (.int .i64 pn) := by
              rw [(unhide HOk).cellAt k (by omega)]; exact iv_at hp
            have hNk := (unhide HN).below (step_b (unhide HB6) (unhide HB6k))
            obtain ⟨nb, no, ncc, e10, _, _, hnb⟩ := hNk.form (by omega)
            injection e10 with e11 e12 e13
            subst e11 e13
            obtain ⟨kv0, m0, m1, m2, htl, hki⟩ := hNk.node hnd
            obtain ⟨ka, kc, hkve, hk1, hk2, _⟩ := id hki
            subst hkve
            unfold maxLen at hk2
            have hsml := (unhide HSM) nd (List.mem_of_getElem? hnd)
            have hkr2 := (unhide HKR) pn (by omega)
            rw [ndAt_get hnd] at hkr2
            have d0 := (unhide HDk).n0
            have t0 := (unhide HT).n0
            have hb12 := step_a (Below.refl Wk.heap.size Wk) (.cells #[.int .i64 nd.1, .string (B nd.2.1), .slice ka nd.2.2.length kc] 93)
            have HX12 := hide (AtC3.new Wk (.int .i64 nd.1) (.string (B nd.2.1)) (.slice ka nd.2.2.length kc) 93)
            have HT12 := hide ((unhide HT).below hb12)
            have HRN12 := hide ((unhide HRN).below hb12)
            have HKI := hide (hki.below hb12)
            have HB612 := hide (step_b (unhide HB6k) hb12)
            obtain ⟨W12, hW12⟩ : ∃ W12, Wk.alloc (.cells #[.int .i64 nd.1, .string (B nd.2.1), .slice ka nd.2.2.length kc] 93) = W12 := ⟨_, rfl⟩
            have hs12 : W12.heap.size = Wk.heap.size + 1 := by rw [← hW12]; simp
            rw [hW12] at hb12 HX12 HT12 HRN12 HKI HB612
            have HB12 := hide hb12
            have HW12 := hide hW12
            have HNFP := hide hnfp
            have HKR2 := hide hkr2
            have HTL := hide htl
            have HTKE := hide (show (po.take (k + 1)).map nf = (po.take k).map nf ++ [(nd.1, nd.2.1, nd.2.2.map fun x => gAt pl (gAt of x))] by rw [List.take_add_one, hp]; simp [unhide HNFP])
            clear hb12 hW12 hnfp hkr2 hki hNk hp
            go_wp2_with fail
            rw [unhide HW12]
            clear HW12 m0 m1 m2 d0 t0 c1
            have HXC : Hid (∀ W, Below W12.heap.size W12 W → (W.cell? ⟨Wk.heap.size, 0, none⟩ = some (.int .i64 nd.1) ∧ W.cell? ⟨Wk.heap.size, 1, none⟩ = some (.string (B nd.2.1)) ∧ W.cell? ⟨Wk.heap.size, 2, none⟩ = some (.slice ka nd.2.2.length kc)) ∧ AtC2 W w7.heap.size nvv (.slice ta rs.length tc) 47 ∧ W.cell? ⟨w7.heap.size, 0, none⟩ = some nvv) := hide (fun W hW => by
              have h1 := (unhide HX12).below hW
              have h2 := (unhide HT12).below hW
              exact ⟨⟨h1.n0, h1.n1, h1.n2⟩, h2, h2.n0⟩)
            have hd := (unhide HXC) W12.drew (Below.refl _ _).drew
            obtain ⟨⟨x0, x1, x2⟩, _, t0⟩ := hd
            have t1 := ((unhide HXC) W12 (Below.refl _ _)).2.2
            have hsz2 : (B nd.2.1).size ≤ 1048576 := by have := hsml.1; simpa [B, ByteArray.size] using this
            have HMVK : Hid (∀ W, Below W12.heap.size W12 W → Calls Tryd.prog 81 #[.slice ka nd.2.2.length kc, .pointer (some ⟨w4.heap.size + 1, 0, none⟩), .pointer (some ⟨w2.heap.size, 0, none⟩)] W fun e w' => (∃ v, e = .returned v ∧ w'.ownsRow W.heap.size 3 1 v nd.2.2.length (iv (nd.2.2.map fun x => gAt pl (gAt of x)))) ∧ Below W.heap.size W w') := hide (fun W hW =>
              (unhide HMV) W (step_b (unhide HB612) hW) _ nd.2.2 ((unhide HKI).below hW) hsml.2 (unhide HKR2))
            obtain ⟨p, hp⟩ : ∃ p : MPar, p = { w0 := W12.drew, P6 := fun W => Below W12.heap.size W12 W, P10 := fun W u => Below W12.heap.size W12 W ∧ ∃ (wc : World) (ma : Option Addr) (mc : Nat), Below W12.heap.size W12 wc ∧ u = .slice ma nd.2.2.length mc ∧ W.ownsRow wc.heap.size 3 1 u nd.2.2.length (iv (nd.2.2.map fun x => gAt pl (gAt of x))), bd := fun u => .agg #[.int .i64 nd.1, .string (B nd.2.1), u], al := fun W u => W.alloc (.cells #[.int .i64 nd.1, .string (B nd.2.1), u] 93), sl := fun W => .slice (some ⟨W.heap.size, 0, none⟩) 1 1, P13 := fun W u => ∃ (gg cap : Nat) (wm wc : World) (y : Value), u = .slice (some ⟨gg, 0, none⟩) (k + 1) cap ∧ Below W12.heap.size W12 wm ∧ Below W12.heap.size W12 wc ∧ wm.ownsRow wc.heap.size 3 1 y nd.2.2.length (iv (nd.2.2.map fun x => gAt pl (gAt of x))) ∧ W.ownsRow W8.heap.size 93 3 u (k + 1) (flatN ((po.take k).map nf) kvs ++ nd3 (nd.1, nd.2.1, (nd.2.2.map fun x => gAt pl (gAt of x))) y) ∧ (wm.alloc (.cells #[.int .i64 nd.1, .string (B nd.2.1), y] 93)).grownBy W nvv.ownBlock, put := fun W u => W.setCell ⟨w7.heap.size, 0, none⟩ u } := ⟨_, rfl⟩
            have p0 : p.w0 = W12.drew := by subst hp; rfl
            have p6 : ∀ W, p.P6 W ↔ Below W12.heap.size W12 W := fun W => by subst hp; exact Iff.rfl
            have p10 : ∀ W u, p.P10 W u ↔ (Below W12.heap.size W12 W ∧ ∃ (wc : World) (ma : Option Addr) (mc : Nat), Below W12.heap.size W12 wc ∧ u = .slice ma nd.2.2.length mc ∧ W.ownsRow wc.heap.size 3 1 u nd.2.2.length (iv (nd.2.2.map fun x => gAt pl (gAt of x)))) := fun W u => by subst hp; exact Iff.rfl
            have pb : ∀ u, p.bd u = .agg #[.int .i64 nd.1, .string (B nd.2.1), u] := fun u => by subst hp; rfl
            have pa : ∀ W u, p.al W u = W.alloc (.cells #[.int .i64 nd.1, .string (B nd.2.1), u] 93) := fun W u => by subst hp; rfl
            have ps : ∀ W, p.sl W = .slice (some ⟨W.heap.size, 0, none⟩) 1 1 := fun W => by subst hp; rfl
            have p13 : ∀ W u, p.P13 W u ↔ ∃ (gg cap : Nat) (wm wc : World) (y : Value), u = .slice (some ⟨gg, 0, none⟩) (k + 1) cap ∧ Below W12.heap.size W12 wm ∧ Below W12.heap.size W12 wc ∧ wm.ownsRow wc.heap.size 3 1 y nd.2.2.length (iv (nd.2.2.map fun x => gAt pl (gAt of x))) ∧ W.ownsRow W8.heap.size 93 3 u (k + 1) (flatN ((po.take k).map nf) kvs ++ nd3 (nd.1, nd.2.1, (nd.2.2.map fun x => gAt pl (gAt of x))) y) ∧ (wm.alloc (.cells #[.int .i64 nd.1, .string (B nd.2.1), y] 93)).grownBy W nvv.ownBlock := fun W u => by subst hp; exact Iff.rfl
            have pp : ∀ W u, p.put W u = W.setCell ⟨w7.heap.size, 0, none⟩ u := fun W u => by subst hp; rfl
            have HP0 := hide p0
            have HP6 := hide p6
            have HP10 := hide p10
            have HP13 := hide p13
            have HPB := hide pb
            have HPA := hide pa
            have HPS := hide ps
            have HPP := hide pp
            clear hp p0 p6 p10 p13 pb pa ps pp
            obtain ⟨v, hv⟩ : ∃ v : Nat → Value, v = fun j => match j with
              | 0 => .pointer (some ⟨w7.heap.size, 0, none⟩)
              | 1 => nvv
              | 2 => .pointer (some ⟨Wk.heap.size, 0, none⟩)
              | 3 => .int .i64 nd.1
              | 4 => .pointer (some ⟨Wk.heap.size, 1, none⟩)
              | 5 => .string (B nd.2.1)
              | 6 => .string (B nd.2.1)
              | 7 => .func (Fn.func (81 : Nat)) #[] #[.pointer (some ⟨w4.heap.size + 1, 0, none⟩), .pointer (some ⟨w2.heap.size, 0, none⟩)]
              | 8 => .pointer (some ⟨Wk.heap.size, 2, none⟩)
              | 9 => .slice ka nd.2.2.length kc
              | 14 => .pointer (some ⟨w7.heap.size, 0, none⟩)
              | _ => undef := ⟨_, rfl⟩
            have v0 : v 0 = .pointer (some ⟨w7.heap.size, 0, none⟩) := by subst hv; rfl
            have v1 : v 1 = nvv := by subst hv; rfl
            have v2 : v 2 = .pointer (some ⟨Wk.heap.size, 0, none⟩) := by subst hv; rfl
            have v3 : v 3 = .int .i64 nd.1 := by subst hv; rfl
            have v4 : v 4 = .pointer (some ⟨Wk.heap.size, 1, none⟩) := by subst hv; rfl
            have v5 : v 5 = .string (B nd.2.1) := by subst hv; rfl
            have v6 : v 6 = .string (B nd.2.1) := by subst hv; rfl
            have v7 : v 7 = .func (Fn.func (81 : Nat)) #[] #[.pointer (some ⟨w4.heap.size + 1, 0, none⟩), .pointer (some ⟨w2.heap.size, 0, none⟩)] := by subst hv; rfl
            have v8 : v 8 = .pointer (some ⟨Wk.heap.size, 2, none⟩) := by subst hv; rfl
            have v9 : v 9 = .slice ka nd.2.2.length kc := by subst hv; rfl
            have v14 : v 14 = .pointer (some ⟨w7.heap.size, 0, none⟩) := by subst hv; rfl
            clear hv x0 x1 x2 t0 t1
            refine wp_region_any (by kernel_rfl) ?_
            change wpAny _ _ _ _ _ _ _ (World.drew _)
            refine wpAny_inv (fun l a w' => ∃ x : Nat → Value, a = ⟨#[.agg #[.slice (some ⟨nb, no, none⟩) ns.length nc, .slice ra rs.length rc], .pointer (some ⟨w.heap.size, 0, none⟩), .pointer (some ⟨w.heap.size + 1, 0, none⟩), .pointer (some ⟨w2.heap.size, 0, none⟩), .slice (some ⟨ob, 0, none⟩) po.length oc, .pointer (some ⟨w4.heap.size + 1, 0, none⟩), u6, u7, .func (Fn.func (81 : Nat)) #[] #[.pointer (some ⟨w4.heap.size + 1, 0, none⟩), .pointer (some ⟨w2.heap.size, 0, none⟩)], .pointer (some ⟨w7.heap.size, 0, none⟩), undef, .int .i64 ↑pn, .pointer (some ⟨Wk.heap.size, 0, none⟩), .agg #[.slice (some ⟨nb, no, none⟩) ns.length nc, .slice ra rs.length rc], .slice (some ⟨w.heap.size + 1 + 1, 0, none⟩) 2 2, .bool true, .bool false, undef, .pointer (some ⟨w.heap.size, 0, none⟩), .slice (some ⟨nb, no, none⟩) ns.length nc, .slice ga ns.length gc, .agg #[.slice (some ⟨nb, no, none⟩) ns.length nc, .slice ra rs.length rc], .slice ga ns.length gc, .slice (some ⟨ob, 0, none⟩) po.length oc, .pointer (some ⟨w.heap.size, 0, none⟩), .slice (some ⟨nb, no, none⟩) ns.length nc, .int .i64 ↑ns.length, .slice (some ⟨w4.heap.size, 0, none⟩) ns.length ns.length, .slice (some ⟨ob, 0, none⟩) po.length oc, .int .i64 ↑po.length, .int .i64 ↑po.length, .bool false, u32, u33, u34, u35, u36, u37, u38, u39, u40, u41, u42, .func (Fn.func (81 : Nat)) #[] #[.pointer (some ⟨w4.heap.size + 1, 0, none⟩), .pointer (some ⟨w2.heap.size, 0, none⟩)], .func (Fn.func (81 : Nat)) #[] #[.pointer (some ⟨w4.heap.size + 1, 0, none⟩), .pointer (some ⟨w2.heap.size, 0, none⟩)], .pointer (some ⟨w.heap.size, 1, none⟩), .slice ra rs.length rc, .slice ta rs.length tc, .agg #[.slice none 0 0, .slice ta rs.length tc], .slice (some ⟨ob, 0, none⟩) po.length oc, .int .i64 ↑po.length, .int .i64 ↑k, .bool true, .pointer (some ⟨ob, k, none⟩), .int .i64 ↑pn, .pointer (some ⟨w.heap.size, 0, none⟩), .slice (some ⟨nb, no, none⟩) ns.length nc, .int .i64 ↑pn, .pointer (some ⟨nb, no + pn * 3, none⟩), .agg #[.int .i64 nd.1, .string (B nd.2.1), .slice ka nd.2.2.length kc], x 0, x 1, x 2, x 3, x 4, x 5, x 6, x 7, x 8, x 9, x 10, x 11, x 12, x 13, x 14, u75, undef], []⟩ ∧ MStep p v l x w') ?hsz ?hend ?hstep ?hgo _ _ _ _ ?h0 ?hc
            case hsz =>
              rintro l a w' ⟨x, _, h⟩
              exact h.sz
            case h0 =>
              exact ⟨fun j => [u60, u61, u62, u63, u64, u65, u66, u67, u68, u69, u70, u71, u72, u73, u74].getD j undef, rfl, MStep.start rfl (unhide HP0).symm⟩
            case hc => exact Nat.le_of_eq rfl
            case hgo =>
              rintro l a w' ⟨x, rfl, h⟩ hr j hj
              have k0 : l[0]? = some true := LL_ready hr 0 (by simp) (by rw [h.sz]; rfl) (by simp [Region.binds, Array.getD_eq_getD_getElem?])
              have k2 : l[2]? = some true := LL_ready hr 2 (by simp) (by rw [h.sz]; rfl) (by simp [Region.binds, Array.getD_eq_getD_getElem?])
              have k4 : l[4]? = some true := LL_ready hr 4 (by simp) (by rw [h.sz]; rfl) (by simp [Region.binds, Array.getD_eq_getD_getElem?])
              have k7 : l[7]? = some true := LL_ready hr 7 (by simp) (by rw [h.sz]; rfl) (by simp [Region.binds, Array.getD_eq_getD_getElem?])
              have k8 : l[8]? = some true := LL_ready hr 8 (by simp) (by rw [h.sz]; rfl) (by simp [Region.binds, Array.getD_eq_getD_getElem?])
              have k1 : l[1]? = some true := LL_ready hr 1 (by simp) (by rw [h.sz]; rfl) (by simp [Region.binds, Array.getD_eq_getD_getElem?, k0])
              have k3 : l[3]? = some true := LL_ready hr 3 (by simp) (by rw [h.sz]; rfl) (by simp [Region.binds, Array.getD_eq_getD_getElem?, k2])
              have k5 : l[5]? = some true := LL_ready hr 5 (by simp) (by rw [h.sz]; rfl) (by simp [Region.binds, Array.getD_eq_getD_getElem?, k4])
              have k9 : l[9]? = some true := LL_ready hr 9 (by simp) (by rw [h.sz]; rfl) (by simp [Region.binds, Array.getD_eq_getD_getElem?, k8])
              have k6 : l[6]? = some true := LL_ready hr 6 (by simp) (by rw [h.sz]; rfl) (by simp [Region.binds, Array.getD_eq_getD_getElem?, k5])
              have k10 : l[10]? = some true := LL_ready hr 10 (by simp) (by rw [h.sz]; rfl) (by simp [Region.binds, Array.getD_eq_getD_getElem?, k6, k7, k9])
              have k11 : l[11]? = some true := LL_ready hr 11 (by simp) (by rw [h.sz]; rfl) (by simp [Region.binds, Array.getD_eq_getD_getElem?, k3, k6, k10])
              have k12 : l[12]? = some true := LL_ready hr 12 (by simp) (by rw [h.sz]; rfl) (by simp [Region.binds, Array.getD_eq_getD_getElem?, k11])
              have k13 : l[13]? = some true := LL_ready hr 13 (by simp) (by rw [h.sz]; rfl) (by simp [Region.binds, Array.getD_eq_getD_getElem?, k1, k10, k12])
              have k14 : l[14]? = some true := LL_ready hr 14 (by simp) (by rw [h.sz]; rfl) (by simp [Region.binds, Array.getD_eq_getD_getElem?, k0, k1, k2, k3, k4, k5, k6, k7, k8, k9, k10, k11, k12, k13])
              have k15 : l[15]? = some true := LL_ready hr 15 (by simp) (by rw [h.sz]; rfl) (by simp [Region.binds, Array.getD_eq_getD_getElem?, k0, k1, k2, k3, k4, k5, k6, k7, k8, k9, k10, k11, k12, k13, k14])
              have hj : j < 16 := by simpa using hj
              rcases (by omega : j = 0 ∨ j = 1 ∨ j = 2 ∨ j = 3 ∨ j = 4 ∨ j = 5 ∨ j = 6 ∨ j = 7 ∨ j = 8 ∨ j = 9 ∨ j = 10 ∨ j = 11 ∨ j = 12 ∨ j = 13 ∨ j = 14 ∨ j = 15) with rfl | rfl | rfl | rfl | rfl | rfl | rfl | rfl | rfl | rfl | rfl | rfl | rfl | rfl | rfl | rfl
              all_goals assumption
            case hstep =>
              rintro l a w' j ⟨x, rfl, h⟩ hi
              have hi2 := hi
              unfold Region.ready at hi2
              rw [List.mem_filter] at hi2
              obtain ⟨hjj, hi3⟩ := hi2
              have hjj : j < 16 := by simpa using hjj
              have hjl : ¬ LL l j := fun e => by
                unfold LL at e
                simp [Array.getD_eq_getD_getElem?, e] at hi3
              obtain ⟨c1, c2, c3, c4, c5⟩ := h.c6
              clear hi
              rcases (by omega : j = 0 ∨ j = 1 ∨ j = 2 ∨ j = 3 ∨ j = 4 ∨ j = 5 ∨ j = 6 ∨ j = 7 ∨ j = 8 ∨ j = 9 ∨ j = 10 ∨ j = 11 ∨ j = 12 ∨ j = 13 ∨ j = 14 ∨ j = 15) with rfl | rfl | rfl | rfl | rfl | rfl | rfl | rfl | rfl | rfl | rfl | rfl | rfl | rfl | rfl | rfl
              · have hd : ∀ z ∈ dp 0, LL l z := fun z hz => by simp [dp] at hz
                clear hi3
                clear c1 c2 c3 c4 c5
                refine wpOp_step rfl (fun K hK => ?_)
                go_simp
                exact hK _ _ ⟨_, by simp [v0], h.still (i := 0) (by omega) hd hjl ⟨by omega, by omega, by omega, by omega, by omega⟩ (v 0) (fun _ => rfl) (fun e => by omega)⟩
              · have hd : ∀ z ∈ dp 1, LL l z := fun z hz => by
                  simp [Region.binds, Array.getD_eq_getD_getElem?] at hi3
                  simp [dp] at hz
                  subst hz
                  exact LL_of (by simp [hi3])
                clear hi3
                obtain ⟨⟨y0, y1, y2⟩, _, ty⟩ := (unhide HXC) w' (h.low (fun e => hjl (h.cl 13 e 1 (by simp [dp]))) (Below W12.heap.size W12) (by rw [unhide HP0]; exact (Below.refl _ _).drew) (fun W e => ((unhide HP6) W).1 e) (fun W u e => (((unhide HP10) W u).1 e).1) (fun W u e => by rw [unhide HPA]; exact step_a (((unhide HP10) W u).1 e).1 _))
                have x0 := (h.val 0 (by omega) (hd 0 (by simp [dp]))).trans v0
                clear c1 c2 c3 c4 c5
                refine wpOp_step rfl (fun K hK => ?_)
                go_simp
                exact hK _ _ ⟨_, by simp [x0, v1], h.still (i := 1) (by omega) hd hjl ⟨by omega, by omega, by omega, by omega, by omega⟩ (v 1) (fun _ => rfl) (fun e => by omega)⟩
              · have hd : ∀ z ∈ dp 2, LL l z := fun z hz => by simp [dp] at hz
                clear hi3
                clear c1 c2 c3 c4 c5
                refine wpOp_step rfl (fun K hK => ?_)
                go_simp
                exact hK _ _ ⟨_, by simp [v2], h.still (i := 2) (by omega) hd hjl ⟨by omega, by omega, by omega, by omega, by omega⟩ (v 2) (fun _ => rfl) (fun e => by omega)⟩
              · have hd : ∀ z ∈ dp 3, LL l z := fun z hz => by
                  simp [Region.binds, Array.getD_eq_getD_getElem?] at hi3
                  simp [dp] at hz
                  subst hz
                  exact LL_of (by simp [hi3])
                clear hi3
                obtain ⟨⟨y0, y1, y2⟩, _, ty⟩ := (unhide HXC) w' (h.low (fun e => hjl (h.cl 11 (c3 (c4 e)) 3 (by simp [dp]))) (Below W12.heap.size W12) (by rw [unhide HP0]; exact (Below.refl _ _).drew) (fun W e => ((unhide HP6) W).1 e) (fun W u e => (((unhide HP10) W u).1 e).1) (fun W u e => by rw [unhide HPA]; exact step_a (((unhide HP10) W u).1 e).1 _))
                have x2 := (h.val 2 (by omega) (hd 2 (by simp [dp]))).trans v2
                clear c1 c2 c3 c4 c5
                refine wpOp_step rfl (fun K hK => ?_)
                go_simp
                exact hK _ _ ⟨_, by simp [x2, v3], h.still (i := 3) (by omega) hd hjl ⟨by omega, by omega, by omega, by omega, by omega⟩ (v 3) (fun _ => rfl) (fun e => by omega)⟩
              · have hd : ∀ z ∈ dp 4, LL l z := fun z hz => by simp [dp] at hz
                clear hi3
                clear c1 c2 c3 c4 c5
                refine wpOp_step rfl (fun K hK => ?_)
                go_simp
                exact hK _ _ ⟨_, by simp [v4], h.still (i := 4) (by omega) hd hjl ⟨by omega, by omega, by omega, by omega, by omega⟩ (v 4) (fun _ => rfl) (fun e => by omega)⟩
              · have hd : ∀ z ∈ dp 5, LL l z := fun z hz => by
                  simp [Region.binds, Array.getD_eq_getD_getElem?] at hi3
                  simp [dp] at hz
                  subst hz
                  exact LL_of (by simp [hi3])
                clear hi3
                obtain ⟨⟨y0, y1, y2⟩, _, ty⟩ := (unhide HXC) w' (h.low (fun e => hjl (h.cl 6 (c1 (c2 (c3 (c4 e)))) 5 (by simp [dp]))) (Below W12.heap.size W12) (by rw [unhide HP0]; exact (Below.refl _ _).drew) (fun W e => ((unhide HP6) W).1 e) (fun W u e => (((unhide HP10) W u).1 e).1) (fun W u e => by rw [unhide HPA]; exact step_a (((unhide HP10) W u).1 e).1 _))
                have x4 := (h.val 4 (by omega) (hd 4 (by simp [dp]))).trans v4
                clear c1 c2 c3 c4 c5
                refine wpOp_step rfl (fun K hK => ?_)
                go_simp
                exact hK _ _ ⟨_, by simp [x4, v5], h.still (i := 5) (by omega) hd hjl ⟨by omega, by omega, by omega, by omega, by omega⟩ (v 5) (fun _ => rfl) (fun e => by omega)⟩
              · have hd : ∀ z ∈ dp 6, LL l z := fun z hz => by
                  simp [Region.binds, Array.getD_eq_getD_getElem?] at hi3
                  simp [dp] at hz
                  subst hz
                  exact LL_of (by simp [hi3])
                clear hi3
                have e0 := (h.at6 hjl).trans (unhide HP0)
                subst e0
                have x5 := (h.val 5 (by omega) (hd 5 (by simp [dp]))).trans v5
                clear c1 c2 c3 c4 c5
                refine wpOp_step rfl (fun K hK => ?_)
                go_simp
                go_at_call 82
                refine (cloneS_c (B nd.2.1) _ hsz2).mono ?_
                rintro e wc ⟨rfl, hbc⟩
                (try dsimp only)
                exact hK _ _ ⟨_, by simp [x5, v6], h.do6 hjl hd (v 6) rfl (((unhide HP6) _).2 ((Below.refl _ _).drew.trans hbc))⟩
              · have hd : ∀ z ∈ dp 7, LL l z := fun z hz => by simp [dp] at hz
                clear hi3
                clear c1 c2 c3 c4 c5
                refine wpOp_step rfl (fun K hK => ?_)
                go_simp
                exact hK _ _ ⟨_, by simp [v7], h.still (i := 7) (by omega) hd hjl ⟨by omega, by omega, by omega, by omega, by omega⟩ (v 7) (fun _ => rfl) (fun e => by omega)⟩
              · have hd : ∀ z ∈ dp 8, LL l z := fun z hz => by simp [dp] at hz
                clear hi3
                clear c1 c2 c3 c4 c5
                refine wpOp_step rfl (fun K hK => ?_)
                go_simp
                exact hK _ _ ⟨_, by simp [v8], h.still (i := 8) (by omega) hd hjl ⟨by omega, by omega, by omega, by omega, by omega⟩ (v 8) (fun _ => rfl) (fun e => by omega)⟩
              · have hd : ∀ z ∈ dp 9, LL l z := fun z hz => by
                  simp [Region.binds, Array.getD_eq_getD_getElem?] at hi3
                  simp [dp] at hz
                  subst hz
                  exact LL_of (by simp [hi3])
                clear hi3
                obtain ⟨⟨y0, y1, y2⟩, _, ty⟩ := (unhide HXC) w' (h.low (fun e => hjl (h.cl 10 (c2 (c3 (c4 e))) 9 (by simp [dp]))) (Below W12.heap.size W12) (by rw [unhide HP0]; exact (Below.refl _ _).drew) (fun W e => ((unhide HP6) W).1 e) (fun W u e => (((unhide HP10) W u).1 e).1) (fun W u e => by rw [unhide HPA]; exact step_a (((unhide HP10) W u).1 e).1 _))
                have x8 := (h.val 8 (by omega) (hd 8 (by simp [dp]))).trans v8
                clear c1 c2 c3 c4 c5
                refine wpOp_step rfl (fun K hK => ?_)
                go_simp
                exact hK _ _ ⟨_, by simp [x8, v9], h.still (i := 9) (by omega) hd hjl ⟨by omega, by omega, by omega, by omega, by omega⟩ (v 9) (fun _ => rfl) (fun e => by omega)⟩
              · have hd : ∀ z ∈ dp 10, LL l z := fun z hz => by
                  simp [Region.binds, Array.getD_eq_getD_getElem?] at hi3
                  simp [dp] at hz
                  rcases hz with rfl | rfl | rfl <;> exact LL_of (by simp [hi3])
                clear hi3
                have hB := ((unhide HP6) w').1 (h.at10 (hd 6 (by simp [dp])) hjl)
                have x7 := (h.val 7 (by omega) (hd 7 (by simp [dp]))).trans v7
                have x9 := (h.val 9 (by omega) (hd 9 (by simp [dp]))).trans v9
                clear c1 c2 c3 c4 c5
                refine wpOp_step rfl (fun K hK => ?_)
                go_simp
                go_at_call 81
                refine ((unhide HMVK) w' hB).mono ?_
                rintro e wm ⟨⟨kv, rfl, hrw⟩, hbm⟩
                obtain ⟨ma, mc, rfl⟩ := own_slice hrw
                (try dsimp only)
                exact hK _ _ ⟨_, by simp [x7, x9], h.do10 hjl hd (.slice ma nd.2.2.length mc) (((unhide HP10) _ _).2 ⟨step_b hB hbm, w', ma, mc, hB, rfl, hrw⟩)⟩
              · have hd : ∀ z ∈ dp 11, LL l z := fun z hz => by
                  simp [Region.binds, Array.getD_eq_getD_getElem?] at hi3
                  simp [dp] at hz
                  rcases hz with rfl | rfl | rfl <;> exact LL_of (by simp [hi3])
                clear hi3
                have x6 := (h.val 6 (by omega) (hd 6 (by simp [dp]))).trans v6
                have x3 := (h.val 3 (by omega) (hd 3 (by simp [dp]))).trans v3
                have hP := h.at12 (hd 10 (by simp [dp])) (fun e => hjl (c3 e))
                obtain ⟨_, _, ma, mc, _, x10, _⟩ := ((unhide HP10) _ _).1 hP
                clear hP
                clear c1 c2 c3 c4 c5
                refine wpOp_step rfl (fun K hK => ?_)
                go_simp
                exact hK _ _ ⟨_, by simp [unhide HPB, x3, x6, x10], h.still (i := 11) (by omega) hd hjl ⟨by omega, by omega, by omega, by omega, by omega⟩ (p.bd (x 10)) (fun e => by omega) (fun _ => rfl)⟩
              · have hd : ∀ z ∈ dp 12, LL l z := fun z hz => by
                  simp [Region.binds, Array.getD_eq_getD_getElem?] at hi3
                  simp [dp] at hz
                  subst hz
                  exact LL_of (by simp [hi3])
                clear hi3
                have h11 := hd 11 (by simp [dp])
                have hP := h.at12 (c2 h11) hjl
                obtain ⟨hBm, wc, ma, mc, hBc, x10, hrw⟩ := ((unhide HP10) _ _).1 hP
                have x11 := h.m11 h11
                rw [unhide HPB, x10] at x11
                have hn := h.do12 hjl hd hP
                rw [unhide HPS, unhide HPA, x10] at hn
                have HN12 := hide hn
                clear c1 c2 c3 c4 c5 hP hBc hrw hn
                refine wpOp_step rfl (fun K hK => ?_)
                go_simp
                exact hK _ _ ⟨_, by simp [x10, x11], unhide HN12⟩
              · have hd : ∀ z ∈ dp 13, LL l z := fun z hz => by
                  simp [Region.binds, Array.getD_eq_getD_getElem?] at hi3
                  simp [dp] at hz
                  rcases hz with rfl | rfl | rfl <;> exact LL_of (by simp [hi3])
                clear hi3
                obtain ⟨wm, hP, hw, x12⟩ := h.at13 (hd 12 (by simp [dp])) hjl
                obtain ⟨hBm, wc, ma, mc, hBc, x10, hrw⟩ := ((unhide HP10) _ _).1 hP
                rw [unhide HPA, x10] at hw
                rw [unhide HPS] at x12
                rw [x10] at hrw
                subst hw
                have x1 := (h.val 1 (by omega) (hd 1 (by simp [dp]))).trans v1
                have hBa := step_a hBm (.cells #[.int .i64 nd.1, .string (B nd.2.1), .slice ma nd.2.2.length mc] 93)
                have hro := own_below (unhide HRN12).2.1 hBa
                rw [hlk] at hro
                refine wpOp_step rfl (fun K hK => ?_)
                refine step_append_lies _ rfl _ _ _ rfl W8.heap.size 93 j0 (.agg #[.int .i64 0, .string ⟨#[]⟩, .slice none 0 0]) 3 48 Tryd.underlying45 hj hy0 hy1 hy2 rfl (by decide) nvv k (flatN ((po.take k).map nf) kvs) (by exact x1) hro ⟨wm.heap.size, 0, none⟩ 1 1 (nd3 (nd.1, nd.2.1, (nd.2.2.map fun x => gAt pl (gAt of x))) (.slice ma nd.2.2.length mc)) (by exact x12) rfl (World.news_of_block (cs := #[.int .i64 nd.1, .string (B nd.2.1), .slice ma nd.2.2.length mc]) (t := 93) (fr := (0, 0)) (heap_alloc_new wm _)) (by intro u hu; simp [nd3] at hu; rcases hu with rfl | rfl | rfl <;> rfl) (by decide) (by unfold maxLen; omega) (by omega) (by have := hBa.size; have := (unhide HB12).size; have := (unhide HKP).size; omega) _ rfl ?_
                intro gg cap w9 hown9 hgrow9 _ _
                exact hK _ _ ⟨_, by simp [Act.put, x1, x12, x10], h.do13 hjl hd (.slice (some ⟨gg, 0, none⟩) (k + 1) cap) (((unhide HP13) _ _).2 ⟨gg, cap, wm, wc, _, rfl, hBm, hBc, hrw, hown9, hgrow9⟩)⟩
              · have hd : ∀ z ∈ dp 14, LL l z := fun z hz => by simp [dp] at hz
                clear hi3
                clear c1 c2 c3 c4 c5
                refine wpOp_step rfl (fun K hK => ?_)
                go_simp
                exact hK _ _ ⟨_, by simp [v14], h.still (i := 14) (by omega) hd hjl ⟨by omega, by omega, by omega, by omega, by omega⟩ (v 14) (fun _ => rfl) (fun e => by omega)⟩
              · have hd : ∀ z ∈ dp 15, LL l z := fun z hz => by
                  simp [Region.binds, Array.getD_eq_getD_getElem?] at hi3
                  simp [dp] at hz
                  rcases hz with rfl | rfl <;> exact LL_of (by simp [hi3])
                clear hi3
                have hP := h.at15 (hd 13 (by simp [dp])) hjl
                obtain ⟨gg, cap, wm, wc, y, x13, hBm, hBc, hrw, hown9, hgrow9⟩ := ((unhide HP13) _ _).1 hP
                have x14 := (h.val 14 (by omega) (hd 14 (by simp [dp]))).trans v14
                have A9 := ((unhide HT12).below (step_a hBm (.cells #[.int .i64 nd.1, .string (B nd.2.1), y] 93))).grown hgrow9 (own_nb (unhide HRN12).2.1 (by omega))
                have e9 := A9.n0
                have g9 := A9.f 0
                have hn := h.do15 hjl hd hP undef
                rw [unhide HPP, x13] at hn
                have HN15 := hide hn
                clear c1 c2 c3 c4 c5 hP hBm hBc hrw hown9 hgrow9 hn A9
                refine wpOp_step rfl (fun K hK => ?_)
                go_simp
                exact hK _ _ ⟨_, by simp [x13, x14], unhide HN15⟩
            case hend =>
              rintro l a w' ⟨x, rfl, h⟩ hall
              obtain ⟨w9, hP, hw⟩ := h.atEnd (hall 15 (by simp))
              obtain ⟨gg, cap, wm, wc, y, x13, hBm, hBc, hrw, hown9, hgrow9⟩ := ((unhide HP13) _ _).1 hP
              rw [unhide HPP, x13] at hw
              rw [x13] at hown9
              subst hw
              have hBa := step_a hBm (.cells #[.int .i64 nd.1, .string (B nd.2.1), y] 93)
              have A9 := ((unhide HT12).below hBa).grown hgrow9 (own_nb (unhide HRN12).2.1 (by omega))
              have HT9' := hide (A9.st0 (.slice (some ⟨gg, 0, none⟩) (k + 1) cap))
              have hcs := hBc.size
              have HRN9 : Hid (RowN (w9.setCell ⟨w7.heap.size, 0, none⟩ (.slice (some ⟨gg, 0, none⟩) (k + 1) cap)) W8.heap.size (.slice (some ⟨gg, 0, none⟩) (k + 1) cap) ((po.take (k + 1)).map nf) (kvs ++ [y])) := hide (by
                  rw [unhide HTKE]
                  refine RowN.low (RowN.push ((unhide HRN12).below hBa) (nd := (nd.1, nd.2.1, (nd.2.2.map fun x => gAt pl (gAt of x)))) (unhide HTL) (by simpa using own_base (own_below hrw (step_a (Below.refl _ _) _)) (by have := (unhide HB12).size; have := (unhide HKP).size; omega)) (by rw [hlk]; exact hown9) hgrow9) (by omega))
              have HAP9 : Hid (Apart (kvs ++ [y])) := hide (apart_snoc (unhide HAP) (fun z hz b hb e => by have h1 := (unhide HRN12).kids_lt z hz b hb; have h2 := (own_lt hrw e).1; omega))
              have HKP9 : Hid (Kept (· = w7.heap.size) W8 (w9.setCell ⟨w7.heap.size, 0, none⟩ (.slice (some ⟨gg, 0, none⟩) (k + 1) cap))) := hide ((unhide HKP).new (S' := fun b => b = w7.heap.size ∨ nvv.ownBlock = some b) (((Kept.of_below (step_b (unhide HB12) hBa)).trans (Kept.of_grown hgrow9 (fun b e => .inr e))).trans (Kept.set (a := ⟨w7.heap.size, 0, none⟩) (.inl rfl) _)) (fun b hb hlt => by
                  rcases hb with hb | hb
                  · exact hb
                  · have := (own_lt (unhide HRN12).2.1 hb).1; omega))
              clear h hall hP hBm hBc hrw hown9 hgrow9 hBa A9 x13 hcs
              go_wp2
              go_roundw
              case rel => exact ⟨k + 1, _, kvs ++ [y], by omega, by go_num, HT9', HRN9, HAP9, HKP9⟩
              case measure => simp [intOf]; omega
          · obtain rfl : k = po.length := by omega
            rw [List.take_of_length_le (Nat.le_refl _)] at HRN
            have HRk := hide ((unhide HR8).kept (unhide HKP) (by omega))
            have HRWk := hide (own_keptS (unhide HRW) (unhide HKP) (fun b hb e => by have := (unhide HRL) b hb; omega))
            obtain ⟨va, vn, vc, hvv⟩ : ∃ va vn vc, nvv = .slice va vn vc := by
              rcases (unhide HRN).2.1.2 with ⟨e, _⟩ | ⟨g', c', cur, e, _⟩
              · exact ⟨_, _, _, e⟩
              · exact ⟨_, _, _, e⟩
            subst hvv
            have t0 := (unhide HT).n0
            have t1 := (unhide HT).n1
            have r0 := (unhide HRk).n0
            have r1 := (unhide HRk).n1
            have f0 := (unhide HRk).f 0
            have f1 := (unhide HRk).f 1
            have HRF := hide (((unhide HRk).st0 (.slice va vn vc)).st1 (.slice ta rs.length tc))
            have z0 := (unhide HRF).n0
            have z1 := (unhide HRF).n1
            have HBF := hide (((step_b (unhide HB6) (unhide HB6k)).setCell (p := ⟨w.heap.size + 1, 0, none⟩) (Nat.le_succ _) (.slice va vn vc)).setCell (p := ⟨w.heap.size + 1, 1, none⟩) (Nat.le_succ _) (.slice ta rs.length tc))
            have HDO := hide (dataOwn_of (rs := rs.map fun r => gAt pl (gAt of r)) (((unhide HRN).low (i := 0) (u := .slice va vn vc) (b := w.heap.size + 1) (by omega)).low (i := 1) (u := .slice ta rs.length tc) (b := w.heap.size + 1) (by omega))
              (own_s1 (i := 1) (u := .slice ta rs.length tc) (own_s1 (i := 0) (u := .slice va vn vc) (by have h := own_base (unhide HRWk) (base' := w.heap.size) (by omega); simpa using h) (own_nb (unhide HRWk) (by omega))) (own_nb (unhide HRWk) (by omega))) (unhide HAP) (by omega) (fun b hb => by have := (unhide HRL) b hb; omega))
            go_wp2_with fail
            refine bodyPost_ret (v := .agg #[.slice va vn vc, .slice ta rs.length tc]) (by simp [results, Tryd.f28, go_sem, z0, z1]) rfl ⟨⟨_, _, rfl, ?_⟩, unhide HBF⟩
            rw [unhide HMIN]
            exact unhide HDO
end Go.Proofs.YtcnnicbaeicboaaDoor
/- laws.FnExactReadMin: the law's contract, from both programs' own; and a datum as a caller hands it, opened. -/
namespace Go.Proofs.YtcnnicbaeicboaaDoor
open Go.ChangeShapes Go.WideShapes Go.ChangeAt Go.RowKit Go.Shelf Go.Joins Go.Deep Nt

theorem lawReadMin_c (nv rv : Value) (d : Dt) (w : World) (h : DataAt w (.agg #[nv, rv]) d) (hwf : ∀ nd ∈ d.1, (Lit.int .i64 nd.1).wf = true)
    (htab : Lib.TabBelow Tryd.prog w.heap.size w "internal/strconv.uint64pow10" .u64 Lib.pow10Tab) :
    Calls Tryd.prog 5 #[.agg #[nv, rv]] w fun e w' => e = .returned (.bool true) ∧ Below w.heap.size w w' :=
  lawMin_main nv rv d (minM d) w h (fun u W _ hd hs => specReadMin_c d u W hd hs)
    (fun u W hW hd hs => by
      obtain ⟨n', r', rfl, h1, h2⟩ := hd
      exact readMin_c n' r' d W ⟨n', r', rfl, h1, h2⟩ hs hwf (fun w' hw' => htab w' (hW.trans (hw'.mono hW.size))))
    minM_small

theorem list_of {α : Type} (Q : Nat → α → Prop) : ∀ n, (∀ i, i < n → ∃ x, Q i x) → ∃ l : List α, l.length = n ∧ ∀ j x, l[j]? = some x → Q j x
  | 0, _ => ⟨[], rfl, fun j x h => by simp at h⟩
  | n + 1, h => by
    obtain ⟨l, hl, hq⟩ := list_of Q n (fun i hi => h i (by omega))
    obtain ⟨x, hx⟩ := h n (by omega)
    refine ⟨l ++ [x], by simp [hl], fun j y hj => ?_⟩
    by_cases e : j < n
    · rw [List.getElem?_append_left (by omega)] at hj
      exact hq j y hj
    · have hjl := (List.getElem?_eq_some_iff.1 hj).1
      simp at hjl
      obtain rfl : j = n := by omega
      rw [List.getElem?_append_right (by omega)] at hj
      simp [hl] at hj
      subst hj
      exact hx

theorem addr_add2 (q i j : Nat) : (⟨q, i, none⟩ : Addr).add j = ⟨q, i + j, none⟩ := by
  by_cases h : j = 0
  · subst h; simp [Addr.add]
  · simp [Addr.add, h]
section
variable {H : Type} {enc : TypeId × Value → H} {W : World} {fuel : Nat} {v : Value} {y : DataW H × List MemPlace}
theorem ints_in (h : DataW.trod enc Tryd.prog W 0 (fun _ => true) true fuel 41 [v] = some y) : ∃ xs, IntsAt W v xs := by
  rcases open_ints Tryd.underlying41 Tryd.underlying3 (by kernel_rfl) h with ⟨hcs, _⟩ | ⟨x, l, c, zs, hcs, _, hl, hm, hz, _, hcell, _⟩
  · simp only [List.cons.injEq, and_true] at hcs
    subst hcs
    exact ⟨[], none, 0, rfl, by simp, by unfold maxLen; omega, fun h => by simp at h⟩
  · simp only [List.cons.injEq, and_true] at hcs
    subst hcs
    have hzl : zs.length = c := by simpa using hz
    have hlen : (zs.take l).length = l := by simp; omega
    refine ⟨zs.take l, some x, c, by rw [hlen], by rw [hlen]; exact hl, hm, fun h0 => ?_⟩
    obtain ⟨b, off, spot⟩ := x
    have hc := hcell 0 (by omega)
    have hspot : spot = none := by simpa [Addr.add] using World.cell?_spot hc
    subst hspot
    refine ⟨b, off, rfl, World.block_lt_of_cell? W _ hc, fun j z hj => ?_⟩
    have hjl : j < l := by have := (List.getElem?_eq_some_iff.1 hj).1; omega
    have hcj := hcell j (by omega)
    rw [List.getElem?_take, if_pos hjl] at hj
    rw [addr_add2, List.getD_eq_getElem?_getD, hj] at hcj
    exact hcj
theorem cells3 {a : Addr} {cs : List Value} (h : W.cells? 0 a 3 = some cs) : ∃ c0 c1 c2, cs = [c0, c1, c2] ∧ W.cell? (a.add 0) = some c0 ∧ W.cell? (a.add 1) = some c1 ∧ W.cell? (a.add 2) = some c2 := by
  unfold World.cells? at h
  rw [if_pos (Nat.zero_le _)] at h
  simp only [List.range_succ, List.range_zero, List.nil_append, List.cons_append, List.mapM_cons, List.mapM_nil] at h
  cases h0 : W.cell? (a.add 0) with
  | none => simp [h0] at h
  | some c0 =>
    cases h1 : W.cell? (a.add 1) with
    | none => simp [h0, h1] at h
    | some c1 =>
      cases h2 : W.cell? (a.add 2) with
      | none => simp [h0, h1, h2] at h
      | some c2 =>
        simp [h0, h1, h2] at h
        exact ⟨c0, c1, c2, h.symm, rfl, rfl, rfl⟩
theorem nodes_in (h : DataW.trod enc Tryd.prog W 0 (fun _ => true) true fuel 40 [v] = some y) : ∃ ns, NodesAt W v ns ∧ ∀ nd ∈ ns, (Lit.int .i64 nd.1).wf = true := by
  rcases DataW.trod_slice Tryd.underlying40 h with ⟨hcs, _⟩ | ⟨a, len, cap, elems, rest, n, _, hcs, _, _, hl, hm, hlen, hel, _, _⟩
  · simp only [List.cons.injEq, and_true] at hcs
    subst hcs
    exact ⟨[], ⟨none, 0, rfl, by simp, by unfold maxLen; omega, fun h => by simp at h⟩, fun nd h => by simp at h⟩
  · simp only [List.cons.injEq, and_true] at hcs
    subst hcs
    have e1 : Tryd.prog.cellsOf 136 = 3 := by kernel_rfl
    have e2 : Tryd.prog.cellsOf 3 = 1 := by kernel_rfl
    have e3 : Tryd.prog.cellsOf 9 = 1 := by kernel_rfl
    have e4 : Tryd.prog.cellsOf 41 = 1 := by kernel_rfl
    have each : ∀ i, i < len → ∃ nd : Nd, (W.cell? ((a.add (i * 3)).add 0) = some (.int .i64 nd.1) ∧ W.cell? ((a.add (i * 3)).add 1) = some (.string (B nd.2.1)) ∧ nd.2.1.length ≤ maxLen ∧ ∃ kv, W.cell? ((a.add (i * 3)).add 2) = some kv ∧ IntsAt W kv nd.2.2) ∧ (Lit.int .i64 nd.1).wf = true := by
      intro i hi
      have hE := hel i hi
      rw [e1] at hE
      obtain ⟨z, hz⟩ : ∃ z, elems[i]? = some z := ⟨_, List.getElem?_eq_getElem (by omega)⟩
      rw [hz] at hE
      simp only [Option.bind_eq_some_iff] at hE
      obtain ⟨cs, hc1, hy1⟩ := hE
      obtain ⟨c0, c1, c2, rfl, k0, k1, k2⟩ := cells3 hc1
      obtain ⟨y0, y1, y2, m, _, _, t0, t1, t2⟩ := trod_struct3 Tryd.underlying136 hy1
      simp only [e2, e3, e4, List.drop_zero, List.take_succ_cons, List.take_zero, List.drop_succ_cons] at t0 t1 t2
      obtain ⟨q, f0, _, wq⟩ := DataW.trod_int Tryd.underlying3 t0
      obtain ⟨s, f1, _, hs⟩ := DataW.trod_string Tryd.underlying9 t1
      obtain ⟨ks, hk⟩ := ints_in t2
      simp only [List.cons.injEq, and_true] at f0
      simp only [List.cons.injEq, and_true] at f1
      subst f0 f1
      exact ⟨(q, s.data.toList, ks), ⟨k0, by rw [k1]; simp [B], by rw [show s.data.toList.length = s.size from rfl]; exact hs, c2, k2, hk⟩, wq⟩
    obtain ⟨ns, hnl, hns⟩ := list_of _ len each
    subst hnl
    refine ⟨ns, ⟨some a, cap, rfl, hl, hm, fun h0 => ?_⟩, fun nd hnd => ?_⟩
    · obtain ⟨nd0, hnd0⟩ : ∃ nd, ns[0]? = some nd := ⟨_, List.getElem?_eq_getElem h0⟩
      obtain ⟨b, off, spot⟩ := a
      have hc := (hns 0 nd0 hnd0).1.1
      have hspot : spot = none := by
        have := World.cell?_spot hc
        simpa [Addr.add] using this
      subst hspot
      refine ⟨b, off, rfl, ?_, fun j nd hj => ?_⟩
      · have := World.block_lt_of_cell? W _ hc
        simpa [addr_add2] using this
      · obtain ⟨⟨k0, k1, k2, kv, k3, k4⟩, _⟩ := hns j nd hj
        simp only [addr_add2, Nat.add_zero] at k0 k1 k3
        exact ⟨k0, k1, k2, kv, k3, k4⟩
    · obtain ⟨j, hj⟩ := List.getElem?_of_mem hnd
      exact (hns j nd hj).2
end
end Go.Proofs.YtcnnicbaeicboaaDoor
namespace Go.Proofs.YtcnnicbaeicboaaDoor
open Go.ChangeShapes Go.WideShapes Go.ChangeAt Go.RowKit Go.Joins Nt

theorem own : ownKnob Tryd.prog.godebug = none := by kernel_rfl
theorem laidOut : laidOutB Tryd.prog = true := by kernel_rfl
theorem cellsData : Tryd.prog.cellsOf 43 = 2 := by kernel_rfl
theorem gPow : Tryd.prog.globalNamed "internal/strconv.uint64pow10" = some 2 := by kernel_rfl
theorem gPowType : (Tryd.prog.globals[2]?).map (·.type) = some 215 := by kernel_rfl
theorem cellsWord : Tryd.prog.cellsOf 80 = 1 := by kernel_rfl
theorem cellsPow : Tryd.prog.cellsOf 215 = 20 := by kernel_rfl
theorem pow_data : (Rows.laid_internal_strconv_uint64pow10 : DataW Unit) = Lib.tabData .u64 Lib.pow10Tab := by kernel_rfl

/-- the table of tens, out of the row's condition -/
theorem pow_of_laid {W : World} (h : laidMet Tryd.prog Rows.fnExactReadMinRow.laid W) : Lib.TabIs Tryd.prog W "internal/strconv.uint64pow10" .u64 Lib.pow10Tab := by
  obtain ⟨g, t, cs, fuel, p, h1, h2, h3, h4⟩ := Lib.laidMet.reads h (.tail _ (.tail _ (.head _)))
  obtain rfl := Option.some.inj (gPow.symm.trans h1)
  obtain rfl := Option.some.inj (gPowType.symm.trans h2)
  rw [pow_data] at h4
  have e := Lib.cells_of_tab Tryd.underlying215 Tryd.underlying80 cellsWord cellsPow h4
  unfold Lib.TabIs
  rw [h3, ← e]

set_option maxRecDepth 100000 in
theorem min_lifted (os : Os) (started : os.Started) (H : Type) (enc : TypeId × Value → H) :
    ReturnsInHanded {} Tryd.checked os 5 .any (fun w args => (Rows.fnExactReadMinSpec.pre enc Tryd.prog Tryd.f5 [] false w args ∧ laidMetH Tryd.prog Rows.fnExactReadMinRow.laid w) ∧ sizedMet enc Tryd.prog Tryd.f5 (OpenSpec.ofChange Rows.fnExactReadMinSpec) false w args)
      (Rows.fnExactReadMinSpec.post enc Tryd.prog Tryd.f5 false true false false) := by
  refine returnsInHanded_of_change_and (C := Tryd.checked) (X := fun w _ => laidMetH Tryd.prog Rows.fnExactReadMinRow.laid w) (fun _ _ _ hh h => h.of_heap hh) own started (by kernel_rfl) Tryd.func5
    (ChangeSpec.witness_shaped (enc := enc) (C := Tryd.checked) (os := os) (X := fun w _ => laidMetH Tryd.prog Rows.fnExactReadMinRow.laid w) false (World.laidAll Tryd.prog os Rows.fnExactReadMinRow.laid) #[.agg #[.slice none 0 0, .slice none 0 0]] 8 (World.laidAll_os _ _ _)
      (World.shaped_of_ZipB (by kernel_rfl) (by kernel_rfl)) (by kernel_rfl) (by kernel_rfl) (by kernel_rfl)
      (by rw [MakeChecks.laidMetH_plain _ _ _ (by kernel_rfl)]; exact laidMet_laidAll _ (by kernel_rfl) (by kernel_rfl))) ?_
  intro W base args ds gs before hval0 hW _ _ hL _
  have hval : ∀ (j : Nat) t v, Tryd.f5.params[j]? = some t → args[j]? = some v → Value.okWide Tryd.prog W .any base t v := hval0
  have hW' := hW
  obtain ⟨p, q, hA0, hV, rfl, _, _⟩ := hW
  have hA : DataW.TrodAll enc Tryd.prog W 0 (fun _ => true) true Tryd.f5.params.toList args.toList ds p := hA0
  rw [Tryd.params5] at hA hval
  obtain ⟨v0, d0, rfl, rfl, h0⟩ := trodAll_one hA
  obtain ⟨rfl, rfl⟩ := trodVars_none hV
  have k0 := h0
  have lt0 : ∀ x ∈ p, x.block < W.heap.size := by obtain ⟨m, hm⟩ := k0; exact DataW.trod_lt m _ _ _ hm
  obtain ⟨c0, c1, y0, y1, m, rfl, hd, hp, hy0, hy1⟩ := open_agg2 Tryd.underlying43 (by kernel_rfl) cellsData (hval 0 43 v0 rfl rfl) h0
  obtain ⟨ns, hns, hwf⟩ := nodes_in hy0
  obtain ⟨rs, hrs⟩ := ints_in hy1
  simp only [List.append_nil] at hW'
  rw [MakeChecks.laidMetH_plain _ _ _ (by kernel_rfl)] at hL
  have hT := Lib.tabBelow_of_tabIs (pow_of_laid hL)
  refine (lawReadMin_c c0 c1 (ns, rs) W ⟨c0, c1, rfl, hns, hrs⟩ hwf hT).mono fun e W' ⟨he, hb⟩ => ?_
  subst he
  exact ⟨_, rfl, _, _, _, [], _, [], hW', trodAll_mk1 (shut_bool Tryd.underlying4 _), trodAll_mk1 (Below.trod laidOut (by kernel_rfl) (of_decide_eq_true (by kernel_rfl)) k0 hb lt0), rfl, hb.frame _, fun h => by cases h⟩

theorem min_holds : Rows.FnExactReadMinSaid :=
  OpenClaim.holds_of_wide 5 Tryd.f5 rfl rfl rfl rfl rfl rfl rfl ⟨rfl, rfl, rfl, rfl, rfl⟩ rfl rfl rfl rfl rfl (by kernel_rfl) Tryd.func5 (by kernel_rfl)
    (of_decide_eq_true (by kernel_rfl)) (by unfold Func.isWrapper; first | (rw [if_pos (by decide +kernel)]; kernel_rfl) | (rw [if_neg (by decide +kernel)]; exact ⟨rfl, rfl⟩))
    (fun os started H enc _ => min_lifted os started H enc)
theorem fnExactReadMin_card : Rows.FnExactReadMinCardSaid :=
  Claim7.holds_tied_plain_at .later [] [.data, .data, .data] true Rows.fnExactReadMinCard.stood.harness false min_holds (fun _ h => by cases h) (by kernel_rfl) (fun _ h => by cases h) fnExactReadMin_row_tie rfl ⟨rfl, rfl⟩ (by kernel_rfl) rfl
    (fun f fn hf hfn => by
      obtain rfl : f = 5 := Option.some.inj ((show Tryd.prog.funcNamed "loop.example/sistab/laws.FnExactReadMin" = some 5 by kernel_rfl).symm.trans hf) |>.symm
      obtain rfl : fn = Tryd.f5 := (Option.some.inj (Tryd.func5.symm.trans hfn)).symm
      exact ⟨by kernel_rfl, fun j t ht => by
        rw [Tryd.params5] at ht
        have hm : t ∈ [43] := by simpa using Array.mem_of_getElem? ht
        have hall : ([43].all fun u => !Tryd.prog.wantsStandIn u) = true := by kernel_rfl
        exact (show Tryd.prog.wantsStandIn t = false by simpa using List.all_eq_true.1 hall t hm)⟩)
    (by kernel_rfl)
#print axioms fnExactReadMin_card
end Go.Proofs.YtcnnicbaeicboaaDoor
