/- A part of the proof, put together out of smaller texts. -/
import Derived.Test.YtnenoaenjaghhaaDoorM3
import Derived.Deep.RegionHeld3
import Derived.RegionIn
import Derived.BigQuiet
import Derived.Laws.IdiomStrings
import Derived.Laws.Runes
import Derived.Lib.Strings
import Derived.Deep.RegionWith
import Derived.Deep.QuietTactic
set_option linter.all false
set_option maxRecDepth 100000
set_option maxHeartbeats 16000000
namespace Go.Proofs.YtnenoaenjaghhaaDoor
open Go.RowKit Nt
theorem vW (W0 : World) (vn : Value) (ns : List Nd) (m : Nat) (hn : NodesAt W0 vn ns) (hk : NdsOk ns) (hs : ns.length ≤ 80) (hm : ∀ m', m = m' + 1 → NodeC W0 vn ns m' ∧ v7 W0 vn ns m') : NodeC W0 vn ns m := by
 intro w va vm us ms c x o ov h hw hx0 hx1 hc
 obtain ⟨q, rfl⟩ := Int.eq_ofNat_of_zero_le hx0
 obtain ⟨nd, hnd⟩ : ∃ nd, ns[q]? = some nd := ⟨_, List.getElem?_eq_getElem (by omega)⟩
 obtain ⟨bn, on, cn, rfl, hn1, hn2, hbn⟩ := hn.form (by omega)
 unfold maxLen at hn2
 obtain ⟨kv, c0, c1, c2, htl, hkv⟩ := hn.node hnd
 obtain ⟨ka, kc, rfl, hkc1, hkc2⟩ := hkv.form
 unfold maxLen at hkc2
 have hmem := List.mem_of_getElem? hnd
 obtain ⟨s, t, ks⟩ := nd
 have d0 := (h.low.cell (p := ⟨bn, on + q * 3, none⟩) hbn).trans c0
 have d1 := (h.low.cell (p := ⟨bn, on + q * 3 + 1, none⟩) hbn).trans c1
 have d2 := (h.low.cell (p := ⟨bn, on + q * 3 + 2, none⟩) hbn).trans c2
 have n0 := h.n0
 have HKV := hide hkv
 have HNN := hide hn
 have HND := hide hnd
 have HK := hide hk
 have HM := hide hmem
 have HMM := hide hm
 have HW := hide hw
 have HC := hide hc
 have H := hide (h.alloc (.cells #[.int .i64 s, .string (B t), .slice ka ks.length kc] 76))
 have HA := hide (AtC3.new w (.int .i64 s) (.string (B t)) (.slice ka ks.length kc) 76)
 have HQ := hide (Oth.alloc w (.cells #[.int .i64 s, .string (B t), .slice ka ks.length kc] 76))
 have hlt := h.lt
 have n6 := h.n6
 clear hkv hn hnd hk hmem hm hw hc h c0 c1 c2
 dsimp only at d0 d1 d2 hkc1 hkc2 HKV
 cases ov
 case true =>
  go_enter Tryd.func42, Tryd.ntmps42
  go_wp2_with fail
  refine bodyPost_ret (results_none rfl _ _ _) rfl ?_
  exact ⟨⟨_, rfl⟩, _, _, _, _, _, za H, za HC, id, za HQ⟩
 case false =>
  by_cases hat : s = 7 ∨ s = 8
  case neg =>
   have e7 := zF (a := s) (b := 7) (fun e => hat (.inl e))
   have e8 := zF (a := s) (b := 8) (fun e => hat (.inr e))
   have f7 : (s != 7) = true := by simp [bne, e7]
   have f8 : (s != 8) = true := by simp [bne, e8]
   clear hat
   go_enter Tryd.func42, Tryd.ntmps42
   go_wp2_with fail
   refine (ZU W0 _ _ va vm us ms c o false s t ka ks.length kc (za H) (za HC) ((za HK).text _ (za HM)) (fun e => (za HK).one _ (za HM) e)).mono ?_
   rintro e w2 ⟨⟨u, rfl⟩, va2, vm2, c2, o2, ov2, h2, hc2, hov2, hq2⟩
   have HE : Hid (WGo W0 w w2 (.slice (some ⟨bn, on, none⟩) ns.length cn) us ms false) := hide ⟨_, _, _, _, _, h2, hc2, hov2, (za HQ).trans hq2⟩
   clear h2 hc2 hov2 hq2
   go_wp2_with fail
   refine bodyPost_ret (results_none rfl _ _ _) rfl ?_
   exact ⟨⟨_, rfl⟩, za HE⟩
  case pos =>
   have g7 : s = 7 → (s != 7) = false := fun e => by subst e; decide
   have g8 : s = 8 → (s != 7) = true ∧ (s != 8) = false := fun e => by subst e; decide
   have HL := hide (kK W0 _ _ va vm us ms c o false (q : Int) (za H) (za HW).len (za HW).mrk)
   have HC0 : Hid (Cnt 0 c o false) := hide ⟨(za HC).lo, by have h1 := (za HC).le rfl; have h2 := (za HC).sz; omega, (za HC).sz, (za HC).le⟩
   have hus : us.length ≤ 80 := Nat.le_trans (za HW).inr.len hs
   have hms : ms.length ≤ 80 := by rw [← (za HW).len]; exact hus
   rcases hat with rfl | rfl
   ·have e8 : ((7 : Int) == 8) = false := by decide
    clear g7 g8
    go_enter Tryd.func42, Tryd.ntmps42
    go_wp2_with fail
    refine (za HL).mono ?_
    rintro e w2 ⟨⟨nm, rfl, hnm⟩, hb2⟩
    replace H := hide ((za H).below hb2)
    replace HQ := hide ((za HQ).trans (Oth.below hb2))
    replace HA := hide ((za HA).below hb2)
    clear hb2 HL d0 d1 d2 n6
    by_cases hin : (q : Int) ∈ us
    ·
     have hd : (!decide ((q : Int) ∈ us)) = false := by simp [hin]
     rw [hd]
     have k1 : (⟨#[35]⟩ : ByteArray).size = 1 := rfl
     have k2 : ¬ 9223372036854775807 < (⟨#[35]⟩ ++ nm : ByteArray).size + 1 := by rw [ByteArray.size_append]; omega
     clear hd hin
     go_wp2_with fail
     refine (put_c W0 _ _ _ _ us ms c o _ false (za H) (za HC).sz (by rw [ByteArray.size_append, ByteArray.size_append]; omega)).mono ?_
     rintro e w3 ⟨⟨u, rfl⟩, o3, ov3, h3, hp3, hq3⟩
     have HE : Hid (WGo W0 w w3 (.slice (some ⟨bn, on, none⟩) ns.length cn) us ms false) := hide ⟨_, _, _, _, _, h3, hp3.cnt (za HC), hp3.ov, (za HQ).trans hq3⟩
     clear h3 hp3 hq3
     go_wp2_with fail
     refine bodyPost_ret (results_none rfl _ _ _) rfl ?_
     exact ⟨⟨_, rfl⟩, za HE⟩
    ·
     have hd : (!decide ((q : Int) ∈ us)) = true := by simp [hin]
     rw [hd]
     cases m with
     | zero => exact absurd ((za HW).all hx0 hx1) hin
     | succ m =>
      obtain ⟨hNm, hPm⟩ := (za HMM) m rfl
      have HNM := hide hNm
      have HPM := hide hPm
      have HW2 := hide ((za HW).snoc (c := c) hx0 hx1 hin (za HC).lo (by have := (za HC0).hi; omega))
      clear hNm hPm HMM hd hin
      go_wp2_with fail
      refine (ye W0 _ _ _ _ ns us ms c (q : Int) o false (za H) (za HNN) (za HK) hx0 hx1 (by omega) (za HC0) (by omega) (by omega)).mono ?_
      rintro e w3 ⟨⟨u3, rfl⟩, va3, vm3, c3, o3, ov3, h3, hc3, _, hq3⟩
      have H3 := hide h3
      have HC3 := hide hc3
      have HQ3 := hide ((za HQ).trans hq3)
      have HA3 := hide (hq3.at3 (za HA))
      have a0 := (za HA3).n0
      have a1 := (za HA3).n1
      have a2 := (za HA3).n2
      clear h3 hc3 hq3 HQ HA H
      go_wp2_with fail
      refine (put_c W0 _ _ _ _ _ _ c3 o3 _ ov3 (za H3) (za HC3).sz (by decide)).mono ?_
      rintro e w4 ⟨⟨u4, rfl⟩, o4, ov4, h4, hp4, hq4⟩
      have H4 := hide h4
      have HC4 := hide (hp4.cnt (za HC3))
      replace HQ3 := hide ((za HQ3).trans hq4)
      clear h4 hp4 hq4
      go_wp2_with fail
      refine ((za HPM) w4 _ _ _ _ c3 (q : Int) o4 ov4 (za H4) (za HW2) hx0 hx1 (za HC4) (fun nd h => by rw [Int.toNat_natCast, za HND] at h; cases h; rfl)).mono ?_
      rintro e w5 ⟨⟨u5, rfl⟩, va5, vm5, c5, o5, ov5, h5, hc5, _, hq5⟩
      have hab := h5.ab
      have hmr := h5.mr
      obtain ⟨pa, pc, rfl⟩ := zH hab
      obtain ⟨qa, qc, rfl⟩ := zH hmr
      rw [List.length_append, List.length_singleton, List.length_append, List.length_singleton] at h5
      have H5 := hide h5
      have HC5 := hide hc5
      have HQ5 := hide ((za HQ3).trans hq5)
      clear h5 hc5 hq5 hab hmr a0 a1 a2
      go_wp2_with fail
      refine (ym W0 _ _ pa qa pc qc us ms _ _ c5 o5 ov5 (za H5) (by omega) (by omega)).mono ?_
      rintro e w6 ⟨⟨u6, rfl⟩, va6, vm6, h6, hq6⟩
      have HE : Hid (WGo W0 w w6 (.slice (some ⟨bn, on, none⟩) ns.length cn) us ms false) := hide ⟨_, _, _, _, _, h6, za HC5, (fun e => by cases e), (za HQ5).trans hq6⟩
      clear h6 hq6
      go_wp2_with fail
      go_end0
      exact ⟨⟨_, rfl⟩, za HE⟩
   ·obtain ⟨e7, e8⟩ := g8 rfl
    clear g7 g8
    go_enter Tryd.func42, Tryd.ntmps42
    go_wp2_with fail
    refine (za HL).mono ?_
    rintro e w2 ⟨⟨nm, rfl, hnm⟩, hb2⟩
    replace H := hide ((za H).below hb2)
    replace HQ := hide ((za HQ).trans (Oth.below hb2))
    replace HA := hide ((za HA).below hb2)
    clear hb2 HL d0 d1 d2 n6
    by_cases hin : (q : Int) ∈ us
    ·
     have hd : (!decide ((q : Int) ∈ us)) = false := by simp [hin]
     rw [hd]
     have k1 : (⟨#[35]⟩ : ByteArray).size = 1 := rfl
     have k2 : ¬ 9223372036854775807 < (⟨#[35]⟩ ++ nm : ByteArray).size + 1 := by rw [ByteArray.size_append]; omega
     clear hd hin
     go_wp2_with fail
     refine (put_c W0 _ _ _ _ us ms c o _ false (za H) (za HC).sz (by rw [ByteArray.size_append, ByteArray.size_append]; omega)).mono ?_
     rintro e w3 ⟨⟨u, rfl⟩, o3, ov3, h3, hp3, hq3⟩
     have HE : Hid (WGo W0 w w3 (.slice (some ⟨bn, on, none⟩) ns.length cn) us ms false) := hide ⟨_, _, _, _, _, h3, hp3.cnt (za HC), hp3.ov, (za HQ).trans hq3⟩
     clear h3 hp3 hq3
     go_wp2_with fail
     refine bodyPost_ret (results_none rfl _ _ _) rfl ?_
     exact ⟨⟨_, rfl⟩, za HE⟩
    ·
     have hd : (!decide ((q : Int) ∈ us)) = true := by simp [hin]
     rw [hd]
     cases m with
     | zero => exact absurd ((za HW).all hx0 hx1) hin
     | succ m =>
      obtain ⟨hNm, hPm⟩ := (za HMM) m rfl
      have HNM := hide hNm
      have HPM := hide hPm
      have HW2 := hide ((za HW).snoc (c := c) hx0 hx1 hin (za HC).lo (by have := (za HC0).hi; omega))
      clear hNm hPm HMM hd hin
      go_wp2_with fail
      refine (ye W0 _ _ _ _ ns us ms c (q : Int) o false (za H) (za HNN) (za HK) hx0 hx1 (by omega) (za HC0) (by omega) (by omega)).mono ?_
      rintro e w3 ⟨⟨u3, rfl⟩, va3, vm3, c3, o3, ov3, h3, hc3, _, hq3⟩
      have H3 := hide h3
      have HC3 := hide hc3
      have HQ3 := hide ((za HQ).trans hq3)
      have HA3 := hide (hq3.at3 (za HA))
      have a0 := (za HA3).n0
      have a1 := (za HA3).n1
      have a2 := (za HA3).n2
      clear h3 hc3 hq3 HQ HA H
      go_wp2_with fail
      refine (row_c W0 _ ns m (za HNM) w3 va3 vm3 _ _ ks c3 o3 ov3 8 t ka kc (za H3) (za HW2) (za HC3) ((za HK).kids _ (za HM)) ((za HK).few _ (za HM)) (za HKV)).mono ?_
      rintro e w5 ⟨⟨u5, rfl⟩, va5, vm5, c5, o5, ov5, h5, hc5, _, hq5⟩
      have hab := h5.ab
      have hmr := h5.mr
      obtain ⟨pa, pc, rfl⟩ := zH hab
      obtain ⟨qa, qc, rfl⟩ := zH hmr
      rw [List.length_append, List.length_singleton, List.length_append, List.length_singleton] at h5
      have H5 := hide h5
      have HC5 := hide hc5
      have HQ5 := hide ((za HQ3).trans hq5)
      clear h5 hc5 hq5 hab hmr a0 a1 a2
      go_wp2_with fail
      refine (ym W0 _ _ pa qa pc qc us ms _ _ c5 o5 ov5 (za H5) (by omega) (by omega)).mono ?_
      rintro e w6 ⟨⟨u6, rfl⟩, va6, vm6, h6, hq6⟩
      have HE : Hid (WGo W0 w w6 (.slice (some ⟨bn, on, none⟩) ns.length cn) us ms false) := hide ⟨_, _, _, _, _, h6, za HC5, (fun e => by cases e), (za HQ5).trans hq6⟩
      clear h6 hq6
      go_wp2_with fail
      go_end0
      exact ⟨⟨_, rfl⟩, za HE⟩
theorem yD {l : List Bool} {i : Nat} (h : l[i]? = some false) : (l.set i true).count false + 1 = l.count false := by
 induction l generalizing i with
 | nil => simp at h
 | cons a r ih =>
  cases i with
  | zero => simp at h; subst h; simp
  | succ i => rw [List.getElem?_cons_succ] at h; have := ih h; simp only [List.set_cons_succ, List.count_cons]; omega
def LL (l : Array Bool) (i : Nat) : Prop := l[i]? = some true
theorem ZT {l : Array Bool} {i : Nat} (h : i < l.size) (j : Nat) : LL (l.setIfInBounds i true) j ↔ j = i ∨ LL l j := by
 unfold LL
 rw [Array.getElem?_setIfInBounds]
 by_cases e : i = j
 ·subst e; rw [if_pos rfl, if_pos h]; simp
 ·rw [if_neg e]; constructor
  ·exact .inr
  ·rintro (h | h)
   ·exact absurd h.symm e
   ·exact h
theorem LL_of {l : Array Bool} {k : Nat} (h : l[k]?.getD false = true) : LL l k := by
 unfold LL
 cases e : l[k]? with
 | none => rw [e] at h; simp at h
 | some b => rw [e] at h; simp at h; rw [h]
theorem jG {P : Program} {ops : Array Oper} {Q : Exit → Act → World → Prop} {md : Region.Mode} (Inv : Array Bool → Act → World → Prop)
  (hsz : ∀ l a w, Inv l a w → l.size = ops.size) (hend : ∀ l a w, Inv l a w → (∀ i, i < ops.size → l[i]? = some true) → Q .normal a w)
  (hstep : ∀ l a w i, Inv l a w → i ∈ Region.ready md ops l → wpOp P ops Q i (fun a' w' => Inv (l.setIfInBounds i true) a' w') a w)
  (hgo : ∀ l a w, Inv l a w → Region.ready md ops l = [] → ∀ i, i < ops.size → l[i]? = some true) :
  ∀ fuel l a w, Inv l a w → l.toList.count false ≤ fuel → wpAny P md ops Q fuel l a w := by
 intro fuel
 induction fuel with
 | zero =>
  intro l a w hI hc
  have hall : ∀ i, i < ops.size → l[i]? = some true := fun i hi => by
   have h1 : l[i]? = some (l[i]'(by rw [hsz l a w hI]; exact hi)) := Array.getElem?_eq_getElem _
   cases hv : l[i]'(by rw [hsz l a w hI]; exact hi) with
   | true => rw [h1, hv]
   | false =>
    have : false ∈ l.toList := by rw [← hv]; simp
    have := List.count_pos_iff.2 this
    omega
  refine ⟨?_, hend l a w hI hall⟩
  unfold Region.ready
  rw [List.filter_eq_nil_iff]
  intro i hi
  have := hall i (by simpa using hi)
  simp [Array.getD_eq_getD_getElem?, this]
 | succ fuel ih =>
  intro l a w hI hc
  refine ⟨fun hr => hend l a w hI (hgo l a w hI hr), fun i hi => ?_⟩
  have hi2 := hi
  unfold Region.ready at hi2
  rw [List.mem_filter] at hi2
  have hlt : i < ops.size := by simpa using hi2.1
  have hlf : l[i]? = some false := by
   have h1 : l[i]? = some (l[i]'(by rw [hsz l a w hI]; exact hlt)) := Array.getElem?_eq_getElem _
   have h2 := hi2.2
   simp [Array.getD_eq_getD_getElem?, h1] at h2
   rw [h1, h2.1]
  refine wpOp_mono (fun a' w' h => ih _ a' w' h ?_) (hstep l a w i hI hi)
  have h3 := yD (l := l.toList) (i := i) (by simpa using hlf)
  simp only [Array.toList_setIfInBounds]
  omega
theorem xE {md : Region.Mode} {ops : Array Oper} {l : Array Bool} (hr : Region.ready md ops l = []) (i : Nat) (hi : i < ops.size) (hs : l.size = ops.size) (h : ((ops[i]?).map (·.after.all fun e => !Region.binds md e || l.getD e.on false)).getD false = true) : l[i]? = some true := by
 apply Classical.byContradiction
 intro hne
 have hf : l[i]? = some false := by
  have e : l[i]? = some (l[i]'(by omega)) := Array.getElem?_eq_getElem _
  cases hb : l[i]'(by omega) with
  | true => rw [hb] at e; exact absurd e hne
  | false => rw [hb] at e; exact e
 apply List.not_mem_nil (a := i)
 rw [← hr]
 unfold Region.ready
 rw [List.mem_filter]
 refine ⟨by simpa using hi, ?_⟩
 rw [h]
 simp [Array.getD_eq_getD_getElem?, hf]
end Go.Proofs.YtnenoaenjaghhaaDoor
namespace Go.Proofs.YtnenoaenjaghhaaDoor
open Go.RowKit Nt
theorem ZS {md : Region.Mode} {ops : Array Oper} {l : Array Bool} {i : Nat} (hi : i ∈ Region.ready md ops l) (d : Nat) (h : ((ops[i]?).map (·.after.toList.any fun e => Region.binds md e && e.on == d)).getD false = true) : LL l d := by
 unfold Region.ready at hi
 rw [List.mem_filter] at hi
 obtain ⟨_, h2⟩ := hi
 rw [Bool.and_eq_true] at h2
 have h3 := h2.2
 cases ho : ops[i]? with
 | none => rw [ho] at h; simp at h
 | some o =>
  rw [ho] at h h3
  simp only [Option.map_some, Option.getD_some] at h h3
  obtain ⟨e, hk, he⟩ := List.any_eq_true.1 h
  rw [Bool.and_eq_true] at he
  rw [← Array.all_toList] at h3
  have h4 := List.all_eq_true.1 h3 e hk
  rw [he.1] at h4
  have e2 : e.on = d := by simpa using he.2
  rw [e2] at h4
  refine LL_of ?_
  simpa [Array.getD_eq_getD_getElem?] using h4
theorem vu {md : Region.Mode} {ops : Array Oper} {l : Array Bool} {i : Nat} (hi : i ∈ Region.ready md ops l) : i < ops.size := by
 unfold Region.ready at hi
 rw [List.mem_filter] at hi
 simpa using hi.1
def backB (md : Region.Mode) (ops : Array Oper) : Bool := (List.range ops.size).all fun i => ((ops[i]?).map (·.after.all fun e => !Region.binds md e || decide (e.on < i))).getD false
theorem v6 {md : Region.Mode} {ops : Array Oper} {l : Array Bool} (hd : backB md ops = true) (hs : l.size = ops.size) (hr : Region.ready md ops l = []) : ∀ i, i < ops.size → l[i]? = some true := by
 intro i
 induction i using Nat.strongRecOn with
 | _ i ih =>
  intro hi
  refine xE hr i hi hs ?_
  have h := List.all_eq_true.1 hd i (by simpa using hi)
  cases ho : ops[i]? with
  | none => rw [ho] at h; simp at h
  | some o =>
   rw [ho] at h
   simp only [Option.map_some, Option.getD_some] at h ⊢
   rw [Array.all_eq_true] at h ⊢
   intro k hk
   have h1 := h k hk
   cases hb : Region.binds md o.after[k] with
   | false => rfl
   | true =>
    rw [hb] at h1
    have hlt : (o.after[k]).on < i := by simpa using h1
    have := ih _ hlt (by omega)
    simp [Array.getD_eq_getD_getElem?, this]
structure RdL (W : World) (vs : List Value) (l : Array Bool) (x : Nat → Value) (w : World) : Prop where
 sz : l.size = vs.length
 val : ∀ i v, vs[i]? = some v → LL l i → x i = v
 bl : Below W.heap.size W w
section
variable {W w w' : World} {vs : List Value} {x : Nat → Value} {l : Array Bool}
theorem RdL.start (n : l = Array.replicate vs.length false) (h : Below W.heap.size W w) : RdL W vs l x w := by
 subst n
 refine ⟨by simp, fun i _ _ h => ?_, h⟩
 unfold LL at h
 rw [Array.getElem?_replicate] at h
 split at h <;> simp at h
theorem RdL.call (h : RdL W vs l x w) (i : Nat) {u : Value} (hi : vs[i]? = some u) (hb : Below w.heap.size w w') : RdL W vs (l.setIfInBounds i true) (fun j => if j = i then u else x j) w' := by
 have hlt := (List.getElem?_eq_some_iff.1 hi).1
 have hs := fun j => ZT (l := l) (i := i) (by rw [h.sz]; omega) j
 refine ⟨by simp [h.sz], fun j v hj e => ?_, h.bl.trans (hb.mono h.bl.size)⟩
 by_cases q : j = i
 ·subst q
  exact (if_pos rfl).trans (Option.some.inj (hi.symm.trans hj))
 ·exact (if_neg q).trans (h.val j v hj (((hs j).1 e).resolve_left q))
theorem RdL.nx (h : RdL W vs l x w) (i : Nat) {u : Value} (hi : vs[i]? = some u) : RdL W vs (l.setIfInBounds i true) (fun j => if j = i then u else x j) w := h.call i hi (Below.refl _ _)
theorem RdL.dv {md : Region.Mode} {ops : Array Oper} {j : Nat} (h : RdL W vs l x w) (hi : j ∈ Region.ready md ops l) (d : Nat) {u : Value} (hv : vs[d]? = some u) (hd : ((ops[j]?).map (·.after.toList.any fun e => Region.binds md e && e.on == d)).getD false = true) : x d = u := h.val d u hv (ZS hi d hd)
theorem RdL.fv (h : RdL W vs l x w) {n : Nat} (ha : ∀ i, i < n → l[i]? = some true) (d : Nat) {u : Value} (hv : vs[d]? = some u) (hd : d < n) : x d = u := h.val d u hv (ha d hd)
end
section
variable {N : Nat} {cs : List Nat} {vs : List Value} {P : Nat → (Nat → Value) → World → Prop} {l : Array Bool} {x : Nat → Value} {w : World}
end
end Go.Proofs.YtnenoaenjaghhaaDoor
namespace Go.Proofs.YtnenoaenjaghhaaDoor
open Go.RowKit Nt
theorem vq (W0 : World) (vn : Value) (ns : List Nd) (m : Nat) (hn : NodesAt W0 vn ns) (hk : NdsOk ns) (hs : ns.length ≤ 80) (hN : NodeC W0 vn ns m) (hm : ∀ m', m = m' + 1 → v7 W0 vn ns m') : v7 W0 vn ns m := by
 intro w va vm us ms c x o ov h hw hx0 hx1 hc hx7
 obtain ⟨q, rfl⟩ := Int.eq_ofNat_of_zero_le hx0
 obtain ⟨nd, hnd⟩ : ∃ nd, ns[q]? = some nd := ⟨_, List.getElem?_eq_getElem (by omega)⟩
 obtain ⟨bn, on, cn, rfl, hn1, hn2, hbn⟩ := hn.form (by omega)
 unfold maxLen at hn2
 obtain ⟨kv, _, _, c2, _, hkv⟩ := hn.node hnd
 obtain ⟨ka, kc, rfl, hkc1, hkc2⟩ := hkv.form
 unfold maxLen at hkc2
 have hmem := List.mem_of_getElem? hnd
 have h2 := hk.two nd hmem (hx7 nd (by rw [Int.toNat_natCast]; exact hnd))
 have hkr := hk.kids nd hmem
 obtain ⟨s, t, ks⟩ := nd
 dsimp only at c2 hkv hkc1 h2 hkr
 obtain ⟨k0, k1, rfl⟩ : ∃ a b, ks = [a, b] := by
  match ks, h2 with
  | [a, b], _ => exact ⟨a, b, rfl⟩
 obtain ⟨kb, ko, rfl, hkb, hk0⟩ := hkv.cell (k := 0) (x := k0) rfl
 rw [Nat.add_zero] at hk0
 obtain ⟨kb', ko', e', _, hk1⟩ := hkv.cell (k := 1) (x := k1) rfl
 cases e'
 have r0 := hkr k0 (by simp)
 have r1 := hkr k1 (by simp)
 obtain ⟨r, rfl⟩ := Int.eq_ofNat_of_zero_le r1.1
 obtain ⟨nd1, hnd1⟩ : ∃ nd, ns[r]? = some nd := ⟨_, List.getElem?_eq_getElem (by omega)⟩
 obtain ⟨kv1, g0, l1, l2, l3, l4⟩ := hn.node hnd1
 clear l1 l2 l3 l4 kv1
 obtain ⟨s1, t1, ks1⟩ := nd1
 dsimp only at g0
 have hus : us.length ≤ 80 := Nat.le_trans hw.inr.len hs
 have hms : ms.length ≤ 80 := by rw [← hw.len]; exact hus
 have hlow := h.low
 have d2 := (h.low.cell (p := ⟨bn, on + q * 3 + 2, none⟩) hbn).trans c2
 have d3 := (h.low.cell (p := ⟨kb, ko, none⟩) hkb).trans hk0
 have n0 := h.n0
 have HC2 := hide c2
 have HK1 := hide hk1
 have HG0 := hide g0
 have HNN := hide hn
 have HND := hide hnd1
 have HK := hide hk
 have HMM := hide hm
 have HN := hide hN
 have HW := hide hw
 have HC := hide hc
 have H := hide h
 clear hkv hn hnd hk hmem hm hw hc h c2 hk0 hk1 g0 hkr hnd1 hx7 hlow hN
 simp only [List.length_cons, List.length_nil] at d2 HC2 hkc1
 go_enter Tryd.func55, Tryd.ntmps55
 go_wp2_with fail
 refine ((za HN) w _ _ us ms c k0 o ov (za H) (za HW) r0.1 r0.2 (za HC)).mono ?_
 rintro e w2 ⟨⟨u2, rfl⟩, va2, vm2, c2, o2, ov2, h2, hc2, hov2, hq2⟩
 have H2 := hide h2
 have HCC := hide hc2
 have HOV := hide hov2
 have HQ := hide hq2
 have n0 := h2.n0
 have d2 := (h2.low.cell (p := ⟨bn, on + q * 3 + 2, none⟩) hbn).trans (za HC2)
 have d3 := (h2.low.cell (p := ⟨kb, ko + 1, none⟩) hkb).trans (za HK1)
 clear h2 hc2 hov2 hq2 H HC
 go_wp2_with fail
 refine (kK W0 _ _ va2 vm2 us ms c2 o2 ov2 (r : Int) (za H2) (za HW).len (za HW).mrk).mono ?_
 rintro e w3 ⟨⟨nm, rfl, hnm⟩, hb3⟩
 replace H2 := hide ((za H2).below hb3)
 replace HQ := hide ((za HQ).trans (Oth.below hb3))
 have n6 := (za H2).n6
 have n0 := (za H2).n0
 have n2 := (za H2).n2
 have d4 := ((za H2).low.cell (p := ⟨bn, on + r * 3, none⟩) hbn).trans (za HG0)
 clear hb3 d2 d3
 obtain ⟨bf, hbf⟩ : ∃ bf, (!decide ((r : Int) ∈ us)) = bf := ⟨_, rfl⟩
 rw [hbf]
 have HBF := hide hbf
 clear hbf
 cases ov2
 case true =>
  go_wp2_with fail
  go_end0
  exact ⟨⟨_, rfl⟩, _, _, _, _, _, za H2, za HCC, fun _ => rfl, za HQ⟩
 case false =>
  by_cases h6 : s1 = 6
  ·have e6 := qo h6
   clear h6
   go_wp2_with fail
   refine (put_c W0 _ _ _ _ _ _ _ _ _ _ (za H2) (za HCC).sz (by decide)).mono ?_
   rintro e w9 ⟨⟨u9, rfl⟩, o9, ov9, h9, hp9, hq9⟩
   have HE : Hid (WGo W0 w w9 (.slice (some ⟨bn, on, none⟩) ns.length cn) us ms ov) := hide ⟨_, _, _, _, _, h9, hp9.cnt (za HCC), fun e => hp9.ov ((za HOV) e), (za HQ).trans hq9⟩
   clear h9 hp9 hq9
   go_wp2_with fail
   first | go_end0 | refine bodyPost_ret (results_none rfl _ _ _) rfl ?_
   exact ⟨⟨_, rfl⟩, za HE⟩
  ·have e6 := zF h6
   clear h6
   have HU2 := hide (zz (za H2).ab)
   have HN2 := hide ((za HNN).below (za H2).low)
   obtain ⟨ua, uc, rfl⟩ := zH (za H2).ab
   have HX7 : Hid (s1 = 7 → ∀ nd, ns[((r : Nat) : Int).toNat]? = some nd → nd.1 = 7) := hide (fun e nd h => by rw [Int.toNat_natCast, za HND] at h; cases h; exact e)
   clear h2 HND
   have hlt3 := (za H2).lt
   have hbn3 : bn < w3.heap.size := Nat.lt_of_lt_of_le hbn (za H2).low.size
   obtain ⟨ar, har⟩ : ∃ ar, qL ns us (r : Int) = ar := ⟨_, rfl⟩
   have HAR := hide har
   clear har
   go_wp2_with fail
   cases h7 : (s1 == 7)
   case false =>
    refine wp_region_any (by kernel_rfl) ?_
    change wpAny _ _ _ _ _ _ _ (World.drew _)
    refine jG (fun l' a' w' => ∃ x : Nat → Value, a' = ⟨#[.pointer (some ⟨W0.heap.size, 0, none⟩), .int .i64 (q : Int), undef, undef, .int .i64 (r : Int), .string nm, .bool bf, .pointer (some ⟨W0.heap.size, 0, none⟩), .pointer (some ⟨W0.heap.size, 0, none⟩), .pointer (some ⟨W0.heap.size, 0, none⟩), .pointer (some ⟨W0.heap.size, 0, none⟩), .slice (some ⟨bn, on, none⟩) ns.length cn, .int .i64 (q : Int), .pointer (some ⟨bn, on + q * 3, none⟩), .pointer (some ⟨bn, on + q * 3 + 2, none⟩), .slice (some ⟨kb, ko, none⟩) 2 kc, .pointer (some ⟨kb, ko, none⟩), .int .i64 k0, u2, .pointer (some ⟨W0.heap.size, 0, none⟩), .pointer (some ⟨W0.heap.size, 0, none⟩), .pointer (some ⟨W0.heap.size, 0, none⟩), .slice (some ⟨bn, on, none⟩) ns.length cn, .int .i64 (q : Int), .pointer (some ⟨bn, on + q * 3, none⟩), .pointer (some ⟨bn, on + q * 3 + 2, none⟩), .slice (some ⟨kb, ko, none⟩) 2 kc, .pointer (some ⟨kb, ko + 1, none⟩), .int .i64 (r : Int), .tuple #[.string nm, .bool bf], .pointer (some ⟨W0.heap.size, 0, none⟩), .int .i64 (r : Int), .tuple #[.string nm, .bool bf], .string nm, .bool bf, undef, undef, undef, undef, undef, undef, undef, .bool false, .pointer (some ⟨W0.heap.size, 0, none⟩), .pointer (some ⟨W0.heap.size, 0, none⟩), .pointer (some ⟨W0.heap.size, 6, none⟩), .bool false, .bool false, .pointer (some ⟨W0.heap.size, 0, none⟩), .pointer (some ⟨W0.heap.size, 0, none⟩), .pointer (some ⟨W0.heap.size, 0, none⟩), .slice (some ⟨bn, on, none⟩) ns.length cn, .int .i64 (r : Int), .pointer (some ⟨bn, on + r * 3, none⟩), .pointer (some ⟨bn, on + r * 3, none⟩), .int .i64 s1, .bool false, undef, undef, x 25, x 0, x 1, x 2, x 3, x 4, x 5, x 6, x 7, x 8, x 9, x 10, x 11, x 12, x 13, x 14, x 15, x 16, x 17, x 18, x 19, x 20, x 21, x 22, x 23, x 24, undef, undef, undef, undef, undef, undef, undef, undef, undef, undef], []⟩ ∧ RdL w3 [.pointer (some ⟨W0.heap.size, 0, none⟩), .pointer (some ⟨W0.heap.size, 0, none⟩), .pointer (some ⟨W0.heap.size, 0, none⟩), .slice (some ⟨bn, on, none⟩) ns.length cn, .int .i64 (r : Int), .pointer (some ⟨bn, on + r * 3, none⟩), .pointer (some ⟨bn, on + r * 3, none⟩), .int .i64 s1, .bool false, .bool false, undef, .bool false, .bool false, undef, undef, undef, undef, undef, undef, undef, undef, undef, undef, undef, .bool false, .bool false] l' x w') (fun _ _ _ ⟨_, _, h⟩ => h.sz) ?hend ?hstep (fun _ _ _ ⟨_, _, h⟩ => v6 (by kernel_rfl) h.sz) _ _ _ _ ⟨fun j => [undef, undef, undef, undef, undef, undef, undef, undef, undef, undef, undef, undef, undef, undef, undef, undef, undef, undef, undef, undef, undef, undef, undef, undef, undef, undef].getD j undef, rfl, RdL.start rfl (Below.refl _ _).drew⟩ (Nat.le_of_eq rfl)
    case hstep =>
     rintro l' a' w' j ⟨x, rfl, h⟩ hi
     have hj : j < 26 := vu hi
     rcases (by omega : j = 0 ∨ j = 1 ∨ j = 2 ∨ j = 3 ∨ j = 4 ∨ j = 5 ∨ j = 6 ∨ j = 7 ∨ j = 8 ∨ j = 9 ∨ j = 10 ∨ j = 11 ∨ j = 12 ∨ j = 13 ∨ j = 14 ∨ j = 15 ∨ j = 16 ∨ j = 17 ∨ j = 18 ∨ j = 19 ∨ j = 20 ∨ j = 21 ∨ j = 22 ∨ j = 23 ∨ j = 24 ∨ j = 25) with rfl | rfl | rfl | rfl | rfl | rfl | rfl | rfl | rfl | rfl | rfl | rfl | rfl | rfl | rfl | rfl | rfl | rfl | rfl | rfl | rfl | rfl | rfl | rfl | rfl | rfl
     ·refine wpOp_step rfl (fun K hK => ?_)
      go_simp
      exact hK _ _ ⟨_, by simp [], h.nx 0 rfl⟩
     ·have w0 := h.dv hi 0 rfl rfl
      simp only [w0]
      refine wpOp_step rfl (fun K hK => ?_)
      go_simp
      exact hK _ _ ⟨_, by simp [w0], h.nx 1 rfl⟩
     ·have w1 := h.dv hi 1 rfl rfl
      simp only [w1]
      refine wpOp_step rfl (fun K hK => ?_)
      go_simp
      exact hK _ _ ⟨_, by simp [w1], h.nx 2 rfl⟩
     ·have w2 := h.dv hi 2 rfl rfl
      have m0 := (h.bl.cell (p := ⟨W0.heap.size, 0, none⟩) hlt3).trans n0
      have m2 := (h.bl.cell (p := ⟨W0.heap.size, 2, none⟩) hlt3).trans n2
      have m4 := (h.bl.cell (p := ⟨bn, on + r * 3, none⟩) hbn3).trans d4
      simp only [w2]
      refine wpOp_step rfl (fun K hK => ?_)
      go_simp
      exact hK _ _ ⟨_, by simp [w2], h.nx 3 rfl⟩
     ·refine wpOp_step rfl (fun K hK => ?_)
      go_simp
      exact hK _ _ ⟨_, by simp [], h.nx 4 rfl⟩
     ·have w3 := h.dv hi 3 rfl rfl
      have w4 := h.dv hi 4 rfl rfl
      simp only [w3, w4]
      refine wpOp_step rfl (fun K hK => ?_)
      go_simp
      exact hK _ _ ⟨_, by simp [w3, w4], h.nx 5 rfl⟩
     ·have w5 := h.dv hi 5 rfl rfl
      simp only [w5]
      refine wpOp_step rfl (fun K hK => ?_)
      go_simp
      exact hK _ _ ⟨_, by simp [w5], h.nx 6 rfl⟩
     ·have w6 := h.dv hi 6 rfl rfl
      have m0 := (h.bl.cell (p := ⟨W0.heap.size, 0, none⟩) hlt3).trans n0
      have m2 := (h.bl.cell (p := ⟨W0.heap.size, 2, none⟩) hlt3).trans n2
      have m4 := (h.bl.cell (p := ⟨bn, on + r * 3, none⟩) hbn3).trans d4
      simp only [w6]
      refine wpOp_step rfl (fun K hK => ?_)
      go_simp
      exact hK _ _ ⟨_, by simp [w6], h.nx 7 rfl⟩
     ·have w7 := h.dv hi 7 rfl rfl
      simp only [w7]
      refine wpOp_step rfl (fun K hK => ?_)
      go_simp
      exact hK _ _ ⟨_, by simp [w7], h.nx 8 rfl⟩
     ·have w8 := h.dv hi 8 rfl rfl
      simp only [w8]
      refine wpOp_step rfl (fun K hK => ?_)
      go_simp
      exact hK _ _ ⟨_, by simp [w8], h.nx 9 rfl⟩
     ·have w9 := h.dv hi 9 rfl rfl
      simp only [w9]
      refine wpOp_step rfl (fun K hK => ?_)
      go_simp
      exact hK _ _ ⟨_, by simp [w9], h.nx 10 rfl⟩
     ·have w9 := h.dv hi 9 rfl rfl
      have w10 := h.dv hi 10 rfl rfl
      simp only [w9, w10]
      refine wpOp_step rfl (fun K hK => ?_)
      go_simp
      exact hK _ _ ⟨_, by simp [w9, w10], h.nx 11 rfl⟩
     ·have w11 := h.dv hi 11 rfl rfl
      simp only [w11]
      refine wpOp_step rfl (fun K hK => ?_)
      go_simp
      exact hK _ _ ⟨_, by simp [w11], h.nx 12 rfl⟩
     ·have w12 := h.dv hi 12 rfl rfl
      simp only [w12]
      refine wpOp_step rfl (fun K hK => ?_)
      go_simp
      exact hK _ _ ⟨_, by simp [w12], h.nx 13 rfl⟩
     ·have w12 := h.dv hi 12 rfl rfl
      have w13 := h.dv hi 13 rfl rfl
      simp only [w12, w13]
      refine wpOp_step rfl (fun K hK => ?_)
      go_simp
      exact hK _ _ ⟨_, by simp [w12, w13], h.nx 14 rfl⟩
     ·have w12 := h.dv hi 12 rfl rfl
      have w14 := h.dv hi 14 rfl rfl
      simp only [w12, w14]
      refine wpOp_step rfl (fun K hK => ?_)
      go_simp
      exact hK _ _ ⟨_, by simp [w12, w14], h.nx 15 rfl⟩
     ·have w12 := h.dv hi 12 rfl rfl
      have w15 := h.dv hi 15 rfl rfl
      simp only [w12, w15]
      refine wpOp_step rfl (fun K hK => ?_)
      go_simp
      exact hK _ _ ⟨_, by simp [w12, w15], h.nx 16 rfl⟩
     ·have w12 := h.dv hi 12 rfl rfl
      simp only [w12]
      refine wpOp_step rfl (fun K hK => ?_)
      go_simp
      exact hK _ _ ⟨_, by simp [w12], h.nx 17 rfl⟩
     ·have w12 := h.dv hi 12 rfl rfl
      simp only [w12]
      refine wpOp_step rfl (fun K hK => ?_)
      go_simp
      exact hK _ _ ⟨_, by simp [w12], h.nx 18 rfl⟩
     ·have w12 := h.dv hi 12 rfl rfl
      have w18 := h.dv hi 18 rfl rfl
      simp only [w12, w18]
      refine wpOp_step rfl (fun K hK => ?_)
      go_simp
      exact hK _ _ ⟨_, by simp [w12, w18], h.nx 19 rfl⟩
     ·have w12 := h.dv hi 12 rfl rfl
      have w19 := h.dv hi 19 rfl rfl
      simp only [w12, w19]
      refine wpOp_step rfl (fun K hK => ?_)
      go_simp
      exact hK _ _ ⟨_, by simp [w12, w19], h.nx 20 rfl⟩
     ·have w12 := h.dv hi 12 rfl rfl
      have w20 := h.dv hi 20 rfl rfl
      simp only [w12, w20]
      refine wpOp_step rfl (fun K hK => ?_)
      go_simp
      exact hK _ _ ⟨_, by simp [w12, w20], h.nx 21 rfl⟩
     ·have w12 := h.dv hi 12 rfl rfl
      have w16 := h.dv hi 16 rfl rfl
      have w17 := h.dv hi 17 rfl rfl
      have w21 := h.dv hi 21 rfl rfl
      simp only [w12, w16, w17, w21]
      refine wpOp_step rfl (fun K hK => ?_)
      go_simp
      exact hK _ _ ⟨_, by simp [w12, w16, w17, w21], h.nx 22 rfl⟩
     ·have w12 := h.dv hi 12 rfl rfl
      have w22 := h.dv hi 22 rfl rfl
      simp only [w12, w22]
      refine wpOp_step rfl (fun K hK => ?_)
      go_simp
      exact hK _ _ ⟨_, by simp [w12, w22], h.nx 23 rfl⟩
     ·have w12 := h.dv hi 12 rfl rfl
      have w23 := h.dv hi 23 rfl rfl
      simp only [w12, w23]
      refine wpOp_step rfl (fun K hK => ?_)
      go_simp
      exact hK _ _ ⟨_, by simp [w12, w23], h.nx 24 rfl⟩
     ·have w24 := h.dv hi 24 rfl rfl
      simp only [w24]
      refine wpOp_step rfl (fun K hK => ?_)
      go_simp
      exact hK _ _ ⟨_, by simp [w24], h.nx 25 rfl⟩
    case hend =>
     rintro l' a' w5 ⟨x, rfl, h⟩ ha
     simp only [h.fv ha 0 rfl (by decide), h.fv ha 1 rfl (by decide), h.fv ha 2 rfl (by decide), h.fv ha 3 rfl (by decide), h.fv ha 4 rfl (by decide), h.fv ha 5 rfl (by decide), h.fv ha 6 rfl (by decide), h.fv ha 7 rfl (by decide), h.fv ha 8 rfl (by decide), h.fv ha 9 rfl (by decide), h.fv ha 10 rfl (by decide), h.fv ha 11 rfl (by decide), h.fv ha 12 rfl (by decide), h.fv ha 13 rfl (by decide), h.fv ha 14 rfl (by decide), h.fv ha 15 rfl (by decide), h.fv ha 16 rfl (by decide), h.fv ha 17 rfl (by decide), h.fv ha 18 rfl (by decide), h.fv ha 19 rfl (by decide), h.fv ha 20 rfl (by decide), h.fv ha 21 rfl (by decide), h.fv ha 22 rfl (by decide), h.fv ha 23 rfl (by decide), h.fv ha 24 rfl (by decide), h.fv ha 25 rfl (by decide)]
     have HBE := hide h.bl
     clear h ha
     have H5 := hide ((za H2).below (za HBE))
     have HQ5 := hide ((za HQ).trans (Oth.below (za HBE)))
     clear n0 n2 d4 h7
     go_wp2_with fail
     refine (put_c W0 _ _ _ _ us ms c2 o2 _ false (za H5) (za HCC).sz (by decide)).mono ?_
     rintro e w6 ⟨⟨u6, rfl⟩, o6, ov6, h6, hp6, hq6⟩
     have H6 := hide h6
     have HC6 := hide (hp6.cnt (za HCC))
     have HQ6 := hide ((za HQ5).trans hq6)
     clear h6 hp6 hq6
     go_wp2_with fail
     refine ((za HN) w6 _ _ us ms c2 (r : Int) o6 ov6 (za H6) (za HW) r1.1 r1.2 (za HC6)).mono ?_
     rintro e w7 ⟨⟨u7, rfl⟩, va7, vm7, c7, o7, ov7, h8, hc7, hov7, hq7⟩
     have H7 := hide h8
     have HC7 := hide hc7
     have HQ7 := hide ((za HQ6).trans hq7)
     clear h8 hc7 hov7 hq7
     go_wp2_with fail
     refine (put_c W0 _ _ _ _ _ _ _ _ _ _ (za H7) (za HC7).sz (by decide)).mono ?_
     rintro e w9 ⟨⟨u9, rfl⟩, o9, ov9, h9, hp9, hq9⟩
     have HE : Hid (WGo W0 w w9 (.slice (some ⟨bn, on, none⟩) ns.length cn) us ms ov) := hide ⟨_, _, _, _, _, h9, hp9.cnt (za HC7), fun e => hp9.ov (absurd ((za HOV) e) (by decide)), (za HQ7).trans hq9⟩
     clear h9 hp9 hq9
     go_wp2_with fail
     first | go_end0 | refine bodyPost_ret (results_none rfl _ _ _) rfl ?_
     exact ⟨⟨_, rfl⟩, za HE⟩
   case true =>
    cases bf
    case false =>
     refine wp_region_any (by kernel_rfl) ?_
     change wpAny _ _ _ _ _ _ _ (World.drew _)
     refine jG (fun l' a' w' => ∃ x : Nat → Value, a' = ⟨#[.pointer (some ⟨W0.heap.size, 0, none⟩), .int .i64 (q : Int), undef, undef, .int .i64 (r : Int), .string nm, .bool false, .pointer (some ⟨W0.heap.size, 0, none⟩), .pointer (some ⟨W0.heap.size, 0, none⟩), .pointer (some ⟨W0.heap.size, 0, none⟩), .pointer (some ⟨W0.heap.size, 0, none⟩), .slice (some ⟨bn, on, none⟩) ns.length cn, .int .i64 (q : Int), .pointer (some ⟨bn, on + q * 3, none⟩), .pointer (some ⟨bn, on + q * 3 + 2, none⟩), .slice (some ⟨kb, ko, none⟩) 2 kc, .pointer (some ⟨kb, ko, none⟩), .int .i64 k0, u2, .pointer (some ⟨W0.heap.size, 0, none⟩), .pointer (some ⟨W0.heap.size, 0, none⟩), .pointer (some ⟨W0.heap.size, 0, none⟩), .slice (some ⟨bn, on, none⟩) ns.length cn, .int .i64 (q : Int), .pointer (some ⟨bn, on + q * 3, none⟩), .pointer (some ⟨bn, on + q * 3 + 2, none⟩), .slice (some ⟨kb, ko, none⟩) 2 kc, .pointer (some ⟨kb, ko + 1, none⟩), .int .i64 (r : Int), .tuple #[.string nm, .bool false], .pointer (some ⟨W0.heap.size, 0, none⟩), .int .i64 (r : Int), .tuple #[.string nm, .bool false], .string nm, .bool false, undef, undef, undef, undef, undef, undef, undef, .bool false, .pointer (some ⟨W0.heap.size, 0, none⟩), .pointer (some ⟨W0.heap.size, 0, none⟩), .pointer (some ⟨W0.heap.size, 6, none⟩), .bool false, .bool false, .pointer (some ⟨W0.heap.size, 0, none⟩), .pointer (some ⟨W0.heap.size, 0, none⟩), .pointer (some ⟨W0.heap.size, 0, none⟩), .slice (some ⟨bn, on, none⟩) ns.length cn, .int .i64 (r : Int), .pointer (some ⟨bn, on + r * 3, none⟩), .pointer (some ⟨bn, on + r * 3, none⟩), .int .i64 s1, .bool false, undef, undef, x 25, x 0, x 1, x 2, x 3, x 4, x 5, x 6, x 7, x 8, x 9, x 10, x 11, x 12, x 13, x 14, x 15, x 16, x 17, x 18, x 19, x 20, x 21, x 22, x 23, x 24, undef, undef, undef, undef, undef, undef, undef, undef, undef, undef], []⟩ ∧ RdL w3 [.pointer (some ⟨W0.heap.size, 0, none⟩), .pointer (some ⟨W0.heap.size, 0, none⟩), .pointer (some ⟨W0.heap.size, 0, none⟩), .slice (some ⟨bn, on, none⟩) ns.length cn, .int .i64 (r : Int), .pointer (some ⟨bn, on + r * 3, none⟩), .pointer (some ⟨bn, on + r * 3, none⟩), .int .i64 s1, .bool true, .bool true, .bool false, .bool false, .bool false, undef, undef, undef, undef, undef, undef, undef, undef, undef, undef, undef, .bool false, .bool false] l' x w') (fun _ _ _ ⟨_, _, h⟩ => h.sz) ?hend ?hstep (fun _ _ _ ⟨_, _, h⟩ => v6 (by kernel_rfl) h.sz) _ _ _ _ ⟨fun j => [undef, undef, undef, undef, undef, undef, undef, undef, undef, undef, undef, undef, undef, undef, undef, undef, undef, undef, undef, undef, undef, undef, undef, undef, undef, undef].getD j undef, rfl, RdL.start rfl (Below.refl _ _).drew⟩ (Nat.le_of_eq rfl)
     case hstep =>
      rintro l' a' w' j ⟨x, rfl, h⟩ hi
      have hj : j < 26 := vu hi
      rcases (by omega : j = 0 ∨ j = 1 ∨ j = 2 ∨ j = 3 ∨ j = 4 ∨ j = 5 ∨ j = 6 ∨ j = 7 ∨ j = 8 ∨ j = 9 ∨ j = 10 ∨ j = 11 ∨ j = 12 ∨ j = 13 ∨ j = 14 ∨ j = 15 ∨ j = 16 ∨ j = 17 ∨ j = 18 ∨ j = 19 ∨ j = 20 ∨ j = 21 ∨ j = 22 ∨ j = 23 ∨ j = 24 ∨ j = 25) with rfl | rfl | rfl | rfl | rfl | rfl | rfl | rfl | rfl | rfl | rfl | rfl | rfl | rfl | rfl | rfl | rfl | rfl | rfl | rfl | rfl | rfl | rfl | rfl | rfl | rfl
      ·refine wpOp_step rfl (fun K hK => ?_)
       go_simp
       exact hK _ _ ⟨_, by simp [], h.nx 0 rfl⟩
      ·have w0 := h.dv hi 0 rfl rfl
       simp only [w0]
       refine wpOp_step rfl (fun K hK => ?_)
       go_simp
       exact hK _ _ ⟨_, by simp [w0], h.nx 1 rfl⟩
      ·have w1 := h.dv hi 1 rfl rfl
       simp only [w1]
       refine wpOp_step rfl (fun K hK => ?_)
       go_simp
       exact hK _ _ ⟨_, by simp [w1], h.nx 2 rfl⟩
      ·have w2 := h.dv hi 2 rfl rfl
       have m0 := (h.bl.cell (p := ⟨W0.heap.size, 0, none⟩) hlt3).trans n0
       have m2 := (h.bl.cell (p := ⟨W0.heap.size, 2, none⟩) hlt3).trans n2
       have m4 := (h.bl.cell (p := ⟨bn, on + r * 3, none⟩) hbn3).trans d4
       simp only [w2]
       refine wpOp_step rfl (fun K hK => ?_)
       go_simp
       exact hK _ _ ⟨_, by simp [w2], h.nx 3 rfl⟩
      ·refine wpOp_step rfl (fun K hK => ?_)
       go_simp
       exact hK _ _ ⟨_, by simp [], h.nx 4 rfl⟩
      ·have w3 := h.dv hi 3 rfl rfl
       have w4 := h.dv hi 4 rfl rfl
       simp only [w3, w4]
       refine wpOp_step rfl (fun K hK => ?_)
       go_simp
       exact hK _ _ ⟨_, by simp [w3, w4], h.nx 5 rfl⟩
      ·have w5 := h.dv hi 5 rfl rfl
       simp only [w5]
       refine wpOp_step rfl (fun K hK => ?_)
       go_simp
       exact hK _ _ ⟨_, by simp [w5], h.nx 6 rfl⟩
      ·have w6 := h.dv hi 6 rfl rfl
       have m0 := (h.bl.cell (p := ⟨W0.heap.size, 0, none⟩) hlt3).trans n0
       have m2 := (h.bl.cell (p := ⟨W0.heap.size, 2, none⟩) hlt3).trans n2
       have m4 := (h.bl.cell (p := ⟨bn, on + r * 3, none⟩) hbn3).trans d4
       simp only [w6]
       refine wpOp_step rfl (fun K hK => ?_)
       go_simp
       exact hK _ _ ⟨_, by simp [w6], h.nx 7 rfl⟩
      ·have w7 := h.dv hi 7 rfl rfl
       simp only [w7]
       refine wpOp_step rfl (fun K hK => ?_)
       go_simp
       exact hK _ _ ⟨_, by simp [w7], h.nx 8 rfl⟩
      ·have w8 := h.dv hi 8 rfl rfl
       simp only [w8]
       refine wpOp_step rfl (fun K hK => ?_)
       go_simp
       exact hK _ _ ⟨_, by simp [w8], h.nx 9 rfl⟩
      ·have w9 := h.dv hi 9 rfl rfl
       simp only [w9]
       refine wpOp_step rfl (fun K hK => ?_)
       go_simp
       exact hK _ _ ⟨_, by simp [w9], h.nx 10 rfl⟩
      ·have w9 := h.dv hi 9 rfl rfl
       have w10 := h.dv hi 10 rfl rfl
       simp only [w9, w10]
       refine wpOp_step rfl (fun K hK => ?_)
       go_simp
       exact hK _ _ ⟨_, by simp [w9, w10], h.nx 11 rfl⟩
      ·have w11 := h.dv hi 11 rfl rfl
       simp only [w11]
       refine wpOp_step rfl (fun K hK => ?_)
       go_simp
       exact hK _ _ ⟨_, by simp [w11], h.nx 12 rfl⟩
      ·have w12 := h.dv hi 12 rfl rfl
       simp only [w12]
       refine wpOp_step rfl (fun K hK => ?_)
       go_simp
       exact hK _ _ ⟨_, by simp [w12], h.nx 13 rfl⟩
      ·have w12 := h.dv hi 12 rfl rfl
       have w13 := h.dv hi 13 rfl rfl
       simp only [w12, w13]
       refine wpOp_step rfl (fun K hK => ?_)
       go_simp
       exact hK _ _ ⟨_, by simp [w12, w13], h.nx 14 rfl⟩
      ·have w12 := h.dv hi 12 rfl rfl
       have w14 := h.dv hi 14 rfl rfl
       simp only [w12, w14]
       refine wpOp_step rfl (fun K hK => ?_)
       go_simp
       exact hK _ _ ⟨_, by simp [w12, w14], h.nx 15 rfl⟩
      ·have w12 := h.dv hi 12 rfl rfl
       have w15 := h.dv hi 15 rfl rfl
       simp only [w12, w15]
       refine wpOp_step rfl (fun K hK => ?_)
       go_simp
       exact hK _ _ ⟨_, by simp [w12, w15], h.nx 16 rfl⟩
      ·have w12 := h.dv hi 12 rfl rfl
       simp only [w12]
       refine wpOp_step rfl (fun K hK => ?_)
       go_simp
       exact hK _ _ ⟨_, by simp [w12], h.nx 17 rfl⟩
      ·have w12 := h.dv hi 12 rfl rfl
       simp only [w12]
       refine wpOp_step rfl (fun K hK => ?_)
       go_simp
       exact hK _ _ ⟨_, by simp [w12], h.nx 18 rfl⟩
      ·have w12 := h.dv hi 12 rfl rfl
       have w18 := h.dv hi 18 rfl rfl
       simp only [w12, w18]
       refine wpOp_step rfl (fun K hK => ?_)
       go_simp
       exact hK _ _ ⟨_, by simp [w12, w18], h.nx 19 rfl⟩
      ·have w12 := h.dv hi 12 rfl rfl
       have w19 := h.dv hi 19 rfl rfl
       simp only [w12, w19]
       refine wpOp_step rfl (fun K hK => ?_)
       go_simp
       exact hK _ _ ⟨_, by simp [w12, w19], h.nx 20 rfl⟩
      ·have w12 := h.dv hi 12 rfl rfl
       have w20 := h.dv hi 20 rfl rfl
       simp only [w12, w20]
       refine wpOp_step rfl (fun K hK => ?_)
       go_simp
       exact hK _ _ ⟨_, by simp [w12, w20], h.nx 21 rfl⟩
      ·have w12 := h.dv hi 12 rfl rfl
       have w16 := h.dv hi 16 rfl rfl
       have w17 := h.dv hi 17 rfl rfl
       have w21 := h.dv hi 21 rfl rfl
       simp only [w12, w16, w17, w21]
       refine wpOp_step rfl (fun K hK => ?_)
       go_simp
       exact hK _ _ ⟨_, by simp [w12, w16, w17, w21], h.nx 22 rfl⟩
      ·have w12 := h.dv hi 12 rfl rfl
       have w22 := h.dv hi 22 rfl rfl
       simp only [w12, w22]
       refine wpOp_step rfl (fun K hK => ?_)
       go_simp
       exact hK _ _ ⟨_, by simp [w12, w22], h.nx 23 rfl⟩
      ·have w12 := h.dv hi 12 rfl rfl
       have w23 := h.dv hi 23 rfl rfl
       simp only [w12, w23]
       refine wpOp_step rfl (fun K hK => ?_)
       go_simp
       exact hK _ _ ⟨_, by simp [w12, w23], h.nx 24 rfl⟩
      ·have w24 := h.dv hi 24 rfl rfl
       simp only [w24]
       refine wpOp_step rfl (fun K hK => ?_)
       go_simp
       exact hK _ _ ⟨_, by simp [w24], h.nx 25 rfl⟩
     case hend =>
      rintro l' a' w5 ⟨x, rfl, h⟩ ha
      simp only [h.fv ha 0 rfl (by decide), h.fv ha 1 rfl (by decide), h.fv ha 2 rfl (by decide), h.fv ha 3 rfl (by decide), h.fv ha 4 rfl (by decide), h.fv ha 5 rfl (by decide), h.fv ha 6 rfl (by decide), h.fv ha 7 rfl (by decide), h.fv ha 8 rfl (by decide), h.fv ha 9 rfl (by decide), h.fv ha 10 rfl (by decide), h.fv ha 11 rfl (by decide), h.fv ha 12 rfl (by decide), h.fv ha 13 rfl (by decide), h.fv ha 14 rfl (by decide), h.fv ha 15 rfl (by decide), h.fv ha 16 rfl (by decide), h.fv ha 17 rfl (by decide), h.fv ha 18 rfl (by decide), h.fv ha 19 rfl (by decide), h.fv ha 20 rfl (by decide), h.fv ha 21 rfl (by decide), h.fv ha 22 rfl (by decide), h.fv ha 23 rfl (by decide), h.fv ha 24 rfl (by decide), h.fv ha 25 rfl (by decide)]
      have HBE := hide h.bl
      clear h ha
      have H5 := hide ((za H2).below (za HBE))
      have HQ5 := hide ((za HQ).trans (Oth.below (za HBE)))
      clear n0 n2 d4 h7
      go_wp2_with fail
      refine (put_c W0 _ _ _ _ us ms c2 o2 _ false (za H5) (za HCC).sz (by decide)).mono ?_
      rintro e w6 ⟨⟨u6, rfl⟩, o6, ov6, h6, hp6, hq6⟩
      have H6 := hide h6
      have HC6 := hide (hp6.cnt (za HCC))
      have HQ6 := hide ((za HQ5).trans hq6)
      clear h6 hp6 hq6
      go_wp2_with fail
      refine ((za HN) w6 _ _ us ms c2 (r : Int) o6 ov6 (za H6) (za HW) r1.1 r1.2 (za HC6)).mono ?_
      rintro e w7 ⟨⟨u7, rfl⟩, va7, vm7, c7, o7, ov7, h8, hc7, hov7, hq7⟩
      have H7 := hide h8
      have HC7 := hide hc7
      have HQ7 := hide ((za HQ6).trans hq7)
      clear h8 hc7 hov7 hq7
      go_wp2_with fail
      refine (put_c W0 _ _ _ _ _ _ _ _ _ _ (za H7) (za HC7).sz (by decide)).mono ?_
      rintro e w9 ⟨⟨u9, rfl⟩, o9, ov9, h9, hp9, hq9⟩
      have HE : Hid (WGo W0 w w9 (.slice (some ⟨bn, on, none⟩) ns.length cn) us ms ov) := hide ⟨_, _, _, _, _, h9, hp9.cnt (za HC7), fun e => hp9.ov (absurd ((za HOV) e) (by decide)), (za HQ7).trans hq9⟩
      clear h9 hp9 hq9
      go_wp2_with fail
      first | go_end0 | refine bodyPost_ret (results_none rfl _ _ _) rfl ?_
      exact ⟨⟨_, rfl⟩, za HE⟩
    case true =>
     have h77 : s1 = 7 := by simpa using h7
     have HX8 := hide ((za HX7) h77)
     clear h77
     refine wp_region_any (by kernel_rfl) ?_
     change wpAny _ _ _ _ _ _ _ (World.drew _)
     refine jG (fun l' a' w' => ∃ x : Nat → Value, a' = ⟨#[.pointer (some ⟨W0.heap.size, 0, none⟩), .int .i64 (q : Int), undef, undef, .int .i64 (r : Int), .string nm, .bool true, .pointer (some ⟨W0.heap.size, 0, none⟩), .pointer (some ⟨W0.heap.size, 0, none⟩), .pointer (some ⟨W0.heap.size, 0, none⟩), .pointer (some ⟨W0.heap.size, 0, none⟩), .slice (some ⟨bn, on, none⟩) ns.length cn, .int .i64 (q : Int), .pointer (some ⟨bn, on + q * 3, none⟩), .pointer (some ⟨bn, on + q * 3 + 2, none⟩), .slice (some ⟨kb, ko, none⟩) 2 kc, .pointer (some ⟨kb, ko, none⟩), .int .i64 k0, u2, .pointer (some ⟨W0.heap.size, 0, none⟩), .pointer (some ⟨W0.heap.size, 0, none⟩), .pointer (some ⟨W0.heap.size, 0, none⟩), .slice (some ⟨bn, on, none⟩) ns.length cn, .int .i64 (q : Int), .pointer (some ⟨bn, on + q * 3, none⟩), .pointer (some ⟨bn, on + q * 3 + 2, none⟩), .slice (some ⟨kb, ko, none⟩) 2 kc, .pointer (some ⟨kb, ko + 1, none⟩), .int .i64 (r : Int), .tuple #[.string nm, .bool true], .pointer (some ⟨W0.heap.size, 0, none⟩), .int .i64 (r : Int), .tuple #[.string nm, .bool true], .string nm, .bool true, undef, undef, undef, undef, undef, undef, undef, .bool false, .pointer (some ⟨W0.heap.size, 0, none⟩), .pointer (some ⟨W0.heap.size, 0, none⟩), .pointer (some ⟨W0.heap.size, 6, none⟩), .bool false, .bool false, .pointer (some ⟨W0.heap.size, 0, none⟩), .pointer (some ⟨W0.heap.size, 0, none⟩), .pointer (some ⟨W0.heap.size, 0, none⟩), .slice (some ⟨bn, on, none⟩) ns.length cn, .int .i64 (r : Int), .pointer (some ⟨bn, on + r * 3, none⟩), .pointer (some ⟨bn, on + r * 3, none⟩), .int .i64 s1, .bool false, undef, undef, x 25, x 0, x 1, x 2, x 3, x 4, x 5, x 6, x 7, x 8, x 9, x 10, x 11, x 12, x 13, x 14, x 15, x 16, x 17, x 18, x 19, x 20, x 21, x 22, x 23, x 24, undef, undef, undef, undef, undef, undef, undef, undef, undef, undef], []⟩ ∧ RdL w3 [.pointer (some ⟨W0.heap.size, 0, none⟩), .pointer (some ⟨W0.heap.size, 0, none⟩), .pointer (some ⟨W0.heap.size, 0, none⟩), .slice (some ⟨bn, on, none⟩) ns.length cn, .int .i64 (r : Int), .pointer (some ⟨bn, on + r * 3, none⟩), .pointer (some ⟨bn, on + r * 3, none⟩), .int .i64 s1, .bool true, .bool true, .bool true, .bool true, .bool true, .pointer (some ⟨W0.heap.size, 0, none⟩), .pointer (some ⟨W0.heap.size, 0, none⟩), .pointer (some ⟨W0.heap.size, 0, none⟩), .slice (some ⟨bn, on, none⟩) ns.length cn, .int .i64 (r : Int), .pointer (some ⟨W0.heap.size, 0, none⟩), .pointer (some ⟨W0.heap.size, 0, none⟩), .pointer (some ⟨W0.heap.size, 2, none⟩), .slice ua us.length uc, .bool ar, .bool !ar, .bool !ar, .bool !ar] l' x w') (fun _ _ _ ⟨_, _, h⟩ => h.sz) ?hend ?hstep (fun _ _ _ ⟨_, _, h⟩ => v6 (by kernel_rfl) h.sz) _ _ _ _ ⟨fun j => [undef, undef, undef, undef, undef, undef, undef, undef, undef, undef, undef, undef, undef, undef, undef, undef, undef, undef, undef, undef, undef, undef, undef, undef, undef, undef].getD j undef, rfl, RdL.start rfl (Below.refl _ _).drew⟩ (Nat.le_of_eq rfl)
     case hstep =>
      rintro l' a' w' j ⟨x, rfl, h⟩ hi
      have hj : j < 26 := vu hi
      rcases (by omega : j = 0 ∨ j = 1 ∨ j = 2 ∨ j = 3 ∨ j = 4 ∨ j = 5 ∨ j = 6 ∨ j = 7 ∨ j = 8 ∨ j = 9 ∨ j = 10 ∨ j = 11 ∨ j = 12 ∨ j = 13 ∨ j = 14 ∨ j = 15 ∨ j = 16 ∨ j = 17 ∨ j = 18 ∨ j = 19 ∨ j = 20 ∨ j = 21 ∨ j = 22 ∨ j = 23 ∨ j = 24 ∨ j = 25) with rfl | rfl | rfl | rfl | rfl | rfl | rfl | rfl | rfl | rfl | rfl | rfl | rfl | rfl | rfl | rfl | rfl | rfl | rfl | rfl | rfl | rfl | rfl | rfl | rfl | rfl
      ·refine wpOp_step rfl (fun K hK => ?_)
       go_simp
       exact hK _ _ ⟨_, by simp [], h.nx 0 rfl⟩
      ·have w0 := h.dv hi 0 rfl rfl
       simp only [w0]
       refine wpOp_step rfl (fun K hK => ?_)
       go_simp
       exact hK _ _ ⟨_, by simp [w0], h.nx 1 rfl⟩
      ·have w1 := h.dv hi 1 rfl rfl
       simp only [w1]
       refine wpOp_step rfl (fun K hK => ?_)
       go_simp
       exact hK _ _ ⟨_, by simp [w1], h.nx 2 rfl⟩
      ·have w2 := h.dv hi 2 rfl rfl
       have m0 := (h.bl.cell (p := ⟨W0.heap.size, 0, none⟩) hlt3).trans n0
       have m2 := (h.bl.cell (p := ⟨W0.heap.size, 2, none⟩) hlt3).trans n2
       have m4 := (h.bl.cell (p := ⟨bn, on + r * 3, none⟩) hbn3).trans d4
       simp only [w2]
       refine wpOp_step rfl (fun K hK => ?_)
       go_simp
       exact hK _ _ ⟨_, by simp [w2], h.nx 3 rfl⟩
      ·refine wpOp_step rfl (fun K hK => ?_)
       go_simp
       exact hK _ _ ⟨_, by simp [], h.nx 4 rfl⟩
      ·have w3 := h.dv hi 3 rfl rfl
       have w4 := h.dv hi 4 rfl rfl
       simp only [w3, w4]
       refine wpOp_step rfl (fun K hK => ?_)
       go_simp
       exact hK _ _ ⟨_, by simp [w3, w4], h.nx 5 rfl⟩
      ·have w5 := h.dv hi 5 rfl rfl
       simp only [w5]
       refine wpOp_step rfl (fun K hK => ?_)
       go_simp
       exact hK _ _ ⟨_, by simp [w5], h.nx 6 rfl⟩
      ·have w6 := h.dv hi 6 rfl rfl
       have m0 := (h.bl.cell (p := ⟨W0.heap.size, 0, none⟩) hlt3).trans n0
       have m2 := (h.bl.cell (p := ⟨W0.heap.size, 2, none⟩) hlt3).trans n2
       have m4 := (h.bl.cell (p := ⟨bn, on + r * 3, none⟩) hbn3).trans d4
       simp only [w6]
       refine wpOp_step rfl (fun K hK => ?_)
       go_simp
       exact hK _ _ ⟨_, by simp [w6], h.nx 7 rfl⟩
      ·have w7 := h.dv hi 7 rfl rfl
       simp only [w7]
       refine wpOp_step rfl (fun K hK => ?_)
       go_simp
       exact hK _ _ ⟨_, by simp [w7], h.nx 8 rfl⟩
      ·have w8 := h.dv hi 8 rfl rfl
       simp only [w8]
       refine wpOp_step rfl (fun K hK => ?_)
       go_simp
       exact hK _ _ ⟨_, by simp [w8], h.nx 9 rfl⟩
      ·have w9 := h.dv hi 9 rfl rfl
       simp only [w9]
       refine wpOp_step rfl (fun K hK => ?_)
       go_simp
       exact hK _ _ ⟨_, by simp [w9], h.nx 10 rfl⟩
      ·have w9 := h.dv hi 9 rfl rfl
       have w10 := h.dv hi 10 rfl rfl
       simp only [w9, w10]
       refine wpOp_step rfl (fun K hK => ?_)
       go_simp
       exact hK _ _ ⟨_, by simp [w9, w10], h.nx 11 rfl⟩
      ·have w11 := h.dv hi 11 rfl rfl
       simp only [w11]
       refine wpOp_step rfl (fun K hK => ?_)
       go_simp
       exact hK _ _ ⟨_, by simp [w11], h.nx 12 rfl⟩
      ·have w12 := h.dv hi 12 rfl rfl
       simp only [w12]
       refine wpOp_step rfl (fun K hK => ?_)
       go_simp
       exact hK _ _ ⟨_, by simp [w12], h.nx 13 rfl⟩
      ·have w12 := h.dv hi 12 rfl rfl
       have w13 := h.dv hi 13 rfl rfl
       simp only [w12, w13]
       refine wpOp_step rfl (fun K hK => ?_)
       go_simp
       exact hK _ _ ⟨_, by simp [w12, w13], h.nx 14 rfl⟩
      ·have w12 := h.dv hi 12 rfl rfl
       have w14 := h.dv hi 14 rfl rfl
       simp only [w12, w14]
       refine wpOp_step rfl (fun K hK => ?_)
       go_simp
       exact hK _ _ ⟨_, by simp [w12, w14], h.nx 15 rfl⟩
      ·have w12 := h.dv hi 12 rfl rfl
       have w15 := h.dv hi 15 rfl rfl
       have m0 := (h.bl.cell (p := ⟨W0.heap.size, 0, none⟩) hlt3).trans n0
       have m2 := (h.bl.cell (p := ⟨W0.heap.size, 2, none⟩) hlt3).trans n2
       have m4 := (h.bl.cell (p := ⟨bn, on + r * 3, none⟩) hbn3).trans d4
       simp only [w12, w15]
       refine wpOp_step rfl (fun K hK => ?_)
       go_simp
       exact hK _ _ ⟨_, by simp [w12, w15], h.nx 16 rfl⟩
      ·have w12 := h.dv hi 12 rfl rfl
       simp only [w12]
       refine wpOp_step rfl (fun K hK => ?_)
       go_simp
       exact hK _ _ ⟨_, by simp [w12], h.nx 17 rfl⟩
      ·have w12 := h.dv hi 12 rfl rfl
       simp only [w12]
       refine wpOp_step rfl (fun K hK => ?_)
       go_simp
       exact hK _ _ ⟨_, by simp [w12], h.nx 18 rfl⟩
      ·have w12 := h.dv hi 12 rfl rfl
       have w18 := h.dv hi 18 rfl rfl
       simp only [w12, w18]
       refine wpOp_step rfl (fun K hK => ?_)
       go_simp
       exact hK _ _ ⟨_, by simp [w12, w18], h.nx 19 rfl⟩
      ·have w12 := h.dv hi 12 rfl rfl
       have w19 := h.dv hi 19 rfl rfl
       simp only [w12, w19]
       refine wpOp_step rfl (fun K hK => ?_)
       go_simp
       exact hK _ _ ⟨_, by simp [w12, w19], h.nx 20 rfl⟩
      ·have w12 := h.dv hi 12 rfl rfl
       have w20 := h.dv hi 20 rfl rfl
       have m0 := (h.bl.cell (p := ⟨W0.heap.size, 0, none⟩) hlt3).trans n0
       have m2 := (h.bl.cell (p := ⟨W0.heap.size, 2, none⟩) hlt3).trans n2
       have m4 := (h.bl.cell (p := ⟨bn, on + r * 3, none⟩) hbn3).trans d4
       simp only [w12, w20]
       refine wpOp_step rfl (fun K hK => ?_)
       go_simp
       exact hK _ _ ⟨_, by simp [w12, w20], h.nx 21 rfl⟩
      ·have w12 := h.dv hi 12 rfl rfl
       have w16 := h.dv hi 16 rfl rfl
       have w17 := h.dv hi 17 rfl rfl
       have w21 := h.dv hi 21 rfl rfl
       simp only [w12, w16, w17, w21]
       refine wpOp_step rfl (fun K hK => ?_)
       go_simp
       refine (jK _ _ ns us (r : Int) w' ((za HN2).below h.bl) (za HK) ((za HU2).below h.bl) r1.1 r1.2 (by omega)).mono ?_
       rintro e w4 ⟨rfl, hb⟩
       rw [za HAR]
       exact hK _ _ ⟨_, by simp [w12, w16, w17, w21], h.call 22 rfl hb⟩
      ·have w12 := h.dv hi 12 rfl rfl
       have w22 := h.dv hi 22 rfl rfl
       simp only [w12, w22]
       refine wpOp_step rfl (fun K hK => ?_)
       go_simp
       exact hK _ _ ⟨_, by simp [w12, w22], h.nx 23 rfl⟩
      ·have w12 := h.dv hi 12 rfl rfl
       have w23 := h.dv hi 23 rfl rfl
       simp only [w12, w23]
       refine wpOp_step rfl (fun K hK => ?_)
       go_simp
       exact hK _ _ ⟨_, by simp [w12, w23], h.nx 24 rfl⟩
      ·have w24 := h.dv hi 24 rfl rfl
       simp only [w24]
       refine wpOp_step rfl (fun K hK => ?_)
       go_simp
       exact hK _ _ ⟨_, by simp [w24], h.nx 25 rfl⟩
     case hend =>
      rintro l' a' w5 ⟨x, rfl, h⟩ ha
      simp only [h.fv ha 0 rfl (by decide), h.fv ha 1 rfl (by decide), h.fv ha 2 rfl (by decide), h.fv ha 3 rfl (by decide), h.fv ha 4 rfl (by decide), h.fv ha 5 rfl (by decide), h.fv ha 6 rfl (by decide), h.fv ha 7 rfl (by decide), h.fv ha 8 rfl (by decide), h.fv ha 9 rfl (by decide), h.fv ha 10 rfl (by decide), h.fv ha 11 rfl (by decide), h.fv ha 12 rfl (by decide), h.fv ha 13 rfl (by decide), h.fv ha 14 rfl (by decide), h.fv ha 15 rfl (by decide), h.fv ha 16 rfl (by decide), h.fv ha 17 rfl (by decide), h.fv ha 18 rfl (by decide), h.fv ha 19 rfl (by decide), h.fv ha 20 rfl (by decide), h.fv ha 21 rfl (by decide), h.fv ha 22 rfl (by decide), h.fv ha 23 rfl (by decide), h.fv ha 24 rfl (by decide), h.fv ha 25 rfl (by decide)]
      have HBE := hide h.bl
      clear h ha
      cases ar
      case true =>
       have H5 := hide ((za H2).below (za HBE))
       have HQ5 := hide ((za HQ).trans (Oth.below (za HBE)))
       clear n0 n2 d4 h7
       go_wp2_with fail
       refine (put_c W0 _ _ _ _ us ms c2 o2 _ false (za H5) (za HCC).sz (by decide)).mono ?_
       rintro e w6 ⟨⟨u6, rfl⟩, o6, ov6, h6, hp6, hq6⟩
       have H6 := hide h6
       have HC6 := hide (hp6.cnt (za HCC))
       have HQ6 := hide ((za HQ5).trans hq6)
       clear h6 hp6 hq6
       go_wp2_with fail
       refine ((za HN) w6 _ _ us ms c2 (r : Int) o6 ov6 (za H6) (za HW) r1.1 r1.2 (za HC6)).mono ?_
       rintro e w7 ⟨⟨u7, rfl⟩, va7, vm7, c7, o7, ov7, h8, hc7, hov7, hq7⟩
       have H7 := hide h8
       have HC7 := hide hc7
       have HQ7 := hide ((za HQ6).trans hq7)
       clear h8 hc7 hov7 hq7
       go_wp2_with fail
       refine (put_c W0 _ _ _ _ _ _ _ _ _ _ (za H7) (za HC7).sz (by decide)).mono ?_
       rintro e w9 ⟨⟨u9, rfl⟩, o9, ov9, h9, hp9, hq9⟩
       have HE : Hid (WGo W0 w w9 (.slice (some ⟨bn, on, none⟩) ns.length cn) us ms ov) := hide ⟨_, _, _, _, _, h9, hp9.cnt (za HC7), fun e => hp9.ov (absurd ((za HOV) e) (by decide)), (za HQ7).trans hq9⟩
       clear h9 hp9 hq9
       go_wp2_with fail
       first | go_end0 | refine bodyPost_ret (results_none rfl _ _ _) rfl ?_
       exact ⟨⟨_, rfl⟩, za HE⟩
      case false =>
       have hni : (r : Int) ∉ us := by simpa using (za HBF)
       have HC0 : Hid (Cnt 0 c2 o2 false) := hide ⟨(za HCC).lo, by have h1 := (za HCC).le rfl; have h2 := (za HCC).sz; omega, (za HCC).sz, (za HCC).le⟩
       cases m with
       | zero => exact absurd ((za HW).all r1.1 r1.2) hni
       | succ m =>
        have HPM := hide ((za HMM) m rfl)
        have HW2 := hide ((za HW).snoc (c := c2) r1.1 r1.2 hni (za HCC).lo (by have := (za HC0).hi; omega))
        have H5 := hide ((za H2).below (za HBE))
        have HQ5 := hide ((za HQ).trans (Oth.below (za HBE)))
        clear n0 n2 d4 h7 hni HMM
        go_wp2_with fail
        refine (put_c W0 _ _ _ _ us ms c2 o2 _ false (za H5) (za HCC).sz (by decide)).mono ?_
        rintro e w6 ⟨⟨u6, rfl⟩, o6, ov6, h6, hp6, hq6⟩
        have H6 := hide h6
        have HC6 := hide (hp6.cnt (za HC0))
        have HQ6 := hide ((za HQ5).trans hq6)
        clear h6 hp6 hq6
        go_wp2_with fail
        refine (ye W0 w6 _ _ _ ns us ms c2 (r : Int) o6 ov6 (za H6) (za HNN) (za HK) r1.1 r1.2 (by omega) (za HC6) (by omega) (by omega)).mono ?_
        rintro e w7 ⟨⟨u7, rfl⟩, va7, vm7, c7, o7, ov7, h8, hc7, _, hq7⟩
        have H7 := hide h8
        have HC7 := hide hc7
        have HQ7 := hide ((za HQ6).trans hq7)
        clear h8 hc7 hq7
        go_wp2_with fail
        refine ((za HPM) w7 _ _ _ _ c7 (r : Int) o7 ov7 (za H7) (za HW2) r1.1 r1.2 (za HC7) (za HX8)).mono ?_
        rintro e w8 ⟨⟨u8, rfl⟩, va8, vm8, c8, o8, ov8, h8, hc8, _, hq8⟩
        have hab := h8.ab
        have hmr := h8.mr
        obtain ⟨pa, pc, rfl⟩ := zH hab
        obtain ⟨qa, qc, rfl⟩ := zH hmr
        rw [List.length_append, List.length_singleton, List.length_append, List.length_singleton] at h8
        have H8 := hide h8
        have HC8 := hide hc8
        have HQ8 := hide ((za HQ7).trans hq8)
        clear h8 hc8 hq8 hab hmr
        go_wp2_with fail
        refine (ym W0 _ _ pa qa pc qc us ms _ _ c8 o8 ov8 (za H8) (by omega) (by omega)).mono ?_
        rintro e w9 ⟨⟨u9, rfl⟩, va9, vm9, h9, hq9⟩
        have HE : Hid (WGo W0 w w9 (.slice (some ⟨bn, on, none⟩) ns.length cn) us ms ov) := hide ⟨_, _, _, _, _, h9, za HC8, (fun e => absurd ((za HOV) e) (by decide)), (za HQ8).trans hq9⟩
        clear h9 hq9
        go_wp2_with fail
        go_end0
        exact ⟨⟨_, rfl⟩, za HE⟩
theorem vv (s : ByteArray) : ∀ (n i : Nat) (acc : Array Value) (j : Nat), j < acc.size → (Conv.runesFrom s n i acc)[j]? = acc[j]?
 | 0, _, acc, j, _ => rfl
 | n + 1, i, acc, j, h => by
  unfold Conv.runesFrom
  split
  ·rw [vv s n _ _ j (by simp; omega), Array.getElem?_push_lt h, Array.getElem?_eq_getElem h]
  ·rfl
theorem kz (s : ByteArray) (h : 0 < s.size) : (Conv.runesFrom s s.size 0 #[])[0]? = some (.int .i32 ((Utf8.decode s 0).1 : Nat)) := by
 obtain ⟨n, hn⟩ : ∃ n, s.size = n + 1 := ⟨s.size - 1, by omega⟩
 rw [hn]
 unfold Conv.runesFrom
 rw [if_pos (by omega), vv s n _ _ 0 (by simp)]
 rfl
theorem vU (s : ByteArray) (w : World) (hs : s.size ≤ 1048576) (h0 : 0 < s.size) :
  Calls Tryd.prog 21 #[.string s] w fun e w' => e = .returned (.int .i64 (sizeM s)) ∧ Below w.heap.size w w' := by
 have hz := size_runesFrom s s.size 0 #[]
 simp only [List.size_toArray, List.length_nil, Nat.zero_add] at hz
 have hcv := run_runes_of_string (P := Tryd.prog) w 9 66 21 s Tryd.underlying9 Tryd.underlying66 Tryd.underlying21 (by omega)
 have hh := kz s h0
 obtain ⟨R, hR⟩ : ∃ R, Conv.runesFrom s s.size 0 #[] = R := ⟨_, rfl⟩
 rw [hR] at hcv hz hh
 have hR0 : 0 < R.size := by
  rcases Nat.eq_zero_or_pos R.size with h | h
  ·rw [Array.getElem?_eq_none (by omega)] at hh; cases hh
  ·exact h
 obtain ⟨C, hC⟩ : ∃ C, R ++ Array.replicate (grownCap w R.size 0 21 - R.size) (Value.int .i32 0) = C := ⟨_, rfl⟩
 have hc0 : C[0]? = some (.int .i32 ((Utf8.decode s 0).1 : Nat)) := by rw [← hC, Array.getElem?_append_left hR0]; exact hh
 rw [hC] at hcv
 obtain ⟨rn, hrn⟩ : ∃ rn, (Utf8.decode s 0).1 = rn := ⟨_, rfl⟩
 rw [hrn] at hc0
 obtain ⟨cp, hcp⟩ : ∃ cp, grownCap w R.size 0 21 = cp := ⟨_, rfl⟩
 rw [hcp] at hcv
 have HB := hide (((Below.refl w.heap.size w).alloc (Nat.le_refl _) (.cells C 21)).drew)
 have hcell : (w.alloc (.cells C 21)).cell? ⟨w.heap.size, 0, none⟩ = some (.int .i32 rn) := by rw [World.cell?_alloc_mark]; exact hc0
 have h0' : ((s.size : Int) == 0) = false := by rw [beq_eq_false_iff_ne]; omega
 have h0'' : (0 : Int) < R.size := by omega
 clear hC hcp hR hz hh hc0
 by_cases hb : rn = 65533
 ·subst hb
  by_cases h3 : s.size < 3
  ·have h3' : (s.size : Int) < 3 := by omega
   have HE : Hid (sizeM s = 0) := hide (by unfold sizeM badC; rw [hrn, if_pos (.inr ⟨rfl, .inl h3⟩)])
   clear hrn h3
   go_enter Tryd.func21, Tryd.ntmps21
   go_wp2_with (simp only [hcv])
   go_ret
   exact ⟨zQ (by rw [za HE]; rfl), za HB⟩
  ·have h3' : ¬ (s.size : Int) < 3 := by omega
   by_cases he : s.extract 0 3 = ⟨#[239, 191, 189]⟩
   ·have HE : Hid (sizeM s = (Utf8.encode (65533 : Int)).size) := hide (by
     unfold sizeM badC; rw [hrn, if_neg]; · rfl
     ·rintro (h | ⟨_, h | h⟩)
      ·omega
      ·exact h3 h
      ·exact h he)
    clear hrn h3
    go_enter Tryd.func21, Tryd.ntmps21
    go_wp2_with (simp only [hcv])
    go_ret
    exact ⟨zQ (by rw [za HE]), za HB⟩
   ·have HE : Hid (sizeM s = 0) := hide (by unfold sizeM badC; rw [hrn, if_pos (.inr ⟨rfl, .inr he⟩)])
    have hne : ((s.extract 0 3).toList == [239, 191, 189]) = false := by
     rw [beq_eq_false_iff_ne]
     intro e
     apply he
     rw [Lib.toList_data] at e
     exact ByteArray.ext (by apply Array.ext'; exact e)
    clear hrn h3 he
    go_enter Tryd.func21, Tryd.ntmps21
    go_wp2_with (simp only [hcv])
    go_ret
    exact ⟨zQ (by rw [za HE]; rfl), za HB⟩
 ·have hb' : ((rn : Int) == 65533) = false := by rw [beq_eq_false_iff_ne]; omega
  have HE : Hid (sizeM s = (Utf8.encode (rn : Int)).size) := hide (by unfold sizeM; rw [hrn, if_neg (by omega)])
  clear hb hrn
  go_enter Tryd.func21, Tryd.ntmps21
  go_wp2_with (simp only [hcv])
  go_ret
  exact ⟨zQ (by rw [za HE]), za HB⟩
theorem ve (k a b : Int) (w : World) :
  Calls Tryd.prog 30 #[.int .i64 k, .int .i64 a, .int .i64 b] w fun e w' => e = .returned (.bool (decide (a ≤ k) && decide (k ≤ b))) ∧ w' = w := by
 by_cases h0 : a ≤ k
 ·have d0 : decide (a ≤ k) = true := decide_eq_true h0
  have HR : Hid ((decide (a ≤ k) && decide (k ≤ b)) = decide (k ≤ b)) := hide (by rw [d0, Bool.true_and])
  clear d0
  go_enter Tryd.func30, Tryd.ntmps30
  go_wp2
  go_ret
  exact ⟨by rw [za HR]; rfl, rfl⟩
 ·have HR : Hid ((decide (a ≤ k) && decide (k ≤ b)) = false) := hide (by rw [decide_eq_false h0, Bool.false_and])
  go_enter Tryd.func30, Tryd.ntmps30
  go_wp2
  go_ret
  exact ⟨by rw [za HR]; rfl, rfl⟩
def ji (c : Nat) : Bool := c == 32 || c == 9 || c == 10 || c == 13
theorem kp (c : Nat) (w : World) :
  Calls Tryd.prog 86 #[.int .u8 c] w fun e w' => e = .returned (.bool (ji c)) ∧ w' = w := by
 by_cases h : c = 32 ∨ c = 9 ∨ c = 10 ∨ c = 13
 ·rcases h with rfl | rfl | rfl | rfl
  all_goals
   go_enter Tryd.func86, Tryd.ntmps86
   go_wp2
   go_ret
   exact ⟨rfl, rfl⟩
 ·have HR : Hid (ji c = false) := hide (by unfold ji; simp only [Bool.or_eq_false_iff, beq_eq_false_iff_ne]; omega)
  have h1 : ((c : Int) == 32) = false := by rw [beq_eq_false_iff_ne]; omega
  have h2 : ((c : Int) == 9) = false := by rw [beq_eq_false_iff_ne]; omega
  have h3 : ((c : Int) == 10) = false := by rw [beq_eq_false_iff_ne]; omega
  have h4 : ((c : Int) == 13) = false := by rw [beq_eq_false_iff_ne]; omega
  clear h
  go_enter Tryd.func86, Tryd.ntmps86
  go_wp2
  go_ret
  exact ⟨by rw [za HR]; rfl, rfl⟩
theorem xe (c : Nat) (w : World) :
  Calls Tryd.prog 79 #[.int .u8 c] w fun e w' => e = .returned (.bool (endN c)) ∧ w' = w := by
 have HB := hide (kp c w)
 by_cases h : ji c = true
 ·have HR : Hid (endN c = true) := hide (by unfold endN ji at *; simp only [Bool.or_eq_true, beq_iff_eq] at *; omega)
  rw [h] at HB
  clear h
  go_enter Tryd.func79, Tryd.ntmps79
  go_wp2_with fail
  refine (za HB).mono ?_
  rintro e w1 ⟨rfl, rfl⟩
  go_wp2
  go_ret
  exact ⟨by rw [za HR]; rfl, rfl⟩
 ·have h : ji c = false := by simpa using h
  have hE : endN c = (c == 40 || c == 41 || c == 34 || c == 59 || c == 39) := by
   have : endN c = (ji c || c == 40 || c == 41 || c == 34 || c == 59 || c == 39) := rfl
   rw [this, h]; rfl
  by_cases h' : c = 40 ∨ c = 41 ∨ c = 34 ∨ c = 59 ∨ c = 39
  ·rcases h' with rfl | rfl | rfl | rfl | rfl
   all_goals
    rw [h] at HB
    go_enter Tryd.func79, Tryd.ntmps79
    go_wp2_with fail
    refine (za HB).mono ?_
    rintro e w1 ⟨rfl, rfl⟩
    go_wp2
    go_ret
    exact ⟨rfl, rfl⟩
  ·have HR : Hid (endN c = false) := hide (by rw [hE]; simp only [Bool.or_eq_false_iff, beq_eq_false_iff_ne]; omega)
   rw [h] at HB
   have h1 : ((c : Int) == 40) = false := by rw [beq_eq_false_iff_ne]; omega
   have h2 : ((c : Int) == 41) = false := by rw [beq_eq_false_iff_ne]; omega
   have h3 : ((c : Int) == 34) = false := by rw [beq_eq_false_iff_ne]; omega
   have h4 : ((c : Int) == 59) = false := by rw [beq_eq_false_iff_ne]; omega
   have h5 : ((c : Int) == 39) = false := by rw [beq_eq_false_iff_ne]; omega
   clear h h' hE
   go_enter Tryd.func79, Tryd.ntmps79
   go_wp2_with fail
   refine (za HB).mono ?_
   rintro e w1 ⟨rfl, rfl⟩
   go_wp2
   go_ret
   exact ⟨by rw [za HR]; rfl, rfl⟩
theorem yI (w : World) :
  Calls Tryd.prog 21 #[.string ⟨#[]⟩] w fun e w' => e = .returned (.int .i64 0) ∧ Below w.heap.size w w' := by
 have hcv := run_runes_of_string (P := Tryd.prog) w 9 66 21 ⟨#[]⟩ Tryd.underlying9 Tryd.underlying66 Tryd.underlying21 (by first | decide | exact Nat.zero_le _)
 obtain ⟨X, hX⟩ : ∃ X, Conv.runesFrom ⟨#[]⟩ (⟨#[]⟩ : ByteArray).size 0 #[] = X := ⟨_, rfl⟩
 rw [hX] at hcv
 obtain ⟨C, hC⟩ : ∃ C, X ++ Array.replicate (grownCap w X.size 0 21 - X.size) (Value.int .i32 0) = C := ⟨_, rfl⟩
 rw [hC] at hcv
 have HB := hide (((Below.refl w.heap.size w).alloc (Nat.le_refl _) (.cells C 21)).drew)
 clear hX hC
 go_enter Tryd.func21, Tryd.ntmps21
 go_wp2_with (simp only [hcv])
 go_ret
 exact ⟨rfl, za HB⟩
theorem vB (l : List UInt8) (w : World) (hs : l.length ≤ 1048576) :
  Calls Tryd.prog 21 #[.string (B l)] w fun e w' => e = .returned (.int .i64 (sizeM (B l))) ∧ Below w.heap.size w w' := by
 by_cases h : l = []
 ·subst h
  have : sizeM (B []) = 0 := xw
  rw [this]
  exact yI w
 ·exact vU (B l) w (by rw [ze]; exact hs) (by rw [ze]; exact List.length_pos_iff.2 h)
theorem Zf (l : List UInt8) (hne : l ≠ []) : sizeM (B l) ≤ l.length := by
 have hs : 0 < (B l).size := by rw [ze]; exact List.length_pos_iff.2 hne
 by_cases h0 : sizeM (B l) = 0
 ·omega
 ·have := Zp (B l) 0 hs
  rw [← vz _ hs h0, ze] at this
  omega
def lenS : Value → Nat
 | .string s => s.size
 | _ => 0
theorem vd (l : List UInt8) (w : World) (hs : l.length ≤ 1048576) :
  Calls Tryd.prog 64 #[.string (B l)] w fun e w' => e = .returned (.bool (Lib.validD l)) ∧ Below w.heap.size w w' := by
 obtain ⟨V, hV⟩ : ∃ V, Lib.validD l = V := ⟨_, rfl⟩
 rw [hV]
 have HC := hide (fun (m : List UInt8) W h => vB m W h)
 go_enter Tryd.func64, Tryd.ntmps64
 go_wp2_with fail
 go_loopw [0] (fun s wr => ∃ m : List UInt8, s = .string (B m) ∧ m.length ≤ l.length ∧ Hid (Lib.validD m = V) ∧ Below w.heap.size w wr) (fun s _ => lenS s)
 case atStart => exact ⟨l, rfl, Nat.le_refl _, hide hV, Below.refl _ _⟩
 case round =>
  obtain ⟨m, rfl, hm, HV, hb⟩ := hrel
  have HB := hide hb
  have HL := hide (ze m)
  clear hb hV
  by_cases hne : m = []
  ·subst hne
   have HR : Hid (V = true) := hide (by rw [← za HV]; rfl)
   have hz : ¬ (0 : Int) < ((B []).size : Int) := by simp [ze]
   go_wp2_with fail
   go_ret
   exact ⟨by rw [za HR]; rfl, za HB⟩
  ·have hz : (0 : Int) < ((B m).size : Int) := by rw [ze]; have := List.length_pos_iff.2 hne; omega
   have HST := hide (kE m hne)
   have hle := Zf m hne
   obtain ⟨k, hk⟩ : ∃ k, sizeM (B m) = k := ⟨_, rfl⟩
   have HM : Hid ((B m).extract k (B m).size = B (m.drop k)) := hide (by rw [ze, zK, List.take_length])
   have hpos := List.length_pos_iff.2 hne
   have HS : Hid (∀ W, Calls Tryd.prog 21 #[.string (B m)] W fun e w' => e = .returned (.int .i64 k) ∧ Below W.heap.size W w') := hide (fun W => by rw [← hk]; exact za HC m W (by omega))
   rw [hk] at HST hle
   clear hk
   go_wp2_with fail
   refine (za HS _).mono ?_
   rintro e w1 ⟨rfl, hb1⟩
   have HB1 := hide (zi (za HB) hb1)
   clear hb1
   by_cases h0 : k = 0
   ·subst h0
    have HR : Hid (V = false) := hide (by rw [← za HV, za HST, if_pos rfl])
    go_wp2_with fail
    go_ret
    exact ⟨by rw [za HR]; rfl, za HB1⟩
   ·have h0' : ((k : Int) == 0) = false := by rw [beq_eq_false_iff_ne]; omega
    have hk2 : ¬ ((B m).size : Int) < (k : Int) := by rw [ze]; omega
    have HV2 : Hid (Lib.validD (m.drop k) = V) := hide (by rw [← za HV, za HST, if_neg h0])
    go_wp2_with fail
    go_roundw
    case rel => exact ⟨m.drop k, by rw [za HM], by simp; omega, HV2, za HB1⟩
    case measure => rw [za HM]; simp [lenS, ze]; omega
theorem xr (o : Option (Bool × Nat × Nat)) : ∃ b u d, numO o = .agg #[.bool b, .string u, .string d] := by
 cases o with
 | none => exact ⟨_, _, _, rfl⟩
 | some p => obtain ⟨a, b, c⟩ := p; exact ⟨_, _, _, rfl⟩
theorem B_ne (l m : List UInt8) (h : l ≠ m) : ((B l).toList == m) = false := by
 rw [B_tl, beq_eq_false_iff_ne]; exact h
theorem B_eqq (l : List UInt8) : ((B l).toList == l) = true := by
 rw [B_tl]; simp
theorem ZR (c : UInt8) (r : List UInt8) (h : 0 < (B (c :: r)).size) : (B (c :: r))[0]'h = c := by rw [B_get]; rfl
theorem Zk {l : List UInt8} {k : Nat} (h : k < l.length) (hb : badN (l[k]'h).toNat = true) : (l.all fun c => !badN c.toNat) = false := by
 rw [List.all_eq_false]; exact ⟨l[k]'h, List.getElem_mem h, by simp [hb]⟩
theorem xF {l : List UInt8} (h : ∀ i (hi : i < l.length), badN (l[i]'hi).toNat = false) : (l.all fun c => !badN c.toNat) = true := by
 rw [List.all_eq_true]
 intro c hc
 obtain ⟨i, hi, rfl⟩ := List.mem_iff_getElem.1 hc
 simp [h i hi]
theorem neI {a : Nat} {b : Nat} (h : a ≠ b) : ((a : Int) == (b : Int)) = false := by rw [beq_eq_false_iff_ne]; omega
theorem kT {n : Nat} (h : badN n = true) : endN n = true ∨ (endN n = false ∧ n < 33) ∨ (endN n = false ∧ ¬ n < 33 ∧ (n = 127 ∨ n = 92 ∨ n = 124)) := by
 unfold badN at h
 cases he : endN n with
 | true => exact .inl rfl
 | false =>
  rw [he] at h
  simp only [Bool.false_or, Bool.or_eq_true, decide_eq_true_eq, beq_iff_eq] at h
  by_cases h3 : n < 33
  ·exact .inr (.inl ⟨rfl, h3⟩)
  ·exact .inr (.inr ⟨rfl, h3, by omega⟩)
theorem kj {n : Nat} (h : badN n = false) : endN n = false ∧ ¬ n < 33 ∧ n ≠ 127 ∧ n ≠ 92 ∧ n ≠ 124 := by
 unfold badN at h
 simp only [Bool.or_eq_false_iff, decide_eq_false_iff_not, beq_eq_false_iff_ne] at h
 obtain ⟨⟨⟨⟨a, b⟩, c⟩, d⟩, e⟩ := h
 exact ⟨a, b, c, d, e⟩
theorem vK (t : List UInt8) (w : World) (hs : t.length ≤ 1048576) :
  Calls Tryd.prog 63 #[.string (B t)] w fun e w' => e = .returned (.bool (symM t)) ∧ Below w.heap.size w w' := by
 obtain ⟨nb, nu, nd, hN⟩ := xr (zl t 10)
 have h1 := qx t 10 w (by omega)
 unfold zd at h1
 rw [hN] at h1
 obtain ⟨K, hK⟩ : ∃ K, (zl t 10).isSome = K := ⟨_, rfl⟩
 rw [hK] at h1
 have H1 := hide h1
 have hnone : (zl t 10).isNone = !K := by rw [← hK]; cases zl t 10 <;> rfl
 have HNO := hide hnone
 have HA := hide (fun (W : World) => zh (Below.refl W.heap.size W) (.cells #[.bool nb, .string nu, .string nd] 92))
 clear h1 hN hK hnone
 by_cases hne : t = []
 ·subst hne
  have HR : Hid (symM [] = false) := hide (by unfold symM wordM; simp)
  have e0 : ((B []).toList == []) = true := B_eqq []
  go_enter Tryd.func63, Tryd.ntmps63
  go_wp2_with fail
  refine (za H1).mono ?_
  rintro e w1 ⟨rfl, hb1⟩
  have HB := hide (hb1.trans ((za HA w1).mono hb1.size))
  clear hb1
  go_wp2_with fail
  go_ret
  exact ⟨by rw [za HR]; rfl, za HB⟩
 ·obtain ⟨c, r, hcr⟩ : ∃ c r, t = c :: r := by cases t with | nil => exact absurd rfl hne | cons c r => exact ⟨c, r, rfl⟩
  have HW : Hid (wordM t = (!headN c.toNat && decide (t.length ≤ 200) && Lib.validD t && t.all fun c => !badN c.toNat)) := hide (by rw [hcr]; rfl)
  have hz : 0 < (B t).size := by rw [ze, hcr]; simp
  have hc : (B t)[0]'hz = c := by subst hcr; exact ZR c r hz
  clear hcr
  have e0 : ((B t).toList == []) = false := B_ne _ _ hne
  clear hne
  by_cases h46 : t = [46]
  ·have HR : Hid (symM t = false) := hide (by unfold symM; simp [h46])
   have e1 : ((B t).toList == [46]) = true := by rw [h46]; exact B_eqq _
   clear h46
   go_enter Tryd.func63, Tryd.ntmps63
   go_wp2_with fail
   refine (za H1).mono ?_
   rintro e w1 ⟨rfl, hb1⟩
   have HB := hide (hb1.trans ((za HA w1).mono hb1.size))
   clear hb1
   go_wp2_with fail
   go_ret
   exact ⟨by rw [za HR]; rfl, za HB⟩
  ·have e1 : ((B t).toList == [46]) = false := B_ne _ _ h46
   cases K with
   | true =>
    have HR : Hid (symM t = false) := hide (by unfold symM; rw [za HNO]; rfl)
    clear h46
    go_enter Tryd.func63, Tryd.ntmps63
    go_wp2_with fail
    refine (za H1).mono ?_
    rintro e w1 ⟨rfl, hb1⟩
    have HB := hide (hb1.trans ((za HA w1).mono hb1.size))
    clear hb1
    go_wp2_with fail
    go_ret
    exact ⟨by rw [za HR]; rfl, za HB⟩
   | false =>
    have HS : Hid (symM t = wordM t) := hide (by unfold symM; rw [za HNO]; simp [h46])
    obtain ⟨n, hn⟩ : ∃ n, c.toNat = n := ⟨_, rfl⟩
    have hn256 : n < 256 := by rw [← hn]; exact c.toNat_lt
    have hw : wrap64 (n : Int) = n := by unfold wrap64; omega
    clear hn256
    have HHEAD : Hid (headN n = true → symM t = false) := hide (fun h => by rw [za HS, za HW, hn, h]; rfl)
    clear h46
    by_cases h3 : n = 35 ∨ n = 44 ∨ n = 96
    ·have HR : Hid (symM t = false) := hide (za HHEAD (by rcases h3 with rfl | rfl | rfl <;> rfl))
     rcases h3 with rfl | rfl | rfl
     all_goals
      go_enter Tryd.func63, Tryd.ntmps63
      go_wp2_with fail
      refine (za H1).mono ?_
      rintro e w1 ⟨rfl, hb1⟩
      have HB := hide (hb1.trans ((za HA w1).mono hb1.size))
      clear hb1
      go_wp2_with fail
      go_ret
      exact ⟨by rw [za HR]; rfl, za HB⟩
    ·have n1 : ((n : Int) == 35) = false := neI (b := 35) (by omega)
     have n2 : ((n : Int) == 44) = false := neI (b := 44) (by omega)
     have n3 : ((n : Int) == 96) = false := neI (b := 96) (by omega)
     by_cases hd : (decide ((48 : Int) ≤ n) && decide ((n : Int) ≤ 57)) = true
     ·have HR : Hid (symM t = false) := hide (za HHEAD (by
       unfold headN
       simp only [Bool.and_eq_true, decide_eq_true_eq] at hd
       have : (decide (48 ≤ n) && decide (n ≤ 57)) = true := by simp only [Bool.and_eq_true, decide_eq_true_eq]; omega
       rw [this, Bool.or_true]))
      have HD := hide hd
      clear h3 hd
      go_enter Tryd.func63, Tryd.ntmps63
      go_wp2_with fail
      refine (za H1).mono ?_
      rintro e w1 ⟨rfl, hb1⟩
      have HB := hide (hb1.trans ((za HA w1).mono hb1.size))
      clear hb1
      go_wp2_with fail
      refine (ve n 48 57 _).mono ?_
      rintro e w2 ⟨rfl, rfl⟩
      rw [za HD]
      go_wp2_with fail
      go_ret
      exact ⟨by rw [za HR]; rfl, za HB⟩
     ·have hd : (decide ((48 : Int) ≤ n) && decide ((n : Int) ≤ 57)) = false := by simpa using hd
      have HH : Hid (headN n = false) := hide (by
       have : (decide (48 ≤ n) && decide (n ≤ 57)) = false := by
        simp only [Bool.and_eq_false_iff, decide_eq_false_iff_not] at hd ⊢; omega
       unfold headN
       rw [this, Bool.or_false]
       simp only [Bool.or_eq_false_iff, beq_eq_false_iff_ne]
       omega)
      have HD := hide hd
      clear h3 hd
      by_cases hl : t.length ≤ 200
      ·have hl' : ¬ (200 : Int) < ((B t).size : Int) := by rw [ze]; omega
       have HV := hide (vd t)
       cases hv : Lib.validD t with
       | false =>
        have HR : Hid (symM t = false) := hide (by rw [za HS, za HW, hv, Bool.and_false]; rfl)
        rw [hv] at HV
        clear hl hv
        go_enter Tryd.func63, Tryd.ntmps63
        go_wp2_with fail
        refine (za H1).mono ?_
        rintro e w1 ⟨rfl, hb1⟩
        have HB := hide (hb1.trans ((za HA w1).mono hb1.size))
        clear hb1
        go_wp2_with fail
        refine (ve n 48 57 _).mono ?_
        rintro e w2 ⟨rfl, rfl⟩
        rw [za HD]
        go_wp2_with fail
        refine (za HV _ hs).mono ?_
        rintro e w2 ⟨rfl, hb2⟩
        have HB2 := hide (zi (za HB) hb2)
        clear hb2
        go_wp2_with fail
        go_ret
        exact ⟨by rw [za HR]; rfl, za HB2⟩
       | true =>
        have HALL : Hid (symM t = (t.all fun c => !badN c.toNat)) := hide (by rw [za HS, za HW, hv, hn, za HH, decide_eq_true hl]; rfl)
        rw [hv] at HV
        clear hl hv
        go_enter Tryd.func63, Tryd.ntmps63
        go_wp2_with fail
        refine (za H1).mono ?_
        rintro e w1 ⟨rfl, hb1⟩
        have HB := hide (hb1.trans ((za HA w1).mono hb1.size))
        clear hb1
        go_wp2_with fail
        refine (ve n 48 57 _).mono ?_
        rintro e w2 ⟨rfl, rfl⟩
        rw [za HD]
        go_wp2_with fail
        refine (za HV _ hs).mono ?_
        rintro e w2 ⟨rfl, hb2⟩
        have HB2 := hide (zi (za HB) hb2)
        clear hb2
        go_wp2_with fail
        clear e0 e1 hc hn hw n1 n2 n3 hl' HD HH HHEAD HB
        have HSZ := hide (ze t)
        go_loopw [5] (fun i wr => ∃ k : Nat, k ≤ t.length ∧ i = .int .i64 k ∧ Hid (∀ j (hj : j < t.length), j < k → badN (t[j]'hj).toNat = false) ∧ Hid (Below w.heap.size w wr)) (fun i _ => t.length - (intOf i).toNat)
        case atStart => exact ⟨0, Nat.zero_le _, rfl, hide (fun j _ h => by omega), HB2⟩
        case round =>
         clear HB2
         obtain ⟨k, hk, rfl, HG, HB2⟩ := hrel
         by_cases hlt : k < t.length
         ·have hlt' : k < (B t).size := by rw [za HSZ]; exact hlt
          obtain ⟨d, hd⟩ : ∃ d, t[k]'hlt = d := ⟨_, rfl⟩
          have hg : (B t)[k]'hlt' = d := (B_get t k hlt').trans hd
          have HD := hide hd
          clear hd
          obtain ⟨n, hn⟩ : ∃ n, d.toNat = n := ⟨_, rfl⟩
          have HE := hide (xe n wr)
          rcases Bool.eq_false_or_eq_true (badN n) with hb | hb
          ·
           have hbk : badN (t[k]'hlt).toNat = true := by rw [za HD, hn]; exact hb
           have HR : Hid (symM t = false) := hide ((za HALL).trans (Zk hlt hbk))
           clear hbk
           rcases kT hb with he | ⟨he, h3⟩ | ⟨he, h3, h4⟩
           ·rw [he] at HE
            clear hb he
            go_wp2_with fail
            refine (za HE).mono ?_
            rintro e w3 ⟨rfl, rfl⟩
            go_wp2_with fail
            go_ret
            exact ⟨by rw [za HR]; rfl, za HB2⟩
           ·rw [he] at HE
            have h3' : (n : Int) < 33 := by omega
            clear hb he h3
            go_wp2_with fail
            refine (za HE).mono ?_
            rintro e w3 ⟨rfl, rfl⟩
            go_wp2_with fail
            go_ret
            exact ⟨by rw [za HR]; rfl, za HB2⟩
           ·rw [he] at HE
            clear hb he
            rcases h4 with h4 | h4 | h4
            all_goals
             rw [h4] at HE hn
             clear h4 h3
             go_wp2_with fail
             refine (za HE).mono ?_
             rintro e w3 ⟨rfl, rfl⟩
             go_wp2_with fail
             go_ret
             exact ⟨by rw [za HR]; rfl, za HB2⟩
          ·
           obtain ⟨he, h3, h127, h92, h124⟩ := kj hb
           have HG2 : Hid (∀ j (hj : j < t.length), j < k + 1 → badN (t[j]'hj).toNat = false) := hide (fun j hj h => by
            by_cases hjk : j = k
            ·subst hjk; rw [za HD, hn]; exact hb
            ·exact za HG j hj (by omega))
           rw [he] at HE
           have h3' : ¬ (n : Int) < 33 := by omega
           have n1 : ((n : Int) == 127) = false := neI (b := 127) h127
           have n2 : ((n : Int) == 92) = false := neI (b := 92) h92
           have n3 : ((n : Int) == 124) = false := neI (b := 124) h124
           clear hb he h3 h127 h92 h124
           go_wp2_with fail
           refine (za HE).mono ?_
           rintro e w3 ⟨rfl, rfl⟩
           go_wp2_with fail
           go_roundw
           case rel => exact ⟨k + 1, by omega, by go_num, HG2, HB2⟩
           case measure => simp [intOf]; omega
         ·have hnl : ¬ (k : Int) < ((B t).size : Int) := by rw [za HSZ]; omega
          obtain rfl : k = t.length := by omega
          have HR : Hid (symM t = true) := hide (by rw [za HALL]; exact xF (fun i hi => za HG i hi hi))
          go_wp2_with fail
          go_ret
          exact ⟨by rw [za HR]; rfl, za HB2⟩
      ·have hl' : (200 : Int) < ((B t).size : Int) := by rw [ze]; omega
       have HR : Hid (symM t = false) := hide (by rw [za HS, za HW, decide_eq_false hl, Bool.and_false]; rfl)
       clear hl
       go_enter Tryd.func63, Tryd.ntmps63
       go_wp2_with fail
       refine (za H1).mono ?_
       rintro e w1 ⟨rfl, hb1⟩
       have HB := hide (hb1.trans ((za HA w1).mono hb1.size))
       clear hb1
       go_wp2_with fail
       refine (ve n 48 57 _).mono ?_
       rintro e w2 ⟨rfl, rfl⟩
       rw [za HD]
       go_wp2_with fail
       go_ret
       exact ⟨by rw [za HR]; rfl, za HB⟩
theorem Z8 {neg : Bool} {u d : List UInt8} (h1 : u.length ≤ 60) (h2 : d.length ≤ 60) (h3 : isDec u = true) (h4 : isDec d = true) (h5 : zn d ≠ 0) (h6 : neg = true → zn u ≠ 0) (h7 : Nat.gcd (zn u) (zn d) = 1) : okM neg u d = true := by
 unfold okM
 simp only [Bool.and_eq_true, decide_eq_true_eq, Bool.not_eq_true', Bool.and_eq_false_iff, decide_eq_false_iff_not]
 refine ⟨⟨⟨⟨⟨⟨h1, h2⟩, h3⟩, h4⟩, h5⟩, ?_⟩, h7⟩
 cases neg with
 | false => exact .inl rfl
 | true => exact .inr (h6 rfl)
theorem jD {neg n : Bool} {u d x y : Nat} (h : zo neg u d = some (n, x, y)) : okM n (txl 10 x) (txl 10 y) = true := by
 unfold zo at h
 split at h
 ·cases h
 ·rename_i hh
  simp only [Option.some.injEq, Prod.mk.injEq] at h
  obtain ⟨rfl, rfl, rfl⟩ := h
  have hd : d ≠ 0 := fun hd => hh (.inl hd)
  have h1 : ¬ 60 < (dec (u / Nat.gcd u d)).size := fun k => hh (.inr (.inl k))
  have h2 : ¬ 60 < (dec (d / Nat.gcd u d)).size := fun k => hh (.inr (.inr k))
  rw [zm] at h1 h2
  have hgp : 0 < Nat.gcd u d := Nat.gcd_pos_of_pos_right _ (by omega)
  have hdd : d / Nat.gcd u d ≠ 0 := by
   have := Nat.div_pos (Nat.le_of_dvd (by omega) (Nat.gcd_dvd_right u d)) hgp
   omega
  have hco : Nat.gcd (u / Nat.gcd u d) (d / Nat.gcd u d) = 1 := Nat.coprime_div_gcd_div_gcd hgp
  refine Z8 (by omega) (by omega) (jB _) (jB _) (by rw [zP]; exact hdd) ?_ (by rw [zP, zP]; exact hco)
  intro hh
  rw [zP]
  intro h0
  rw [h0] at hh
  simp at hh
theorem yC {neg : Bool} {b : Nat} {l : List UInt8} {p : Bool × Nat × Nat} (h : bodyM neg b l = some p) : ∃ u d, zo neg u d = some p := by
 unfold bodyM overM qm qv at h
 split at h
 ·split at h
  ·exact ⟨_, _, h⟩
  ·cases h
 ·split at h
  ·split at h
   ·split at h
    ·exact ⟨_, _, h⟩
    ·cases h
   ·split at h
    ·exact ⟨_, _, h⟩
    ·cases h
  ·split at h
   ·exact ⟨_, _, h⟩
   ·cases h
theorem x8 {l : List UInt8} {r : Int} {n : Bool} {x y : Nat} (h : zl l r = some (n, x, y)) : okM n (txl 10 x) (txl 10 y) = true := by
 have key : ∀ neg b l, bodyM neg b l = some (n, x, y) → okM n (txl 10 x) (txl 10 y) = true := by
  intro neg b l h
  obtain ⟨u, d, h⟩ := yC h
  exact jD h
 unfold zl at h
 split at h
 ·unfold signB at h
  split at h
  ·exact key _ _ _ h
  ·split at h
   ·exact key _ _ _ h
   ·split at h
    ·exact key _ _ _ h
    ·exact key _ _ _ h
 ·cases h
theorem yJ (s : Int) (t : List UInt8) (kv : Value) (w : World) (hs : t.length ≤ 1048576) :
  Calls Tryd.prog 46 #[.agg #[.int .i64 s, .string (B t), kv]] w fun e w' => e = .returned (.bool (textM s t)) ∧ Below w.heap.size w w' := by
 have HB := hide (zh (Below.refl w.heap.size w) (.cells #[.int .i64 s, .string (B t), kv] 76))
 have HC := hide (AtC3.new w (.int .i64 s) (.string (B t)) kv 76)
 obtain ⟨R, hR⟩ : ∃ R, textM s t = R := ⟨_, rfl⟩
 rw [hR]
 have HR := hide hR
 clear hR
 by_cases h1 : s = 1
 ·subst h1
  have HQ : Hid (jq t = R) := hide (by rw [← za HR]; rfl)
  cases hp : zl t 10 with
  | none =>
   have HQ2 : Hid (R = false) := hide (by rw [← za HQ]; unfold jq; rw [hp])
   go_enter Tryd.func46, Tryd.ntmps46
   go_wp2_with fail
   have h := qx t 10 (w.alloc (.cells #[.int .i64 1, .string (B t), kv] 76)) (by omega)
   rw [hp, show zd none = .tuple #[.agg #[.bool false, .string ⟨#[]⟩, .string ⟨#[]⟩], .bool false] from rfl] at h
   refine h.mono ?_
   clear h hp
   rintro e w1 ⟨rfl, hb1⟩
   have HB1 := hide (zh (zi (za HB) hb1) (.cells #[.bool false, .string ⟨#[]⟩, .string ⟨#[]⟩] 92))
   have HD := hide (zV (w1.alloc (.cells #[.bool false, .string ⟨#[]⟩, .string ⟨#[]⟩] 92)))
   clear hb1
   go_wp2_with fail
   go_region
   all_goals
    go_wp2_with fail
    go_ret
    exact ⟨by rw [za HQ2]; rfl, by first | exact zi (za HB1) (za HD _) | exact zi (za HB1) (za HD 1) | exact za HB1⟩
  | some p =>
   obtain ⟨n, u, d⟩ := p
   have hok := x8 hp
   obtain ⟨_, _, hl1, hl2, _⟩ := qZ hok
   have HQ2 : Hid (((B (zS n (txl 10 u) (txl 10 d) 10)).toList == (B t).toList) = R) := hide (by
    rw [← za HQ]; unfold jq; rw [hp, B_tl, B_tl]
    show _ = decide (yp (n, u, d) = t)
    show (yp (n, u, d) == t) = _
    by_cases e : yp (n, u, d) = t
    ·rw [e]; simp
    ·rw [decide_eq_false e, beq_eq_false_iff_ne.2 e])
   go_enter Tryd.func46, Tryd.ntmps46
   go_wp2_with fail
   have h := qx t 10 (w.alloc (.cells #[.int .i64 1, .string (B t), kv] 76)) (by omega)
   rw [hp, show zd (some (n, u, d)) = .tuple #[.agg #[.bool n, .string (B (txl 10 u)), .string (B (txl 10 d))], .bool true] from rfl] at h
   refine h.mono ?_
   clear h hp hok
   rintro e w1 ⟨rfl, hb1⟩
   have HC1 := hide ((za HC).below hb1)
   have HB1 := hide (zi (za HB) hb1)
   clear hb1 HB HC
   go_wp2_with fail
   obtain ⟨W, hW⟩ : ∃ W, w1.alloc (.cells #[.bool n, .string (B (txl 10 u)), .string (B (txl 10 d))] 92) = W := ⟨_, rfl⟩
   have HN := hide (AtC3.new w1 (.bool n) (.string (B (txl 10 u))) (.string (B (txl 10 d))) 92)
   have HC2 := hide ((za HC1).below (zh (Below.refl w1.heap.size w1) (.cells #[.bool n, .string (B (txl 10 u)), .string (B (txl 10 d))] 92)))
   have HB2 := hide (zh (za HB1) (.cells #[.bool n, .string (B (txl 10 u)), .string (B (txl 10 d))] 92))
   rw [hW] at HN HC2 HB2 ⊢
   clear hW
   have a0 := (za HN).n0
   have a1 := (za HN).n1
   have a2 := (za HN).n2
   have c1 := (za HC2).n1
   go_region_with ((go_at_call 43; refine (q9 n (txl 10 u) (txl 10 d) 10 _ (by omega) (by omega)).mono ?_; rintro e w2 ⟨rfl, hb2⟩; have HB3 : Hid (Below W.heap.size W w2) := (Below.refl _ _).drew.trans hb2; have d1 := ((za HC2).below (za HB3)).n1; clear hb2))
   all_goals
    go_wp2_with fail
    go_ret
    exact ⟨by rw [← za HQ2]; rfl, zi (za HB2) (za HB3)⟩
 ·have e1 : (s == 1) = false := beq_eq_false_iff_ne.2 h1
  by_cases h2 : s = 2
  ·subst h2
   have HQ : Hid (symM t = R) := hide (by rw [← za HR]; rfl)
   go_enter Tryd.func46, Tryd.ntmps46
   go_wp2_with fail
   have h := vK t (w.alloc (.cells #[.int .i64 2, .string (B t), kv] 76)) hs
   refine h.mono ?_
   clear h
   rintro e w1 ⟨rfl, hb1⟩
   have HB1 := hide (zi (za HB) hb1)
   rw [za HQ]
   clear hb1
   go_wp2_with fail
   go_ret
   exact ⟨rfl, za HB1⟩
  ·have e2 : (s == 2) = false := beq_eq_false_iff_ne.2 h2
   by_cases h3 : s = 3
   ·subst h3
    have HQ : Hid ((decide (t.length ≤ 200) && Lib.validD t) = R) := hide (by rw [← za HR]; rfl)
    by_cases hl : t.length ≤ 200
    ·have hl' : ((B t).size : Int) ≤ 200 := by rw [ze]; omega
     go_enter Tryd.func46, Tryd.ntmps46
     go_wp2_with fail
     have h := vd t (w.alloc (.cells #[.int .i64 3, .string (B t), kv] 76)) hs
     refine h.mono ?_
     clear h
     rintro e w1 ⟨rfl, hb1⟩
     have HB1 := hide (zi (za HB) hb1)
     have HQ2 : Hid (Lib.validD t = R) := hide (by rw [← za HQ, decide_eq_true hl, Bool.true_and])
     rw [za HQ2]
     clear hb1
     go_wp2_with fail
     go_ret
     exact ⟨rfl, za HB1⟩
    ·have hl' : ¬ ((B t).size : Int) ≤ 200 := by rw [ze]; omega
     have HQ2 : Hid (R = false) := hide (by rw [← za HQ, decide_eq_false hl, Bool.false_and])
     go_enter Tryd.func46, Tryd.ntmps46
     go_wp2_with fail
     go_ret
     exact ⟨by rw [za HQ2]; rfl, za HB⟩
   ·have e3 : (s == 3) = false := beq_eq_false_iff_ne.2 h3
    by_cases h4 : s = 4
    ·subst h4
     have HQ : Hid (oneM t = R) := hide (by rw [← za HR]; rfl)
     go_enter Tryd.func46, Tryd.ntmps46
     go_wp2_with fail
     have HS := hide (fun W => vB t W hs)
     obtain ⟨m, hm⟩ : ∃ m, sizeM (B t) = m := ⟨_, rfl⟩
     rw [hm] at HS
     have hQ := za HQ
     unfold oneM at hQ
     rw [hm] at hQ
     have HQ := hide hQ
     clear hQ hm
     obtain ⟨W, hW⟩ : ∃ W, w.alloc (.cells #[.int .i64 4, .string (B t), kv] 76) = W := ⟨_, rfl⟩
     rw [hW] at HB HC ⊢
     clear hW
     have c1 := (za HC).n1
     by_cases h0 : 0 < m
     ·have h0' : decide (0 < m) = true := decide_eq_true h0
      have HQ2 : Hid (((m : Int) == ((B t).size : Int)) = R) := hide (by
       rw [← za HQ, decide_eq_true h0, Bool.true_and, ze, Bool.eq_iff_iff]; simp; omega)
      go_wp2_with fail
      go_region_with (first | (go_at_call 21; refine (za HS W.drew).mono ?_; rintro e w2 ⟨rfl, hb2⟩; have HB3 : Hid (Below W.heap.size W w2) := (Below.refl _ _).drew.trans hb2; have d1 := ((za HC).below (za HB3)).n1; clear hb2) | (go_at_call 21; refine (za HS w2).mono ?_; rintro e w3 ⟨rfl, hb3⟩; have HB4 := hide (zi (za HB3) hb3); have e1 := ((za HC).below (za HB4)).n1; clear hb3))
      all_goals
       go_wp2_with fail
       go_ret
       exact ⟨by rw [← za HQ2]; rfl, zi (za HB) (za HB4)⟩
     ·have h0' : decide (0 < m) = false := decide_eq_false h0
      have HQ2 : Hid (R = false) := hide (by rw [← za HQ, decide_eq_false h0, Bool.false_and])
      go_wp2_with fail
      first | (go_region_with ((go_at_call 21; refine (za HS W.drew).mono ?_; rintro e w2 ⟨rfl, hb2⟩; have HB3 : Hid (Below W.heap.size W w2) := (Below.refl _ _).drew.trans hb2; have d1 := ((za HC).below (za HB3)).n1; clear hb2))) | fail
      all_goals
       go_wp2_with fail
       go_ret
       exact ⟨by rw [za HQ2]; rfl, zi (za HB) (za HB3)⟩
    ·have e4 : (s == 4) = false := beq_eq_false_iff_ne.2 h4
     by_cases h5 : s = 5
     ·subst h5
      have HQ : Hid ((decide (t = [116]) || decide (t = [102])) = R) := hide (by rw [← za HR]; rfl)
      by_cases ht : t = [116]
      ·have f0 : ((B t).toList == [116]) = true := by rw [ht]; exact B_eqq _
       have HQ2 : Hid (R = true) := hide (by rw [← za HQ, decide_eq_true ht, Bool.true_or])
       clear ht
       go_enter Tryd.func46, Tryd.ntmps46
       go_wp2_with fail
       go_ret
       exact ⟨by rw [za HQ2]; rfl, za HB⟩
      ·have f0 : ((B t).toList == [116]) = false := B_ne _ _ ht
       have HQ2 : Hid (((B t).toList == [102]) = R) := hide (by
        rw [← za HQ, decide_eq_false ht, Bool.false_or, B_tl]
        by_cases h : t = [102]
        ·subst h; rfl
        ·rw [decide_eq_false h, beq_eq_false_iff_ne.2 h])
       clear ht
       go_enter Tryd.func46, Tryd.ntmps46
       go_wp2_with fail
       go_ret
       exact ⟨by rw [← za HQ2]; rfl, za HB⟩
     ·have e5 : (s == 5) = false := beq_eq_false_iff_ne.2 h5
      by_cases h9 : s = 9
      ·subst h9
       have HQ : Hid (decide (((B t).size : Int) ≤ 200) = R) := hide (by
        rw [← za HR, ze]
        show _ = decide (t.length ≤ 200)
        congr 1; rw [eq_iff_iff]; omega)
       go_enter Tryd.func46, Tryd.ntmps46
       go_wp2_with fail
       go_ret
       exact ⟨by rw [← za HQ]; rfl, za HB⟩
      ·have e9 : (s == 9) = false := beq_eq_false_iff_ne.2 h9
       have HQ : Hid ((B t).toList.isEmpty = R) := hide (by
        rw [← za HR, B_tl]
        unfold textM
        rw [if_neg h1, if_neg h2, if_neg h3, if_neg h4, if_neg h5, if_neg h9]
        cases t <;> rfl)
       go_enter Tryd.func46, Tryd.ntmps46
       go_wp2_with fail
       go_ret
       exact ⟨by rw [← za HQ]; rfl, za HB⟩
theorem yB {ns : List Nd} {p : Nd → Bool} {j : Nat} {x : Nd} (h : ns[j]? = some x) : (ns.take (j + 1)).all p = ((ns.take j).all p && p x) := by
 rw [List.take_add_one, h]; simp
theorem kM {d : Dt} (h : q7 d = false) : okD d = false := by unfold okD; rw [h]; rfl
theorem ZG {d : Dt} {nd : Nd} (hm : nd ∈ d.1) (h : ndOk d.1.length nd = false) : okD d = false := by
 unfold okD
 have : d.1.all (ndOk d.1.length) = false := by rw [List.all_eq_false]; exact ⟨nd, hm, by simp [h]⟩
 rw [this, Bool.and_false, Bool.false_and]
theorem ZH {d : Dt} {r : Int} (hm : r ∈ d.2) (h : inR r d.1.length = false) : okD d = false := by
 unfold okD
 have : d.2.all (inR · d.1.length) = false := by rw [List.all_eq_false]; exact ⟨r, hm, by simp [h]⟩
 rw [this, Bool.and_false]
theorem ZI {d : Dt} (h1 : q7 d = true) (h2 : d.1.all (ndOk d.1.length) = true) (h3 : d.2.all (inR · d.1.length) = true) : okD d = true := by
 unfold okD; rw [h1, h2, h3]; rfl
theorem yx (d : Dt) (u : Value) (w : World) (h : DataAt w u d) (hsm : d.1.length ≤ 1048576 ∧ d.2.length ≤ 1048576 ∧ jb d.1) :
  Calls Tryd.prog 39 #[u] w fun e W' => e = .returned (.bool (okD d)) ∧ Below w.heap.size w W' := by
 obtain ⟨ns, rs⟩ := d
 obtain ⟨nv, rv, rfl, hn, hr⟩ := h
 simp only at hn hr hsm
 obtain ⟨an, cn, rfl, hn1, hn2⟩ := hn.form0
 obtain ⟨ar, cr, rfl, hr1, hr2⟩ := hr.form
 unfold maxLen at hn2 hr2
 obtain ⟨hs1, hs2, hs3⟩ := hsm
 have HN := hide hn
 have HR := hide hr
 have HB := hide (zh (Below.refl w.heap.size w) (.cells #[.slice an ns.length cn, .slice ar rs.length cr] 71))
 have HP := hide (AtC2.new w (.slice an ns.length cn) (.slice ar rs.length cr) 71)
 have HS3 := hide hs3
 clear hn hr hs3
 by_cases h80 : ns.length ≤ 80
 ·have h80' : ¬ (80 < (ns.length : Int)) := by omega
  by_cases h12 : rs.length ≤ 12
  ·have h12' : ¬ (12 < (rs.length : Int)) := by omega
   have HSM : Hid (q7 (ns, rs) = true) := hide (by unfold q7; simp [h80, h12])
   go_enter Tryd.func39, Tryd.ntmps39
   go_wp2_with fail
   go_loopw [3] (fun iv' wr => ∃ i : Nat, i ≤ ns.length ∧ iv' = .int .i64 i ∧ Hid ((ns.take i).all (ndOk ns.length) = true) ∧ Hid (Below w.heap.size w wr) ∧ Hid (AtC2 wr w.heap.size (.slice an ns.length cn) (.slice ar rs.length cr) 71))
    (fun iv' _ => ns.length - (intOf iv').toNat)
   case atStart => exact ⟨0, by omega, rfl, hide (by simp), HB, HP⟩
   case round =>
    clear HB HP
    obtain ⟨i, hile, rfl, hall, HB, HP⟩ := hrel
    have p0 := (za HP).n0
    have p1 := (za HP).n1
    by_cases hil : i < ns.length
    ·obtain ⟨nd, hnd⟩ : ∃ nd, ns[i]? = some nd := ⟨_, List.getElem?_eq_getElem hil⟩
     obtain ⟨b, off, rfl, hba⟩ := (za HN).addr (by omega)
     obtain ⟨kv, c0, c1, c2, htl, hk⟩ := ((za HN).below (za HB)).node hnd
     have hNd := (za HS3) nd (List.mem_of_getElem? hnd)
     have HST := hide (yB (p := ndOk ns.length) hnd)
     have HNO := hide (fun h => ZG (d := (ns, rs)) (List.mem_of_getElem? hnd) h)
     have HNB : Hid (ndOk ns.length nd = ((decide (1 ≤ nd.1) && decide (nd.1 ≤ 9)) && textM nd.1 nd.2.1 && zA nd ns.length)) := hide rfl
     obtain ⟨s, t, ks⟩ := nd
     simp only at htl hk hNd c0 c1 c2
     have HK := hide hk
     obtain ⟨ka, kc, rfl, _, _⟩ := hk.form
     clear hk hnd
     have hbs := zh (Below.refl wr.heap.size wr) (.cells #[.int .i64 s, .string (B t), .slice ka ks.length kc] 76)
     have HB1 := hide (zi (za HB) hbs)
     have HP1 := hide ((za HP).below hbs)
     have HQ1 := hide (AtC3.new wr (.int .i64 s) (.string (B t)) (.slice ka ks.length kc) 76)
     have HK1 := hide ((za HK).below hbs)
     have HTL := hide htl
     clear hbs HP HK htl
     go_wp2_with fail
     obtain ⟨W, hW⟩ : ∃ W, wr.alloc (.cells #[.int .i64 s, .string (B t), .slice ka ks.length kc] 76) = W := ⟨_, rfl⟩
     rw [hW] at HB1 HP1 HQ1 HK1 ⊢
     clear hW c0 c1 c2 p0 p1
     have q0 := (za HQ1).n0
     have q1 := (za HQ1).n1
     have q2 := (za HQ1).n2
     refine (ve s 1 9 W).mono ?_
     rintro e w2 ⟨rfl, rfl⟩
     rcases Bool.eq_false_or_eq_true (decide (1 ≤ s) && decide (s ≤ 9)) with hz | hz
     ·rw [hz]
      have HZ := hide hz
      clear hz
      go_wp2_with fail
      refine (yJ s t _ w2 hNd.1).mono ?_
      rintro e w3 ⟨rfl, hb3⟩
      have HB3 := hide (zi (za HB1) hb3)
      have HP3 := hide ((za HP1).below hb3)
      have HQ3 := hide ((za HQ1).below hb3)
      have HK3 := hide ((za HK1).below hb3)
      clear hb3 HB1 HP1 HQ1 HK1 q0 q1 q2
      rcases Bool.eq_false_or_eq_true (textM s t) with hy | hy
      ·rw [hy]
       have HY := hide hy
       have q0 := (za HQ3).n0
       have q1 := (za HQ3).n1
       have q2 := (za HQ3).n2
       have p0 := (za HP3).n0
       have p1 := (za HP3).n1
       clear hy
       go_wp2_with fail
       refine (jJ _ (s, t, ks) ns.length w3 ⟨_, rfl, za HTL, za HK3⟩ hs1).mono ?_
       rintro e w4 ⟨rfl, hb4⟩
       have HB4 := hide (zi (za HB3) hb4)
       have HP4 := hide ((za HP3).below hb4)
       clear hb4 HB3 HP3 HQ3 HK3 q0 q1 q2 p0 p1
       have HV : Hid (ndOk ns.length (s, t, ks) = zA (s, t, ks) ns.length) := hide (by rw [za HNB]; simp only [za HZ, za HY, Bool.true_and])
       rcases Bool.eq_false_or_eq_true (zA (s, t, ks) ns.length) with hx | hx
       ·rw [hx]
        have HX : Hid ((ns.take (i + 1)).all (ndOk ns.length) = true) := hide (by rw [za HST, za hall, za HV, hx]; rfl)
        clear hx
        go_wp2_with fail
        go_roundw
        case rel => exact ⟨i + 1, by omega, by go_num, HX, HB4, HP4⟩
        case measure => simp [intOf]; omega
       ·rw [hx]
        have HX := hide (za HNO (by rw [← hx]; exact za HV))
        clear hx
        go_wp2_with fail
        go_ret
        exact ⟨by rw [za HX]; rfl, za HB4⟩
      ·rw [hy]
       have HX := hide (za HNO (by show ndOk ns.length (s, t, ks) = false; rw [za HNB]; simp only [hy, Bool.and_false, Bool.false_and]))
       clear hy
       go_wp2_with fail
       go_ret
       exact ⟨by rw [za HX]; rfl, za HB3⟩
     ·rw [hz]
      have HX := hide (za HNO (by show ndOk ns.length (s, t, ks) = false; rw [za HNB]; simp only [hz, Bool.false_and]))
      clear hz
      go_wp2_with fail
      go_ret
      exact ⟨by rw [za HX]; rfl, za HB1⟩
    ·have hie : i = ns.length := by omega
     subst hie
     have hall' := za hall
     rw [List.take_of_length_le (Nat.le_refl _)] at hall'
     have HALL := hide hall'
     clear hall hall'
     go_wp2_with fail
     go_loopw [5] (fun jv wr => ∃ j : Nat, j ≤ rs.length ∧ jv = .int .i64 j ∧ Hid ((rs.take j).all (inR · ns.length) = true) ∧ Hid (Below w.heap.size w wr) ∧ Hid (AtC2 wr w.heap.size (.slice an ns.length cn) (.slice ar rs.length cr) 71))
      (fun jv _ => rs.length - (intOf jv).toNat)
     case atStart => exact ⟨0, by omega, rfl, hide (by simp), HB, HP⟩
     case round =>
      clear HB HP p0 p1
      obtain ⟨j, hjle, rfl, hrall, HB, HP⟩ := hrel
      have p0 := (za HP).n0
      have p1 := (za HP).n1
      by_cases hjl : j < rs.length
      ·obtain ⟨x, hx⟩ : ∃ x, rs[j]? = some x := ⟨_, List.getElem?_eq_getElem hjl⟩
       obtain ⟨b, off, rfl, hb, hc⟩ := ((za HR).below (za HB)).cell hx
       have HST := hide (qn (p := (inR · ns.length)) hx)
       have HNO := hide (fun h => ZH (d := (ns, rs)) (List.mem_of_getElem? hx) h)
       have q0 : (0 : Int) ≤ (j : Int) := by omega
       have q1 : (j : Int) < (rs.length : Int) := by omega
       have q2 : ((j : Int)).toNat = j := by omega
       have q5 : IntKind.i64.wrap ((ns.length : Int) - 1) = (ns.length : Int) - 1 := by rw [wi64] <;> omega
       clear hx
       go_wp2_with fail
       go_quiet ((go_at_call 30; exact Calls.quiet_of_same (yk x ns.length _)))
       have HB1 := hide (zi (za HB) (zV wr nq))
       have HP1 := hide ((za HP).below (zV wr nq))
       clear HB HP p0 p1
       rcases Bool.eq_false_or_eq_true (inR x ns.length) with hz | hz
       ·rw [hz]
        have HX : Hid ((rs.take (j + 1)).all (inR · ns.length) = true) := hide (by rw [za HST, za hrall, hz]; rfl)
        clear hz
        go_wp2_with fail
        go_roundw
        case rel => exact ⟨j + 1, by omega, by go_num, HX, HB1, HP1⟩
        case measure => simp [intOf]; omega
       ·rw [hz]
        have HX := hide (za HNO hz)
        clear hz
        go_wp2_with fail
        go_ret
        exact ⟨by rw [za HX]; rfl, za HB1⟩
      ·have hje : j = rs.length := by omega
       subst hje
       have hrall' := za hrall
       rw [List.take_of_length_le (Nat.le_refl _)] at hrall'
       have HX := hide (ZI (d := (ns, rs)) (za HSM) (za HALL) hrall')
       clear hrall hrall'
       go_wp2_with fail
       go_ret
       exact ⟨by rw [za HX]; rfl, za HB⟩
  ·have h12' : (12 < (rs.length : Int)) := by omega
   have HR : Hid (okD (ns, rs) = false) := hide (kM (by unfold q7; simp [h12]))
   go_enter Tryd.func39, Tryd.ntmps39
   go_wp2_with fail
   go_ret
   exact ⟨by rw [za HR]; rfl, za HB⟩
 ·have h80' : (80 < (ns.length : Int)) := by omega
  have HR : Hid (okD (ns, rs) = false) := hide (kM (by unfold q7; simp [h80]))
  go_enter Tryd.func39, Tryd.ntmps39
  go_wp2_with fail
  go_ret
  exact ⟨by rw [za HR]; rfl, za HB⟩
theorem x4 (W0 : World) (vn : Value) (ns : List Nd) (hn : NodesAt W0 vn ns) (hk : NdsOk ns) (hs : ns.length ≤ 80) (m : Nat) : NodeC W0 vn ns m ∧ v7 W0 vn ns m := by
 induction m with
 | zero =>
  have h0 := vW W0 vn ns 0 hn hk hs (fun m' h => by omega)
  exact ⟨h0, vq W0 vn ns 0 hn hk hs h0 (fun m' h => by omega)⟩
 | succ m ih =>
  have h0 := vW W0 vn ns (m + 1) hn hk hs (fun m' h => by
   obtain rfl : m' = m := by omega
   exact ih)
  exact ⟨h0, vq W0 vn ns (m + 1) hn hk hs h0 (fun m' h => by
   obtain rfl : m' = m := by omega
   exact ih.2)⟩
def WAt (W0 w : World) (vn : Value) : Prop := ∃ va vm c o ov, WSt W0 w vn va vm [] [] c o ov ∧ Cnt 1 c o ov
def AnsT (e : Ending) : Prop := ∃ (s : ByteArray) (b : Bool), e = .returned (.tuple #[.string s, .bool b]) ∧ s.size ≤ 4000
theorem ZP (W0 : World) (vn : Value) : WSt W0 (W0.alloc (.cells #[vn, .bool false, .slice none 0 0, .slice none 0 0, .int .i64 0, .string ⟨#[]⟩, .bool false] 87)) vn (.slice none 0 0) (.slice none 0 0) [] [] 0 ⟨#[]⟩ false :=
 ⟨heap_alloc_new W0 _, World.ownsRow_nil .., World.ownsRow_nil .., fun k h => by simp [Value.ownBlock] at h, (Below.refl _ _).alloc (Nat.le_refl _) _⟩
theorem kr (d : Dt) (u : Value) (w : World) (h : DataAt w u d) (hsm : d.1.length ≤ 1048576 ∧ d.2.length ≤ 1048576 ∧ jb d.1) :
  Calls Tryd.prog 37 #[u, .bool false] w fun e w' => AnsT e ∧ Below w.heap.size w w' := by
 obtain ⟨un, ur, rfl, hun, hur⟩ := id h
 obtain ⟨na, nc, rfl, _, _⟩ := hun.form0
 obtain ⟨ra, rc, rfl, _, _⟩ := hur.form
 have HD := hide (h.below ((Below.refl _ _).alloc (Nat.le_refl _) (.cells #[.slice na d.1.length nc, .slice ra d.2.length rc] 71)))
 have HB := hide (zh (Below.refl w.heap.size w) (.cells #[.slice na d.1.length nc, .slice ra d.2.length rc] 71))
 have HA := hide (AtC2.new w (.slice na d.1.length nc) (.slice ra d.2.length rc) 71)
 have HS := hide hsm
 clear h hun hur hsm
 go_enter Tryd.func37, Tryd.ntmps37
 go_wp2_with fail
 refine (yx d _ _ (za HD) (za HS)).mono ?_
 rintro e w1 ⟨rfl, hb1⟩
 have HB1 := hide (zi (za HB) hb1)
 have HD1 := hide ((za HD).below hb1)
 have HA1 := hide ((za HA).below hb1)
 have a0 := (za HA1).n0
 have a1 := (za HA1).n1
 clear hb1 HB HD HA
 cases hok : okD d
 case false =>
  go_wp2_with fail
  go_ret2
  exact ⟨⟨_, _, rfl, by decide⟩, za HB1⟩
 case true =>
  have hwf := Z5 hok (za HS).2.2
  have HWF := hide hwf
  clear hwf hok
  go_wp2_with fail
  refine (vM d _ _ (za HD1) (za HS)).mono ?_
  rintro e w2 ⟨⟨mn, mr, rfl, mn', mr', e', hmn, hmr⟩, hb2⟩
  cases e'
  obtain ⟨M, hM⟩ : ∃ M, minM d = M := ⟨_, rfl⟩
  rw [hM] at HWF hmn hmr
  obtain ⟨xa, xc, rfl, _, _⟩ := hmn.form0
  obtain ⟨ya, yc, rfl, _, hyc⟩ := hmr.form
  unfold maxLen at hyc
  obtain ⟨hwk, hwr, hwn, hwm⟩ := za HWF
  have HR := hide hwr
  have hb0 := zh (zi (za HB1) hb2) (.cells #[.slice xa M.1.length xc, .slice ya M.2.length yc] 71)
  have hx0 := AtC2.new w2 (.slice xa M.1.length xc) (.slice ya M.2.length yc) 71
  have hn0 := hmn.below (zh (Below.refl _ _) (.cells #[.slice xa M.1.length xc, .slice ya M.2.length yc] 71))
  have hr0 := hmr.below (zh (Below.refl _ _) (.cells #[.slice xa M.1.length xc, .slice ya M.2.length yc] 71))
  have hlt2 : w2.heap.size < (w2.alloc (.cells #[.slice xa M.1.length xc, .slice ya M.2.length yc] 71)).heap.size := by simp
  have HNA := hide (x4 _ _ M.1 hn0 hwk hwn M.1.length)
  have HB0 := hide hb0
  have HX0 := hide hx0
  have HR0 := hide hr0
  clear hb2 hmn hmr hb0 hx0 hn0 hr0 hwk hwr a0 a1 HA1 HD1 hM
  go_wp2_with fail
  obtain ⟨W0, hW0⟩ : ∃ W0, w2.alloc (.cells #[.slice xa M.1.length xc, .slice ya M.2.length yc] 71) = W0 := ⟨_, rfl⟩
  have hz : w2.heap.size + 1 = W0.heap.size := by rw [← hW0]; simp
  have hst := ZP W0 (.slice xa M.1.length xc)
  rw [hW0] at HNA HB0 HX0 HR0 hlt2 ⊢
  rw [hz]
  have HST : Hid (WAt W0 (W0.alloc (.cells #[.slice xa M.1.length xc, .bool false, .slice none 0 0, .slice none 0 0, .int .i64 0, .string ⟨#[]⟩, .bool false] 87)) (.slice xa M.1.length xc)) := hide ⟨_, _, _, _, _, hst, ⟨by omega, by omega, by decide, fun _ => by decide⟩⟩
  have HX1 := hide ((za HX0).alloc (.cells #[.slice xa M.1.length xc, .bool false, .slice none 0 0, .slice none 0 0, .int .i64 0, .string ⟨#[]⟩, .bool false] 87))
  clear hW0 hz hst
  go_loopw [8] (fun vi wr => ∃ j : Nat, vi = .int .i64 j ∧ j ≤ M.2.length ∧ Hid (WAt W0 wr (.slice xa M.1.length xc)) ∧ Hid (AtC2 wr w2.heap.size (.slice xa M.1.length xc) (.slice ya M.2.length yc) 71)) (fun vi _ => M.2.length - (intOf vi).toNat)
  case atStart => exact ⟨0, rfl, by omega, HST, HX1⟩
  case round =>
   clear HST HX1
   obtain ⟨j, rfl, hj, hst, hx⟩ := hrel
   obtain ⟨va, vm, c, o, ov, h1, hc1⟩ := za hst
   have x0 := (za hx).n0
   have x1 := (za hx).n1
   have H1 := hide h1
   have HC1 := hide hc1
   have hlt1 := h1.lt
   clear h1 hc1 hst
   by_cases hlt : j < M.2.length
   ·obtain ⟨r, hr⟩ : ∃ r, M.2[j]? = some r := ⟨_, List.getElem?_eq_getElem hlt⟩
    obtain ⟨yb, yo, rfl, hyb, hyc'⟩ := (za HR0).cell hr
    have hrr := (za HR) r (List.mem_of_getElem? hr)
    have e1 := wi64 ((j : Int) + 1) (by omega) (by omega)
    by_cases hj0 : 0 < (j : Int)
    ·go_wp2_with fail
     refine (put_c W0 _ _ _ _ [] [] c o _ ov (za H1) (za HC1).sz (by decide)).mono ?_
     rintro e w4 ⟨⟨u4, rfl⟩, o4, ov4, h4, hp4, hq4⟩
     have HC4 := hide (hp4.cnt (za HC1))
     have HX4 := hide (hq4.at2 (za hx))
     have H4 := hide h4
     clear h4 hp4 hq4 x0 x1 H1 HC1 hx
     have n4 := (za H4).n4
     have f4 := (za H4).f 4
     have hlt5 := (za H4).lt
     have y0 := ((za HX4).far (a := ⟨W0.heap.size, 4, none⟩) (by show W0.heap.size ≠ w2.heap.size; omega) (.int .i64 0)).n0
     have y1 := ((za HX4).far (a := ⟨W0.heap.size, 4, none⟩) (by show W0.heap.size ≠ w2.heap.size; omega) (.int .i64 0)).n1
     have H5 := hide ((za H4).s4 0)
     have HC5 : Hid (Cnt 1 0 o4 ov4) := hide ⟨by omega, by omega, (za HC4).sz, fun _ => by omega⟩
     have HX5 := hide ((za HX4).far (a := ⟨W0.heap.size, 4, none⟩) (by show W0.heap.size ≠ w2.heap.size; omega) (.int .i64 0))
     have hyc4 := ((za H5).low.cell (p := ⟨yb, yo + j, none⟩) hyb).trans hyc'
     clear hyc'
     go_wp2_with fail
     refine (((za HNA).1) _ _ _ [] [] 0 r o4 ov4 (za H5) ⟨jo _, rfl, (fun y hy => by simp at hy), by simp⟩ hrr.1 hrr.2 (za HC5)).mono ?_
     rintro e w7 ⟨⟨u7, rfl⟩, va7, vm7, c7, o7, ov7, h7, hc7, _, hq7⟩
     have HST7 : Hid (WAt W0 w7 (.slice xa M.1.length xc)) := hide ⟨_, _, _, _, _, h7, hc7⟩
     have HX7 := hide (hq7.at2 (za HX5))
     clear h7 hc7 hq7 y0 y1 n4 f4 hyc4
     go_wp2_with fail
     go_roundw
     case rel => exact ⟨j + 1, by go_num, by omega, HST7, HX7⟩
     case measure => simp [intOf]; omega
    ·
     have n4 := (za H1).n4
     have f4 := (za H1).f 4
     have hlt5 := (za H1).lt
     have y0 := ((za hx).far (a := ⟨W0.heap.size, 4, none⟩) (by show W0.heap.size ≠ w2.heap.size; omega) (.int .i64 0)).n0
     have y1 := ((za hx).far (a := ⟨W0.heap.size, 4, none⟩) (by show W0.heap.size ≠ w2.heap.size; omega) (.int .i64 0)).n1
     have H5 := hide ((za H1).s4 0)
     have HC5 : Hid (Cnt 1 0 o ov) := hide ⟨by omega, by omega, (za HC1).sz, fun _ => by omega⟩
     have HX5 := hide ((za hx).far (a := ⟨W0.heap.size, 4, none⟩) (by show W0.heap.size ≠ w2.heap.size; omega) (.int .i64 0))
     have hyc4 := ((za H5).low.cell (p := ⟨yb, yo + j, none⟩) hyb).trans hyc'
     clear hyc'
     go_wp2_with fail
     refine (((za HNA).1) _ _ _ [] [] 0 r o ov (za H5) ⟨jo _, rfl, (fun y hy => by simp at hy), by simp⟩ hrr.1 hrr.2 (za HC5)).mono ?_
     rintro e w7 ⟨⟨u7, rfl⟩, va7, vm7, c7, o7, ov7, h7, hc7, _, hq7⟩
     have HST7 : Hid (WAt W0 w7 (.slice xa M.1.length xc)) := hide ⟨_, _, _, _, _, h7, hc7⟩
     have HX7 := hide (hq7.at2 (za HX5))
     clear h7 hc7 hq7 y0 y1 n4 f4 hyc4
     go_wp2_with fail
     go_roundw
     case rel => exact ⟨j + 1, by go_num, by omega, HST7, HX7⟩
     case measure => simp [intOf]; omega
   ·have n5 := (za H1).n5
    have n6 := (za H1).n6
    have HBE := hide ((za HB0).trans ((za H1).low.mono (za HB0).size))
    cases ov
    case true =>
     go_wp2_with fail
     go_ret2
     exact ⟨⟨_, _, rfl, by decide⟩, za HBE⟩
    case false =>
     go_wp2_with fail
     go_ret2
     exact ⟨⟨_, _, rfl, (za HC1).sz⟩, za HBE⟩
structure Keeps (g : Nat) (w w' : World) : Prop where
 os : w'.os = w.os
 tape : w'.tape = w.tape
 output : w'.output = w.output
 size : w.heap.size ≤ w'.heap.size
 block : ∀ k, k < w.heap.size → k ≠ g → w'.heap[k]? = w.heap[k]?
theorem Keeps.refl (g : Nat) (w : World) : Keeps g w w := ⟨rfl, rfl, rfl, Nat.le_refl _, fun _ _ _ => rfl⟩
theorem Keeps.trans {g : Nat} {a b c : World} (h : Keeps g a b) (k : Keeps g b c) : Keeps g a c :=
 ⟨k.os.trans h.os, k.tape.trans h.tape, k.output.trans h.output, Nat.le_trans h.size k.size, fun i hi hg => (k.block i (Nat.lt_of_lt_of_le hi h.size) hg).trans (h.block i hi hg)⟩
theorem Keeps.of_below {g : Nat} {w w' : World} (h : Below w.heap.size w w') : Keeps g w w' := ⟨h.os, h.tape, h.output, h.size, fun k hk _ => h.block k hk⟩
theorem Keeps.below {g B : Nat} {w w' : World} (h : Keeps g w w') (hg : B ≤ g) (hB : B ≤ w.heap.size) : Below B w w' := ⟨h.os, h.tape, h.output, h.size, fun k hk => h.block k (by omega) (by omega)⟩
theorem Keeps.drew {g : Nat} {a w : World} (h : Keeps g a w) : Keeps g a w.drew := ⟨h.os, h.tape, h.output, h.size, h.block⟩
theorem Keeps.drewN {g : Nat} {a w : World} (h : Keeps g a w) (n : Nat) : Keeps g a (w.drewN n) := ⟨h.os, h.tape, h.output, h.size, h.block⟩
theorem Keeps.alloc {g : Nat} {a w : World} (h : Keeps g a w) (o : Obj) : Keeps g a (w.alloc o) := h.trans (Keeps.of_below ((Below.refl _ _).alloc (Nat.le_refl _) o))
theorem Keeps.setOwn {g : Nat} {a w : World} (h : Keeps g a w) {p : Addr} (hp : p.block = g) (u : Value) : Keeps g a (w.setCell p u) :=
 h.trans ⟨rfl, rfl, rfl, by simp [World.setCell], fun k _ hg => Below.heap_setCell _ _ _ _ (by omega)⟩
theorem Keeps.setNew {g : Nat} {a w : World} (h : Keeps g a w) {p : Addr} (hp : a.heap.size ≤ p.block) (u : Value) : Keeps g a (w.setCell p u) :=
 ⟨h.os, h.tape, h.output, Nat.le_trans h.size (by simp [World.setCell]), fun k hk hg => (Below.heap_setCell _ _ _ _ (by omega)).trans (h.block k hk hg)⟩
theorem Keeps.cell {g : Nat} {w w' : World} (h : Keeps g w w') {p : Addr} (hp : p.block < w.heap.size) (hg : p.block ≠ g) : w'.cell? p = w.cell? p := World.cell?_of_block (w := w) (h.block p.block hp hg)
def Byts (w : World) (g : Nat) (a : Option Addr) (n : Nat) : Prop :=
 0 < n → ∃ q o, a = some ⟨q, o, none⟩ ∧ q < g ∧ q < w.heap.size ∧ ∀ j, j < n → ∃ x : Nat, x ≤ 255 ∧ w.cell? ⟨q, o + j, none⟩ = some (.int .u8 (x : Int))
theorem Byts.keeps {w w' : World} {g : Nat} {a : Option Addr} {n : Nat} (h : Byts w g a n) (k : Keeps g w w') : Byts w' g a n := by
 intro hn
 obtain ⟨q, o, rfl, hqg, hq, hc⟩ := h hn
 refine ⟨q, o, rfl, hqg, Nat.lt_of_lt_of_le hq k.size, fun j hj => ?_⟩
 obtain ⟨x, hx, hcj⟩ := hc j hj
 exact ⟨x, hx, by rw [k.cell hq (Nat.ne_of_lt hqg)]; exact hcj⟩
structure Rd (w : World) (g p : Nat) (a : Option Addr) (n cap : Nat) : Prop where
 heap : w.heap[g]? = some (.cells #[.slice a n cap, .int .i64 (p : Int)] 61 (0, 0))
 byts : Byts w g a n
 len : n ≤ 2000
theorem Rd.keep {w w' : World} {g p : Nat} {a : Option Addr} {n cap : Nat} (h : Rd w g p a n cap) (hb : Below w.heap.size w w') : Rd w' g p a n cap :=
 ⟨by rw [hb.block g (Array.getElem?_eq_some_iff.1 h.heap).1]; exact h.heap, h.byts.keeps (Keeps.of_below hb), h.len⟩
theorem Rd.drewN {w : World} {g p : Nat} {a : Option Addr} {n cap : Nat} (h : Rd w g p a n cap) (k : Nat) : Rd (w.drewN k) g p a n cap := ⟨h.heap, h.byts, h.len⟩
theorem Rd.drew {w : World} {g p : Nat} {a : Option Addr} {n cap : Nat} (h : Rd w g p a n cap) : Rd w.drew g p a n cap := ⟨h.heap, h.byts, h.len⟩
theorem Rd.lt {w : World} {g p : Nat} {a : Option Addr} {n cap : Nat} (h : Rd w g p a n cap) : g < w.heap.size := (Array.getElem?_eq_some_iff.1 h.heap).1
theorem Rd.c0 {w : World} {g p : Nat} {a : Option Addr} {n cap : Nat} (h : Rd w g p a n cap) : w.cell? ⟨g, 0, none⟩ = some (.slice a n cap) := by simp [World.cell?, h.heap]
theorem Rd.c1 {w : World} {g p : Nat} {a : Option Addr} {n cap : Nat} (h : Rd w g p a n cap) : w.cell? ⟨g, 1, none⟩ = some (.int .i64 (p : Int)) := by simp [World.cell?, h.heap]
theorem Rd.f1 {w : World} {g p : Nat} {a : Option Addr} {n cap : Nat} (h : Rd w g p a n cap) : w.frozen? ⟨g, 1, none⟩ = false := by simp [World.frozen?, h.heap]
theorem Rd.next {w : World} {g p : Nat} {a : Option Addr} {n cap : Nat} (h : Rd w g p a n cap) (v : Int) (hv : v = ((p + 1 : Nat) : Int)) : Rd (w.setCell ⟨g, 1, none⟩ (.int .i64 v)) g (p + 1) a n cap := by
 refine ⟨?_, h.byts.keeps ((Keeps.refl g w).setOwn (p := ⟨g, 1, none⟩) rfl _), h.len⟩
 subst hv
 rw [show (w.setCell ⟨g, 1, none⟩ (.int .i64 ((p + 1 : Nat) : Int))).heap[g]? = _ from Array.getElem?_modify, if_pos rfl, h.heap]
 simp
theorem Rd.below {w w' : World} {g p : Nat} {a : Option Addr} {n cap : Nat} (h : Rd w g p a n cap) (hb : Below (g + 1) w w') : Rd w' g p a n cap := by
 refine ⟨by rw [hb.block g (by omega)]; exact h.heap, ?_, h.len⟩
 intro hn
 obtain ⟨q, o, rfl, hqg, hq, hc⟩ := h.byts hn
 refine ⟨q, o, rfl, hqg, Nat.lt_of_lt_of_le hq hb.size, fun j hj => ?_⟩
 obtain ⟨x, hx, hcj⟩ := hc j hj
 exact ⟨x, hx, by rw [hb.cell (p := ⟨q, o + j, none⟩) (by show q < g + 1; omega)]; exact hcj⟩
def Drawn (w : World) (g p n cap : Nat) (a : Option Addr) (k : Nat) (w' : World) : Prop := (∃ p', p' ≤ p + k ∧ Rd w' g p' a n cap) ∧ Keeps g w w'
theorem Drawn.more {w w1 w2 : World} {g p n cap k : Nat} {a : Option Addr} (h : Drawn w g p n cap a k w1) (hg : g < w.heap.size) (hb : Below w.heap.size w1 w2) : Drawn w g p n cap a k w2 := by
 obtain ⟨⟨p', hp, hr⟩, hk⟩ := h
 exact ⟨⟨p', hp, hr.below (hb.mono (by omega))⟩, ⟨hb.os.trans hk.os, hb.tape.trans hk.tape, hb.output.trans hk.output, Nat.le_trans hk.size hb.size, fun i hi hig => (hb.block i hi).trans (hk.block i hi hig)⟩⟩
theorem Drawn.made {w w1 : World} {g p n cap k : Nat} {a : Option Addr} {o : Obj} (h : Drawn (w.alloc o) g p n cap a k w1) : Drawn w g p n cap a k w1 := ⟨h.1, ((Keeps.refl g w).alloc o).trans h.2⟩
theorem Rd.alloc {w : World} {g p : Nat} {a : Option Addr} {n cap : Nat} (h : Rd w g p a n cap) (o : Obj) : Rd (w.alloc o) g p a n cap := h.keep ((Below.refl _ _).alloc (Nat.le_refl _) _)
def At3 (w : World) (b : Nat) (x y z : Value) : Prop := w.heap[b]? = some (.cells #[x, y, z] 92 (0, 0))
theorem At3.lt {w : World} {b : Nat} {x y z : Value} (h : At3 w b x y z) : b < w.heap.size := (Array.getElem?_eq_some_iff.1 h).1
theorem At3.new (w : World) (x y z : Value) : At3 (w.alloc (.cells #[x, y, z] 92)) w.heap.size x y z := by
 show (w.heap.push _)[w.heap.size]? = _; rw [Array.getElem?_push, if_pos rfl]
theorem At3.keeps {w w' : World} {b g : Nat} {x y z : Value} (h : At3 w b x y z) (k : Keeps g w w') (hg : b ≠ g) : At3 w' b x y z := (k.block b h.lt hg).trans h
theorem At3.c0 {w : World} {b : Nat} {x y z : Value} (h : At3 w b x y z) : w.cell? ⟨b, 0, none⟩ = some x := by unfold At3 at h; simp [World.cell?, h]
theorem At3.c1 {w : World} {b : Nat} {x y z : Value} (h : At3 w b x y z) : w.cell? ⟨b, 1, none⟩ = some y := by unfold At3 at h; simp [World.cell?, h]
theorem At3.c2 {w : World} {b : Nat} {x y z : Value} (h : At3 w b x y z) : w.cell? ⟨b, 2, none⟩ = some z := by unfold At3 at h; simp [World.cell?, h]
theorem At3.f {w : World} {b : Nat} {x y z : Value} (h : At3 w b x y z) (j : Nat) : w.frozen? ⟨b, j, none⟩ = false := by unfold At3 at h; simp [World.frozen?, h]
theorem xD {x y : Int} (hx0 : 0 ≤ x) (hx : x < 4611686018427387904) (hy0 : 0 ≤ y) (hy : y < 4611686018427387904) : 0 ≤ bits .xor .i64 x y ∧ bits .xor .i64 x y < 4611686018427387904 := by
 obtain ⟨a, rfl⟩ := Int.eq_ofNat_of_zero_le hx0
 obtain ⟨b, rfl⟩ := Int.eq_ofNat_of_zero_le hy0
 have e : (BitVec.ofInt 64 (a : Int) ^^^ BitVec.ofInt 64 (b : Int)).toNat = a ^^^ b := by
  rw [BitVec.toNat_xor, BitVec.ofInt_natCast, BitVec.ofInt_natCast, BitVec.toNat_ofNat, BitVec.toNat_ofNat, Nat.mod_eq_of_lt (by omega), Nat.mod_eq_of_lt (by omega)]
 have hlt : a ^^^ b < 2 ^ 62 := Nat.xor_lt_two_pow (by omega) (by omega)
 have hw : bits .xor .i64 (a : Int) (b : Int) = ((a ^^^ b : Nat) : Int) := by
  show IntKind.i64.wrap ((BitVec.ofInt 64 (a : Int) ^^^ BitVec.ofInt 64 (b : Int)).toNat : Int) = _
  rw [e, wi64 _ (by omega) (by omega)]
 rw [hw]; omega
end Go.Proofs.YtnenoaenjaghhaaDoor
