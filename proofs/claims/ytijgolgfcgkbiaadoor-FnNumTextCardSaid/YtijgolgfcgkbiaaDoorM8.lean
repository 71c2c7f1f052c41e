/- A part of the proof, put together out of smaller texts: each piece says what it is for. -/
import Derived.Test.YtijgolgfcgkbiaaDoorM7
import Derived.Deep.RegionWith
import Derived.Lib.Bytealg
namespace Go.Proofs.YtijgolgfcgkbiaaDoor
open Go.RowKit Nt

theorem group_digit (x k : Nat) (h : k / 9 < (gr x).length) : (gr x)[k / 9] / 10 ^ (k % 9) % 10 = x / 10 ^ k % 10 := by
  have hr : k % 9 < 9 := Nat.mod_lt _ (by omega)
  have hg := dg_get (b := 1000000000) (by omega) (k / 9) x
  have hg' : (gr x)[k / 9] = x / 1000000000 ^ (k / 9) % 1000000000 := by
    rw [← hg, show dg 1000000000 x = gr x from rfl, List.getD_eq_getElem?_getD, List.getElem?_eq_getElem h]; rfl
  rw [hg']
  have e : (1000000000 : Nat) = 10 ^ (k % 9) * 10 ^ (9 - k % 9) := by
    rw [← Nat.pow_add, show k % 9 + (9 - k % 9) = 9 from by omega]
  generalize hq : x / 1000000000 ^ (k / 9) = q
  conv => lhs; rw [e]
  rw [Nat.mod_mul_right_div_self, Nat.mod_mod_of_dvd _ (by
    have : 10 ^ 1 ∣ 10 ^ (9 - k % 9) := Nat.pow_dvd_pow 10 (by omega)
    simpa using this), ← hq, Nat.div_div_eq_div_mul, pow_group]

/-- a slice's length: a measure alone -/
def lenV : Value → Nat
  | .slice _ n _ => n
  | _ => 0

/-- the first k digits, the lowest first -/
def digs (x k : Nat) : List Nat := (List.range k).map fun j => x / 10 ^ j % 10
theorem digs_succ (x k : Nat) : digs x (k + 1) = digs x k ++ [x / 10 ^ k % 10] := by simp [digs, List.range_succ]
theorem digs_length (x k : Nat) : (digs x k).length = k := by simp [digs]
theorem digs_lt (x k : Nat) : ∀ d ∈ digs x k, d < 10 := by
  intro d hd
  obtain ⟨j, _, rfl⟩ := List.mem_map.1 hd
  exact Nat.mod_lt _ (by omega)
theorem digs_ofd (x : Nat) : ∀ k, ofd 10 (digs x k) = x % 10 ^ k := by
  intro k
  induction k with
  | zero => simp [digs, ofd, Nat.mod_one]
  | succ k ih => rw [digs_succ, ofd_snoc, ih, digs_length, mod_pow_succ']

theorem gr_pow (x : Nat) : x < 10 ^ (9 * (gr x).length) := by
  have h := lt_pow_dg (b := 1000000000) (by omega) x
  rw [show (1000000000 : Nat) = 10 ^ 9 from by decide, ← Nat.pow_mul] at h
  unfold gr
  rw [show (1000000000 : Nat) = 10 ^ 9 from by decide]
  exact h

set_option maxRecDepth 100000 in
set_option maxHeartbeats 2000000 in
theorem decimals_c (x : Nat) (v : Value) (w : World) (hx : isNat w v x) (hs : (gr x).length ≤ 100000) (hT : Tens w) :
    Calls Tryd.prog 48 #[v] w fun e w' => e = .returned (.string (dec x)) ∧ Below w.heap.size w w' := by
  obtain ⟨i0, hi, hz0, hz1, hz2⟩ := info_parts Tryd.infoByte
  obtain ⟨p, cap, hv⟩ := own_slice hx
  subst hv
  by_cases hz : x = 0
  · subst hz
    rw [gr_zero, dec_zero]
    clear hx hs hT
    go_enter Tryd.func48, Tryd.ntmps48
    go_wp2
    go_ret
    exact ⟨rfl, Below.refl _ _⟩
  · obtain ⟨n, hn⟩ : ∃ n, (gr x).length = n := ⟨_, rfl⟩
    have hn0 : 0 < n := by
      rcases Nat.eq_zero_or_pos n with h | h
      · rw [h] at hn; exact absurd (gr_nil.1 (List.eq_nil_of_length_eq_zero hn)) hz
      · exact h
    have hnI : ((n : Int) == 0) = false := by rw [beq_eq_false_iff_ne]; omega
    have hgd := group_digit x
    have hgl := gr_lt x
    have hgp := gr_pow x
    have hx' := hx
    unfold isNat at hx'
    rw [hn] at hx' hs hgp
    rw [hn]
    generalize gr x = xs at *
    have Hgd := hide hgd
    have Hgl := hide hgl
    have Hgp := hide hgp
    have Hx := hide hx'
    have Hn := hide hn
    have HT := hide hT
    have Hz := hide hz
    clear hgd hgl hgp hx' hn hT hz hx
    go_enter Tryd.func48, Tryd.ntmps48
    go_wp2
    go_loopw [3, 13] (fun v i wr => ∃ (k : Nat), k ≤ n * 9 ∧ i = .int .i64 k ∧ wr.ownsRow w.heap.size 5 1 v k (((digs x k).map sg).map u8v) ∧ Below w.heap.size w wr)
      (fun _ i _ => n * 9 - (intOf i).toNat)
    case atStart =>
      exact ⟨0, Nat.zero_le _, rfl, World.ownsRow_made w #[] 0 (Nat.le_refl _) (by decide) (by simp), (Below.refl _ _).alloc (Nat.le_refl _) _⟩
    case round =>
      obtain ⟨k, hk, rfl, hown, hb⟩ := hrel
      by_cases hlt : k < n * 9
      · have hkl : k / 9 < xs.length := by rw [unhide Hn]; omega
        obtain ⟨g, cap', hvv, _⟩ := own_some (unhide Hx) (by omega)
        simp only [Value.slice.injEq, true_and] at hvv
        obtain ⟨rfl, rfl⟩ := hvv
        have hcx := (own_below (unhide Hx) hb).cellAt (k / 9) (by rw [unhide Hn] at hkl; omega)
        rw [u64s_get _ _ hkl] at hcx
        have hT2 := ((unhide HT).below hb) (k % 9) (Nat.mod_lt _ (by omega))
        have hd := unhide Hgd k hkl
        have ha9 : xs[k / 9]'hkl < 1000000000 := unhide Hgl _ (List.getElem_mem _)
        have hdl : x / 10 ^ k % 10 < 10 := Nat.mod_lt _ (by omega)
        have hsuc := digs_succ x k
        have hpow : 0 < 10 ^ (k % 9) := Nat.pow_pos (by omega)
        have hpow2 : 10 ^ (k % 9) ≤ 100000000 := by
          have : (10 : Nat) ^ (k % 9) ≤ 10 ^ 8 := Nat.pow_le_pow_right (by omega) (by have := Nat.mod_lt k (show 9 > 0 by omega); omega)
          exact this
        generalize xs[k / 9]'hkl = a at *
        generalize x / 10 ^ k % 10 = d at *
        obtain ⟨t, ht⟩ : ∃ t, 10 ^ (k % 9) = t := ⟨_, rfl⟩
        rw [ht] at hT2 hd hpow hpow2
        obtain ⟨q, hq⟩ : ∃ q, k / 9 = q := ⟨_, rfl⟩
        obtain ⟨r, hr⟩ : ∃ r, k % 9 = r := ⟨_, rfl⟩
        rw [hq] at hcx hkl
        rw [hr] at hT2
        obtain ⟨at_, hat⟩ : ∃ z, a / t = z := ⟨_, rfl⟩
        rw [hat] at hd
        have hatl : at_ ≤ a := by rw [← hat]; exact Nat.div_le_self _ _
        have e1 : (k : Int).tdiv 9 = q := by rw [Int.tdiv_eq_ediv_of_nonneg (by omega)]; omega
        have e2 : (k : Int).tmod 9 = r := by rw [Int.tmod_eq_emod_of_nonneg (by omega)]; omega
        have e3 := wi64 (q : Int) (by omega) (by omega)
        have e4 : (a : Int).tdiv t = at_ := by rw [Int.tdiv_eq_ediv_of_nonneg (by omega), ← hat]; rfl
        have e5 := wu64 (at_ : Int) (by omega) (by omega)
        have e6 : (at_ : Int).tmod 10 = d := by rw [Int.tmod_eq_emod_of_nonneg (by omega)]; omega
        have htN : ¬ (t : Int) = 0 := by omega
        have hqn : (q : Int) < n := by omega
        have hqn2 : q < n := by omega
        have hr9 : (r : Int) < 9 := by omega
        have hrn : r < 9 := by omega
        have hki : (k : Int) < n * 9 := by omega
        have Hsuc := hide hsuc
        clear hsuc hd ht hq hr hat
        go_wp2
        go_quiet (fail)
        have hown2 := own_drewN hown nq
        have hb2 := below_drewN hb nq
        have hw := hb.size
        go_wp2_with (at_builtin; refine wpList_append_own _ rfl (.tmp 27) (.tmp 31) 22 rfl w.heap.size 5 i0 (.int .u8 0) 1 1 Tryd.underlying22 hi hz0 hz1 hz2 rfl (by decide) _ _ _ rfl (hown2.alloc _) ⟨wr.heap.size, 0, none⟩ 1 1 [.int .u8 (48 + (d : Int))] rfl rfl (cell_one_new _ _ _) (by intro u hu; simp at hu; subst hu; rfl) (by unfold maxLen; omega) (by omega) (by show w.heap.size ≤ ((wr.drewN nq).alloc _).heap.size; rw [World.size_alloc]; show w.heap.size ≤ wr.heap.size + 1; omega) ?_; intro v2 w2 hown3 hg3 _)
        have hbX := below_grown (hb2.alloc hw _) (hown2.alloc _) hg3 (by rw [World.size_alloc]; show w.heap.size ≤ wr.heap.size + 1; omega)
        go_roundw
        case rel =>
          refine ⟨k + 1, by omega, by go_num, ?_, hbX⟩
          rw [unhide Hsuc, List.map_append, List.map_append]
          simp only [List.map_cons, List.map_nil, u8v_sg hdl]
          exact hown3
        case measure => simp [intOf]; omega
      · have hkn : k = n * 9 := by omega
        subst hkn
        have hpre : strip (digs x (n * 9)) = dg 10 x := by
          rw [strip_eq_dg (by omega) (digs_lt x _), digs_ofd, Nat.mod_eq_of_lt (by rw [Nat.mul_comm]; exact unhide Hgp)]
        obtain ⟨g, cap', hvv, hcc, hbg, hgw⟩ := own_some hown (by omega)
        subst hvv
        have Hpre := hide hpre
        have hdl := digs_lt x (n * 9)
        have hlen := digs_length x (n * 9)
        generalize digs x (n * 9) = D at *
        have Hdl := hide hdl
        clear hpre hdl
        go_wp2
        go_loopw [3] (fun v wr2 => ∃ (E : List Nat), v = .slice (some ⟨g, 0, none⟩) E.length cap' ∧ E.length ≤ n * 9 ∧ wr2 = wr ∧ wr.ownsRow w.heap.size 5 1 (.slice (some ⟨g, 0, none⟩) E.length cap') E.length ((E.map sg).map u8v) ∧ Hid (strip E = dg 10 x) ∧ Hid (∀ d ∈ E, d < 10))
          (fun v _ => lenV v)
        case atStart => exact ⟨D, by rw [hlen], by omega, rfl, by rw [hlen]; exact hown, Hpre, Hdl⟩
        case round =>
          obtain ⟨E, rfl, hEl, rfl, hownE, hst, hEd⟩ := hrel
          have hE0 : 0 < E.length := by
            rcases Nat.eq_zero_or_pos E.length with h | h
            · exfalso
              have : E = [] := List.eq_nil_of_length_eq_zero h
              rw [this] at hst
              exact unhide Hz ((dg_eq_nil (by omega)).1 (unhide hst).symm)
            · exact h
          have hc := hownE.cellAt (E.length - 1) (by omega)
          rw [u8v_cell _ _ (by simp; omega), List.getElem_map] at hc
          have hsp : E = E.take (E.length - 1) ++ [E[E.length - 1]'(by omega)] := by
            rw [← List.take_succ_eq_append_getElem (by omega), show E.length - 1 + 1 = E.length from by omega, List.take_length]
          have hlast : E[E.length - 1]'(by omega) < 10 := unhide hEd _ (List.getElem_mem _)
          have htk := own_take hownE (E.length - 1) (by omega)
          generalize E[E.length - 1]'(by omega) = d at *
          rw [sg_toNat (by omega), if_pos hlast] at hc
          by_cases hd0 : d = 0
          · have hst2 : strip (E.take (E.length - 1)) = dg 10 x := by
              rw [← unhide hst]
              conv => rhs; rw [hsp, hd0]
              rw [strip_snoc_zero]
            have hEd2 : ∀ e ∈ E.take (E.length - 1), e < 10 := fun e he => unhide hEd e (List.mem_of_mem_take he)
            have hq : (((48 + d : Nat) : Int) == 48) = true := by rw [beq_iff_eq]; omega
            have e1 : ((E.map sg).map u8v).take (E.length - 1) = ((E.take (E.length - 1)).map sg).map u8v := by simp [List.map_take]
            rw [e1] at htk
            have hl1 : (E.take (E.length - 1)).length = E.length - 1 := by simp
            generalize E.take (E.length - 1) = F at *
            have hzl : F.length + 1 = E.length := by omega
            have Htk := hide htk
            have Hst2 := hide hst2
            have Hd2 := hide hEd2
            clear hst2 htk hsp hd0 e1 hEd2
            go_wp2
            go_roundw
            case rel => exact ⟨F, by rw [hl1], by omega, trivial, by rw [hl1]; exact unhide Htk, Hst2, Hd2⟩
            case measure => show E.length - 1 < E.length; omega
          · have hq : (((48 + d : Nat) : Int) == 48) = false := by rw [beq_eq_false_iff_ne]; omega
            have hfin : E = dg 10 x := by rw [← unhide hst, hsp, strip_snoc_pos _ _ hd0]
            have Hfin := hide hfin
            clear hfin hsp htk hd0
            have hrv := reverse_c (E.map sg) g cap' w.heap.size wr (by rw [List.length_map]; omega) (by rw [List.length_map]; exact hownE)
            rw [List.length_map] at hrv
            have Hrv := hide hrv
            clear hrv hownE hown
            go_wp2_with fail
            refine (unhide Hrv).mono ?_
            rintro e w3 ⟨rfl, hown3, hg3⟩
            have hbX := hb.grown hg3 hb.size (fun k hk => by cases hk; omega)
            have hconv := run_conv_bytes (dst := 9) Tryd.underlying22 Tryd.underlying5 Tryd.underlying9 hown3
            have hfin2 : B (E.map sg).reverse = dec x := by unfold dec txt; rw [txl_pos (unhide Hz), ← unhide Hfin]
            rw [hfin2] at hconv
            clear hfin2 hown3 hg3 Hrv
            go_wp2
            go_ret
            exact ⟨rfl, hbX⟩
end Go.Proofs.YtijgolgfcgkbiaaDoor
namespace Go.Proofs.YtijgolgfcgkbiaaDoor
open Go.RowKit Nt

theorem gr_len0 {x : Nat} : (gr x).length = 0 ↔ x = 0 := by
  rw [List.length_eq_zero_iff]; exact gr_nil

theorem gr_le_of_le {x y n : Nat} (h : x ≤ y) (hy : (gr y).length ≤ n) : (gr x).length ≤ n := Nat.le_trans (gr_len_le h) hy

theorem below_three_alloc {w w3 : World} {b : Nat} (h : Below b w w3) (hs : b ≤ w3.heap.size) (g : Nat) (hg : b ≤ g) (x y z : Value) (o : Obj) : Below b w ((((w3.setCell ⟨g, 0, none⟩ x).setCell ⟨g, 1, none⟩ y).setCell ⟨g, 2, none⟩ z).alloc o) :=
  (below_three h g hg x y z).alloc (by simpa using hs) o

theorem lowest_pos {neg : Bool} {u d : Nat} (hd : 0 < d) : lowest neg u d = if 60 < (dec (u / Nat.gcd u d)).size ∨ 60 < (dec (d / Nat.gcd u d)).size then none else some (neg && u / Nat.gcd u d != 0, u / Nat.gcd u d, d / Nat.gcd u d) := by
  unfold lowest
  by_cases h : 60 < (dec (u / Nat.gcd u d)).size ∨ 60 < (dec (d / Nat.gcd u d)).size
  · rw [if_pos (.inr h), if_pos h]
  · rw [if_neg (by rintro (h1 | h1); omega; exact h h1), if_neg h]


set_option maxRecDepth 100000 in
set_option maxHeartbeats 4000000 in
theorem numLowest_c (neg : Bool) (u d : Nat) (vu vd : Value) (w : World) (hu : isNat w vu u) (hdn : isNat w vd d) (hd : 0 < d) (hsu : (gr u).length ≤ 100000) (hsd : (gr d).length ≤ 100000) (hT : Tens w) :
    Calls Tryd.prog 33 #[.bool neg, vu, vd] w fun e w' => e = .returned (numAns (lowest neg u d)) ∧ Below w.heap.size w w' := by
  have Hu := hide hu
  have Hd := hide hdn
  have HT := hide hT
  have hg : 0 < Nat.gcd u d := Nat.gcd_pos_of_pos_right _ hd
  have hgl := gr_le_of_le (Nat.gcd_le_right u hd) hsd
  have hql := gr_le_of_le (Nat.div_le_self u (Nat.gcd u d)) hsu
  have hdl := gr_le_of_le (Nat.div_le_self d (Nat.gcd u d)) hsd
  have Hlow := hide (lowest_pos (neg := neg) (u := u) hd)
  clear hu hdn hT
  go_enter Tryd.func33, Tryd.ntmps33
  go_wp2_with fail
  have hbA : ∀ o : Obj, Below w.heap.size w (w.alloc o) := fun o => (Below.refl _ _).alloc (Nat.le_refl _) _
  refine (gcd_c u d _ _ _ (isNat_below (unhide Hu) (hbA _)) (isNat_below (unhide Hd) (hbA _)) (by omega) (by omega)).mono ?_
  rintro e w1 ⟨⟨vg, rfl, hvg⟩, hb1⟩
  have hb0 := below_alloc_size hb1
  have hz0 : w.heap.size + 1 ≤ w1.heap.size := by have := hb1.size; simpa using this
  have hbu1 := below_new hb0
  have Hvg := hide hvg
  have Hn1 := hide (And.intro hb0 hz0)
  clear hvg hb1 hb0 hz0
  go_wp2_with fail
  refine (over_c u _ _ _ _ (isNat_below (unhide Hu) hbu1) (unhide Hvg) (by omega) (by omega) hg).mono ?_
  rintro e w2 ⟨⟨v1, v1r, rfl, hv1, _⟩, hb2⟩
  have hn2 := below_next (unhide Hn1).1 (unhide Hn1).2 hb2
  have hbu2 := below_new hn2.1
  have Hv1 := hide hv1
  have Hvg2 := hide (isNat_below (unhide Hvg) hb2)
  have Hn2 := hide hn2
  clear hv1 hb2 hn2 hbu1
  go_wp2_with fail
  refine (over_c d _ _ _ _ (isNat_below (unhide Hd) hbu2) (unhide Hvg2) (by omega) (by omega) hg).mono ?_
  rintro e w3 ⟨⟨v2, v2r, rfl, hv2, _⟩, hb3⟩
  have hn3 := below_next (unhide Hn2).1 (unhide Hn2).2 hb3
  have HV1 := hide (isNat_below (unhide Hv1) hb3)
  have HV2 := hide hv2
  have HT3 := hide ((unhide HT).below (below_new hn3.1))
  have Hn3 := hide hn3
  clear hv2 hb3 hn3 hbu2 Hv1 Hvg2 Hn2 Hn1 Hvg hbA
  generalize hqu : u / Nat.gcd u d = qu at *
  generalize hqd : d / Nat.gcd u d = qd at *
  clear hqu hqd
  obtain ⟨p1, cp1, hv1s⟩ := own_slice (unhide HV1)
  subst hv1s
  by_cases hq0 : qu = 0
  · have hl0 : decide (0 < (gr qu).length) = false := by have := gr_len0.2 hq0; rw [decide_eq_false_iff_not]; omega
    have Hsg : Hid ((neg && qu != 0) = false) := by show _ = _; rw [hq0]; simp
    clear hq0
    cases neg with
    | false =>
      -- false: the sign as it comes out
      go_wp2_with fail
      refine (decimals_c qu _ _ (unhide HV1) (by omega) (unhide HT3)).mono ?_
      rintro e w4 ⟨rfl, hb4⟩
      have hn4 := below_next (unhide Hn3).1 (unhide Hn3).2 hb4
      have hv2 := isNat_below (unhide HV2) hb4
      have hT4 := (unhide HT3).below hb4
      have HV2' := hide hv2
      have HT4 := hide hT4
      have Hn4 := hide hn4
      clear hv2 hT4 hn4 hb4
      go_wp2_with fail
      refine (decimals_c qd _ _ (unhide HV2') (by omega) (unhide HT4)).mono ?_
      rintro e w5 ⟨rfl, hb5⟩
      have hn5 := below_next (unhide Hn4).1 (unhide Hn4).2 hb5
      have c0 := newcell hn5.1 0
      have c1 := newcell hn5.1 1
      have c2 := newcell hn5.1 2
      have f0 := newfree hn5.1 0
      have f1 := newfree hn5.1 1
      have f2 := newfree hn5.1 2
      have hbX := below_new hn5.1
      simp at c0 c1 c2
      have hbb : w.heap.size < w5.heap.size := hn5.2
      clear hb5 hn5
      by_cases h1 : 60 < (dec qu).size
      · rw [if_pos (.inl h1)] at Hlow
        go_wp2
        refine bodyPost_ret (v := numAns none) (by simp [results, Tryd.results33, go_sem, numAns, numO, noNum, numV, c0, c1, c2, hbb]) rfl ⟨by rw [unhide Hlow], ?_⟩
        exact below_three_alloc hbX hbX.size _ (Nat.le_refl _) _ _ _ _
      · by_cases h2 : 60 < (dec qd).size
        · rw [if_pos (.inr h2)] at Hlow
          go_wp2
          refine bodyPost_ret (v := numAns none) (by simp [results, Tryd.results33, go_sem, numAns, numO, noNum, numV, c0, c1, c2, hbb]) rfl ⟨by rw [unhide Hlow], ?_⟩
          exact below_three_alloc hbX hbX.size _ (Nat.le_refl _) _ _ _ _
        · rw [if_neg (by rintro (h | h); exact h1 h; exact h2 h)] at Hlow
          go_wp2
          refine bodyPost_ret (v := numAns (some (false, qu, qd))) (by simp [results, Tryd.results33, go_sem, numAns, numO, numV, c0, c1, c2, hbb]) rfl ⟨by rw [unhide Hlow, unhide Hsg], ?_⟩
          exact below_three_alloc hbX hbX.size _ (Nat.le_refl _) _ _ _ _
    | true =>
      -- false: the sign as it comes out
      go_wp2_with fail
      refine (decimals_c qu _ _ (unhide HV1) (by omega) (unhide HT3)).mono ?_
      rintro e w4 ⟨rfl, hb4⟩
      have hn4 := below_next (unhide Hn3).1 (unhide Hn3).2 hb4
      have hv2 := isNat_below (unhide HV2) hb4
      have hT4 := (unhide HT3).below hb4
      have HV2' := hide hv2
      have HT4 := hide hT4
      have Hn4 := hide hn4
      clear hv2 hT4 hn4 hb4
      go_wp2_with fail
      refine (decimals_c qd _ _ (unhide HV2') (by omega) (unhide HT4)).mono ?_
      rintro e w5 ⟨rfl, hb5⟩
      have hn5 := below_next (unhide Hn4).1 (unhide Hn4).2 hb5
      have c0 := newcell hn5.1 0
      have c1 := newcell hn5.1 1
      have c2 := newcell hn5.1 2
      have f0 := newfree hn5.1 0
      have f1 := newfree hn5.1 1
      have f2 := newfree hn5.1 2
      have hbX := below_new hn5.1
      simp at c0 c1 c2
      have hbb : w.heap.size < w5.heap.size := hn5.2
      clear hb5 hn5
      by_cases h1 : 60 < (dec qu).size
      · rw [if_pos (.inl h1)] at Hlow
        go_wp2
        refine bodyPost_ret (v := numAns none) (by simp [results, Tryd.results33, go_sem, numAns, numO, noNum, numV, c0, c1, c2, hbb]) rfl ⟨by rw [unhide Hlow], ?_⟩
        exact below_three_alloc hbX hbX.size _ (Nat.le_refl _) _ _ _ _
      · by_cases h2 : 60 < (dec qd).size
        · rw [if_pos (.inr h2)] at Hlow
          go_wp2
          refine bodyPost_ret (v := numAns none) (by simp [results, Tryd.results33, go_sem, numAns, numO, noNum, numV, c0, c1, c2, hbb]) rfl ⟨by rw [unhide Hlow], ?_⟩
          exact below_three_alloc hbX hbX.size _ (Nat.le_refl _) _ _ _ _
        · rw [if_neg (by rintro (h | h); exact h1 h; exact h2 h)] at Hlow
          go_wp2
          refine bodyPost_ret (v := numAns (some (false, qu, qd))) (by simp [results, Tryd.results33, go_sem, numAns, numO, numV, c0, c1, c2, hbb]) rfl ⟨by rw [unhide Hlow, unhide Hsg], ?_⟩
          exact below_three_alloc hbX hbX.size _ (Nat.le_refl _) _ _ _ _
  · have hl0 : decide (0 < (gr qu).length) = true := by have := mt gr_len0.1 hq0; rw [decide_eq_true_eq]; omega
    cases neg with
    | false =>
      have Hsg : Hid ((false && qu != 0) = false) := rfl
      clear hq0
      -- false: the sign as it comes out
      go_wp2_with fail
      refine (decimals_c qu _ _ (unhide HV1) (by omega) (unhide HT3)).mono ?_
      rintro e w4 ⟨rfl, hb4⟩
      have hn4 := below_next (unhide Hn3).1 (unhide Hn3).2 hb4
      have hv2 := isNat_below (unhide HV2) hb4
      have hT4 := (unhide HT3).below hb4
      have HV2' := hide hv2
      have HT4 := hide hT4
      have Hn4 := hide hn4
      clear hv2 hT4 hn4 hb4
      go_wp2_with fail
      refine (decimals_c qd _ _ (unhide HV2') (by omega) (unhide HT4)).mono ?_
      rintro e w5 ⟨rfl, hb5⟩
      have hn5 := below_next (unhide Hn4).1 (unhide Hn4).2 hb5
      have c0 := newcell hn5.1 0
      have c1 := newcell hn5.1 1
      have c2 := newcell hn5.1 2
      have f0 := newfree hn5.1 0
      have f1 := newfree hn5.1 1
      have f2 := newfree hn5.1 2
      have hbX := below_new hn5.1
      simp at c0 c1 c2
      have hbb : w.heap.size < w5.heap.size := hn5.2
      clear hb5 hn5
      by_cases h1 : 60 < (dec qu).size
      · rw [if_pos (.inl h1)] at Hlow
        go_wp2
        refine bodyPost_ret (v := numAns none) (by simp [results, Tryd.results33, go_sem, numAns, numO, noNum, numV, c0, c1, c2, hbb]) rfl ⟨by rw [unhide Hlow], ?_⟩
        exact below_three_alloc hbX hbX.size _ (Nat.le_refl _) _ _ _ _
      · by_cases h2 : 60 < (dec qd).size
        · rw [if_pos (.inr h2)] at Hlow
          go_wp2
          refine bodyPost_ret (v := numAns none) (by simp [results, Tryd.results33, go_sem, numAns, numO, noNum, numV, c0, c1, c2, hbb]) rfl ⟨by rw [unhide Hlow], ?_⟩
          exact below_three_alloc hbX hbX.size _ (Nat.le_refl _) _ _ _ _
        · rw [if_neg (by rintro (h | h); exact h1 h; exact h2 h)] at Hlow
          go_wp2
          refine bodyPost_ret (v := numAns (some (false, qu, qd))) (by simp [results, Tryd.results33, go_sem, numAns, numO, numV, c0, c1, c2, hbb]) rfl ⟨by rw [unhide Hlow, unhide Hsg], ?_⟩
          exact below_three_alloc hbX hbX.size _ (Nat.le_refl _) _ _ _ _
    | true =>
      have Hsg : Hid ((true && qu != 0) = true) := by show _ = _; rw [bne_iff_ne.2 hq0]; rfl
      clear hq0
      -- true: the sign as it comes out
      go_wp2_with fail
      refine (decimals_c qu _ _ (unhide HV1) (by omega) (unhide HT3)).mono ?_
      rintro e w4 ⟨rfl, hb4⟩
      have hn4 := below_next (unhide Hn3).1 (unhide Hn3).2 hb4
      have hv2 := isNat_below (unhide HV2) hb4
      have hT4 := (unhide HT3).below hb4
      have HV2' := hide hv2
      have HT4 := hide hT4
      have Hn4 := hide hn4
      clear hv2 hT4 hn4 hb4
      go_wp2_with fail
      refine (decimals_c qd _ _ (unhide HV2') (by omega) (unhide HT4)).mono ?_
      rintro e w5 ⟨rfl, hb5⟩
      have hn5 := below_next (unhide Hn4).1 (unhide Hn4).2 hb5
      have c0 := newcell hn5.1 0
      have c1 := newcell hn5.1 1
      have c2 := newcell hn5.1 2
      have f0 := newfree hn5.1 0
      have f1 := newfree hn5.1 1
      have f2 := newfree hn5.1 2
      have hbX := below_new hn5.1
      simp at c0 c1 c2
      have hbb : w.heap.size < w5.heap.size := hn5.2
      clear hb5 hn5
      by_cases h1 : 60 < (dec qu).size
      · rw [if_pos (.inl h1)] at Hlow
        go_wp2
        refine bodyPost_ret (v := numAns none) (by simp [results, Tryd.results33, go_sem, numAns, numO, noNum, numV, c0, c1, c2, hbb]) rfl ⟨by rw [unhide Hlow], ?_⟩
        exact below_three_alloc hbX hbX.size _ (Nat.le_refl _) _ _ _ _
      · by_cases h2 : 60 < (dec qd).size
        · rw [if_pos (.inr h2)] at Hlow
          go_wp2
          refine bodyPost_ret (v := numAns none) (by simp [results, Tryd.results33, go_sem, numAns, numO, noNum, numV, c0, c1, c2, hbb]) rfl ⟨by rw [unhide Hlow], ?_⟩
          exact below_three_alloc hbX hbX.size _ (Nat.le_refl _) _ _ _ _
        · rw [if_neg (by rintro (h | h); exact h1 h; exact h2 h)] at Hlow
          go_wp2
          refine bodyPost_ret (v := numAns (some (true, qu, qd))) (by simp [results, Tryd.results33, go_sem, numAns, numO, numV, c0, c1, c2, hbb]) rfl ⟨by rw [unhide Hlow, unhide Hsg], ?_⟩
          exact below_three_alloc hbX hbX.size _ (Nat.le_refl _) _ _ _ _
end Go.Proofs.YtijgolgfcgkbiaaDoor
namespace Go.Proofs.YtijgolgfcgkbiaaDoor
open Go.RowKit Nt

theorem okM_plain (neg : Bool) (u d : List UInt8) : okM neg u d = (plain u && plain d && decide (valDec d ≠ 0) && !(neg && decide (valDec u = 0)) && decide (Nat.gcd (valDec u) (valDec d) = 1)) := by
  unfold okM plain
  cases decide (u.length ≤ 60) <;> cases decide (d.length ≤ 60) <;> cases isDec u <;> cases isDec d <;> simp

theorem dec_gr {x n : Nat} (h : (dec x).size ≤ n) : (gr x).length ≤ n := by
  have h1 := dec_lt x
  apply dg_len_le (by omega)
  have h2 : (10 : Nat) ^ (dec x).size ≤ 1000000000 ^ n := Nat.le_trans (Nat.pow_le_pow_left (by omega) _) (Nat.pow_le_pow_right (by omega) h)
  omega


set_option maxRecDepth 100000 in
set_option maxHeartbeats 4000000 in
theorem implNumOk_no (neg : Bool) (u d : List UInt8) (w : World) (hsu : u.length ≤ 1000000000) (hsd : d.length ≤ 1000000000) (h : (plain u && plain d) = false) :
    Calls Tryd.prog 8 #[numB neg u d] w fun e w' => e = .returned (.bool (okM neg u d)) ∧ Below w.heap.size w w' := by
  have Hok : Hid (okM neg u d = false) := by show _ = _; rw [okM_plain, h]; simp
  unfold numB
  have h1 := fun w => numPlain_c u w hsu
  have h2 := fun w => numPlain_c d w hsd
  have H2 := hide h2
  cases hu : plain u with
  | false =>
    rw [hu] at h1
    have H1 := hide h1
    clear h hu h1 h2
    go_enter Tryd.func8, Tryd.ntmps8
    go_wp2_with fail
    refine (unhide H1 _).mono ?_
    rintro e w1 ⟨rfl, hb1⟩
    have hb0 := below_alloc_size hb1
    have hz0 : w.heap.size + 1 ≤ w1.heap.size := by have := hb1.size; simpa using this
    clear hb1
    go_wp2
    go_ret
    exact ⟨ret_bool (unhide Hok).symm, below_new hb0⟩
  | true =>
    rw [hu] at h1 h
    have hd : plain d = false := by simpa using h
    rw [hd] at H2
    have H1 := hide h1
    clear h hu hd h1 h2
    go_enter Tryd.func8, Tryd.ntmps8
    go_wp2_with fail
    refine (unhide H1 _).mono ?_
    rintro e w1 ⟨rfl, hb1⟩
    have hb0 := below_alloc_size hb1
    have hz0 : w.heap.size + 1 ≤ w1.heap.size := by have := hb1.size; simpa using this
    clear hb1
    -- hb0: the Below from the box on
    have c0 := newcell hb0 0
    have c1 := newcell hb0 1
    have c2 := newcell hb0 2
    simp at c0 c1 c2
    go_wp2_with fail
    refine (unhide H2 _).mono ?_
    rintro e w2 ⟨rfl, hb2⟩
    have hn2 := below_next hb0 hz0 hb2
    go_wp2
    go_ret
    exact ⟨ret_bool (unhide Hok).symm, below_new hn2.1⟩



set_option maxRecDepth 100000 in
set_option maxHeartbeats 4000000 in
theorem implNumOk_yes (neg : Bool) (u d : List UInt8) (w : World) (hu : plain u = true) (hd : plain d = true) (hT : Tens w) :
    Calls Tryd.prog 8 #[numB neg u d] w fun e w' => e = .returned (.bool (okM neg u d)) ∧ Below w.heap.size w w' := by
  have hu' := hu
  have hd' := hd
  unfold plain at hu' hd'
  simp only [Bool.and_eq_true, decide_eq_true_eq] at hu' hd'
  have Hok : Hid (okM neg u d = (decide (valDec d ≠ 0) && !(neg && decide (valDec u = 0)) && decide (Nat.gcd (valDec u) (valDec d) = 1))) := by
    show _ = _; rw [okM_plain, hu, hd]; simp
  have h1 := fun w => numPlain_c u w (by omega)
  have h2 := fun w => numPlain_c d w (by omega)
  rw [hu] at h1
  rw [hd] at h2
  have Bu : B u = dec (valDec u) := by unfold dec txt; rw [← isDec_val hu'.1]
  have Bd : B d = dec (valDec d) := by unfold dec txt; rw [← isDec_val hd'.1]
  have hau := B_size u
  have had := B_size d
  unfold numB
  rw [Bu] at h1 hau
  rw [Bd] at h2 had
  rw [Bu, Bd]
  have HT := hide hT
  have H1 := hide h1
  have H2 := hide h2
  generalize valDec u = a at *
  generalize valDec d = q at *
  have hsa : (dec a).size ≤ 60 := by omega
  have hsq : (dec q).size ≤ 60 := by omega
  have hga := dec_gr hsa
  have hgq := dec_gr hsq
  have ha0 := dec_is0 a
  have hq0 := dec_is0 q
  clear h1 h2 Bu Bd hu hd hu' hd' hau had hT
  by_cases hq : q = 0
  · rw [decide_eq_true hq] at hq0
    have Hok : Hid (okM neg u d = false) := by show _ = _; rw [unhide Hok]; simp [hq]
    clear hq
    go_enter Tryd.func8, Tryd.ntmps8
    go_wp2_with fail
    refine (unhide H1 _).mono ?_
    rintro e w1 ⟨rfl, hb1⟩
    have hb0 := below_alloc_size hb1
    have hz0 : w.heap.size + 1 ≤ w1.heap.size := by have := hb1.size; simpa using this
    clear hb1
    -- hb0: the Below from the box on
    have c0 := newcell hb0 0
    have c1 := newcell hb0 1
    have c2 := newcell hb0 2
    simp at c0 c1 c2
    go_wp2_with fail
    refine (unhide H2 _).mono ?_
    rintro e w2 ⟨rfl, hb2⟩
    have hn2 := below_next hb0 hz0 hb2
    clear c0 c1 c2 hb2 hb0 hz0
    -- hn2.1: the Below from the box on
    have c0 := newcell hn2.1 0
    have c1 := newcell hn2.1 1
    have c2 := newcell hn2.1 2
    simp at c0 c1 c2
    go_wp2
    go_ret
    exact ⟨ret_bool (unhide Hok).symm, below_new hn2.1⟩
  · rw [decide_eq_false hq] at hq0
    have hgg : (gr (Nat.gcd a q)).length ≤ 60 := gr_le_of_le (Nat.gcd_le_right a (by omega)) hgq
    cases neg with
    | false =>
      have Hok : Hid (okM false u d = decide (Nat.gcd a q = 1)) := by show _ = _; rw [unhide Hok]; simp [hq]
      clear hq
      go_enter Tryd.func8, Tryd.ntmps8
      go_wp2_with fail
      refine (unhide H1 _).mono ?_
      rintro e w1 ⟨rfl, hb1⟩
      have hb0 := below_alloc_size hb1
      have hz0 : w.heap.size + 1 ≤ w1.heap.size := by have := hb1.size; simpa using this
      clear hb1
      -- hb0: the Below from the box on
      have c0 := newcell hb0 0
      have c1 := newcell hb0 1
      have c2 := newcell hb0 2
      simp at c0 c1 c2
      go_wp2_with fail
      refine (unhide H2 _).mono ?_
      rintro e w2 ⟨rfl, hb2⟩
      have hn2 := below_next hb0 hz0 hb2
      clear c0 c1 c2 hb2 hb0 hz0
      -- hn2.1: the Below from the box on
      have c0 := newcell hn2.1 0
      have c1 := newcell hn2.1 1
      have c2 := newcell hn2.1 2
      simp at c0 c1 c2
      have HT2 := hide ((unhide HT).below (below_new hn2.1))
      have HW : Hid (Below (w.heap.size + 1) (w.alloc (.cells #[.bool false, .string (dec a), .string (dec q)] 26)) w2.drew ∧ w.heap.size + 1 ≤ w2.drew.heap.size) := hide ⟨hn2.1.drew, hn2.2⟩
      have HC : Hid (∀ wx : World, Below w2.drew.heap.size w2.drew wx → wx.cell? ⟨w.heap.size, 1, none⟩ = some (.string (dec a)) ∧ wx.cell? ⟨w.heap.size, 2, none⟩ = some (.string (dec q))) := by
        intro wx hx
        have hlt : w.heap.size < w2.drew.heap.size := hn2.2
        exact ⟨by rw [hx.cell (p := ⟨w.heap.size, 1, none⟩) hlt]; exact c1, by rw [hx.cell (p := ⟨w.heap.size, 2, none⟩) hlt]; exact c2⟩
      go_wp2
      go_region_with (first | (go_at_call_of 41 (dec a); refine (natRead_c a _ (by omega) (by first | exact (unhide HT2) | exact Tens.below (w := w2.drew) (unhide HT2) (by assumption))).mono ?_; rintro e wa ⟨⟨va, rfl, hva⟩, hba⟩; have Hva := hide hva; have Hba := hide hba; clear hva; have ca1 : wa.cell? ⟨w.heap.size, 1, none⟩ = some (.string (dec a)) := (by first | exact (unhide HC _ hba).1 | exact (unhide HC _ ((unhide Hbq).trans (hba.mono (unhide Hbq).size))).1); have ca2 : wa.cell? ⟨w.heap.size, 2, none⟩ = some (.string (dec q)) := (by first | exact (unhide HC _ hba).2 | exact (unhide HC _ ((unhide Hbq).trans (hba.mono (unhide Hbq).size))).2)) | (go_at_call_of 41 (dec q); refine (natRead_c q _ (by omega) (by first | exact (unhide HT2) | exact Tens.below (w := w2.drew) (unhide HT2) (by assumption))).mono ?_; rintro e wq ⟨⟨vq, rfl, hvq⟩, hbq⟩; have Hvq := hide hvq; have Hbq := hide hbq; clear hvq; have cq1 : wq.cell? ⟨w.heap.size, 1, none⟩ = some (.string (dec a)) := (by first | exact (unhide HC _ hbq).1 | exact (unhide HC _ ((unhide Hba).trans (hbq.mono (unhide Hba).size))).1); have cq2 : wq.cell? ⟨w.heap.size, 2, none⟩ = some (.string (dec q)) := (by first | exact (unhide HC _ hbq).2 | exact (unhide HC _ ((unhide Hba).trans (hbq.mono (unhide Hba).size))).2)) | (go_at_call 42; refine (gcd_c a q va vq _ (by first | exact unhide Hva | exact isNat_below (unhide Hva) (unhide Hbq)) (by first | exact unhide Hvq | exact isNat_below (unhide Hvq) (unhide Hba)) (by omega) (by omega)).mono ?_; rintro e wg ⟨⟨vg, rfl, hvg⟩, hbg⟩; have Hvg := hide hvg; have Hbg := hide hbg; clear hvg) | (go_at_call 43; refine (isOne_c (Nat.gcd a q) vg _ (unhide Hvg) (by omega)).mono ?_; rintro e wi ⟨rfl, rfl⟩))
      all_goals
        go_wp2
        go_ret
        refine ⟨ret_bool (unhide Hok).symm, below_new (o := .cells #[.bool false, .string (dec a), .string (dec q)] 26) ?_⟩
        first
          | exact (below_next (below_next (below_next (unhide HW).1 (unhide HW).2 (unhide Hba)).1 (below_next (unhide HW).1 (unhide HW).2 (unhide Hba)).2 (unhide Hbq)).1 (below_next (below_next (unhide HW).1 (unhide HW).2 (unhide Hba)).1 (below_next (unhide HW).1 (unhide HW).2 (unhide Hba)).2 (unhide Hbq)).2 (unhide Hbg)).1
          | exact (below_next (below_next (below_next (unhide HW).1 (unhide HW).2 (unhide Hbq)).1 (below_next (unhide HW).1 (unhide HW).2 (unhide Hbq)).2 (unhide Hba)).1 (below_next (below_next (unhide HW).1 (unhide HW).2 (unhide Hbq)).1 (below_next (unhide HW).1 (unhide HW).2 (unhide Hbq)).2 (unhide Hba)).2 (unhide Hbg)).1
    | true =>
      by_cases ha : a = 0
      · rw [decide_eq_true ha] at ha0
        have Hok : Hid (okM true u d = false) := by show _ = _; rw [unhide Hok]; simp [ha]
        clear hq ha
        go_enter Tryd.func8, Tryd.ntmps8
        go_wp2_with fail
        refine (unhide H1 _).mono ?_
        rintro e w1 ⟨rfl, hb1⟩
        have hb0 := below_alloc_size hb1
        have hz0 : w.heap.size + 1 ≤ w1.heap.size := by have := hb1.size; simpa using this
        clear hb1
        -- hb0: the Below from the box on
        have c0 := newcell hb0 0
        have c1 := newcell hb0 1
        have c2 := newcell hb0 2
        simp at c0 c1 c2
        go_wp2_with fail
        refine (unhide H2 _).mono ?_
        rintro e w2 ⟨rfl, hb2⟩
        have hn2 := below_next hb0 hz0 hb2
        clear c0 c1 c2 hb2 hb0 hz0
        -- hn2.1: the Below from the box on
        have c0 := newcell hn2.1 0
        have c1 := newcell hn2.1 1
        have c2 := newcell hn2.1 2
        simp at c0 c1 c2
        go_wp2
        go_ret
        exact ⟨ret_bool (unhide Hok).symm, below_new hn2.1⟩
      · rw [decide_eq_false ha] at ha0
        have Hok : Hid (okM true u d = decide (Nat.gcd a q = 1)) := by show _ = _; rw [unhide Hok]; simp [hq, ha]
        clear hq ha
        go_enter Tryd.func8, Tryd.ntmps8
        go_wp2_with fail
        refine (unhide H1 _).mono ?_
        rintro e w1 ⟨rfl, hb1⟩
        have hb0 := below_alloc_size hb1
        have hz0 : w.heap.size + 1 ≤ w1.heap.size := by have := hb1.size; simpa using this
        clear hb1
        -- hb0: the Below from the box on
        have c0 := newcell hb0 0
        have c1 := newcell hb0 1
        have c2 := newcell hb0 2
        simp at c0 c1 c2
        go_wp2_with fail
        refine (unhide H2 _).mono ?_
        rintro e w2 ⟨rfl, hb2⟩
        have hn2 := below_next hb0 hz0 hb2
        clear c0 c1 c2 hb2 hb0 hz0
        -- hn2.1: the Below from the box on
        have c0 := newcell hn2.1 0
        have c1 := newcell hn2.1 1
        have c2 := newcell hn2.1 2
        simp at c0 c1 c2
        have HT2 := hide ((unhide HT).below (below_new hn2.1))
        have HW : Hid (Below (w.heap.size + 1) (w.alloc (.cells #[.bool true, .string (dec a), .string (dec q)] 26)) w2.drew ∧ w.heap.size + 1 ≤ w2.drew.heap.size) := hide ⟨hn2.1.drew, hn2.2⟩
        have HC : Hid (∀ wx : World, Below w2.drew.heap.size w2.drew wx → wx.cell? ⟨w.heap.size, 1, none⟩ = some (.string (dec a)) ∧ wx.cell? ⟨w.heap.size, 2, none⟩ = some (.string (dec q))) := by
          intro wx hx
          have hlt : w.heap.size < w2.drew.heap.size := hn2.2
          exact ⟨by rw [hx.cell (p := ⟨w.heap.size, 1, none⟩) hlt]; exact c1, by rw [hx.cell (p := ⟨w.heap.size, 2, none⟩) hlt]; exact c2⟩
        go_wp2
        go_region_with (first | (go_at_call_of 41 (dec a); refine (natRead_c a _ (by omega) (by first | exact (unhide HT2) | exact Tens.below (w := w2.drew) (unhide HT2) (by assumption))).mono ?_; rintro e wa ⟨⟨va, rfl, hva⟩, hba⟩; have Hva := hide hva; have Hba := hide hba; clear hva; have ca1 : wa.cell? ⟨w.heap.size, 1, none⟩ = some (.string (dec a)) := (by first | exact (unhide HC _ hba).1 | exact (unhide HC _ ((unhide Hbq).trans (hba.mono (unhide Hbq).size))).1); have ca2 : wa.cell? ⟨w.heap.size, 2, none⟩ = some (.string (dec q)) := (by first | exact (unhide HC _ hba).2 | exact (unhide HC _ ((unhide Hbq).trans (hba.mono (unhide Hbq).size))).2)) | (go_at_call_of 41 (dec q); refine (natRead_c q _ (by omega) (by first | exact (unhide HT2) | exact Tens.below (w := w2.drew) (unhide HT2) (by assumption))).mono ?_; rintro e wq ⟨⟨vq, rfl, hvq⟩, hbq⟩; have Hvq := hide hvq; have Hbq := hide hbq; clear hvq; have cq1 : wq.cell? ⟨w.heap.size, 1, none⟩ = some (.string (dec a)) := (by first | exact (unhide HC _ hbq).1 | exact (unhide HC _ ((unhide Hba).trans (hbq.mono (unhide Hba).size))).1); have cq2 : wq.cell? ⟨w.heap.size, 2, none⟩ = some (.string (dec q)) := (by first | exact (unhide HC _ hbq).2 | exact (unhide HC _ ((unhide Hba).trans (hbq.mono (unhide Hba).size))).2)) | (go_at_call 42; refine (gcd_c a q va vq _ (by first | exact unhide Hva | exact isNat_below (unhide Hva) (unhide Hbq)) (by first | exact unhide Hvq | exact isNat_below (unhide Hvq) (unhide Hba)) (by omega) (by omega)).mono ?_; rintro e wg ⟨⟨vg, rfl, hvg⟩, hbg⟩; have Hvg := hide hvg; have Hbg := hide hbg; clear hvg) | (go_at_call 43; refine (isOne_c (Nat.gcd a q) vg _ (unhide Hvg) (by omega)).mono ?_; rintro e wi ⟨rfl, rfl⟩))
        all_goals
          go_wp2
          go_ret
          refine ⟨ret_bool (unhide Hok).symm, below_new (o := .cells #[.bool true, .string (dec a), .string (dec q)] 26) ?_⟩
          first
            | exact (below_next (below_next (below_next (unhide HW).1 (unhide HW).2 (unhide Hba)).1 (below_next (unhide HW).1 (unhide HW).2 (unhide Hba)).2 (unhide Hbq)).1 (below_next (below_next (unhide HW).1 (unhide HW).2 (unhide Hba)).1 (below_next (unhide HW).1 (unhide HW).2 (unhide Hba)).2 (unhide Hbq)).2 (unhide Hbg)).1
            | exact (below_next (below_next (below_next (unhide HW).1 (unhide HW).2 (unhide Hbq)).1 (below_next (unhide HW).1 (unhide HW).2 (unhide Hbq)).2 (unhide Hba)).1 (below_next (below_next (unhide HW).1 (unhide HW).2 (unhide Hbq)).1 (below_next (unhide HW).1 (unhide HW).2 (unhide Hbq)).2 (unhide Hba)).2 (unhide Hbg)).1

theorem implNumOk_c (neg : Bool) (u d : List UInt8) (w : World) (hsu : u.length ≤ 1000000000) (hsd : d.length ≤ 1000000000) (hT : Tens w) :
    Calls Tryd.prog 8 #[numB neg u d] w fun e w' => e = .returned (.bool (okM neg u d)) ∧ Below w.heap.size w w' := by
  cases h : plain u && plain d with
  | false => exact implNumOk_no neg u d w hsu hsd h
  | true =>
    simp only [Bool.and_eq_true] at h
    exact implNumOk_yes neg u d w h.1 h.2 hT
end Go.Proofs.YtijgolgfcgkbiaaDoor
namespace Go.Proofs.YtijgolgfcgkbiaaDoor
open Go.RowKit Nt


theorem gr_word {n : Nat} (h : n ≤ 9223372036854775808) : (gr n).length ≤ 3 := dg_len_le (by omega) (Nat.lt_of_le_of_lt h (by decide))

set_option maxRecDepth 100000 in
set_option maxHeartbeats 1000000 in
theorem implNumInt_c (i : Int) (w : World) (h0 : -9223372036854775808 ≤ i) (h1 : i ≤ 9223372036854775807) (hT : Tens w) :
    Calls Tryd.prog 13 #[.int .i64 i] w fun e w' => e = .returned (intV i) ∧ Below w.heap.size w w' := by
  have HT := hide hT
  clear hT
  by_cases hi : 0 ≤ i
  · obtain ⟨n, rfl⟩ := Int.eq_ofNat_of_zero_le hi
    have Hf : Hid (intV (n : Int) = numV false (dec n) ⟨#[49]⟩) := by
      show _ = _; unfold intV; rw [decide_eq_false (by omega), dec_one]; simp
    have ew : IntKind.wrap .u64 (n : Int) = (n : Int) := wu64 _ (by omega) (by omega)
    have el : decide ((n : Int) < 0) = false := decide_eq_false (by omega)
    have hg := gr_word (n := n) (by omega)
    go_enter Tryd.func13, Tryd.ntmps13
    -- n: the size of the integer
    go_wp2_with fail
    refine (natOf_c (n) _ (by omega)).mono ?_
    rintro e w1 ⟨⟨v, rfl, hv⟩, hb1⟩
    have hb0 := below_alloc_size hb1
    have hz0 : w.heap.size + 1 ≤ w1.heap.size := by have := hb1.size; simpa using this
    have Hv := hide hv
    have HT1 := hide ((unhide HT).below (below_new hb0))
    clear hv
    go_wp2_with fail
    refine (decimals_c (n) v _ (unhide Hv) (by omega) (unhide HT1)).mono ?_
    rintro e w2 ⟨rfl, hb2⟩
    have hn2 := below_next hb0 hz0 hb2
    have c0 := newcell hn2.1 0
    have c1 := newcell hn2.1 1
    have c2 := newcell hn2.1 2
    have f0 := newfree hn2.1 0
    have f1 := newfree hn2.1 1
    have f2 := newfree hn2.1 2
    have hbX := below_new hn2.1
    simp at c0 c1 c2
    clear hb1 hb0 hb2 hn2 hz0
    go_wp2
    refine bodyPost_ret (v := numV false (dec n) ⟨#[49]⟩) (by simp [results, Tryd.results13, go_sem, numV, c0, c1, c2]) rfl ⟨by rw [unhide Hf], ?_⟩
    exact below_three hbX _ (Nat.le_refl _) _ _ _
  · obtain ⟨n, hn⟩ := Int.eq_ofNat_of_zero_le (show 0 ≤ -(i + 1) by omega)
    have hn' : i = -(n : Int) - 1 := by omega
    subst hn'
    have Hf : Hid (intV (-(n : Int) - 1) = numV true (dec (n + 1)) ⟨#[49]⟩) := by
      show _ = _; unfold intV; rw [decide_eq_true (by omega), dec_one, show (-(n : Int) - 1).natAbs = n + 1 from by omega]
    have ew : IntKind.wrap .u64 (-(n : Int) - 1) = 18446744073709551615 - (n : Int) := by rw [IntKind.wrap_u64]; omega
    have en : IntKind.wrap .u64 (-(18446744073709551615 - (n : Int))) = ((n + 1 : Nat) : Int) := by rw [IntKind.wrap_u64]; omega
    have el : decide (-(n : Int) - 1 < 0) = true := decide_eq_true (by omega)
    have hg := gr_word (n := n + 1) (by omega)
    clear hn
    go_enter Tryd.func13, Tryd.ntmps13
    -- n + 1: the size of the integer
    go_wp2_with fail
    refine (natOf_c (n + 1) _ (by omega)).mono ?_
    rintro e w1 ⟨⟨v, rfl, hv⟩, hb1⟩
    have hb0 := below_alloc_size hb1
    have hz0 : w.heap.size + 1 ≤ w1.heap.size := by have := hb1.size; simpa using this
    have Hv := hide hv
    have HT1 := hide ((unhide HT).below (below_new hb0))
    clear hv
    go_wp2_with fail
    refine (decimals_c (n + 1) v _ (unhide Hv) (by omega) (unhide HT1)).mono ?_
    rintro e w2 ⟨rfl, hb2⟩
    have hn2 := below_next hb0 hz0 hb2
    have c0 := newcell hn2.1 0
    have c1 := newcell hn2.1 1
    have c2 := newcell hn2.1 2
    have f0 := newfree hn2.1 0
    have f1 := newfree hn2.1 1
    have f2 := newfree hn2.1 2
    have hbX := below_new hn2.1
    simp at c0 c1 c2
    clear hb1 hb0 hb2 hn2 hz0
    go_wp2
    refine bodyPost_ret (v := numV true (dec (n + 1)) ⟨#[49]⟩) (by simp [results, Tryd.results13, go_sem, numV, c0, c1, c2]) rfl ⟨by rw [unhide Hf], ?_⟩
    exact below_three hbX _ (Nat.le_refl _) _ _ _
end Go.Proofs.YtijgolgfcgkbiaaDoor
namespace Go.Proofs.YtijgolgfcgkbiaaDoor
open Go.RowKit Nt

theorem indexByte_find (c : UInt8) (l : List UInt8) : Lib.indexByte l c = findI c l := by
  unfold findI
  induction l with
  | nil => rfl
  | cons d r ih =>
    unfold Lib.indexByte findB
    by_cases h : d = c
    · simp [h]
    · simp only [h, if_false]
      cases hf : findB c r with
      | none => rw [hf] at ih; simp_all
      | some k => rw [hf] at ih; simp_all; try omega

set_option maxRecDepth 100000 in
set_option maxHeartbeats 1000000 in
theorem indexByte_c (l : List UInt8) (c : UInt8) (w : World) :
    Calls Tryd.prog 87 #[.string (B l), .int .u8 c.toNat] w fun e w' => e = .returned (.int .i64 (findI c l)) ∧ w' = w := by
  go_enter Tryd.func87, Tryd.ntmps87
  go_wp2
  rw [run_callFunc_extern Tryd.func91 (by kernel_rfl) (by kernel_rfl) (by kernel_rfl) (e := Extern.BytealgIndexByte.indexByte) (by kernel_rfl), Lib.run_indexByteString]
  simp only [Result.andThen]
  rw [Oper.upon_value]
  go_wp2
  go_ret
  refine ⟨?_, rfl⟩
  exact ret_int (by rw [B_data, indexByte_find])

set_option maxRecDepth 100000 in
set_option maxHeartbeats 1000000 in
theorem index_c (l : List UInt8) (c : UInt8) (w : World) :
    Calls Tryd.prog 86 #[.string (B l), .string (B [c])] w fun e w' => e = .returned (.int .i64 (findI c l)) ∧ w' = w := by
  have hs1 : (B [c]).size = 1 := rfl
  have hg : (B [c])[0].toNat = c.toNat := rfl
  by_cases hl : [c] = l
  · have he : ((B [c]).toList == (B l).toList) = true := by rw [B_tl, B_tl, hl]; simp
    have Hf : Hid (findI c l = 0) := by show _ = _; rw [← hl]; simp [findI, findB]
    clear hl
    go_enter Tryd.func86, Tryd.ntmps86
    go_wp2
    go_ret
    exact ⟨ret_int (unhide Hf).symm, rfl⟩
  · have he : ((B [c]).toList == (B l).toList) = false := by rw [B_tl, B_tl, beq_eq_false_iff_ne]; exact hl
    clear hl
    go_enter Tryd.func86, Tryd.ntmps86
    go_wp2_with fail
    refine (indexByte_c l c _).mono ?_
    rintro e w1 ⟨rfl, rfl⟩
    go_wp2
    go_ret
    exact ⟨rfl, rfl⟩

/-- a text cut in two at a byte -/
def cutM (c : UInt8) (l : List UInt8) : List UInt8 × List UInt8 × Bool := match findB c l with | some k => (l.take k, l.drop (k + 1), true) | none => (l, [], false)

set_option maxRecDepth 100000 in
set_option maxHeartbeats 1000000 in
theorem cutIn_c (l : List UInt8) (c : UInt8) (w : World) (hs : l.length ≤ 1000000000) :
    Calls Tryd.prog 80 #[.string (B l), .string (B [c])] w fun e w' => e = .returned (.tuple #[.string (B (cutM c l).1), .string (B (cutM c l).2.1), .bool (cutM c l).2.2]) ∧ Below w.heap.size w w' := by
  have hs1 : (B [c]).size = 1 := rfl
  have hsz : (B l).size ≤ 1000000000 := by rw [B_size]; exact hs
  have hix := fun w => index_c l c w
  unfold cutM
  cases hf : findB c l with
  | none =>
    have hi : findI c l = -1 := by unfold findI; rw [hf]
    rw [hi] at hix
    have Hix := hide hix
    clear hix hi hf
    go_enter Tryd.func80, Tryd.ntmps80
    go_wp2_with fail
    refine (unhide Hix _).mono ?_
    rintro e w1 ⟨rfl, rfl⟩
    go_wp2
    go_ret3
    exact ⟨rfl, Below.refl _ _⟩
  | some k =>
    have hk := findB_lt hf
    have hi : findI c l = k := by unfold findI; rw [hf]
    rw [hi] at hix
    have Hix := hide hix
    have hk2 : k < (B l).size := by rw [B_size]; exact hk
    clear hix hi hf
    have c1 : (0 : Int) ≤ ↑k := by omega
    have c2 : (↑k : Int) ≤ ↑(B l).size := by omega
    have c3 : (0 : Int) ≤ ↑k + ↑(B [c]).size := by omega
    have c4 : (↑k + ↑(B [c]).size : Int) ≤ ↑(B l).size := by omega
    have c5 : (0 : Int) ≤ ↑k + 1 := by omega
    have c6 : (↑k + 1 : Int) ≤ ↑(B l).size := by omega
    have w1 := wi64 ((k : Int) + 1) (by omega) (by omega)
    go_enter Tryd.func80, Tryd.ntmps80
    go_wp2_with fail
    refine (unhide Hix _).mono ?_
    rintro e w1 ⟨rfl, rfl⟩
    go_wp2
    go_region
    go_wp2
    go_ret3
    have e1 : (B l).extract 0 k = B (l.take k) := by rw [B_extract]; rfl
    have e2 : (B l).extract (k + 1) (B l).size = B (l.drop (k + 1)) := by rw [B_extract, B_size, List.take_length]
    rw [← e1, ← e2]
    exact ⟨rfl, (Below.refl _ _).drew⟩

set_option maxRecDepth 100000 in
set_option maxHeartbeats 1000000 in
theorem cut_c (l : List UInt8) (c : UInt8) (w : World) (hs : l.length ≤ 1000000000) :
    Calls Tryd.prog 61 #[.string (B l), .string (B [c])] w fun e w' => e = .returned (.tuple #[.string (B (cutM c l).1), .string (B (cutM c l).2.1), .bool (cutM c l).2.2]) ∧ Below w.heap.size w w' := by
  go_enter Tryd.func61, Tryd.ntmps61
  go_wp2_with fail
  refine (cutIn_c l c _ hs).mono ?_
  rintro e w1 ⟨rfl, hb1⟩
  go_wp2
  go_ret3
  exact ⟨rfl, hb1⟩

set_option maxRecDepth 100000 in
set_option maxHeartbeats 1000000 in
theorem prefixIn_c (l : List UInt8) (c : UInt8) (w : World) :
    Calls Tryd.prog 60 #[.string (B l), .string (B [c])] w fun e w' => e = .returned (.bool (l.head? == some c)) ∧ w' = w := by
  have hs1 : (B [c]).size = 1 := rfl
  cases l with
  | nil =>
    have hz : (B []).size = 0 := rfl
    go_enter Tryd.func60, Tryd.ntmps60
    go_wp2
    go_ret
    exact ⟨rfl, rfl⟩
  | cons d r =>
    have hz : (B (d :: r)).size = r.length + 1 := by rw [B_size]; rfl
    have he : (((B (d :: r)).extract 0 1).toList == (B [c]).toList) = ((d :: r).head? == some c) := by
      rw [B_extract, B_tl, B_tl]; simp
    go_enter Tryd.func60, Tryd.ntmps60
    go_wp2
    go_ret
    exact ⟨ret_bool (by simp), rfl⟩

set_option maxRecDepth 100000 in
set_option maxHeartbeats 1000000 in
theorem prefix_c (l : List UInt8) (c : UInt8) (w : World) :
    Calls Tryd.prog 31 #[.string (B l), .string (B [c])] w fun e w' => e = .returned (.bool (l.head? == some c)) ∧ w' = w := by
  go_enter Tryd.func31, Tryd.ntmps31
  go_wp2_with fail
  refine (prefixIn_c l c _).mono ?_
  rintro e w1 ⟨rfl, rfl⟩
  go_wp2
  go_ret
  exact ⟨rfl, rfl⟩

set_option maxRecDepth 100000 in
set_option maxHeartbeats 1000000 in
theorem known_c (r : Int) (w : World) :
    Calls Tryd.prog 30 #[.int .i64 r] w fun e w' => e = .returned (.bool (isRadix r)) ∧ w' = w := by
  unfold isRadix
  by_cases h2 : (r == 2) = true
  · go_enter Tryd.func30, Tryd.ntmps30
    go_wp2
    go_ret
    exact ⟨ret_bool (by simp [h2]), rfl⟩
  · have h2' : (r == 2) = false := by simpa using h2
    clear h2
    by_cases h8 : (r == 8) = true
    · go_enter Tryd.func30, Tryd.ntmps30
      go_wp2
      go_ret
      exact ⟨ret_bool (by simp [h8, h2']), rfl⟩
    · have h8' : (r == 8) = false := by simpa using h8
      clear h8
      by_cases h10 : (r == 10) = true
      · go_enter Tryd.func30, Tryd.ntmps30
        go_wp2
        go_ret
        exact ⟨ret_bool (by simp [h8', h2', h10]), rfl⟩
      · have h10' : (r == 10) = false := by simpa using h10
        clear h10
        by_cases h16 : (r == 16) = true
        · go_enter Tryd.func30, Tryd.ntmps30
          go_wp2
          go_ret
          exact ⟨ret_bool (by simp [h8', h2', h10', h16]), rfl⟩
        · have h16' : (r == 16) = false := by simpa using h16
          clear h16
          go_enter Tryd.func30, Tryd.ntmps30
          go_wp2
          go_ret
          exact ⟨ret_bool (by simp [h8', h2', h10', h16']), rfl⟩
end Go.Proofs.YtijgolgfcgkbiaaDoor
namespace Go.Proofs.YtijgolgfcgkbiaaDoor
open Go.RowKit Nt

/-- what a rune stands for as a digit: 99, if for nothing -/
def digI (x : Int) : Int := if 48 ≤ x ∧ x ≤ 57 then x - 48 else if 97 ≤ x ∧ x ≤ 102 then x - 87 else 99
def digU (x : Int) : Int := if digI x = 99 then 0 else digI x

theorem digI_byte (c : UInt8) : digI (c.toNat : Int) = (digN c : Nat) := by
  unfold digI digN
  by_cases h1 : 48 ≤ c.toNat ∧ c.toNat ≤ 57
  · rw [if_pos h1, if_pos (by omega)]; omega
  · rw [if_neg h1, if_neg (by omega)]
    by_cases h2 : 97 ≤ c.toNat ∧ c.toNat ≤ 102
    · rw [if_pos h2, if_pos (by omega)]; omega
    · rw [if_neg h2, if_neg (by omega)]; rfl

set_option maxRecDepth 100000 in
set_option maxHeartbeats 1000000 in
theorem value_c (x : Int) (b : Nat) (w : World) (hb : b ≤ 16) :
    Calls Tryd.prog 81 #[.int .i64 b, .int .i32 x] w fun e w' => e = .returned (.tuple #[.int .u64 (digU x), .bool (decide (digI x < b))]) ∧ w' = w := by
  by_cases h1 : 48 ≤ x ∧ x ≤ 57
  · have hf : digI x = x - 48 := by unfold digI; rw [if_pos h1]
    have hu : digU x = x - 48 := by unfold digU; rw [hf, if_neg (by omega)]
    rw [hf, hu]
    have e1 : IntKind.wrap .i32 (x - 48) = x - 48 := by rw [IntKind.wrap_i32]; omega
    have e2 := wu64 (x - 48) (by omega) (by omega)
    have e3 := wi64 (x - 48) (by omega) (by omega)
    obtain ⟨h1a, h1b⟩ := h1
    clear hf hu
    go_enter Tryd.func81, Tryd.ntmps81
    go_wp2
    go_ret2
    exact ⟨rfl, rfl⟩
  · by_cases h2 : 97 ≤ x ∧ x ≤ 102
    · have hf : digI x = x - 87 := by unfold digI; rw [if_neg h1, if_pos h2]
      have hu : digU x = x - 87 := by unfold digU; rw [hf, if_neg (by omega)]
      rw [hf, hu]
      have e1 : IntKind.wrap .i32 (x - 87) = x - 87 := by rw [IntKind.wrap_i32]; omega
      have e2 := wu64 (x - 87) (by omega) (by omega)
      have e3 := wi64 (x - 87) (by omega) (by omega)
      have a1 : 48 ≤ x := by omega
      have a2 : ¬ x ≤ 57 := by omega
      obtain ⟨h2a, h2b⟩ := h2
      clear hf hu h1
      go_enter Tryd.func81, Tryd.ntmps81
      go_wp2
      go_ret2
      exact ⟨rfl, rfl⟩
    · have hf : digI x = 99 := by unfold digI; rw [if_neg h1, if_neg h2]
      have hu : digU x = 0 := by unfold digU; rw [hf, if_pos rfl]
      have hd : decide (digI x < b) = false := by rw [hf]; exact decide_eq_false (by omega)
      rw [hd, hu]
      clear hf hu hd
      by_cases a1 : 48 ≤ x
      · have a2 : ¬ x ≤ 57 := by omega
        by_cases a3 : 97 ≤ x
        · have a4 : ¬ x ≤ 102 := by omega
          clear h1 h2
          go_enter Tryd.func81, Tryd.ntmps81
          go_wp2
          go_ret2
          exact ⟨rfl, rfl⟩
        · clear h1 h2
          go_enter Tryd.func81, Tryd.ntmps81
          go_wp2
          go_ret2
          exact ⟨rfl, rfl⟩
      · have a3 : ¬ 97 ≤ x := by omega
        clear h1 h2
        go_enter Tryd.func81, Tryd.ntmps81
        go_wp2
        go_ret2
        exact ⟨rfl, rfl⟩

/-- the rune at a place: the byte, where it is ASCII; else no digit -/
theorem rune_hex (l : List UInt8) (pos : Nat) (h : pos < l.length) :
    ((l[pos]).toNat < 128 ∧ Utf8.decode (B l) pos = ((l[pos]).toNat, 1)) ∨ (digN (l[pos]) = 99 ∧ 128 ≤ (Utf8.decode (B l) pos).1) := by
  have h2 : pos < (B l).size := by rw [B_size]; exact h
  have hg : ((B l)[pos]'h2) = l[pos]'h := B_get l pos h2
  by_cases ha : (l[pos]).toNat < 128
  · have := decode_ascii (B l) pos h2 (by rw [hg]; exact ha)
    rw [hg] at this
    exact .inl ⟨ha, this⟩
  · have := decode_high (B l) pos h2 (by rw [hg]; omega)
    refine .inr ⟨?_, this.1⟩
    unfold digN; rw [if_neg (by omega), if_neg (by omega)]

theorem own_notBlock {w : World} {base : Nat} {e : TypeId} {size : Nat} {v : Value} {n : Nat} {xs : List Value} (h : w.ownsRow base e size v n xs) {k : Nat} (hk : k < base) : v.ownBlock ≠ some k := by
  intro hh
  have := (h.lt _ hh).1
  omega

theorem nat_made (w : World) : isNat (w.alloc (.cells #[] 68)) (.slice (some ⟨w.heap.size, 0, none⟩) 0 0) 0 := by
  unfold isNat
  rw [gr_zero]
  exact own_base (World.ownsRow_made w #[] 0 (Nat.le_refl _) (by decide) (by simp)) (Nat.zero_le _)

set_option maxRecDepth 100000 in
set_option maxHeartbeats 2000000 in
theorem read_c (l : List UInt8) (b : Nat) (w : World) (hb2 : 2 ≤ b) (hb16 : b ≤ 16) (hs : l.length ≤ 10000) :
    Calls Tryd.prog 62 #[.int .i64 b, .string (B l)] w fun e w' => (∃ v', e = .returned (.tuple #[v', .bool (okN b l)]) ∧ isNat w' v' (natV b l)) ∧ Below w.heap.size w w' := by
  go_enter Tryd.func62, Tryd.ntmps62
  go_wp2
  go_loopw [6, 8, 9, 10] (fun v _ _ _ wr => ∃ pos : Nat, pos ≤ l.length ∧ wr.heap[w.heap.size + 1]? = some (.stringIter (B l) pos) ∧ isNat wr v (rdN b (l.take pos)) ∧ v.ownBlock ≠ some (w.heap.size + 1) ∧ Below w.heap.size w wr ∧ w.heap.size + 2 ≤ wr.heap.size ∧ Hid (∀ c ∈ l.take pos, digN c < b))
    (fun _ _ _ _ wr => l.length - wr.iterPos (w.heap.size + 1))
  case atStart =>
    refine ⟨0, Nat.zero_le _, ?_, ?_, ?_, ?_, ?_, hide (by simp)⟩
    · simpa using World.iter_heap (w.alloc (.cells #[] 68)) (B l) 0
    · exact own_below (nat_made w) ((Below.refl _ _).alloc (Nat.le_refl _) _)
    · simp [Value.ownBlock]
    · exact ((Below.refl _ _).alloc (Nat.le_refl _) _).alloc (by simp) _
    · simp [World.iter]
  case round =>
    obtain ⟨pos, hpl, hit, hown, hob, hb, hsz, hdg⟩ := hrel
    have hpos0 := iterPos_of hit
    by_cases hlt : pos < l.length
    · have hlt2 : pos < (B l).size := by rw [B_size]; exact hlt
      have hnx := fun ty => Lib.run_next_any_at (P := Tryd.prog) wr (w.heap.size + 1) (B l) pos ty hit hlt2
      have hbad := @okN_bad b l pos hlt
      rcases rune_hex l pos hlt with ⟨h1, h3⟩ | ⟨h1, h2⟩
      · rw [h3] at hnx
        have hit2 := Lib.iterAt_heap wr (w.heap.size + 1) (B l) pos (pos + 1) hit
        have hb2 := Lib.below_iterAt hb (k := w.heap.size + 1) (by omega) (B l) (pos + 1)
        have hown2 : isNat _ _ _ := own_iterAt hown hob (B l) (pos + 1)
        have hpos2 := iterPos_of hit2
        have hsn := take_snoc' l pos hlt
        have hlk := rdN_lt b (l.take pos) (unhide hdg)
        rw [List.length_take, Nat.min_eq_left hpl] at hlk
        have hsk := dec_size_pow hb16 hlk
        have hgk := dec_gr (n := 2 * pos + 1) hsk
        have hdI := digI_byte (l[pos]'hlt)
        have hsz2 : w.heap.size + 2 ≤ (wr.iterAt (w.heap.size + 1) (B l) (pos + 1)).heap.size := by rw [Lib.iterAt_size]; exact hsz
        obtain ⟨W1, hW1⟩ : ∃ W1, W1 = wr.iterAt (w.heap.size + 1) (B l) (pos + 1) := ⟨_, rfl⟩
        rw [← hW1] at hnx hit2 hb2 hown2 hpos2 hsz2
        have hsnN := congrArg (rdN b) hsn
        rw [rdN_snoc] at hsnN
        generalize hnn : rdN b (l.take pos) = n at *
        generalize hcc : l[pos]'hlt = c at *
        have hvc := fun w => value_c (c.toNat : Int) b w hb16
        rw [hdI] at hvc
        by_cases hge : b ≤ digN c
        · have Hf := hide (hbad hge)
          rw [decide_eq_false (by omega)] at hvc
          have Hv := hide hvc
          clear hbad hsnN hsn hlk hnn hcc hit hpos0 h3 h1 hW1 hvc hdI
          go_wp2_with fail
          refine (unhide Hv _).mono ?_
          rintro e w1 ⟨rfl, rfl⟩
          go_wp2
          go_ret2
          refine ⟨⟨.slice (some ⟨w1.heap.size, 0, none⟩) 0 0, by rw [unhide Hf]; rfl, ?_⟩, hb2.alloc hb2.size _⟩
          unfold natV
          rw [unhide Hf]
          exact nat_made w1
        · have hd16 : digN c < 16 := by omega
          have hdu : digU (c.toNat : Int) = digN c := by unfold digU; rw [hdI, if_neg (by omega)]
          rw [hdu, decide_eq_true (by omega)] at hvc
          have Hv := hide hvc
          have Hit2 := hide hit2
          have Hp0 := hide hpos0
          have Hp2 := hide hpos2
          have Hn := hide hsnN
          have Hdg2 : Hid (∀ x ∈ l.take (pos + 1), digN x < b) := by
            intro x hx
            rw [hsn] at hx
            rcases List.mem_append.1 hx with hx | hx
            · exact unhide hdg x hx
            · simp only [List.mem_singleton] at hx; subst hx; omega
          have e1 := wu64 (b : Int) (by omega) (by omega)
          generalize digN c = d at *
          clear hbad hsnN hsn hlk hnn hcc hit hit2 hpos0 hpos2 h3 h1 hW1 hvc hdI hdu
          go_wp2_with fail
          refine (unhide Hv _).mono ?_
          rintro e w1 ⟨rfl, rfl⟩
          go_wp2_with fail
          refine (timesPlus_c n b d _ _ hown2 (by omega) (by omega) (by omega)).mono ?_
          rintro e w2 ⟨⟨v2, rfl, hv2⟩, hbw⟩
          have hlt3 : w.heap.size + 1 < w1.heap.size := by omega
          have Hit3 : Hid (w2.heap[w.heap.size + 1]? = some (.stringIter (B l) (pos + 1))) := by
            show _ = _
            rw [hbw.block _ hlt3]; exact unhide Hit2
          have Hp3 := hide (iterPos_of (unhide Hit3))
          have hob2 := own_notBlock hv2 hlt3
          have hbs := hbw.size
          go_wp2
          go_roundw
          case rel => exact ⟨pos + 1, by omega, unhide Hit3, by rw [unhide Hn]; exact hv2.nat, hob2, hb2.trans (hbw.mono hb2.size), by omega, Hdg2⟩
          case measure => rw [unhide Hp0, unhide Hp3]; omega
      · have hb2 := Lib.below_iterAt hb (k := w.heap.size + 1) (by omega) (B l) (pos + (Utf8.decode (B l) pos).2)
        have hf := hbad (by omega)
        have Hf := hide hf
        generalize Utf8.decode (B l) pos = rw_ at *
        have hdI : digI (rw_.1 : Int) = 99 := by unfold digI; rw [if_neg (by omega), if_neg (by omega)]
        have hvc := fun w => value_c (rw_.1 : Int) b w hb16
        rw [hdI, decide_eq_false (by omega)] at hvc
        have Hv := hide hvc
        clear hbad hf h1 h2 hit hpos0 hdI hvc
        go_wp2_with fail
        refine (unhide Hv _).mono ?_
        rintro e w1 ⟨rfl, rfl⟩
        go_wp2
        go_ret2
        refine ⟨⟨.slice (some ⟨(wr.iterAt (w.heap.size + 1) (B l) (pos + rw_.2)).heap.size, 0, none⟩) 0 0, by rw [unhide Hf]; rfl, ?_⟩, hb2.alloc hb2.size _⟩
        unfold natV
        rw [unhide Hf]
        exact nat_made _
    · have hlt2 : ¬ pos < (B l).size := by rw [B_size]; exact hlt
      have hnx := fun ty => Lib.run_next_end_at (P := Tryd.prog) wr (w.heap.size + 1) (B l) pos ty hit hlt2
      have htk : l.take pos = l := List.take_of_length_le (by omega)
      rw [htk] at hown
      have hall := unhide hdg
      rw [htk] at hall
      have hok : okN b l = !l.isEmpty := by
        cases l with
        | nil => rfl
        | cons c r => rw [okN_good (by simp) hall]; rfl
      have hnv : natV b l = rdN b l := by
        unfold natV
        cases l with
        | nil => simp [rdN]
        | cons c r => rw [if_pos (okN_good (by simp) hall)]
      have Hok := hide hok
      have Hnv := hide hnv
      clear hok hnv hall htk
      go_wp2
      go_ret2
      refine ⟨⟨u6, ?_, by rw [unhide Hnv]; exact hown⟩, hb⟩
      show Ending.returned (.tuple #[u6, .bool (!(B l).toList.isEmpty)]) = _
      rw [B_tl, unhide Hok]
end Go.Proofs.YtijgolgfcgkbiaaDoor
namespace Go.Proofs.YtijgolgfcgkbiaaDoor
open Go.RowKit Nt

theorem gr_ten (p : Nat) : gr (10 ^ p) = (List.replicate (p / 9 + 1) 0).set (p / 9) (10 ^ (p % 9)) := by
  have hpow : 10 ^ (p % 9) ≤ 100000000 := by
    have : (10 : Nat) ^ (p % 9) ≤ 10 ^ 8 := Nat.pow_le_pow_right (by omega) (by omega)
    exact this
  have hpos : 10 ^ (p % 9) ≠ 0 := by have := Nat.pow_pos (n := p % 9) (show 0 < 10 by omega); omega
  have hset : (List.replicate (p / 9 + 1) 0).set (p / 9) (10 ^ (p % 9)) = List.replicate (p / 9) 0 ++ [10 ^ (p % 9)] := by
    rw [List.replicate_succ', List.set_append_right _ _ (by simp)]
    simp
  rw [hset]
  have h1 := strip_snoc_pos (List.replicate (p / 9) 0) (10 ^ (p % 9)) hpos
  have h2 : ∀ d ∈ List.replicate (p / 9) 0 ++ [10 ^ (p % 9)], d < 1000000000 := by
    intro d hd
    rcases List.mem_append.1 hd with h | h
    · have := List.eq_of_mem_replicate h; omega
    · simp only [List.mem_singleton] at h; omega
  have h3 := gr_strip h2
  rw [h1, ofd_snoc, ofd_replicate_zero, List.length_replicate, pow_group, Nat.zero_add] at h3
  exact h3.symm

set_option maxRecDepth 100000 in
set_option maxHeartbeats 1000000 in
theorem natTen_c (p : Nat) (w : World) (hp : p ≤ 10000) (hT : Tens w) :
    Calls Tryd.prog 63 #[.int .i64 p] w fun e w' => (∃ v', e = .returned v' ∧ isNat w' v' (10 ^ p)) ∧ Below w.heap.size w w' := by
  obtain ⟨i0, hi, hz0, hz1, hz2⟩ := info_parts Tryd.infoU64
  obtain ⟨q, hq⟩ : ∃ q, p / 9 = q := ⟨_, rfl⟩
  obtain ⟨r, hr⟩ : ∃ r, p % 9 = r := ⟨_, rfl⟩
  have hG : (p : Int) / 9 + 1 = ((q + 1 : Nat) : Int) := by omega
  have e1 : (p : Int).tdiv 9 = q := by rw [Int.tdiv_eq_ediv_of_nonneg (by omega)]; omega
  have e2 : (p : Int).tmod 9 = r := by rw [Int.tmod_eq_emod_of_nonneg (by omega)]; omega
  have e3 := wi64 (q : Int) (by omega) (by omega)
  have hg := gr_ten p
  rw [hq, hr] at hg
  obtain ⟨t, ht⟩ : ∃ t, 10 ^ r = t := ⟨_, rfl⟩
  rw [ht] at hg
  have Hg := hide hg
  have HT := hide hT
  clear hg hT
  go_enter Tryd.func63, Tryd.ntmps63
  go_wp2_with (refine wpList_make_full _ rfl (.tmp 6) (.tmp 6) 53 rfl w.heap.size 68 i0 (.int .u64 0) 1 Tryd.underlying53 hi hz0 hz1 .i64 .i64 (q + 1) (q + 1) (q + 1) rfl rfl (by go_num) (by go_num) (by rw [hz2]; omega) (by unfold maxLen; omega) (Nat.le_refl _) ?_; intro w1 hown1 hg1; have hown0 : w1.ownsRow w.heap.size 68 1 (.slice (some ⟨w.heap.size, 0, none⟩) (q + 1) (q + 1)) (q + 1) (u64s (List.replicate (q + 1) 0)) := (by simpa [Value.cells, toList_madeCells_one, u64s_zero] using hown1); have hb1 : Below w.heap.size w w1 := (Below.refl _ _).grown hg1 (Nat.le_refl _) (fun _ h => by cases h); have hT2 := ((unhide HT).belowB hb1 (unhide HT).lt) r (by omega); rw [ht] at hT2; have hcx : w1.cell? ⟨w.heap.size, q, none⟩ = some (.int .u64 0) := (by have h := hown0.cellAt q (by omega); rw [u64s_get _ _ (by simp)] at h; simpa using h); have hfr := hown0.frozenAt q; have hst2 := hown0.stored q (.int .u64 (t : Int)); rw [u64s_set _ _ t _ rfl, ← unhide Hg] at hst2; have Hst2 := hide hst2; clear hst2 hown1 hg1)
  go_ret
  refine ⟨⟨_, rfl, ?_⟩, hb1.setCell (by simp) _⟩
  have h1 := (unhide Hst2).1
  unfold isNat
  have hl : (gr (10 ^ p)).length = q + 1 := by rw [unhide Hg]; simp
  rw [hl]
  exact own_base h1 (Nat.zero_le _)
end Go.Proofs.YtijgolgfcgkbiaaDoor
