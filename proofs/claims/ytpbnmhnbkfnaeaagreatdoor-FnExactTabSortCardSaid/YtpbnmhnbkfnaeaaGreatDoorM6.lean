/- A part of the proof, put together out of smaller texts: each piece says what it is for. -/
import Derived.Test.YtpbnmhnbkfnaeaaGreatDoorM5
import Derived.Deep.RegionWith
namespace Go.Proofs.YtpbnmhnbkfnaeaaGreatDoor
open Go.RowKit Nt

theorem group_digit (x k : Nat) (h : k / 9 < (gr x).length) : (gr x)[k / 9] / 10 ^ (k % 9) % 10 = x / 10 ^ k % 10 := by
  have hr : k % 9 < 9 := Nat.mod_lt _ (by omega)
  have hg := dg_get (b := 1000000000) (by omega) (k / 9) x
  have hg' : (gr x)[k / 9] = x / 1000000000 ^ (k / 9) % 1000000000 := by
    rw [← hg, show dg 1000000000 x = gr x from rfl, List.getD_eq_getElem?_getD, List.getElem?_eq_getElem h]; rfl
  rw [hg']
  have e : (1000000000 : Nat) = 10 ^ (k % 9) * 10 ^ (9 - k % 9) := by
    rw [← Nat.pow_add, show k % 9 + (9 - k % 9) = 9 from by omega]
  generalize hq : x / 1000000000 ^ (k / 9) = q
  conv => lhs; rw [e]
  rw [Nat.mod_mul_right_div_self, Nat.mod_mod_of_dvd _ (by
    have : 10 ^ 1 ∣ 10 ^ (9 - k % 9) := Nat.pow_dvd_pow 10 (by omega)
    simpa using this), ← hq, Nat.div_div_eq_div_mul, pow_group]

/-- a slice's length: a measure alone -/
def lenV : Value → Nat
  | .slice _ n _ => n
  | _ => 0

/-- the first k digits, the lowest first -/
def digs (x k : Nat) : List Nat := (List.range k).map fun j => x / 10 ^ j % 10
theorem digs_succ (x k : Nat) : digs x (k + 1) = digs x k ++ [x / 10 ^ k % 10] := by simp [digs, List.range_succ]
theorem digs_length (x k : Nat) : (digs x k).length = k := by simp [digs]
theorem digs_lt (x k : Nat) : ∀ d ∈ digs x k, d < 10 := by
  intro d hd
  obtain ⟨j, _, rfl⟩ := List.mem_map.1 hd
  exact Nat.mod_lt _ (by omega)
theorem digs_ofd (x : Nat) : ∀ k, ofd 10 (digs x k) = x % 10 ^ k := by
  intro k
  induction k with
  | zero => simp [digs, ofd, Nat.mod_one]
  | succ k ih => rw [digs_succ, ofd_snoc, ih, digs_length, mod_pow_succ']

theorem gr_pow (x : Nat) : x < 10 ^ (9 * (gr x).length) := by
  have h := lt_pow_dg (b := 1000000000) (by omega) x
  rw [show (1000000000 : Nat) = 10 ^ 9 from by decide, ← Nat.pow_mul] at h
  unfold gr
  rw [show (1000000000 : Nat) = 10 ^ 9 from by decide]
  exact h

set_option maxRecDepth 100000 in
set_option maxHeartbeats 4000000 in
theorem decimals_c (x : Nat) (v : Value) (w : World) (hx : isNat w v x) (hs : (gr x).length ≤ 100000) (hT : Tens w) :
    Calls Tryz.prog 184 #[v] w fun e w' => e = .returned (.string (dec x)) ∧ Below w.heap.size w w' := by
  obtain ⟨i0, hi, hz0, hz1, hz2⟩ := info_parts Tryz.infoByte
  obtain ⟨p, cap, hv⟩ := own_slice hx
  subst hv
  by_cases hz : x = 0
  · subst hz
    rw [gr_zero, dec_zero]
    clear hx hs hT
    go_enter Tryz.func184, Tryz.ntmps184
    go_wp2
    go_ret
    exact ⟨rfl, Below.refl _ _⟩
  · obtain ⟨n, hn⟩ : ∃ n, (gr x).length = n := ⟨_, rfl⟩
    have hn0 : 0 < n := by
      rcases Nat.eq_zero_or_pos n with h | h
      · rw [h] at hn; exact absurd (gr_nil.1 (List.eq_nil_of_length_eq_zero hn)) hz
      · exact h
    have hnI : ((n : Int) == 0) = false := by rw [beq_eq_false_iff_ne]; omega
    have hgd := group_digit x
    have hgl := gr_lt x
    have hgp := gr_pow x
    have hx' := hx
    unfold isNat at hx'
    rw [hn] at hx' hs hgp
    rw [hn]
    generalize gr x = xs at *
    have Hgd := hide hgd
    have Hgl := hide hgl
    have Hgp := hide hgp
    have Hx := hide hx'
    have Hn := hide hn
    have HT := hide hT
    have Hz := hide hz
    clear hgd hgl hgp hx' hn hT hz hx
    go_enter Tryz.func184, Tryz.ntmps184
    go_wp2
    go_loopw [3, 13] (fun v i wr => ∃ (k : Nat), k ≤ n * 9 ∧ i = .int .i64 k ∧ wr.ownsRow w.heap.size 5 1 v k (((digs x k).map sg).map u8v) ∧ Below w.heap.size w wr)
      (fun _ i _ => n * 9 - (intOf i).toNat)
    case atStart =>
      exact ⟨0, Nat.zero_le _, rfl, World.ownsRow_made w #[] 0 (Nat.le_refl _) (by decide) (by simp), (Below.refl _ _).alloc (Nat.le_refl _) _⟩
    case round =>
      obtain ⟨k, hk, rfl, hown, hb⟩ := hrel
      by_cases hlt : k < n * 9
      · have hkl : k / 9 < xs.length := by rw [unhide Hn]; omega
        obtain ⟨g, cap', hvv, _⟩ := own_some (unhide Hx) (by omega)
        simp only [Value.slice.injEq, true_and] at hvv
        obtain ⟨rfl, rfl⟩ := hvv
        have hcx := (own_below (unhide Hx) hb).cellAt (k / 9) (by rw [unhide Hn] at hkl; omega)
        rw [u64s_get _ _ hkl] at hcx
        have hT2 := ((unhide HT).below hb) (k % 9) (Nat.mod_lt _ (by omega))
        have hd := unhide Hgd k hkl
        have ha9 : xs[k / 9]'hkl < 1000000000 := unhide Hgl _ (List.getElem_mem _)
        have hdl : x / 10 ^ k % 10 < 10 := Nat.mod_lt _ (by omega)
        have hsuc := digs_succ x k
        have hpow : 0 < 10 ^ (k % 9) := Nat.pow_pos (by omega)
        have hpow2 : 10 ^ (k % 9) ≤ 100000000 := by
          have : (10 : Nat) ^ (k % 9) ≤ 10 ^ 8 := Nat.pow_le_pow_right (by omega) (by have := Nat.mod_lt k (show 9 > 0 by omega); omega)
          exact this
        generalize xs[k / 9]'hkl = a at *
        generalize x / 10 ^ k % 10 = d at *
        obtain ⟨t, ht⟩ : ∃ t, 10 ^ (k % 9) = t := ⟨_, rfl⟩
        rw [ht] at hT2 hd hpow hpow2
        obtain ⟨q, hq⟩ : ∃ q, k / 9 = q := ⟨_, rfl⟩
        obtain ⟨r, hr⟩ : ∃ r, k % 9 = r := ⟨_, rfl⟩
        rw [hq] at hcx hkl
        rw [hr] at hT2
        obtain ⟨at_, hat⟩ : ∃ z, a / t = z := ⟨_, rfl⟩
        rw [hat] at hd
        have hatl : at_ ≤ a := by rw [← hat]; exact Nat.div_le_self _ _
        have e1 : (k : Int).tdiv 9 = q := by rw [Int.tdiv_eq_ediv_of_nonneg (by omega)]; omega
        have e2 : (k : Int).tmod 9 = r := by rw [Int.tmod_eq_emod_of_nonneg (by omega)]; omega
        have e3 := wi64 (q : Int) (by omega) (by omega)
        have e4 : (a : Int).tdiv t = at_ := by rw [Int.tdiv_eq_ediv_of_nonneg (by omega), ← hat]; rfl
        have e5 := wu64 (at_ : Int) (by omega) (by omega)
        have e6 : (at_ : Int).tmod 10 = d := by rw [Int.tmod_eq_emod_of_nonneg (by omega)]; omega
        have htN : ¬ (t : Int) = 0 := by omega
        have hqn : (q : Int) < n := by omega
        have hqn2 : q < n := by omega
        have hr9 : (r : Int) < 9 := by omega
        have hrn : r < 9 := by omega
        have hki : (k : Int) < n * 9 := by omega
        have Hsuc := hide hsuc
        clear hsuc hd ht hq hr hat
        go_wp2
        go_quiet (fail)
        have hown2 := own_drewN hown nq
        have hb2 := below_drewN hb nq
        have hw := hb.size
        go_wp2_with (at_builtin; refine wpList_append_own _ rfl (.tmp 27) (.tmp 31) 22 rfl w.heap.size 5 i0 (.int .u8 0) 1 1 Tryz.underlying22 hi hz0 hz1 hz2 rfl (by decide) _ _ _ rfl (hown2.alloc _) ⟨wr.heap.size, 0, none⟩ 1 1 [.int .u8 (48 + (d : Int))] rfl rfl (cell_one_new _ _ _) (by intro u hu; simp at hu; subst hu; rfl) (by unfold maxLen; omega) (by omega) (by show w.heap.size ≤ ((wr.drewN nq).alloc _).heap.size; rw [World.size_alloc]; show w.heap.size ≤ wr.heap.size + 1; omega) ?_; intro v2 w2 hown3 hg3 _)
        have hbX := below_grown (hb2.alloc hw _) (hown2.alloc _) hg3 (by rw [World.size_alloc]; show w.heap.size ≤ wr.heap.size + 1; omega)
        go_roundw
        case rel =>
          refine ⟨k + 1, by omega, by go_num, ?_, hbX⟩
          rw [unhide Hsuc, List.map_append, List.map_append]
          simp only [List.map_cons, List.map_nil, u8v_sg hdl]
          exact hown3
        case measure => simp [intOf]; omega
      · have hkn : k = n * 9 := by omega
        subst hkn
        have hpre : strip (digs x (n * 9)) = dg 10 x := by
          rw [strip_eq_dg (by omega) (digs_lt x _), digs_ofd, Nat.mod_eq_of_lt (by rw [Nat.mul_comm]; exact unhide Hgp)]
        obtain ⟨g, cap', hvv, hcc, hbg, hgw⟩ := own_some hown (by omega)
        subst hvv
        have Hpre := hide hpre
        have hdl := digs_lt x (n * 9)
        have hlen := digs_length x (n * 9)
        generalize digs x (n * 9) = D at *
        have Hdl := hide hdl
        clear hpre hdl
        go_wp2
        go_loopw [3] (fun v wr2 => ∃ (E : List Nat), v = .slice (some ⟨g, 0, none⟩) E.length cap' ∧ E.length ≤ n * 9 ∧ wr2 = wr ∧ wr.ownsRow w.heap.size 5 1 (.slice (some ⟨g, 0, none⟩) E.length cap') E.length ((E.map sg).map u8v) ∧ Hid (strip E = dg 10 x) ∧ Hid (∀ d ∈ E, d < 10))
          (fun v _ => lenV v)
        case atStart => exact ⟨D, by rw [hlen], by omega, rfl, by rw [hlen]; exact hown, Hpre, Hdl⟩
        case round =>
          obtain ⟨E, rfl, hEl, rfl, hownE, hst, hEd⟩ := hrel
          have hE0 : 0 < E.length := by
            rcases Nat.eq_zero_or_pos E.length with h | h
            · exfalso
              have : E = [] := List.eq_nil_of_length_eq_zero h
              rw [this] at hst
              exact unhide Hz ((dg_eq_nil (by omega)).1 (unhide hst).symm)
            · exact h
          have hc := hownE.cellAt (E.length - 1) (by omega)
          rw [u8v_cell _ _ (by simp; omega), List.getElem_map] at hc
          have hsp : E = E.take (E.length - 1) ++ [E[E.length - 1]'(by omega)] := by
            rw [← List.take_succ_eq_append_getElem (by omega), show E.length - 1 + 1 = E.length from by omega, List.take_length]
          have hlast : E[E.length - 1]'(by omega) < 10 := unhide hEd _ (List.getElem_mem _)
          have htk := own_take hownE (E.length - 1) (by omega)
          generalize E[E.length - 1]'(by omega) = d at *
          rw [sg_toNat (by omega), if_pos hlast] at hc
          by_cases hd0 : d = 0
          · have hst2 : strip (E.take (E.length - 1)) = dg 10 x := by
              rw [← unhide hst]
              conv => rhs; rw [hsp, hd0]
              rw [strip_snoc_zero]
            have hEd2 : ∀ e ∈ E.take (E.length - 1), e < 10 := fun e he => unhide hEd e (List.mem_of_mem_take he)
            have hq : (((48 + d : Nat) : Int) == 48) = true := by rw [beq_iff_eq]; omega
            have e1 : ((E.map sg).map u8v).take (E.length - 1) = ((E.take (E.length - 1)).map sg).map u8v := by simp [List.map_take]
            rw [e1] at htk
            have hl1 : (E.take (E.length - 1)).length = E.length - 1 := by simp
            generalize E.take (E.length - 1) = F at *
            have hzl : F.length + 1 = E.length := by omega
            have Htk := hide htk
            have Hst2 := hide hst2
            have Hd2 := hide hEd2
            clear hst2 htk hsp hd0 e1 hEd2
            go_wp2
            go_roundw
            case rel => exact ⟨F, by rw [hl1], by omega, trivial, by rw [hl1]; exact unhide Htk, Hst2, Hd2⟩
            case measure => show E.length - 1 < E.length; omega
          · have hq : (((48 + d : Nat) : Int) == 48) = false := by rw [beq_eq_false_iff_ne]; omega
            have hfin : E = dg 10 x := by rw [← unhide hst, hsp, strip_snoc_pos _ _ hd0]
            have Hfin := hide hfin
            clear hfin hsp htk hd0
            have hrv := reverse_c (E.map sg) g cap' w.heap.size wr (by rw [List.length_map]; omega) (by rw [List.length_map]; exact hownE)
            rw [List.length_map] at hrv
            have Hrv := hide hrv
            clear hrv hownE hown
            go_wp2_with fail
            refine (unhide Hrv).mono ?_
            rintro e w3 ⟨rfl, hown3, hg3⟩
            have hbX := hb.grown hg3 hb.size (fun k hk => by cases hk; omega)
            have hconv := run_conv_bytes (dst := 9) Tryz.underlying22 Tryz.underlying5 Tryz.underlying9 hown3
            have hfin2 : B (E.map sg).reverse = dec x := by unfold dec txt; rw [txl_pos (unhide Hz), ← unhide Hfin]
            rw [hfin2] at hconv
            clear hfin2 hown3 hg3 Hrv
            go_wp2
            go_ret
            exact ⟨rfl, hbX⟩
end Go.Proofs.YtpbnmhnbkfnaeaaGreatDoor
namespace Go.Proofs.YtpbnmhnbkfnaeaaGreatDoor
open Go.RowKit Nt

def overM (neg : Bool) (b : Nat) (x y : List UInt8) : Option (Bool × Nat × Nat) :=
  if okN b x && okN b y then lowest neg (rdN b x) (rdN b y) else none

theorem rdN_size {b : Nat} {l : List UInt8} (hb16 : b ≤ 16) (h : okN b l = true) : (dec (rdN b l)).size ≤ 2 * l.length + 1 := by
  unfold okN at h
  simp only [Bool.and_eq_true] at h
  exact dec_size_pow hb16 (rdN_lt b l (fun c hc => by simpa using List.all_eq_true.1 h.2 c hc))

/-- what the cells of a struct of three read behind three stores -/
theorem below_three {w w3 : World} {b : Nat} (h : Below b w w3) (g : Nat) (hg : b ≤ g) (x y z : Value) : Below b w (((w3.setCell ⟨g, 0, none⟩ x).setCell ⟨g, 1, none⟩ y).setCell ⟨g, 2, none⟩ z) :=
  ((h.setCell hg _).setCell hg _).setCell hg _


set_option maxRecDepth 100000 in
set_option maxHeartbeats 4000000 in
theorem l2Over_c (neg : Bool) (l : List UInt8) (k b : Nat) (w : World) (hk : k < l.length) (hs : l.length ≤ 5000) (hb2 : 2 ≤ b) (hb16 : b ≤ 16) :
    Calls Tryz.prog 105 #[.bool neg, .string (B l), .int .i64 k, .int .i64 b] w fun e w' => e = .returned (numAns (overM neg b (l.take k) (l.drop (k + 1)))) ∧ Below w.heap.size w w' := by
  have hsz : (B l).size ≤ 5000 := by rw [B_size]; exact hs
  have hkz : k < (B l).size := by rw [B_size]; exact hk
  have he1 : (B l).extract 0 k = B (l.take k) := by rw [B_extract]; simp
  have he2 : (B l).extract (k + 1) (B l).size = B (l.drop (k + 1)) := by rw [B_extract, B_size, List.take_length]
  generalize hx : l.take k = x at *
  generalize hy : l.drop (k + 1) = y at *
  have hxl : x.length ≤ 5000 := by rw [← hx]; simp; omega
  have hyl : y.length ≤ 5000 := by rw [← hy]; simp; omega
  clear hx hy
  go_enter Tryz.func105, Tryz.ntmps105
  go_wp2_with fail
  refine (l2Nat_c x b _ hb2 hb16 (by omega)).mono ?_
  rintro e w1 ⟨rfl, hb1⟩
  unfold natAns
  go_wp2_with fail
  refine (l2Nat_c y b _ hb2 hb16 (by omega)).mono ?_
  rintro e w2 ⟨rfl, hb2'⟩
  unfold natAns
  have hb0 := below_alloc_size hb1
  have hn2 := below_next hb0 (by have := hb1.size; simpa using this) hb2'
  have hsx := fun h => rdN_size (l := x) hb16 h
  have hsy := fun h => rdN_size (l := y) hb16 h
  have hvx : okN b x = true → natV b x = rdN b x := fun h => by unfold natV; rw [if_pos h]
  have hvy : okN b y = true → natV b y = rdN b y := fun h => by unfold natV; rw [if_pos h]
  have Hov : Hid (overM neg b x y = if okN b x && okN b y then lowest neg (rdN b x) (rdN b y) else none) := hide rfl
  generalize natV b x = vx at *
  generalize natV b y = vy at *
  generalize okN b x = ox at *
  generalize okN b y = oy at *
  cases ox
  ·
    have c0 := newcell hn2.1 0
    have c1 := newcell hn2.1 1
    have c2 := newcell hn2.1 2
    have f0 := newfree hn2.1 0
    have f1 := newfree hn2.1 1
    have f2 := newfree hn2.1 2
    have hbX := below_new hn2.1
    simp at c0 c1 c2
    clear hb1 hb2' hb0 hn2 hsx hsy he1 he2 hvx hvy
    go_wp2
    refine bodyPost_ret (v := numAns none) (by simp [results, Tryz.results105, go_sem, numAns, numO, noNum, numV, c0, c1, c2]) rfl ⟨by rw [unhide Hov]; rfl, ?_⟩
    exact below_three hbX _ (Nat.le_refl _) _ _ _
  · cases oy
    ·
      have c0 := newcell hn2.1 0
      have c1 := newcell hn2.1 1
      have c2 := newcell hn2.1 2
      have f0 := newfree hn2.1 0
      have f1 := newfree hn2.1 1
      have f2 := newfree hn2.1 2
      have hbX := below_new hn2.1
      simp at c0 c1 c2
      clear hb1 hb2' hb0 hn2 hsx hsy he1 he2 hvx hvy
      go_wp2
      refine bodyPost_ret (v := numAns none) (by simp [results, Tryz.results105, go_sem, numAns, numO, noNum, numV, c0, c1, c2]) rfl ⟨by rw [unhide Hov]; rfl, ?_⟩
      exact below_three hbX _ (Nat.le_refl _) _ _ _
    · have h1 := hsx rfl
      have h2 := hsy rfl
      rw [← hvx rfl] at h1
      rw [← hvy rfl] at h2
      have Hov2 : Hid (overM neg b x y = lowest neg vx vy) := by rw [hvx rfl, hvy rfl]; exact Hov
      clear hsx hsy he1 he2 hvx hvy Hov
      go_wp2_with fail
      refine (l2Make_c neg vx vy _ (by omega) (by omega)).mono ?_
      rintro e w3 ⟨rfl, hb3⟩
      have hn3 := below_next hn2.1 hn2.2 hb3
      have c0 := newcell hn3.1 0
      have c1 := newcell hn3.1 1
      have c2 := newcell hn3.1 2
      have f0 := newfree hn3.1 0
      have f1 := newfree hn3.1 1
      have f2 := newfree hn3.1 2
      have hbX := below_new hn3.1
      simp at c0 c1 c2
      clear hb1 hb2' hb0 hn2 hb3 hn3
      generalize lowest neg vx vy = o at *
      unfold numAns
      obtain ⟨n3, u3, d3, ho⟩ : ∃ n3 u3 d3, numO o = numV n3 u3 d3 := by
        cases o with
        | none => exact ⟨_, _, _, rfl⟩
        | some p => exact ⟨_, _, _, rfl⟩
      have Ho := hide ho
      rw [ho]
      unfold numV
      clear ho
      go_wp2
      refine bodyPost_ret (v := numAns o) (by simp [results, Tryz.results105, go_sem, numAns, unhide Ho, numV, c0, c1, c2]) rfl ⟨by rw [unhide Hov2], ?_⟩
      exact below_three hbX _ (Nat.le_refl _) _ _ _
end Go.Proofs.YtpbnmhnbkfnaeaaGreatDoor
namespace Go.Proofs.YtpbnmhnbkfnaeaaGreatDoor
open Go.RowKit Nt

def pointM (neg : Bool) (x y : List UInt8) : Option (Bool × Nat × Nat) :=
  if okN 10 (x ++ y) then lowest neg (rdN 10 (x ++ y)) (10 ^ y.length) else none

theorem dec_one : dec 1 = ⟨#[49]⟩ := by unfold dec txt; rw [txl_one 10 (by omega) 1 (by omega)]; rfl
theorem dec_tens (j : Nat) : dec (10 ^ j) ++ ⟨#[48]⟩ = dec (10 ^ (j + 1)) := by
  have h1 : 0 < 10 ^ j := Nat.pow_pos (by omega)
  have h : 10 ≤ 10 ^ (j + 1) := by rw [Nat.pow_succ]; omega
  have e := txl_step 10 (by omega) (10 ^ (j + 1)) h
  rw [show 10 ^ (j + 1) / 10 = 10 ^ j from by rw [Nat.pow_succ]; omega, show 10 ^ (j + 1) % 10 = 0 from by rw [Nat.pow_succ]; omega] at e
  unfold dec txt
  rw [e, show (⟨#[48]⟩ : ByteArray) = B [sg 0] from rfl, B_append]
theorem dec_tens_size (j : Nat) : (dec (10 ^ j)).size ≤ j + 1 := by
  rw [dec_len]
  exact txl_len_le (by omega) (by omega) (Nat.pow_lt_pow_right (by omega) (by omega))

set_option maxRecDepth 100000 in
set_option maxHeartbeats 4000000 in
theorem l2Point_c (neg : Bool) (l : List UInt8) (k : Nat) (w : World) (hk : k < l.length) (hs : l.length ≤ 5000) :
    Calls Tryz.prog 106 #[.bool neg, .string (B l), .int .i64 k] w fun e w' => e = .returned (numAns (pointM neg (l.take k) (l.drop (k + 1)))) ∧ Below w.heap.size w w' := by
  have hsz : (B l).size ≤ 5000 := by rw [B_size]; exact hs
  have hszI : ((B l).size : Int) = l.length := by rw [B_size]
  have hkz : k < (B l).size := by rw [B_size]; exact hk
  have he1 : (B l).extract 0 k = B (l.take k) := by rw [B_extract]; simp
  have he2 : (B l).extract (k + 1) (B l).size = B (l.drop (k + 1)) := by rw [B_extract, B_size, List.take_length]
  have hyl : (l.drop (k + 1)).length = l.length - (k + 1) := by simp
  have hxl : (l.take k).length = k := by simp; omega
  generalize hx : l.take k = x at *
  generalize hy : l.drop (k + 1) = y at *
  have hcat : B x ++ B y = B (x ++ y) := B_append x y
  have hxs : (B x).size = x.length := B_size x
  have hys : (B y).size = y.length := B_size y
  have hns : ¬ 9223372036854775807 < (B x).size + (B y).size := by omega
  have hns2 : ¬ (9223372036854775807 < ((B x).size : Int) + ((B y).size : Int)) := by omega
  have hxyl : (x ++ y).length ≤ 10000 := by rw [List.length_append]; omega
  have e1 := wi64 ((k : Int) + 1) (by omega) (by omega)
  have e2 : ((k : Int) + 1).toNat = k + 1 := by omega
  clear hx hy
  have Hyl := hide hyl
  clear hyl hxl hxs hys
  go_enter Tryz.func106, Tryz.ntmps106
  go_wp2
  go_region_with (go_at_call 107; refine (l2Nat_c (x ++ y) 10 _ (by omega) (by omega) hxyl).mono ?_; rintro e w1 ⟨rfl, hb1⟩; unfold natAns)
  all_goals
    have hb0 : Below (w.heap.size + 1) (w.alloc (.cells #[.bool false, .string ⟨#[]⟩, .string ⟨#[]⟩] 79)) w1 := by
      have := below_of_drew hb1; simpa using this
    have hzz : w.heap.size + 1 ≤ w1.heap.size := by have := hb1.size; simpa using this
    have hsx := fun h => rdN_size (b := 10) (l := x ++ y) (by omega) h
    have hvx : okN 10 (x ++ y) = true → natV 10 (x ++ y) = rdN 10 (x ++ y) := fun h => by unfold natV; rw [if_pos h]
    have Hov : Hid (pointM neg x y = if okN 10 (x ++ y) then lowest neg (rdN 10 (x ++ y)) (10 ^ y.length) else none) := hide rfl
    generalize natV 10 (x ++ y) = vx at *
    generalize okN 10 (x ++ y) = ox at *
    clear hb1 he1 he2 hcat hns hns2 e1
    cases ox
    case' false =>
      have c0 := newcell hb0 0
      have c1 := newcell hb0 1
      have c2 := newcell hb0 2
      have f0 := newfree hb0 0
      have f1 := newfree hb0 1
      have f2 := newfree hb0 2
      have hbX := below_new hb0
      simp at c0 c1 c2
      clear hb0 hsx hvx
      go_wp2
      refine bodyPost_ret (v := numAns none) (by simp [results, Tryz.results106, go_sem, numAns, numO, noNum, numV, c0, c1, c2]) rfl ⟨by rw [unhide Hov]; rfl, ?_⟩
      exact below_three hbX _ (Nat.le_refl _) _ _ _
    case' true =>
      have h1 := hsx rfl
      rw [← hvx rfl] at h1
      have Hov2 : Hid (pointM neg x y = lowest neg vx (10 ^ y.length)) := by rw [hvx rfl]; exact Hov
      clear hsx hvx Hov
      go_wp2
      go_loopw [10, 11] (fun dn i wr => ∃ j : Nat, k + 1 + j ≤ l.length ∧ dn = .string (dec (10 ^ j)) ∧ i = .int .i64 ((k + 1 + j : Nat) : Int) ∧ wr = w1) (fun _ i _ => l.length - (intOf i).toNat)
      case atStart => exact ⟨0, by omega, by rw [Nat.pow_zero, dec_one], by go_num, rfl⟩
      case round =>
        obtain ⟨j, hj, rfl, rfl, rfl⟩ := hrel
        have hds := dec_tens_size j
        by_cases hlt : k + 1 + j < l.length
        · have htn := dec_tens j
          have hns : ¬ 9223372036854775807 < (dec (10 ^ j)).size + 1 := by omega
          go_wp2
          go_roundw
          case rel => exact ⟨j + 1, by omega, rfl, by go_num, trivial⟩
          case measure => simp [intOf]; omega
        · have hjy : j = y.length := by have := unhide Hyl; omega
          go_wp2_with fail
          have hds2 : (dec (10 ^ y.length)).size ≤ 50000 := by rw [← hjy]; omega
          clear hjy
          refine (l2Make_c neg vx (10 ^ y.length) _ (by omega) hds2).mono ?_
          rintro e w3 ⟨rfl, hb3⟩
          have hn3 := below_next hb0 hzz hb3
          have c0 := newcell hn3.1 0
          have c1 := newcell hn3.1 1
          have c2 := newcell hn3.1 2
          have f0 := newfree hn3.1 0
          have f1 := newfree hn3.1 1
          have f2 := newfree hn3.1 2
          have hbX := below_new hn3.1
          simp at c0 c1 c2
          clear hb0 hb3 hn3
          -- behind l2Make's contract: 106 the function; the struct is stored and told. Wants: Hov2 : Hid (M = lowest ..), c0 c1 c2 f0 f1 f2 hbX, the answer's option lowest neg vx (10 ^ y.length)
          generalize lowest neg vx (10 ^ y.length) = o at *
          unfold numAns
          obtain ⟨n3, u3, d3, ho⟩ : ∃ n3 u3 d3, numO o = numV n3 u3 d3 := by
            cases o with
            | none => exact ⟨_, _, _, rfl⟩
            | some p => exact ⟨_, _, _, rfl⟩
          have Ho := hide ho
          rw [ho]
          unfold numV
          clear ho
          go_wp2
          refine bodyPost_ret (v := numAns o) (by simp [results, Tryz.results106, go_sem, numAns, unhide Ho, numV, c0, c1, c2]) rfl ⟨by rw [unhide Hov2], ?_⟩
          exact below_three hbX _ (Nat.le_refl _) _ _ _
end Go.Proofs.YtpbnmhnbkfnaeaaGreatDoor
namespace Go.Proofs.YtpbnmhnbkfnaeaaGreatDoor
open Go.RowKit Nt

def plainM (neg : Bool) (b : Nat) (l : List UInt8) : Option (Bool × Nat × Nat) := if okN b l then lowest neg (rdN b l) 1 else none
def bodyM (neg : Bool) (b : Nat) (l : List UInt8) : Option (Bool × Nat × Nat) :=
  match findB 47 l with
  | some k => overM neg b (l.take k) (l.drop (k + 1))
  | none => match findB 46 l with
    | some k => if b = 10 then pointM neg (l.take k) (l.drop (k + 1)) else plainM neg b l
    | none => plainM neg b l
def signB (b : Nat) : List UInt8 → Option (Bool × Nat × Nat)
  | [] => bodyM false b []
  | c :: t => if c = 45 then bodyM true b t else if c = 43 then bodyM false b t else bodyM false b (c :: t)
def parseM (l : List UInt8) (r : Int) : Option (Bool × Nat × Nat) := if isRadix r && decide (l.length ≤ 240) then signB r.toNat l else none

theorem findB_lt {c : UInt8} : ∀ {l : List UInt8} {k : Nat}, findB c l = some k → k < l.length := by
  intro l
  induction l with
  | nil => intro k h; simp [findB] at h
  | cons d r ih =>
    intro k h
    simp only [findB] at h
    split at h
    · simp at h; subst h; simp
    · cases hr : findB c r with
      | none => rw [hr] at h; simp at h
      | some j => rw [hr] at h; simp at h; subst h; have := ih hr; simp; omega

theorem l2Find_at (l : List UInt8) (c : UInt8) (n : Int) (hn : (c.toNat : Int) = n) (w : World) (hs : l.length ≤ 1000000000) :
    Calls Tryz.prog 104 #[.string (B l), .int .u8 n] w fun e w' => e = .returned (.int .i64 (findI c l)) ∧ w' = w := by
  subst hn; exact l2Find_c l c w hs

theorem isRadix_nat {r : Int} (h : isRadix r = true) : ∃ b : Nat, r = b ∧ (b = 2 ∨ b = 8 ∨ b = 10 ∨ b = 16) := by
  unfold isRadix at h
  simp only [Bool.or_eq_true, beq_iff_eq] at h
  exact ⟨r.toNat, by omega, by omega⟩



theorem parse_bad (l : List UInt8) (r : Int) (h : isRadix r = false ∨ 240 < l.length) : parseM l r = none := by
  unfold parseM
  rcases h with h | h
  · simp [h]
  · rw [decide_eq_false (by omega)]; simp

set_option maxRecDepth 100000 in
set_option maxHeartbeats 4000000 in
theorem specNumParse_no (l : List UInt8) (r : Int) (w : World) (hs : l.length ≤ 1000000000) (h : isRadix r = false ∨ 240 < l.length) :
    Calls Tryz.prog 64 #[.string (B l), .int .i64 r] w fun e w' => e = .returned (numAns (parseM l r)) ∧ Below w.heap.size w w' := by
  rw [parse_bad l r h]
  have hsz : (B l).size ≤ 1000000000 := by rw [B_size]; exact hs
  by_cases hr : isRadix r = false
  · clear h
    go_enter Tryz.func64, Tryz.ntmps64
    go_wp2_with fail
    refine (l2Radix_c r _).mono ?_
    rintro e w1 ⟨rfl, rfl⟩
    rw [hr]
    go_wp2
    refine bodyPost_ret (v := numAns none) (by simp [results, Tryz.results64, go_sem, numAns, numO, noNum, numV]) rfl ⟨rfl, ?_⟩
    exact (Below.refl _ _).alloc (Nat.le_refl _) _
  · have hr' : isRadix r = true := by simpa using hr
    have hl : 240 < (B l).size := by rw [B_size]; rcases h with h | h; exact absurd h hr; exact h
    clear h hr
    go_enter Tryz.func64, Tryz.ntmps64
    go_wp2_with fail
    refine (l2Radix_c r _).mono ?_
    rintro e w1 ⟨rfl, rfl⟩
    rw [hr']
    go_wp2
    refine bodyPost_ret (v := numAns none) (by simp [results, Tryz.results64, go_sem, numAns, numO, noNum, numV]) rfl ⟨rfl, ?_⟩
    exact (Below.refl _ _).alloc (Nat.le_refl _) _

theorem parse_yes (l : List UInt8) (b : Nat) (hb4 : b = 2 ∨ b = 8 ∨ b = 10 ∨ b = 16) (hl : l.length ≤ 240) : parseM l (b : Int) = signB b l := by
  have hr : isRadix (b : Int) = true := by rcases hb4 with rfl | rfl | rfl | rfl <;> rfl
  unfold parseM
  rw [hr, decide_eq_true hl]
  simp

set_option maxRecDepth 100000 in
set_option maxHeartbeats 4000000 in
theorem specNumParse_none (b : Nat) (w : World) (hb4 : b = 2 ∨ b = 8 ∨ b = 10 ∨ b = 16) :
    Calls Tryz.prog 64 #[.string (B []), .int .i64 b] w fun e w' => e = .returned (numAns (parseM [] b)) ∧ Below w.heap.size w w' := by
  obtain ⟨l, hl⟩ : ∃ l : List UInt8, l = [] := ⟨_, rfl⟩
  rw [← hl]
  have hr : isRadix (b : Int) = true := by rcases hb4 with rfl | rfl | rfl | rfl <;> rfl
  have hl2 : l.length ≤ 240 := by rw [hl]; simp
  have Hm : Hid (parseM l (b : Int) = bodyM false b l) := by show _ = _; rw [parse_yes l b hb4 hl2, hl]; rfl
  have hz : (B l).size ≤ 0 := by rw [B_size, hl]; simp
  clear hl
  go_enter Tryz.func64, Tryz.ntmps64
  go_wp2_with fail
  refine (l2Radix_c b _).mono ?_
  rintro e w1 ⟨rfl, rfl⟩
  rw [hr]
  -- false: the sign as a Bool; l: the text behind it (a list); wants hb4 : b = 2 ∨ .., hl2 : its length ≤ 240, Hm : Hid (parseM .. = bodyM false b l)
  go_wp2_with fail
  refine (l2Find_at l 47 47 rfl _ (by omega)).mono ?_
  rintro e w1 ⟨rfl, rfl⟩
  cases hf : findB 47 l with
  | some k =>
    have hfi : findI 47 l = (k : Int) := by unfold findI; rw [hf]
    have hk := findB_lt hf
    have Hov2 : Hid (parseM l (b : Int) = overM false b ((l).take k) ((l).drop (k + 1))) := by
      show _ = _
      rw [unhide Hm]; unfold bodyM; rw [hf]
    rw [hfi]
    clear hfi hf
    go_wp2_with fail
    refine (l2Over_c false l k b _ hk (by omega) (by omega) (by omega)).mono ?_
    rintro e w2 ⟨rfl, hb2⟩
    have hb0 := below_alloc_size hb2
    have c0 := newcell hb0 0
    have c1 := newcell hb0 1
    have c2 := newcell hb0 2
    have f0 := newfree hb0 0
    have f1 := newfree hb0 1
    have f2 := newfree hb0 2
    have hbX := below_new hb0
    simp at c0 c1 c2
    clear hb2 hb0
    -- behind l2Make's contract: 64 the function; the struct is stored and told. Wants: Hov2 : Hid (M = lowest ..), c0 c1 c2 f0 f1 f2 hbX, the answer's option overM false b ((l).take k) ((l).drop (k + 1))
    generalize overM false b ((l).take k) ((l).drop (k + 1)) = o at *
    unfold numAns
    obtain ⟨n3, u3, d3, ho⟩ : ∃ n3 u3 d3, numO o = numV n3 u3 d3 := by
      cases o with
      | none => exact ⟨_, _, _, rfl⟩
      | some p => exact ⟨_, _, _, rfl⟩
    have Ho := hide ho
    rw [ho]
    unfold numV
    clear ho
    go_wp2
    refine bodyPost_ret (v := numAns o) (by simp [results, Tryz.results64, go_sem, numAns, unhide Ho, numV, c0, c1, c2]) rfl ⟨by rw [unhide Hov2], ?_⟩
    exact below_three hbX _ (Nat.le_refl _) _ _ _
  | none =>
    have hfi : findI 47 l = -1 := by unfold findI; rw [hf]
    rw [hfi]
    clear hfi
    go_wp2_with fail
    refine (l2Find_at l 46 46 rfl _ (by omega)).mono ?_
    rintro e w2 ⟨rfl, rfl⟩
    have Hf := hide hf
    clear hf
    by_cases hpt : b = 10 ∧ ∃ k, findB 46 l = some k
    · obtain ⟨hb10, k, hfk⟩ := hpt
      have hfi : findI 46 l = (k : Int) := by unfold findI; rw [hfk]
      have hk := findB_lt hfk
      have Hov2 : Hid (parseM l (b : Int) = pointM false ((l).take k) ((l).drop (k + 1))) := by
        show _ = _
        rw [unhide Hm]; unfold bodyM; rw [unhide Hf]
        simp only [hfk]
        rw [if_pos hb10]
      rw [hfi]
      have hbq : ((b : Int) == 10) = true := by rw [beq_iff_eq]; omega
      clear hfi hfk hb10
      go_wp2_with fail
      refine (l2Point_c false l k _ hk (by omega)).mono ?_
      rintro e w3 ⟨rfl, hb3⟩
      have hb0 := below_alloc_size hb3
      have c0 := newcell hb0 0
      have c1 := newcell hb0 1
      have c2 := newcell hb0 2
      have f0 := newfree hb0 0
      have f1 := newfree hb0 1
      have f2 := newfree hb0 2
      have hbX := below_new hb0
      simp at c0 c1 c2
      clear hb3 hb0
      -- behind l2Make's contract: 64 the function; the struct is stored and told. Wants: Hov2 : Hid (M = lowest ..), c0 c1 c2 f0 f1 f2 hbX, the answer's option pointM false ((l).take k) ((l).drop (k + 1))
      generalize pointM false ((l).take k) ((l).drop (k + 1)) = o at *
      unfold numAns
      obtain ⟨n3, u3, d3, ho⟩ : ∃ n3 u3 d3, numO o = numV n3 u3 d3 := by
        cases o with
        | none => exact ⟨_, _, _, rfl⟩
        | some p => exact ⟨_, _, _, rfl⟩
      have Ho := hide ho
      rw [ho]
      unfold numV
      clear ho
      go_wp2
      refine bodyPost_ret (v := numAns o) (by simp [results, Tryz.results64, go_sem, numAns, unhide Ho, numV, c0, c1, c2]) rfl ⟨by rw [unhide Hov2], ?_⟩
      exact below_three hbX _ (Nat.le_refl _) _ _ _
    · have Hpl : Hid (parseM l (b : Int) = plainM false b l) := by
        show _ = _
        rw [unhide Hm]; unfold bodyM; rw [unhide Hf]
        cases hfk : findB 46 l with
        | none => rfl
        | some k =>
          simp only
          rw [if_neg (fun h => hpt ⟨h, k, hfk⟩)]
      have hsn := fun h => rdN_size (b := b) (l := l) (by omega) h
      have hvn : okN b l = true → natV b l = rdN b l := fun h => by unfold natV; rw [if_pos h]
      have Hpo : Hid (plainM false b l = if okN b l then lowest false (rdN b l) 1 else none) := hide rfl
      have d1 : dec 1 = ⟨#[49]⟩ := dec_one
      by_cases hfz : 0 ≤ findI 46 l
      · have hbq : ((b : Int) == 10) = false := by
          rw [beq_eq_false_iff_ne]
          intro hh
          apply hpt
          refine ⟨by omega, ?_⟩
          unfold findI at hfz
          cases hfk : findB 46 l with
          | none => rw [hfk] at hfz; simp at hfz
          | some k => exact ⟨k, rfl⟩
        clear hpt
        go_wp2_with fail
        refine (l2Nat_c l b _ (by omega) (by omega) (by omega)).mono ?_
        rintro e w3 ⟨rfl, hb3⟩
        unfold natAns
        have hb0 := below_alloc_size hb3
        have hzz : w.heap.size + 1 ≤ w3.heap.size := by have := hb3.size; simpa using this
        generalize natV b l = vx at *
        generalize okN b l = ox at *
        cases ox with
        | false =>
          have c0 := newcell hb0 0
          have c1 := newcell hb0 1
          have c2 := newcell hb0 2
          have f0 := newfree hb0 0
          have f1 := newfree hb0 1
          have f2 := newfree hb0 2
          have hbX := below_new hb0
          simp at c0 c1 c2
          clear hb3 hb0 hsn hvn d1
          go_wp2
          refine bodyPost_ret (v := numAns none) (by simp [results, Tryz.results64, go_sem, numAns, numO, noNum, numV, c0, c1, c2]) rfl ⟨by rw [unhide Hpl, unhide Hpo]; rfl, ?_⟩
          exact below_three hbX _ (Nat.le_refl _) _ _ _
        | true =>
          have h1 := hsn rfl
          rw [← hvn rfl] at h1
          have Hov2 : Hid (parseM l (b : Int) = lowest false vx 1) := by rw [hvn rfl]; exact (unhide Hpl).trans (unhide Hpo)
          have d1s := dec_small (n := 1) (by omega)
          clear hsn hvn
          go_wp2_with fail
          rw [← d1]
          clear d1
          refine (l2Make_c false vx 1 _ (by omega) (by omega)).mono ?_
          rintro e w4 ⟨rfl, hb4'⟩
          have hn4 := below_next hb0 hzz hb4'
          have c0 := newcell hn4.1 0
          have c1 := newcell hn4.1 1
          have c2 := newcell hn4.1 2
          have f0 := newfree hn4.1 0
          have f1 := newfree hn4.1 1
          have f2 := newfree hn4.1 2
          have hbX := below_new hn4.1
          simp at c0 c1 c2
          clear hb3 hb0 hb4' hn4
          -- behind l2Make's contract: 64 the function; the struct is stored and told. Wants: Hov2 : Hid (M = lowest ..), c0 c1 c2 f0 f1 f2 hbX, the answer's option lowest false vx 1
          generalize lowest false vx 1 = o at *
          unfold numAns
          obtain ⟨n3, u3, d3, ho⟩ : ∃ n3 u3 d3, numO o = numV n3 u3 d3 := by
            cases o with
            | none => exact ⟨_, _, _, rfl⟩
            | some p => exact ⟨_, _, _, rfl⟩
          have Ho := hide ho
          rw [ho]
          unfold numV
          clear ho
          go_wp2
          refine bodyPost_ret (v := numAns o) (by simp [results, Tryz.results64, go_sem, numAns, unhide Ho, numV, c0, c1, c2]) rfl ⟨by rw [unhide Hov2], ?_⟩
          exact below_three hbX _ (Nat.le_refl _) _ _ _
      · clear hpt
        go_wp2_with fail
        refine (l2Nat_c l b _ (by omega) (by omega) (by omega)).mono ?_
        rintro e w3 ⟨rfl, hb3⟩
        unfold natAns
        have hb0 := below_alloc_size hb3
        have hzz : w.heap.size + 1 ≤ w3.heap.size := by have := hb3.size; simpa using this
        generalize natV b l = vx at *
        generalize okN b l = ox at *
        cases ox with
        | false =>
          have c0 := newcell hb0 0
          have c1 := newcell hb0 1
          have c2 := newcell hb0 2
          have f0 := newfree hb0 0
          have f1 := newfree hb0 1
          have f2 := newfree hb0 2
          have hbX := below_new hb0
          simp at c0 c1 c2
          clear hb3 hb0 hsn hvn d1
          go_wp2
          refine bodyPost_ret (v := numAns none) (by simp [results, Tryz.results64, go_sem, numAns, numO, noNum, numV, c0, c1, c2]) rfl ⟨by rw [unhide Hpl, unhide Hpo]; rfl, ?_⟩
          exact below_three hbX _ (Nat.le_refl _) _ _ _
        | true =>
          have h1 := hsn rfl
          rw [← hvn rfl] at h1
          have Hov2 : Hid (parseM l (b : Int) = lowest false vx 1) := by rw [hvn rfl]; exact (unhide Hpl).trans (unhide Hpo)
          have d1s := dec_small (n := 1) (by omega)
          clear hsn hvn
          go_wp2_with fail
          rw [← d1]
          clear d1
          refine (l2Make_c false vx 1 _ (by omega) (by omega)).mono ?_
          rintro e w4 ⟨rfl, hb4'⟩
          have hn4 := below_next hb0 hzz hb4'
          have c0 := newcell hn4.1 0
          have c1 := newcell hn4.1 1
          have c2 := newcell hn4.1 2
          have f0 := newfree hn4.1 0
          have f1 := newfree hn4.1 1
          have f2 := newfree hn4.1 2
          have hbX := below_new hn4.1
          simp at c0 c1 c2
          clear hb3 hb0 hb4' hn4
          -- behind l2Make's contract: 64 the function; the struct is stored and told. Wants: Hov2 : Hid (M = lowest ..), c0 c1 c2 f0 f1 f2 hbX, the answer's option lowest false vx 1
          generalize lowest false vx 1 = o at *
          unfold numAns
          obtain ⟨n3, u3, d3, ho⟩ : ∃ n3 u3 d3, numO o = numV n3 u3 d3 := by
            cases o with
            | none => exact ⟨_, _, _, rfl⟩
            | some p => exact ⟨_, _, _, rfl⟩
          have Ho := hide ho
          rw [ho]
          unfold numV
          clear ho
          go_wp2
          refine bodyPost_ret (v := numAns o) (by simp [results, Tryz.results64, go_sem, numAns, unhide Ho, numV, c0, c1, c2]) rfl ⟨by rw [unhide Hov2], ?_⟩
          exact below_three hbX _ (Nat.le_refl _) _ _ _


set_option maxRecDepth 100000 in
set_option maxHeartbeats 4000000 in
theorem specNumParse_minus (t : List UInt8) (b : Nat) (w : World) (hb4 : b = 2 ∨ b = 8 ∨ b = 10 ∨ b = 16) (c : UInt8) (hc : c = 45) (hlen : (c :: t).length ≤ 240) :
    Calls Tryz.prog 64 #[.string (B (c :: t)), .int .i64 b] w fun e w' => e = .returned (numAns (parseM (c :: t) b)) ∧ Below w.heap.size w w' := by
  obtain ⟨l, hl⟩ : ∃ l : List UInt8, l = c :: t := ⟨_, rfl⟩
  rw [← hl]
  have hr : isRadix (b : Int) = true := by rcases hb4 with rfl | rfl | rfl | rfl <;> rfl
  have hl2 : l.length ≤ 240 := by rw [hl]; exact hlen
  have htl : t.length ≤ 240 := by simp at hlen; omega
  have hpos : 0 < (B l).size := by rw [B_size, hl]; simp
  have hposI : (0 : Int) < ((B l).size : Int) := by omega
  have hsz : (B l).size ≤ 240 := by rw [B_size]; exact hl2
  have hc0 : ((B l)[0]'hpos).toNat = c.toNat := by rw [B_get]; simp [hl]
  have hcut : (B l).extract 1 (B l).size = B t := by rw [B_extract, B_size, List.take_length, hl]; rfl
  have Hm : Hid (parseM l (b : Int) = bodyM true b t) := by show _ = _; rw [parse_yes l b hb4 hl2, hl]; simp [signB, hc]
  have hq : (((B l)[0]'hpos).toNat : Int) == 45 := by rw [hc0, hc]; rfl
  clear hl hc hc0 hlen
  go_enter Tryz.func64, Tryz.ntmps64
  go_wp2_with fail
  refine (l2Radix_c b _).mono ?_
  rintro e w1 ⟨rfl, rfl⟩
  rw [hr]
  -- true: the sign as a Bool; t: the text behind it (a list); wants hb4 : b = 2 ∨ .., hl2 : its length ≤ 240, Hm : Hid (parseM .. = bodyM true b t)
  go_wp2_with fail
  refine (l2Find_at t 47 47 rfl _ (by omega)).mono ?_
  rintro e w1 ⟨rfl, rfl⟩
  cases hf : findB 47 t with
  | some k =>
    have hfi : findI 47 t = (k : Int) := by unfold findI; rw [hf]
    have hk := findB_lt hf
    have Hov2 : Hid (parseM l (b : Int) = overM true b ((t).take k) ((t).drop (k + 1))) := by
      show _ = _
      rw [unhide Hm]; unfold bodyM; rw [hf]
    rw [hfi]
    clear hfi hf
    go_wp2_with fail
    refine (l2Over_c true t k b _ hk (by omega) (by omega) (by omega)).mono ?_
    rintro e w2 ⟨rfl, hb2⟩
    have hb0 := below_alloc_size hb2
    have c0 := newcell hb0 0
    have c1 := newcell hb0 1
    have c2 := newcell hb0 2
    have f0 := newfree hb0 0
    have f1 := newfree hb0 1
    have f2 := newfree hb0 2
    have hbX := below_new hb0
    simp at c0 c1 c2
    clear hb2 hb0
    -- behind l2Make's contract: 64 the function; the struct is stored and told. Wants: Hov2 : Hid (M = lowest ..), c0 c1 c2 f0 f1 f2 hbX, the answer's option overM true b ((t).take k) ((t).drop (k + 1))
    generalize overM true b ((t).take k) ((t).drop (k + 1)) = o at *
    unfold numAns
    obtain ⟨n3, u3, d3, ho⟩ : ∃ n3 u3 d3, numO o = numV n3 u3 d3 := by
      cases o with
      | none => exact ⟨_, _, _, rfl⟩
      | some p => exact ⟨_, _, _, rfl⟩
    have Ho := hide ho
    rw [ho]
    unfold numV
    clear ho
    go_wp2
    refine bodyPost_ret (v := numAns o) (by simp [results, Tryz.results64, go_sem, numAns, unhide Ho, numV, c0, c1, c2]) rfl ⟨by rw [unhide Hov2], ?_⟩
    exact below_three hbX _ (Nat.le_refl _) _ _ _
  | none =>
    have hfi : findI 47 t = -1 := by unfold findI; rw [hf]
    rw [hfi]
    clear hfi
    go_wp2_with fail
    refine (l2Find_at t 46 46 rfl _ (by omega)).mono ?_
    rintro e w2 ⟨rfl, rfl⟩
    have Hf := hide hf
    clear hf
    by_cases hpt : b = 10 ∧ ∃ k, findB 46 t = some k
    · obtain ⟨hb10, k, hfk⟩ := hpt
      have hfi : findI 46 t = (k : Int) := by unfold findI; rw [hfk]
      have hk := findB_lt hfk
      have Hov2 : Hid (parseM l (b : Int) = pointM true ((t).take k) ((t).drop (k + 1))) := by
        show _ = _
        rw [unhide Hm]; unfold bodyM; rw [unhide Hf]
        simp only [hfk]
        rw [if_pos hb10]
      rw [hfi]
      have hbq : ((b : Int) == 10) = true := by rw [beq_iff_eq]; omega
      clear hfi hfk hb10
      go_wp2_with fail
      refine (l2Point_c true t k _ hk (by omega)).mono ?_
      rintro e w3 ⟨rfl, hb3⟩
      have hb0 := below_alloc_size hb3
      have c0 := newcell hb0 0
      have c1 := newcell hb0 1
      have c2 := newcell hb0 2
      have f0 := newfree hb0 0
      have f1 := newfree hb0 1
      have f2 := newfree hb0 2
      have hbX := below_new hb0
      simp at c0 c1 c2
      clear hb3 hb0
      -- behind l2Make's contract: 64 the function; the struct is stored and told. Wants: Hov2 : Hid (M = lowest ..), c0 c1 c2 f0 f1 f2 hbX, the answer's option pointM true ((t).take k) ((t).drop (k + 1))
      generalize pointM true ((t).take k) ((t).drop (k + 1)) = o at *
      unfold numAns
      obtain ⟨n3, u3, d3, ho⟩ : ∃ n3 u3 d3, numO o = numV n3 u3 d3 := by
        cases o with
        | none => exact ⟨_, _, _, rfl⟩
        | some p => exact ⟨_, _, _, rfl⟩
      have Ho := hide ho
      rw [ho]
      unfold numV
      clear ho
      go_wp2
      refine bodyPost_ret (v := numAns o) (by simp [results, Tryz.results64, go_sem, numAns, unhide Ho, numV, c0, c1, c2]) rfl ⟨by rw [unhide Hov2], ?_⟩
      exact below_three hbX _ (Nat.le_refl _) _ _ _
    · have Hpl : Hid (parseM l (b : Int) = plainM true b t) := by
        show _ = _
        rw [unhide Hm]; unfold bodyM; rw [unhide Hf]
        cases hfk : findB 46 t with
        | none => rfl
        | some k =>
          simp only
          rw [if_neg (fun h => hpt ⟨h, k, hfk⟩)]
      have hsn := fun h => rdN_size (b := b) (l := t) (by omega) h
      have hvn : okN b t = true → natV b t = rdN b t := fun h => by unfold natV; rw [if_pos h]
      have Hpo : Hid (plainM true b t = if okN b t then lowest true (rdN b t) 1 else none) := hide rfl
      have d1 : dec 1 = ⟨#[49]⟩ := dec_one
      by_cases hfz : 0 ≤ findI 46 t
      · have hbq : ((b : Int) == 10) = false := by
          rw [beq_eq_false_iff_ne]
          intro hh
          apply hpt
          refine ⟨by omega, ?_⟩
          unfold findI at hfz
          cases hfk : findB 46 t with
          | none => rw [hfk] at hfz; simp at hfz
          | some k => exact ⟨k, rfl⟩
        clear hpt
        go_wp2_with fail
        refine (l2Nat_c t b _ (by omega) (by omega) (by omega)).mono ?_
        rintro e w3 ⟨rfl, hb3⟩
        unfold natAns
        have hb0 := below_alloc_size hb3
        have hzz : w.heap.size + 1 ≤ w3.heap.size := by have := hb3.size; simpa using this
        generalize natV b t = vx at *
        generalize okN b t = ox at *
        cases ox with
        | false =>
          have c0 := newcell hb0 0
          have c1 := newcell hb0 1
          have c2 := newcell hb0 2
          have f0 := newfree hb0 0
          have f1 := newfree hb0 1
          have f2 := newfree hb0 2
          have hbX := below_new hb0
          simp at c0 c1 c2
          clear hb3 hb0 hsn hvn d1
          go_wp2
          refine bodyPost_ret (v := numAns none) (by simp [results, Tryz.results64, go_sem, numAns, numO, noNum, numV, c0, c1, c2]) rfl ⟨by rw [unhide Hpl, unhide Hpo]; rfl, ?_⟩
          exact below_three hbX _ (Nat.le_refl _) _ _ _
        | true =>
          have h1 := hsn rfl
          rw [← hvn rfl] at h1
          have Hov2 : Hid (parseM l (b : Int) = lowest true vx 1) := by rw [hvn rfl]; exact (unhide Hpl).trans (unhide Hpo)
          have d1s := dec_small (n := 1) (by omega)
          clear hsn hvn
          go_wp2_with fail
          rw [← d1]
          clear d1
          refine (l2Make_c true vx 1 _ (by omega) (by omega)).mono ?_
          rintro e w4 ⟨rfl, hb4'⟩
          have hn4 := below_next hb0 hzz hb4'
          have c0 := newcell hn4.1 0
          have c1 := newcell hn4.1 1
          have c2 := newcell hn4.1 2
          have f0 := newfree hn4.1 0
          have f1 := newfree hn4.1 1
          have f2 := newfree hn4.1 2
          have hbX := below_new hn4.1
          simp at c0 c1 c2
          clear hb3 hb0 hb4' hn4
          -- behind l2Make's contract: 64 the function; the struct is stored and told. Wants: Hov2 : Hid (M = lowest ..), c0 c1 c2 f0 f1 f2 hbX, the answer's option lowest true vx 1
          generalize lowest true vx 1 = o at *
          unfold numAns
          obtain ⟨n3, u3, d3, ho⟩ : ∃ n3 u3 d3, numO o = numV n3 u3 d3 := by
            cases o with
            | none => exact ⟨_, _, _, rfl⟩
            | some p => exact ⟨_, _, _, rfl⟩
          have Ho := hide ho
          rw [ho]
          unfold numV
          clear ho
          go_wp2
          refine bodyPost_ret (v := numAns o) (by simp [results, Tryz.results64, go_sem, numAns, unhide Ho, numV, c0, c1, c2]) rfl ⟨by rw [unhide Hov2], ?_⟩
          exact below_three hbX _ (Nat.le_refl _) _ _ _
      · clear hpt
        go_wp2_with fail
        refine (l2Nat_c t b _ (by omega) (by omega) (by omega)).mono ?_
        rintro e w3 ⟨rfl, hb3⟩
        unfold natAns
        have hb0 := below_alloc_size hb3
        have hzz : w.heap.size + 1 ≤ w3.heap.size := by have := hb3.size; simpa using this
        generalize natV b t = vx at *
        generalize okN b t = ox at *
        cases ox with
        | false =>
          have c0 := newcell hb0 0
          have c1 := newcell hb0 1
          have c2 := newcell hb0 2
          have f0 := newfree hb0 0
          have f1 := newfree hb0 1
          have f2 := newfree hb0 2
          have hbX := below_new hb0
          simp at c0 c1 c2
          clear hb3 hb0 hsn hvn d1
          go_wp2
          refine bodyPost_ret (v := numAns none) (by simp [results, Tryz.results64, go_sem, numAns, numO, noNum, numV, c0, c1, c2]) rfl ⟨by rw [unhide Hpl, unhide Hpo]; rfl, ?_⟩
          exact below_three hbX _ (Nat.le_refl _) _ _ _
        | true =>
          have h1 := hsn rfl
          rw [← hvn rfl] at h1
          have Hov2 : Hid (parseM l (b : Int) = lowest true vx 1) := by rw [hvn rfl]; exact (unhide Hpl).trans (unhide Hpo)
          have d1s := dec_small (n := 1) (by omega)
          clear hsn hvn
          go_wp2_with fail
          rw [← d1]
          clear d1
          refine (l2Make_c true vx 1 _ (by omega) (by omega)).mono ?_
          rintro e w4 ⟨rfl, hb4'⟩
          have hn4 := below_next hb0 hzz hb4'
          have c0 := newcell hn4.1 0
          have c1 := newcell hn4.1 1
          have c2 := newcell hn4.1 2
          have f0 := newfree hn4.1 0
          have f1 := newfree hn4.1 1
          have f2 := newfree hn4.1 2
          have hbX := below_new hn4.1
          simp at c0 c1 c2
          clear hb3 hb0 hb4' hn4
          -- behind l2Make's contract: 64 the function; the struct is stored and told. Wants: Hov2 : Hid (M = lowest ..), c0 c1 c2 f0 f1 f2 hbX, the answer's option lowest true vx 1
          generalize lowest true vx 1 = o at *
          unfold numAns
          obtain ⟨n3, u3, d3, ho⟩ : ∃ n3 u3 d3, numO o = numV n3 u3 d3 := by
            cases o with
            | none => exact ⟨_, _, _, rfl⟩
            | some p => exact ⟨_, _, _, rfl⟩
          have Ho := hide ho
          rw [ho]
          unfold numV
          clear ho
          go_wp2
          refine bodyPost_ret (v := numAns o) (by simp [results, Tryz.results64, go_sem, numAns, unhide Ho, numV, c0, c1, c2]) rfl ⟨by rw [unhide Hov2], ?_⟩
          exact below_three hbX _ (Nat.le_refl _) _ _ _

set_option maxRecDepth 100000 in
set_option maxHeartbeats 4000000 in
theorem specNumParse_plus (t : List UInt8) (b : Nat) (w : World) (hb4 : b = 2 ∨ b = 8 ∨ b = 10 ∨ b = 16) (c : UInt8) (hc : c = 43) (hlen : (c :: t).length ≤ 240) :
    Calls Tryz.prog 64 #[.string (B (c :: t)), .int .i64 b] w fun e w' => e = .returned (numAns (parseM (c :: t) b)) ∧ Below w.heap.size w w' := by
  obtain ⟨l, hl⟩ : ∃ l : List UInt8, l = c :: t := ⟨_, rfl⟩
  rw [← hl]
  have hr : isRadix (b : Int) = true := by rcases hb4 with rfl | rfl | rfl | rfl <;> rfl
  have hl2 : l.length ≤ 240 := by rw [hl]; exact hlen
  have htl : t.length ≤ 240 := by simp at hlen; omega
  have hpos : 0 < (B l).size := by rw [B_size, hl]; simp
  have hposI : (0 : Int) < ((B l).size : Int) := by omega
  have hsz : (B l).size ≤ 240 := by rw [B_size]; exact hl2
  have hc0 : ((B l)[0]'hpos).toNat = c.toNat := by rw [B_get]; simp [hl]
  have hcut : (B l).extract 1 (B l).size = B t := by rw [B_extract, B_size, List.take_length, hl]; rfl
  have Hm : Hid (parseM l (b : Int) = bodyM false b t) := by show _ = _; rw [parse_yes l b hb4 hl2, hl]; simp [signB, hc]
  have hq : ((((B l)[0]'hpos).toNat : Int) == 45) = false := by rw [hc0, hc]; rfl
  have hq2 : ((((B l)[0]'hpos).toNat : Int) == 43) = true := by rw [hc0, hc]; rfl
  clear hl hc hc0 hlen
  go_enter Tryz.func64, Tryz.ntmps64
  go_wp2_with fail
  refine (l2Radix_c b _).mono ?_
  rintro e w1 ⟨rfl, rfl⟩
  rw [hr]
  -- false: the sign as a Bool; t: the text behind it (a list); wants hb4 : b = 2 ∨ .., hl2 : its length ≤ 240, Hm : Hid (parseM .. = bodyM false b t)
  go_wp2_with fail
  refine (l2Find_at t 47 47 rfl _ (by omega)).mono ?_
  rintro e w1 ⟨rfl, rfl⟩
  cases hf : findB 47 t with
  | some k =>
    have hfi : findI 47 t = (k : Int) := by unfold findI; rw [hf]
    have hk := findB_lt hf
    have Hov2 : Hid (parseM l (b : Int) = overM false b ((t).take k) ((t).drop (k + 1))) := by
      show _ = _
      rw [unhide Hm]; unfold bodyM; rw [hf]
    rw [hfi]
    clear hfi hf
    go_wp2_with fail
    refine (l2Over_c false t k b _ hk (by omega) (by omega) (by omega)).mono ?_
    rintro e w2 ⟨rfl, hb2⟩
    have hb0 := below_alloc_size hb2
    have c0 := newcell hb0 0
    have c1 := newcell hb0 1
    have c2 := newcell hb0 2
    have f0 := newfree hb0 0
    have f1 := newfree hb0 1
    have f2 := newfree hb0 2
    have hbX := below_new hb0
    simp at c0 c1 c2
    clear hb2 hb0
    -- behind l2Make's contract: 64 the function; the struct is stored and told. Wants: Hov2 : Hid (M = lowest ..), c0 c1 c2 f0 f1 f2 hbX, the answer's option overM false b ((t).take k) ((t).drop (k + 1))
    generalize overM false b ((t).take k) ((t).drop (k + 1)) = o at *
    unfold numAns
    obtain ⟨n3, u3, d3, ho⟩ : ∃ n3 u3 d3, numO o = numV n3 u3 d3 := by
      cases o with
      | none => exact ⟨_, _, _, rfl⟩
      | some p => exact ⟨_, _, _, rfl⟩
    have Ho := hide ho
    rw [ho]
    unfold numV
    clear ho
    go_wp2
    refine bodyPost_ret (v := numAns o) (by simp [results, Tryz.results64, go_sem, numAns, unhide Ho, numV, c0, c1, c2]) rfl ⟨by rw [unhide Hov2], ?_⟩
    exact below_three hbX _ (Nat.le_refl _) _ _ _
  | none =>
    have hfi : findI 47 t = -1 := by unfold findI; rw [hf]
    rw [hfi]
    clear hfi
    go_wp2_with fail
    refine (l2Find_at t 46 46 rfl _ (by omega)).mono ?_
    rintro e w2 ⟨rfl, rfl⟩
    have Hf := hide hf
    clear hf
    by_cases hpt : b = 10 ∧ ∃ k, findB 46 t = some k
    · obtain ⟨hb10, k, hfk⟩ := hpt
      have hfi : findI 46 t = (k : Int) := by unfold findI; rw [hfk]
      have hk := findB_lt hfk
      have Hov2 : Hid (parseM l (b : Int) = pointM false ((t).take k) ((t).drop (k + 1))) := by
        show _ = _
        rw [unhide Hm]; unfold bodyM; rw [unhide Hf]
        simp only [hfk]
        rw [if_pos hb10]
      rw [hfi]
      have hbq : ((b : Int) == 10) = true := by rw [beq_iff_eq]; omega
      clear hfi hfk hb10
      go_wp2_with fail
      refine (l2Point_c false t k _ hk (by omega)).mono ?_
      rintro e w3 ⟨rfl, hb3⟩
      have hb0 := below_alloc_size hb3
      have c0 := newcell hb0 0
      have c1 := newcell hb0 1
      have c2 := newcell hb0 2
      have f0 := newfree hb0 0
      have f1 := newfree hb0 1
      have f2 := newfree hb0 2
      have hbX := below_new hb0
      simp at c0 c1 c2
      clear hb3 hb0
      -- behind l2Make's contract: 64 the function; the struct is stored and told. Wants: Hov2 : Hid (M = lowest ..), c0 c1 c2 f0 f1 f2 hbX, the answer's option pointM false ((t).take k) ((t).drop (k + 1))
      generalize pointM false ((t).take k) ((t).drop (k + 1)) = o at *
      unfold numAns
      obtain ⟨n3, u3, d3, ho⟩ : ∃ n3 u3 d3, numO o = numV n3 u3 d3 := by
        cases o with
        | none => exact ⟨_, _, _, rfl⟩
        | some p => exact ⟨_, _, _, rfl⟩
      have Ho := hide ho
      rw [ho]
      unfold numV
      clear ho
      go_wp2
      refine bodyPost_ret (v := numAns o) (by simp [results, Tryz.results64, go_sem, numAns, unhide Ho, numV, c0, c1, c2]) rfl ⟨by rw [unhide Hov2], ?_⟩
      exact below_three hbX _ (Nat.le_refl _) _ _ _
    · have Hpl : Hid (parseM l (b : Int) = plainM false b t) := by
        show _ = _
        rw [unhide Hm]; unfold bodyM; rw [unhide Hf]
        cases hfk : findB 46 t with
        | none => rfl
        | some k =>
          simp only
          rw [if_neg (fun h => hpt ⟨h, k, hfk⟩)]
      have hsn := fun h => rdN_size (b := b) (l := t) (by omega) h
      have hvn : okN b t = true → natV b t = rdN b t := fun h => by unfold natV; rw [if_pos h]
      have Hpo : Hid (plainM false b t = if okN b t then lowest false (rdN b t) 1 else none) := hide rfl
      have d1 : dec 1 = ⟨#[49]⟩ := dec_one
      by_cases hfz : 0 ≤ findI 46 t
      · have hbq : ((b : Int) == 10) = false := by
          rw [beq_eq_false_iff_ne]
          intro hh
          apply hpt
          refine ⟨by omega, ?_⟩
          unfold findI at hfz
          cases hfk : findB 46 t with
          | none => rw [hfk] at hfz; simp at hfz
          | some k => exact ⟨k, rfl⟩
        clear hpt
        go_wp2_with fail
        refine (l2Nat_c t b _ (by omega) (by omega) (by omega)).mono ?_
        rintro e w3 ⟨rfl, hb3⟩
        unfold natAns
        have hb0 := below_alloc_size hb3
        have hzz : w.heap.size + 1 ≤ w3.heap.size := by have := hb3.size; simpa using this
        generalize natV b t = vx at *
        generalize okN b t = ox at *
        cases ox with
        | false =>
          have c0 := newcell hb0 0
          have c1 := newcell hb0 1
          have c2 := newcell hb0 2
          have f0 := newfree hb0 0
          have f1 := newfree hb0 1
          have f2 := newfree hb0 2
          have hbX := below_new hb0
          simp at c0 c1 c2
          clear hb3 hb0 hsn hvn d1
          go_wp2
          refine bodyPost_ret (v := numAns none) (by simp [results, Tryz.results64, go_sem, numAns, numO, noNum, numV, c0, c1, c2]) rfl ⟨by rw [unhide Hpl, unhide Hpo]; rfl, ?_⟩
          exact below_three hbX _ (Nat.le_refl _) _ _ _
        | true =>
          have h1 := hsn rfl
          rw [← hvn rfl] at h1
          have Hov2 : Hid (parseM l (b : Int) = lowest false vx 1) := by rw [hvn rfl]; exact (unhide Hpl).trans (unhide Hpo)
          have d1s := dec_small (n := 1) (by omega)
          clear hsn hvn
          go_wp2_with fail
          rw [← d1]
          clear d1
          refine (l2Make_c false vx 1 _ (by omega) (by omega)).mono ?_
          rintro e w4 ⟨rfl, hb4'⟩
          have hn4 := below_next hb0 hzz hb4'
          have c0 := newcell hn4.1 0
          have c1 := newcell hn4.1 1
          have c2 := newcell hn4.1 2
          have f0 := newfree hn4.1 0
          have f1 := newfree hn4.1 1
          have f2 := newfree hn4.1 2
          have hbX := below_new hn4.1
          simp at c0 c1 c2
          clear hb3 hb0 hb4' hn4
          -- behind l2Make's contract: 64 the function; the struct is stored and told. Wants: Hov2 : Hid (M = lowest ..), c0 c1 c2 f0 f1 f2 hbX, the answer's option lowest false vx 1
          generalize lowest false vx 1 = o at *
          unfold numAns
          obtain ⟨n3, u3, d3, ho⟩ : ∃ n3 u3 d3, numO o = numV n3 u3 d3 := by
            cases o with
            | none => exact ⟨_, _, _, rfl⟩
            | some p => exact ⟨_, _, _, rfl⟩
          have Ho := hide ho
          rw [ho]
          unfold numV
          clear ho
          go_wp2
          refine bodyPost_ret (v := numAns o) (by simp [results, Tryz.results64, go_sem, numAns, unhide Ho, numV, c0, c1, c2]) rfl ⟨by rw [unhide Hov2], ?_⟩
          exact below_three hbX _ (Nat.le_refl _) _ _ _
      · clear hpt
        go_wp2_with fail
        refine (l2Nat_c t b _ (by omega) (by omega) (by omega)).mono ?_
        rintro e w3 ⟨rfl, hb3⟩
        unfold natAns
        have hb0 := below_alloc_size hb3
        have hzz : w.heap.size + 1 ≤ w3.heap.size := by have := hb3.size; simpa using this
        generalize natV b t = vx at *
        generalize okN b t = ox at *
        cases ox with
        | false =>
          have c0 := newcell hb0 0
          have c1 := newcell hb0 1
          have c2 := newcell hb0 2
          have f0 := newfree hb0 0
          have f1 := newfree hb0 1
          have f2 := newfree hb0 2
          have hbX := below_new hb0
          simp at c0 c1 c2
          clear hb3 hb0 hsn hvn d1
          go_wp2
          refine bodyPost_ret (v := numAns none) (by simp [results, Tryz.results64, go_sem, numAns, numO, noNum, numV, c0, c1, c2]) rfl ⟨by rw [unhide Hpl, unhide Hpo]; rfl, ?_⟩
          exact below_three hbX _ (Nat.le_refl _) _ _ _
        | true =>
          have h1 := hsn rfl
          rw [← hvn rfl] at h1
          have Hov2 : Hid (parseM l (b : Int) = lowest false vx 1) := by rw [hvn rfl]; exact (unhide Hpl).trans (unhide Hpo)
          have d1s := dec_small (n := 1) (by omega)
          clear hsn hvn
          go_wp2_with fail
          rw [← d1]
          clear d1
          refine (l2Make_c false vx 1 _ (by omega) (by omega)).mono ?_
          rintro e w4 ⟨rfl, hb4'⟩
          have hn4 := below_next hb0 hzz hb4'
          have c0 := newcell hn4.1 0
          have c1 := newcell hn4.1 1
          have c2 := newcell hn4.1 2
          have f0 := newfree hn4.1 0
          have f1 := newfree hn4.1 1
          have f2 := newfree hn4.1 2
          have hbX := below_new hn4.1
          simp at c0 c1 c2
          clear hb3 hb0 hb4' hn4
          -- behind l2Make's contract: 64 the function; the struct is stored and told. Wants: Hov2 : Hid (M = lowest ..), c0 c1 c2 f0 f1 f2 hbX, the answer's option lowest false vx 1
          generalize lowest false vx 1 = o at *
          unfold numAns
          obtain ⟨n3, u3, d3, ho⟩ : ∃ n3 u3 d3, numO o = numV n3 u3 d3 := by
            cases o with
            | none => exact ⟨_, _, _, rfl⟩
            | some p => exact ⟨_, _, _, rfl⟩
          have Ho := hide ho
          rw [ho]
          unfold numV
          clear ho
          go_wp2
          refine bodyPost_ret (v := numAns o) (by simp [results, Tryz.results64, go_sem, numAns, unhide Ho, numV, c0, c1, c2]) rfl ⟨by rw [unhide Hov2], ?_⟩
          exact below_three hbX _ (Nat.le_refl _) _ _ _

set_option maxRecDepth 100000 in
set_option maxHeartbeats 4000000 in
theorem specNumParse_bare (t : List UInt8) (b : Nat) (w : World) (hb4 : b = 2 ∨ b = 8 ∨ b = 10 ∨ b = 16) (c : UInt8) (hc : c ≠ 45) (hc2 : c ≠ 43) (hlen : (c :: t).length ≤ 240) :
    Calls Tryz.prog 64 #[.string (B (c :: t)), .int .i64 b] w fun e w' => e = .returned (numAns (parseM (c :: t) b)) ∧ Below w.heap.size w w' := by
  obtain ⟨l, hl⟩ : ∃ l : List UInt8, l = c :: t := ⟨_, rfl⟩
  rw [← hl]
  have hr : isRadix (b : Int) = true := by rcases hb4 with rfl | rfl | rfl | rfl <;> rfl
  have hl2 : l.length ≤ 240 := by rw [hl]; exact hlen
  have htl : t.length ≤ 240 := by simp at hlen; omega
  have hpos : 0 < (B l).size := by rw [B_size, hl]; simp
  have hposI : (0 : Int) < ((B l).size : Int) := by omega
  have hsz : (B l).size ≤ 240 := by rw [B_size]; exact hl2
  have hc0 : ((B l)[0]'hpos).toNat = c.toNat := by rw [B_get]; simp [hl]
  have hcut : (B l).extract 1 (B l).size = B t := by rw [B_extract, B_size, List.take_length, hl]; rfl
  have Hm : Hid (parseM l (b : Int) = bodyM false b l) := by show _ = _; rw [parse_yes l b hb4 hl2, hl]; simp [signB, hc, hc2]
  have hq : ((((B l)[0]'hpos).toNat : Int) == 45) = false := by
    rw [hc0, beq_eq_false_iff_ne]; intro hh; apply hc; apply UInt8.toNat_inj.1; simp only [UInt8.toNat_ofNat]; omega
  have hq2 : ((((B l)[0]'hpos).toNat : Int) == 43) = false := by
    rw [hc0, beq_eq_false_iff_ne]; intro hh; apply hc2; apply UInt8.toNat_inj.1; simp only [UInt8.toNat_ofNat]; omega
  clear hl hc hc2 hc0 hlen hcut
  go_enter Tryz.func64, Tryz.ntmps64
  go_wp2_with fail
  refine (l2Radix_c b _).mono ?_
  rintro e w1 ⟨rfl, rfl⟩
  rw [hr]
  -- false: the sign as a Bool; l: the text behind it (a list); wants hb4 : b = 2 ∨ .., hl2 : its length ≤ 240, Hm : Hid (parseM .. = bodyM false b l)
  go_wp2_with fail
  refine (l2Find_at l 47 47 rfl _ (by omega)).mono ?_
  rintro e w1 ⟨rfl, rfl⟩
  cases hf : findB 47 l with
  | some k =>
    have hfi : findI 47 l = (k : Int) := by unfold findI; rw [hf]
    have hk := findB_lt hf
    have Hov2 : Hid (parseM l (b : Int) = overM false b ((l).take k) ((l).drop (k + 1))) := by
      show _ = _
      rw [unhide Hm]; unfold bodyM; rw [hf]
    rw [hfi]
    clear hfi hf
    go_wp2_with fail
    refine (l2Over_c false l k b _ hk (by omega) (by omega) (by omega)).mono ?_
    rintro e w2 ⟨rfl, hb2⟩
    have hb0 := below_alloc_size hb2
    have c0 := newcell hb0 0
    have c1 := newcell hb0 1
    have c2 := newcell hb0 2
    have f0 := newfree hb0 0
    have f1 := newfree hb0 1
    have f2 := newfree hb0 2
    have hbX := below_new hb0
    simp at c0 c1 c2
    clear hb2 hb0
    -- behind l2Make's contract: 64 the function; the struct is stored and told. Wants: Hov2 : Hid (M = lowest ..), c0 c1 c2 f0 f1 f2 hbX, the answer's option overM false b ((l).take k) ((l).drop (k + 1))
    generalize overM false b ((l).take k) ((l).drop (k + 1)) = o at *
    unfold numAns
    obtain ⟨n3, u3, d3, ho⟩ : ∃ n3 u3 d3, numO o = numV n3 u3 d3 := by
      cases o with
      | none => exact ⟨_, _, _, rfl⟩
      | some p => exact ⟨_, _, _, rfl⟩
    have Ho := hide ho
    rw [ho]
    unfold numV
    clear ho
    go_wp2
    refine bodyPost_ret (v := numAns o) (by simp [results, Tryz.results64, go_sem, numAns, unhide Ho, numV, c0, c1, c2]) rfl ⟨by rw [unhide Hov2], ?_⟩
    exact below_three hbX _ (Nat.le_refl _) _ _ _
  | none =>
    have hfi : findI 47 l = -1 := by unfold findI; rw [hf]
    rw [hfi]
    clear hfi
    go_wp2_with fail
    refine (l2Find_at l 46 46 rfl _ (by omega)).mono ?_
    rintro e w2 ⟨rfl, rfl⟩
    have Hf := hide hf
    clear hf
    by_cases hpt : b = 10 ∧ ∃ k, findB 46 l = some k
    · obtain ⟨hb10, k, hfk⟩ := hpt
      have hfi : findI 46 l = (k : Int) := by unfold findI; rw [hfk]
      have hk := findB_lt hfk
      have Hov2 : Hid (parseM l (b : Int) = pointM false ((l).take k) ((l).drop (k + 1))) := by
        show _ = _
        rw [unhide Hm]; unfold bodyM; rw [unhide Hf]
        simp only [hfk]
        rw [if_pos hb10]
      rw [hfi]
      have hbq : ((b : Int) == 10) = true := by rw [beq_iff_eq]; omega
      clear hfi hfk hb10
      go_wp2_with fail
      refine (l2Point_c false l k _ hk (by omega)).mono ?_
      rintro e w3 ⟨rfl, hb3⟩
      have hb0 := below_alloc_size hb3
      have c0 := newcell hb0 0
      have c1 := newcell hb0 1
      have c2 := newcell hb0 2
      have f0 := newfree hb0 0
      have f1 := newfree hb0 1
      have f2 := newfree hb0 2
      have hbX := below_new hb0
      simp at c0 c1 c2
      clear hb3 hb0
      -- behind l2Make's contract: 64 the function; the struct is stored and told. Wants: Hov2 : Hid (M = lowest ..), c0 c1 c2 f0 f1 f2 hbX, the answer's option pointM false ((l).take k) ((l).drop (k + 1))
      generalize pointM false ((l).take k) ((l).drop (k + 1)) = o at *
      unfold numAns
      obtain ⟨n3, u3, d3, ho⟩ : ∃ n3 u3 d3, numO o = numV n3 u3 d3 := by
        cases o with
        | none => exact ⟨_, _, _, rfl⟩
        | some p => exact ⟨_, _, _, rfl⟩
      have Ho := hide ho
      rw [ho]
      unfold numV
      clear ho
      go_wp2
      refine bodyPost_ret (v := numAns o) (by simp [results, Tryz.results64, go_sem, numAns, unhide Ho, numV, c0, c1, c2]) rfl ⟨by rw [unhide Hov2], ?_⟩
      exact below_three hbX _ (Nat.le_refl _) _ _ _
    · have Hpl : Hid (parseM l (b : Int) = plainM false b l) := by
        show _ = _
        rw [unhide Hm]; unfold bodyM; rw [unhide Hf]
        cases hfk : findB 46 l with
        | none => rfl
        | some k =>
          simp only
          rw [if_neg (fun h => hpt ⟨h, k, hfk⟩)]
      have hsn := fun h => rdN_size (b := b) (l := l) (by omega) h
      have hvn : okN b l = true → natV b l = rdN b l := fun h => by unfold natV; rw [if_pos h]
      have Hpo : Hid (plainM false b l = if okN b l then lowest false (rdN b l) 1 else none) := hide rfl
      have d1 : dec 1 = ⟨#[49]⟩ := dec_one
      by_cases hfz : 0 ≤ findI 46 l
      · have hbq : ((b : Int) == 10) = false := by
          rw [beq_eq_false_iff_ne]
          intro hh
          apply hpt
          refine ⟨by omega, ?_⟩
          unfold findI at hfz
          cases hfk : findB 46 l with
          | none => rw [hfk] at hfz; simp at hfz
          | some k => exact ⟨k, rfl⟩
        clear hpt
        go_wp2_with fail
        refine (l2Nat_c l b _ (by omega) (by omega) (by omega)).mono ?_
        rintro e w3 ⟨rfl, hb3⟩
        unfold natAns
        have hb0 := below_alloc_size hb3
        have hzz : w.heap.size + 1 ≤ w3.heap.size := by have := hb3.size; simpa using this
        generalize natV b l = vx at *
        generalize okN b l = ox at *
        cases ox with
        | false =>
          have c0 := newcell hb0 0
          have c1 := newcell hb0 1
          have c2 := newcell hb0 2
          have f0 := newfree hb0 0
          have f1 := newfree hb0 1
          have f2 := newfree hb0 2
          have hbX := below_new hb0
          simp at c0 c1 c2
          clear hb3 hb0 hsn hvn d1
          go_wp2
          refine bodyPost_ret (v := numAns none) (by simp [results, Tryz.results64, go_sem, numAns, numO, noNum, numV, c0, c1, c2]) rfl ⟨by rw [unhide Hpl, unhide Hpo]; rfl, ?_⟩
          exact below_three hbX _ (Nat.le_refl _) _ _ _
        | true =>
          have h1 := hsn rfl
          rw [← hvn rfl] at h1
          have Hov2 : Hid (parseM l (b : Int) = lowest false vx 1) := by rw [hvn rfl]; exact (unhide Hpl).trans (unhide Hpo)
          have d1s := dec_small (n := 1) (by omega)
          clear hsn hvn
          go_wp2_with fail
          rw [← d1]
          clear d1
          refine (l2Make_c false vx 1 _ (by omega) (by omega)).mono ?_
          rintro e w4 ⟨rfl, hb4'⟩
          have hn4 := below_next hb0 hzz hb4'
          have c0 := newcell hn4.1 0
          have c1 := newcell hn4.1 1
          have c2 := newcell hn4.1 2
          have f0 := newfree hn4.1 0
          have f1 := newfree hn4.1 1
          have f2 := newfree hn4.1 2
          have hbX := below_new hn4.1
          simp at c0 c1 c2
          clear hb3 hb0 hb4' hn4
          -- behind l2Make's contract: 64 the function; the struct is stored and told. Wants: Hov2 : Hid (M = lowest ..), c0 c1 c2 f0 f1 f2 hbX, the answer's option lowest false vx 1
          generalize lowest false vx 1 = o at *
          unfold numAns
          obtain ⟨n3, u3, d3, ho⟩ : ∃ n3 u3 d3, numO o = numV n3 u3 d3 := by
            cases o with
            | none => exact ⟨_, _, _, rfl⟩
            | some p => exact ⟨_, _, _, rfl⟩
          have Ho := hide ho
          rw [ho]
          unfold numV
          clear ho
          go_wp2
          refine bodyPost_ret (v := numAns o) (by simp [results, Tryz.results64, go_sem, numAns, unhide Ho, numV, c0, c1, c2]) rfl ⟨by rw [unhide Hov2], ?_⟩
          exact below_three hbX _ (Nat.le_refl _) _ _ _
      · clear hpt
        go_wp2_with fail
        refine (l2Nat_c l b _ (by omega) (by omega) (by omega)).mono ?_
        rintro e w3 ⟨rfl, hb3⟩
        unfold natAns
        have hb0 := below_alloc_size hb3
        have hzz : w.heap.size + 1 ≤ w3.heap.size := by have := hb3.size; simpa using this
        generalize natV b l = vx at *
        generalize okN b l = ox at *
        cases ox with
        | false =>
          have c0 := newcell hb0 0
          have c1 := newcell hb0 1
          have c2 := newcell hb0 2
          have f0 := newfree hb0 0
          have f1 := newfree hb0 1
          have f2 := newfree hb0 2
          have hbX := below_new hb0
          simp at c0 c1 c2
          clear hb3 hb0 hsn hvn d1
          go_wp2
          refine bodyPost_ret (v := numAns none) (by simp [results, Tryz.results64, go_sem, numAns, numO, noNum, numV, c0, c1, c2]) rfl ⟨by rw [unhide Hpl, unhide Hpo]; rfl, ?_⟩
          exact below_three hbX _ (Nat.le_refl _) _ _ _
        | true =>
          have h1 := hsn rfl
          rw [← hvn rfl] at h1
          have Hov2 : Hid (parseM l (b : Int) = lowest false vx 1) := by rw [hvn rfl]; exact (unhide Hpl).trans (unhide Hpo)
          have d1s := dec_small (n := 1) (by omega)
          clear hsn hvn
          go_wp2_with fail
          rw [← d1]
          clear d1
          refine (l2Make_c false vx 1 _ (by omega) (by omega)).mono ?_
          rintro e w4 ⟨rfl, hb4'⟩
          have hn4 := below_next hb0 hzz hb4'
          have c0 := newcell hn4.1 0
          have c1 := newcell hn4.1 1
          have c2 := newcell hn4.1 2
          have f0 := newfree hn4.1 0
          have f1 := newfree hn4.1 1
          have f2 := newfree hn4.1 2
          have hbX := below_new hn4.1
          simp at c0 c1 c2
          clear hb3 hb0 hb4' hn4
          -- behind l2Make's contract: 64 the function; the struct is stored and told. Wants: Hov2 : Hid (M = lowest ..), c0 c1 c2 f0 f1 f2 hbX, the answer's option lowest false vx 1
          generalize lowest false vx 1 = o at *
          unfold numAns
          obtain ⟨n3, u3, d3, ho⟩ : ∃ n3 u3 d3, numO o = numV n3 u3 d3 := by
            cases o with
            | none => exact ⟨_, _, _, rfl⟩
            | some p => exact ⟨_, _, _, rfl⟩
          have Ho := hide ho
          rw [ho]
          unfold numV
          clear ho
          go_wp2
          refine bodyPost_ret (v := numAns o) (by simp [results, Tryz.results64, go_sem, numAns, unhide Ho, numV, c0, c1, c2]) rfl ⟨by rw [unhide Hov2], ?_⟩
          exact below_three hbX _ (Nat.le_refl _) _ _ _

/-- spec.NumParse, whatever the text and the radix -/
theorem specNumParse_c (l : List UInt8) (r : Int) (w : World) (hs : l.length ≤ 1000000000) :
    Calls Tryz.prog 64 #[.string (B l), .int .i64 r] w fun e w' => e = .returned (numAns (parseM l r)) ∧ Below w.heap.size w w' := by
  by_cases h : isRadix r = false ∨ 240 < l.length
  · exact specNumParse_no l r w hs h
  · have hr : isRadix r = true := by cases hh : isRadix r with
      | true => rfl
      | false => exact absurd (.inl hh) h
    obtain ⟨b, rfl, hb4⟩ := isRadix_nat hr
    have hl : l.length ≤ 240 := by
      rcases Nat.lt_or_ge 240 l.length with h1 | h1
      · exact absurd (.inr h1) h
      · exact h1
    cases l with
    | nil => exact specNumParse_none b w hb4
    | cons c t =>
      by_cases h1 : c = 45
      · exact specNumParse_minus t b w hb4 c h1 hl
      · by_cases h2 : c = 43
        · exact specNumParse_plus t b w hb4 c h2 hl
        · exact specNumParse_bare t b w hb4 c h1 h2 hl
end Go.Proofs.YtpbnmhnbkfnaeaaGreatDoor
namespace Go.Proofs.YtpbnmhnbkfnaeaaGreatDoor
open Go.RowKit Nt

/-- whether a number is ok -/
def okM (neg : Bool) (u d : List UInt8) : Bool :=
  decide (u.length ≤ 60) && decide (d.length ≤ 60) && isDec u && isDec d && decide (valDec d ≠ 0) && !(neg && decide (valDec u = 0)) && decide (Nat.gcd (valDec u) (valDec d) = 1)

def numB (neg : Bool) (u d : List UInt8) : Value := .agg #[.bool neg, .string (B u), .string (B d)]

theorem dec_is1 (n : Nat) : ((dec n).toList == [49]) = decide (n = 1) := by
  have := dec_beq n 1
  rwa [show (dec 1).toList = [49] from by rw [dec_one]; exact B_tl [49]] at this


set_option maxRecDepth 100000 in
set_option maxHeartbeats 4000000 in
theorem specNumOk_c (neg : Bool) (u d : List UInt8) (w : World) (hsu : u.length ≤ 1000000000) (hsd : d.length ≤ 1000000000) :
    Calls Tryz.prog 92 #[numB neg u d] w fun e w' => e = .returned (.bool (okM neg u d)) ∧ Below w.heap.size w w' := by
  unfold numB
  have hzu : (B u).size = u.length := B_size u
  have hzd : (B d).size = d.length := B_size d
  by_cases h1 : u.length ≤ 60
  · by_cases h2 : d.length ≤ 60
    · by_cases h3 : isDec u = true
      · by_cases h4 : isDec d = true
        · have eu := isDec_val h3
          have ed := isDec_val h4
          have Hok : Hid (okM neg u d = (decide (valDec d ≠ 0) && !(neg && decide (valDec u = 0)) && decide (Nat.gcd (valDec u) (valDec d) = 1))) := by
            show _ = _; unfold okM; rw [decide_eq_true h1, decide_eq_true h2, h3, h4]; simp
          have Bu : B u = dec (valDec u) := by unfold dec txt; rw [← eu]
          have Bd : B d = dec (valDec d) := by unfold dec txt; rw [← ed]
          have h3d := @l1DigitsOk_c u
          have h4d := @l1DigitsOk_c d
          rw [h3] at h3d
          rw [h4] at h4d
          rw [Bu] at h3d hzu
          rw [Bd] at h4d hzd
          rw [Bu, Bd]
          have H3 := hide h3d
          have H4 := hide h4d
          generalize valDec u = a at *
          generalize valDec d = b at *
          have hau : (dec a).size ≤ 60 := by omega
          have hbd : (dec b).size ≤ 60 := by omega
          have ha0 := dec_is0 a
          have hb0 := dec_is0 b
          clear h3d h4d eu ed Bu Bd h3 h4
          by_cases hb : b = 0
          · rw [decide_eq_true hb] at hb0
            have Hok : Hid (okM neg u d = false) := by show _ = _; rw [unhide Hok]; simp [hb]
            clear hb
            go_enter Tryz.func92, Tryz.ntmps92
            go_wp2_with fail
            refine (unhide H3 _ (by omega)).mono ?_
            rintro e w1 ⟨rfl, rfl⟩
            go_wp2_with fail
            refine (unhide H4 _ (by omega)).mono ?_
            rintro e w1 ⟨rfl, rfl⟩
            go_wp2
            go_ret
            exact ⟨ret_bool (unhide Hok).symm, (Below.refl _ _).alloc (Nat.le_refl _) _⟩
          · rw [decide_eq_false hb] at hb0
            by_cases hn : neg = true ∧ a = 0
            · obtain ⟨hn1, ha⟩ := hn
              rw [decide_eq_true ha] at ha0
              subst hn1
              have Hok : Hid (okM true u d = false) := by show _ = _; rw [unhide Hok]; simp [ha]
              clear hb ha
              go_enter Tryz.func92, Tryz.ntmps92
              go_wp2_with fail
              refine (unhide H3 _ (by omega)).mono ?_
              rintro e w1 ⟨rfl, rfl⟩
              go_wp2_with fail
              refine (unhide H4 _ (by omega)).mono ?_
              rintro e w1 ⟨rfl, rfl⟩
              go_wp2
              go_ret
              exact ⟨ret_bool (unhide Hok).symm, (Below.refl _ _).alloc (Nat.le_refl _) _⟩
            · have Hok : Hid (okM neg u d = decide (Nat.gcd a b = 1)) := by
                show _ = _; rw [unhide Hok]
                cases neg
                · simp [hb]
                · simp at hn; simp [hb, hn]
              have hg1 := dec_is1 (Nat.gcd a b)
              have hcase : neg = false ∨ (neg = true ∧ a ≠ 0) := by cases neg <;> simp_all
              rcases hcase with rfl | ⟨rfl, ha⟩
              · clear hn hb
                go_enter Tryz.func92, Tryz.ntmps92
                go_wp2_with fail
                refine (unhide H3 _ (by omega)).mono ?_
                rintro e w1 ⟨rfl, rfl⟩
                go_wp2_with fail
                refine (unhide H4 _ (by omega)).mono ?_
                rintro e w1 ⟨rfl, rfl⟩
                go_wp2_with fail
                refine (l1Gcd_c a b _ (by omega) (by omega)).mono ?_
                rintro e w2 ⟨rfl, hb2⟩
                go_wp2
                go_ret
                exact ⟨ret_bool (unhide Hok).symm, below_new (below_alloc_size hb2)⟩
              · rw [decide_eq_false ha] at ha0
                clear hn hb ha
                go_enter Tryz.func92, Tryz.ntmps92
                go_wp2_with fail
                refine (unhide H3 _ (by omega)).mono ?_
                rintro e w1 ⟨rfl, rfl⟩
                go_wp2_with fail
                refine (unhide H4 _ (by omega)).mono ?_
                rintro e w1 ⟨rfl, rfl⟩
                go_wp2_with fail
                refine (l1Gcd_c a b _ (by omega) (by omega)).mono ?_
                rintro e w2 ⟨rfl, hb2⟩
                go_wp2
                go_ret
                exact ⟨ret_bool (unhide Hok).symm, below_new (below_alloc_size hb2)⟩
        · have h4' : isDec d = false := by simpa using h4
          have Hok : Hid (okM neg u d = false) := by show _ = _; unfold okM; rw [h4']; simp
          have h3d := @l1DigitsOk_c u
          have h4d := @l1DigitsOk_c d
          rw [h3] at h3d
          rw [h4'] at h4d
          have H3 := hide h3d
          have H4 := hide h4d
          clear h3d h4d h3 h4 h4'
          go_enter Tryz.func92, Tryz.ntmps92
          go_wp2_with fail
          refine (unhide H3 _ (by omega)).mono ?_
          rintro e w1 ⟨rfl, rfl⟩
          go_wp2_with fail
          refine (unhide H4 _ (by omega)).mono ?_
          rintro e w1 ⟨rfl, rfl⟩
          go_wp2
          go_ret
          exact ⟨ret_bool (unhide Hok).symm, (Below.refl _ _).alloc (Nat.le_refl _) _⟩
      · have h3' : isDec u = false := by simpa using h3
        have Hok : Hid (okM neg u d = false) := by show _ = _; unfold okM; rw [h3']; simp
        have h3d := @l1DigitsOk_c u
        rw [h3'] at h3d
        have H3 := hide h3d
        clear h3d h3 h3'
        go_enter Tryz.func92, Tryz.ntmps92
        go_wp2_with fail
        refine (unhide H3 _ (by omega)).mono ?_
        rintro e w1 ⟨rfl, rfl⟩
        go_wp2
        go_ret
        exact ⟨ret_bool (unhide Hok).symm, (Below.refl _ _).alloc (Nat.le_refl _) _⟩
    · have Hok : Hid (okM neg u d = false) := by show _ = _; unfold okM; simp [h2]
      go_enter Tryz.func92, Tryz.ntmps92
      go_wp2
      go_ret
      exact ⟨ret_bool (unhide Hok).symm, (Below.refl _ _).alloc (Nat.le_refl _) _⟩
  · have Hok : Hid (okM neg u d = false) := by show _ = _; unfold okM; simp [h1]
    go_enter Tryz.func92, Tryz.ntmps92
    go_wp2
    go_ret
    exact ⟨ret_bool (unhide Hok).symm, (Below.refl _ _).alloc (Nat.le_refl _) _⟩
end Go.Proofs.YtpbnmhnbkfnaeaaGreatDoor
namespace Go.Proofs.YtpbnmhnbkfnaeaaGreatDoor
open Go.RowKit Nt

/-- what is written of a number that is ok -/
def prM (neg : Bool) (a d b : Nat) : List UInt8 := (if neg then [45] else []) ++ txl b a ++ (if d = 1 then [] else 47 :: txl b d)
def printM (neg : Bool) (u d : List UInt8) (r : Int) : List UInt8 := if okM neg u d && isRadix r then prM neg (valDec u) (valDec d) r.toNat else []

theorem ok_parts {neg : Bool} {u d : List UInt8} (h : okM neg u d = true) : isDec u = true ∧ isDec d = true ∧ u.length ≤ 60 ∧ d.length ≤ 60 ∧ valDec d ≠ 0 ∧ (neg = true → valDec u ≠ 0) ∧ Nat.gcd (valDec u) (valDec d) = 1 := by
  unfold okM at h
  simp only [Bool.and_eq_true, decide_eq_true_eq, Bool.not_eq_true', Bool.and_eq_false_iff, decide_eq_false_iff_not] at h
  obtain ⟨⟨⟨⟨⟨⟨h1, h2⟩, h3⟩, h4⟩, h5⟩, h6⟩, h7⟩ := h
  exact ⟨h3, h4, h1, h2, h5, fun hn => by rcases h6 with h6 | h6; rw [hn] at h6; cases h6; exact h6, h7⟩

theorem txt_size {b n : Nat} (hb2 : 2 ≤ b) (h : (dec n).size ≤ 60) : (txt b n).size ≤ 240 := by
  unfold txt; rw [B_size]
  apply txl_len_le hb2 (by omega)
  have h1 := dec_lt n
  have h2 : (10 : Nat) ^ (dec n).size ≤ 16 ^ 60 := Nat.le_trans (Nat.pow_le_pow_left (by omega) _) (Nat.pow_le_pow_right (by omega) h)
  have h3 : (16 : Nat) ^ 60 = 2 ^ 240 := by rw [show (16 : Nat) = 2 ^ 4 from rfl, ← Nat.pow_mul]
  have h4 : (2 : Nat) ^ 240 ≤ b ^ 240 := Nat.pow_le_pow_left hb2 _
  omega



set_option maxRecDepth 100000 in
set_option maxHeartbeats 4000000 in
theorem specNumPrint_no (neg : Bool) (u d : List UInt8) (r : Int) (w : World) (hsu : u.length ≤ 1000000000) (hsd : d.length ≤ 1000000000) (h : (okM neg u d && isRadix r) = false) :
    Calls Tryz.prog 57 #[numB neg u d, .int .i64 r] w fun e w' => e = .returned (.string (B (printM neg u d r))) ∧ Below w.heap.size w w' := by
  have Hf : Hid (B (printM neg u d r) = ⟨#[]⟩) := by show _ = _; unfold printM; rw [h]; rfl
  have h1 := fun w => specNumOk_c neg u d w hsu hsd
  have H1 := hide h1
  clear h1
  unfold numB at *
  cases hok : okM neg u d with
  | false =>
    rw [hok] at H1
    clear h hok
    go_enter Tryz.func57, Tryz.ntmps57
    go_wp2_with fail
    refine (unhide H1 _).mono ?_
    rintro e w1 ⟨rfl, hb1⟩
    have hb0 := below_alloc_size hb1
    have hz0 : w.heap.size + 1 ≤ w1.heap.size := by have := hb1.size; simpa using this
    have c0 := newcell hb0 0
    have c1 := newcell hb0 1
    have c2 := newcell hb0 2
    simp at c0 c1 c2
    go_wp2
    go_ret
    exact ⟨ret_str (unhide Hf).symm, below_new hb0⟩
  | true =>
    rw [hok] at H1 h
    have hr : isRadix r = false := by simpa using h
    clear h hok
    go_enter Tryz.func57, Tryz.ntmps57
    go_wp2_with fail
    refine (unhide H1 _).mono ?_
    rintro e w1 ⟨rfl, hb1⟩
    have hb0 := below_alloc_size hb1
    have hz0 : w.heap.size + 1 ≤ w1.heap.size := by have := hb1.size; simpa using this
    have c0 := newcell hb0 0
    have c1 := newcell hb0 1
    have c2 := newcell hb0 2
    simp at c0 c1 c2
    go_wp2_with fail
    refine (l2Radix_c r _).mono ?_
    rintro e w2 ⟨rfl, rfl⟩
    rw [hr]
    go_wp2
    go_ret
    exact ⟨ret_str (unhide Hf).symm, below_new hb0⟩

set_option maxRecDepth 100000 in
set_option maxHeartbeats 4000000 in
theorem specNumPrint_yes (neg : Bool) (u d : List UInt8) (b : Nat) (w : World) (hok : okM neg u d = true) (hb4 : b = 2 ∨ b = 8 ∨ b = 10 ∨ b = 16) :
    Calls Tryz.prog 57 #[numB neg u d, .int .i64 b] w fun e w' => e = .returned (.string (B (printM neg u d b))) ∧ Below w.heap.size w w' := by
  have hr : isRadix (b : Int) = true := by rcases hb4 with rfl | rfl | rfl | rfl <;> rfl
  obtain ⟨h3, h4, hu, hd, hd0, hn0, _⟩ := ok_parts hok
  have h1 := fun w => specNumOk_c neg u d w (by omega) (by omega)
  rw [hok] at h1
  have Hf : Hid (printM neg u d b = prM neg (valDec u) (valDec d) b) := by show _ = _; unfold printM; rw [hok, hr]; simp
  have Bu : B u = dec (valDec u) := by unfold dec txt; rw [← isDec_val h3]
  have Bd : B d = dec (valDec d) := by unfold dec txt; rw [← isDec_val h4]
  have hau := B_size u
  have had := B_size d
  unfold numB at *
  rw [Bu, Bd] at h1
  rw [Bu] at hau
  rw [Bd] at had
  rw [Bu, Bd]
  generalize valDec u = a at *
  generalize valDec d = q at *
  have hau60 : (dec a).size ≤ 60 := by omega
  have had60 : (dec q).size ≤ 60 := by omega
  have hq1 := dec_is1 q
  have hta := txt_size (b := b) (by omega) hau60
  have htq := txt_size (b := b) (by omega) had60
  have hta' : (txl b a).length ≤ 240 := by unfold txt at hta; rwa [B_size] at hta
  have htq' : (txl b q).length ≤ 240 := by unfold txt at htq; rwa [B_size] at htq
  have H1 := hide h1
  clear h1 Bu Bd h3 h4 hok hau had hn0
  go_enter Tryz.func57, Tryz.ntmps57
  go_wp2_with fail
  refine (unhide H1 _).mono ?_
  rintro e w1 ⟨rfl, hb1⟩
  have hb0 := below_alloc_size hb1
  have hz0 : w.heap.size + 1 ≤ w1.heap.size := by have := hb1.size; simpa using this
  have c0 := newcell hb0 0
  have c1 := newcell hb0 1
  have c2 := newcell hb0 2
  simp at c0 c1 c2
  go_wp2_with fail
  refine (l2Radix_c b _).mono ?_
  rintro e w2 ⟨rfl, rfl⟩
  rw [hr]
  go_wp2_with fail
  refine (l2Out_c a b _ (by omega) (by omega) (by omega) (by omega)).mono ?_
  rintro e w3 ⟨rfl, hb3⟩
  have hn3 := below_next hb0 hz0 hb3
  clear c0 c1 c2 hb1 hb0 hz0 hb3
  have c0 := newcell hn3.1 0
  have c1 := newcell hn3.1 1
  have c2 := newcell hn3.1 2
  simp at c0 c1 c2
  by_cases hone : q = 1
  · rw [decide_eq_true hone] at hq1
    cases neg with
    | false =>
      have Hf2 : Hid (B (printM false u d b) = txt b a) := by show _ = _; rw [unhide Hf]; simp [prM, hone, txt]
      clear hone
      go_wp2
      go_ret
      exact ⟨ret_str (unhide Hf2).symm, below_new hn3.1⟩
    | true =>
      have Hf2 : Hid (B (printM true u d b) = ⟨#[45]⟩ ++ txt b a) := by
        show _ = _; rw [unhide Hf, show (⟨#[45]⟩ : ByteArray) = B [45] from rfl]; unfold txt; rw [B_append]; simp [prM, hone]
      have hns : ¬ 9223372036854775807 < 1 + (txt b a).size := by omega
      clear hone
      go_wp2
      go_ret
      exact ⟨ret_str (unhide Hf2).symm, below_new hn3.1⟩
  · rw [decide_eq_false hone] at hq1
    cases neg with
    | false =>
      have Hf2 : Hid (B (printM false u d b) = (txt b a ++ ⟨#[47]⟩) ++ txt b q) := by
        show _ = _; rw [unhide Hf, show (⟨#[47]⟩ : ByteArray) = B [47] from rfl]; unfold txt; rw [B_append, B_append]; simp [prM, hone]
      clear hone
      go_wp2_with fail
      refine (l2Out_c q b _ (by omega) (by omega) (by omega) (by omega)).mono ?_
      rintro e w4 ⟨rfl, hb4'⟩
      have hn4 := below_next hn3.1 hn3.2 hb4'
      go_wp2
      go_ret
      exact ⟨ret_str (unhide Hf2).symm, below_new hn4.1⟩
    | true =>
      have Hf2 : Hid (B (printM true u d b) = ((⟨#[45]⟩ ++ txt b a) ++ ⟨#[47]⟩) ++ txt b q) := by
        show _ = _; rw [unhide Hf, show (⟨#[47]⟩ : ByteArray) = B [47] from rfl, show (⟨#[45]⟩ : ByteArray) = B [45] from rfl]; unfold txt; rw [B_append, B_append, B_append]; simp [prM, hone]
      have hns : ¬ 9223372036854775807 < 1 + (txt b a).size := by omega
      clear hone
      go_wp2_with fail
      refine (l2Out_c q b _ (by omega) (by omega) (by omega) (by omega)).mono ?_
      rintro e w4 ⟨rfl, hb4'⟩
      have hn4 := below_next hn3.1 hn3.2 hb4'
      go_wp2
      go_ret
      exact ⟨ret_str (unhide Hf2).symm, below_new hn4.1⟩

theorem specNumPrint_c (neg : Bool) (u d : List UInt8) (r : Int) (w : World) (hsu : u.length ≤ 1000000000) (hsd : d.length ≤ 1000000000) :
    Calls Tryz.prog 57 #[numB neg u d, .int .i64 r] w fun e w' => e = .returned (.string (B (printM neg u d r))) ∧ Below w.heap.size w w' := by
  cases h : okM neg u d && isRadix r with
  | false => exact specNumPrint_no neg u d r w hsu hsd h
  | true =>
    simp only [Bool.and_eq_true] at h
    obtain ⟨b, rfl, hb4⟩ := isRadix_nat h.2
    exact specNumPrint_yes neg u d b w h.1 hb4

/-- an integer as a number -/
def intV (i : Int) : Value := numV (decide (i < 0)) (dec i.natAbs) (dec 1)

end Go.Proofs.YtpbnmhnbkfnaeaaGreatDoor
namespace Go.Proofs.YtpbnmhnbkfnaeaaGreatDoor
open Go.RowKit Nt

theorem gr_len0 {x : Nat} : (gr x).length = 0 ↔ x = 0 := by
  rw [List.length_eq_zero_iff]; exact gr_nil

theorem gr_le_of_le {x y n : Nat} (h : x ≤ y) (hy : (gr y).length ≤ n) : (gr x).length ≤ n := Nat.le_trans (gr_len_le h) hy

theorem below_three_alloc {w w3 : World} {b : Nat} (h : Below b w w3) (hs : b ≤ w3.heap.size) (g : Nat) (hg : b ≤ g) (x y z : Value) (o : Obj) : Below b w ((((w3.setCell ⟨g, 0, none⟩ x).setCell ⟨g, 1, none⟩ y).setCell ⟨g, 2, none⟩ z).alloc o) :=
  (below_three h g hg x y z).alloc (by simpa using hs) o

theorem lowest_pos {neg : Bool} {u d : Nat} (hd : 0 < d) : lowest neg u d = if 60 < (dec (u / Nat.gcd u d)).size ∨ 60 < (dec (d / Nat.gcd u d)).size then none else some (neg && u / Nat.gcd u d != 0, u / Nat.gcd u d, d / Nat.gcd u d) := by
  unfold lowest
  by_cases h : 60 < (dec (u / Nat.gcd u d)).size ∨ 60 < (dec (d / Nat.gcd u d)).size
  · rw [if_pos (.inr h), if_pos h]
  · rw [if_neg (by rintro (h1 | h1); omega; exact h h1), if_neg h]


set_option maxRecDepth 100000 in
set_option maxHeartbeats 4000000 in
theorem numLowest_c (neg : Bool) (u d : Nat) (vu vd : Value) (w : World) (hu : isNat w vu u) (hdn : isNat w vd d) (hd : 0 < d) (hsu : (gr u).length ≤ 100000) (hsd : (gr d).length ≤ 100000) (hT : Tens w) :
    Calls Tryz.prog 158 #[.bool neg, vu, vd] w fun e w' => e = .returned (numAns (lowest neg u d)) ∧ Below w.heap.size w w' := by
  have Hu := hide hu
  have Hd := hide hdn
  have HT := hide hT
  have hg : 0 < Nat.gcd u d := Nat.gcd_pos_of_pos_right _ hd
  have hgl := gr_le_of_le (Nat.gcd_le_right u hd) hsd
  have hql := gr_le_of_le (Nat.div_le_self u (Nat.gcd u d)) hsu
  have hdl := gr_le_of_le (Nat.div_le_self d (Nat.gcd u d)) hsd
  have Hlow := hide (lowest_pos (neg := neg) (u := u) hd)
  clear hu hdn hT
  go_enter Tryz.func158, Tryz.ntmps158
  go_wp2_with fail
  have hbA : ∀ o : Obj, Below w.heap.size w (w.alloc o) := fun o => (Below.refl _ _).alloc (Nat.le_refl _) _
  refine (gcd_c u d _ _ _ (isNat_below (unhide Hu) (hbA _)) (isNat_below (unhide Hd) (hbA _)) (by omega) (by omega)).mono ?_
  rintro e w1 ⟨⟨vg, rfl, hvg⟩, hb1⟩
  have hb0 := below_alloc_size hb1
  have hz0 : w.heap.size + 1 ≤ w1.heap.size := by have := hb1.size; simpa using this
  have hbu1 := below_new hb0
  have Hvg := hide hvg
  have Hn1 := hide (And.intro hb0 hz0)
  clear hvg hb1 hb0 hz0
  go_wp2_with fail
  refine (over_c u _ _ _ _ (isNat_below (unhide Hu) hbu1) (unhide Hvg) (by omega) (by omega) hg).mono ?_
  rintro e w2 ⟨⟨v1, v1r, rfl, hv1, _⟩, hb2⟩
  have hn2 := below_next (unhide Hn1).1 (unhide Hn1).2 hb2
  have hbu2 := below_new hn2.1
  have Hv1 := hide hv1
  have Hvg2 := hide (isNat_below (unhide Hvg) hb2)
  have Hn2 := hide hn2
  clear hv1 hb2 hn2 hbu1
  go_wp2_with fail
  refine (over_c d _ _ _ _ (isNat_below (unhide Hd) hbu2) (unhide Hvg2) (by omega) (by omega) hg).mono ?_
  rintro e w3 ⟨⟨v2, v2r, rfl, hv2, _⟩, hb3⟩
  have hn3 := below_next (unhide Hn2).1 (unhide Hn2).2 hb3
  have HV1 := hide (isNat_below (unhide Hv1) hb3)
  have HV2 := hide hv2
  have HT3 := hide ((unhide HT).below (below_new hn3.1))
  have Hn3 := hide hn3
  clear hv2 hb3 hn3 hbu2 Hv1 Hvg2 Hn2 Hn1 Hvg hbA
  generalize hqu : u / Nat.gcd u d = qu at *
  generalize hqd : d / Nat.gcd u d = qd at *
  clear hqu hqd
  obtain ⟨p1, cp1, hv1s⟩ := own_slice (unhide HV1)
  subst hv1s
  by_cases hq0 : qu = 0
  · have hl0 : decide (0 < (gr qu).length) = false := by have := gr_len0.2 hq0; rw [decide_eq_false_iff_not]; omega
    have Hsg : Hid ((neg && qu != 0) = false) := by show _ = _; rw [hq0]; simp
    clear hq0
    cases neg with
    | false =>
      -- false: the sign as it comes out
      go_wp2_with fail
      refine (decimals_c qu _ _ (unhide HV1) (by omega) (unhide HT3)).mono ?_
      rintro e w4 ⟨rfl, hb4⟩
      have hn4 := below_next (unhide Hn3).1 (unhide Hn3).2 hb4
      have hv2 := isNat_below (unhide HV2) hb4
      have hT4 := (unhide HT3).below hb4
      have HV2' := hide hv2
      have HT4 := hide hT4
      have Hn4 := hide hn4
      clear hv2 hT4 hn4 hb4
      go_wp2_with fail
      refine (decimals_c qd _ _ (unhide HV2') (by omega) (unhide HT4)).mono ?_
      rintro e w5 ⟨rfl, hb5⟩
      have hn5 := below_next (unhide Hn4).1 (unhide Hn4).2 hb5
      have c0 := newcell hn5.1 0
      have c1 := newcell hn5.1 1
      have c2 := newcell hn5.1 2
      have f0 := newfree hn5.1 0
      have f1 := newfree hn5.1 1
      have f2 := newfree hn5.1 2
      have hbX := below_new hn5.1
      simp at c0 c1 c2
      have hbb : w.heap.size < w5.heap.size := hn5.2
      clear hb5 hn5
      by_cases h1 : 60 < (dec qu).size
      · rw [if_pos (.inl h1)] at Hlow
        go_wp2
        refine bodyPost_ret (v := numAns none) (by simp [results, Tryz.results158, go_sem, numAns, numO, noNum, numV, c0, c1, c2, hbb]) rfl ⟨by rw [unhide Hlow], ?_⟩
        exact below_three_alloc hbX hbX.size _ (Nat.le_refl _) _ _ _ _
      · by_cases h2 : 60 < (dec qd).size
        · rw [if_pos (.inr h2)] at Hlow
          go_wp2
          refine bodyPost_ret (v := numAns none) (by simp [results, Tryz.results158, go_sem, numAns, numO, noNum, numV, c0, c1, c2, hbb]) rfl ⟨by rw [unhide Hlow], ?_⟩
          exact below_three_alloc hbX hbX.size _ (Nat.le_refl _) _ _ _ _
        · rw [if_neg (by rintro (h | h); exact h1 h; exact h2 h)] at Hlow
          go_wp2
          refine bodyPost_ret (v := numAns (some (false, qu, qd))) (by simp [results, Tryz.results158, go_sem, numAns, numO, numV, c0, c1, c2, hbb]) rfl ⟨by rw [unhide Hlow, unhide Hsg], ?_⟩
          exact below_three_alloc hbX hbX.size _ (Nat.le_refl _) _ _ _ _
    | true =>
      -- false: the sign as it comes out
      go_wp2_with fail
      refine (decimals_c qu _ _ (unhide HV1) (by omega) (unhide HT3)).mono ?_
      rintro e w4 ⟨rfl, hb4⟩
      have hn4 := below_next (unhide Hn3).1 (unhide Hn3).2 hb4
      have hv2 := isNat_below (unhide HV2) hb4
      have hT4 := (unhide HT3).below hb4
      have HV2' := hide hv2
      have HT4 := hide hT4
      have Hn4 := hide hn4
      clear hv2 hT4 hn4 hb4
      go_wp2_with fail
      refine (decimals_c qd _ _ (unhide HV2') (by omega) (unhide HT4)).mono ?_
      rintro e w5 ⟨rfl, hb5⟩
      have hn5 := below_next (unhide Hn4).1 (unhide Hn4).2 hb5
      have c0 := newcell hn5.1 0
      have c1 := newcell hn5.1 1
      have c2 := newcell hn5.1 2
      have f0 := newfree hn5.1 0
      have f1 := newfree hn5.1 1
      have f2 := newfree hn5.1 2
      have hbX := below_new hn5.1
      simp at c0 c1 c2
      have hbb : w.heap.size < w5.heap.size := hn5.2
      clear hb5 hn5
      by_cases h1 : 60 < (dec qu).size
      · rw [if_pos (.inl h1)] at Hlow
        go_wp2
        refine bodyPost_ret (v := numAns none) (by simp [results, Tryz.results158, go_sem, numAns, numO, noNum, numV, c0, c1, c2, hbb]) rfl ⟨by rw [unhide Hlow], ?_⟩
        exact below_three_alloc hbX hbX.size _ (Nat.le_refl _) _ _ _ _
      · by_cases h2 : 60 < (dec qd).size
        · rw [if_pos (.inr h2)] at Hlow
          go_wp2
          refine bodyPost_ret (v := numAns none) (by simp [results, Tryz.results158, go_sem, numAns, numO, noNum, numV, c0, c1, c2, hbb]) rfl ⟨by rw [unhide Hlow], ?_⟩
          exact below_three_alloc hbX hbX.size _ (Nat.le_refl _) _ _ _ _
        · rw [if_neg (by rintro (h | h); exact h1 h; exact h2 h)] at Hlow
          go_wp2
          refine bodyPost_ret (v := numAns (some (false, qu, qd))) (by simp [results, Tryz.results158, go_sem, numAns, numO, numV, c0, c1, c2, hbb]) rfl ⟨by rw [unhide Hlow, unhide Hsg], ?_⟩
          exact below_three_alloc hbX hbX.size _ (Nat.le_refl _) _ _ _ _
  · have hl0 : decide (0 < (gr qu).length) = true := by have := mt gr_len0.1 hq0; rw [decide_eq_true_eq]; omega
    cases neg with
    | false =>
      have Hsg : Hid ((false && qu != 0) = false) := rfl
      clear hq0
      -- false: the sign as it comes out
      go_wp2_with fail
      refine (decimals_c qu _ _ (unhide HV1) (by omega) (unhide HT3)).mono ?_
      rintro e w4 ⟨rfl, hb4⟩
      have hn4 := below_next (unhide Hn3).1 (unhide Hn3).2 hb4
      have hv2 := isNat_below (unhide HV2) hb4
      have hT4 := (unhide HT3).below hb4
      have HV2' := hide hv2
      have HT4 := hide hT4
      have Hn4 := hide hn4
      clear hv2 hT4 hn4 hb4
      go_wp2_with fail
      refine (decimals_c qd _ _ (unhide HV2') (by omega) (unhide HT4)).mono ?_
      rintro e w5 ⟨rfl, hb5⟩
      have hn5 := below_next (unhide Hn4).1 (unhide Hn4).2 hb5
      have c0 := newcell hn5.1 0
      have c1 := newcell hn5.1 1
      have c2 := newcell hn5.1 2
      have f0 := newfree hn5.1 0
      have f1 := newfree hn5.1 1
      have f2 := newfree hn5.1 2
      have hbX := below_new hn5.1
      simp at c0 c1 c2
      have hbb : w.heap.size < w5.heap.size := hn5.2
      clear hb5 hn5
      by_cases h1 : 60 < (dec qu).size
      · rw [if_pos (.inl h1)] at Hlow
        go_wp2
        refine bodyPost_ret (v := numAns none) (by simp [results, Tryz.results158, go_sem, numAns, numO, noNum, numV, c0, c1, c2, hbb]) rfl ⟨by rw [unhide Hlow], ?_⟩
        exact below_three_alloc hbX hbX.size _ (Nat.le_refl _) _ _ _ _
      · by_cases h2 : 60 < (dec qd).size
        · rw [if_pos (.inr h2)] at Hlow
          go_wp2
          refine bodyPost_ret (v := numAns none) (by simp [results, Tryz.results158, go_sem, numAns, numO, noNum, numV, c0, c1, c2, hbb]) rfl ⟨by rw [unhide Hlow], ?_⟩
          exact below_three_alloc hbX hbX.size _ (Nat.le_refl _) _ _ _ _
        · rw [if_neg (by rintro (h | h); exact h1 h; exact h2 h)] at Hlow
          go_wp2
          refine bodyPost_ret (v := numAns (some (false, qu, qd))) (by simp [results, Tryz.results158, go_sem, numAns, numO, numV, c0, c1, c2, hbb]) rfl ⟨by rw [unhide Hlow, unhide Hsg], ?_⟩
          exact below_three_alloc hbX hbX.size _ (Nat.le_refl _) _ _ _ _
    | true =>
      have Hsg : Hid ((true && qu != 0) = true) := by show _ = _; rw [bne_iff_ne.2 hq0]; rfl
      clear hq0
      -- true: the sign as it comes out
      go_wp2_with fail
      refine (decimals_c qu _ _ (unhide HV1) (by omega) (unhide HT3)).mono ?_
      rintro e w4 ⟨rfl, hb4⟩
      have hn4 := below_next (unhide Hn3).1 (unhide Hn3).2 hb4
      have hv2 := isNat_below (unhide HV2) hb4
      have hT4 := (unhide HT3).below hb4
      have HV2' := hide hv2
      have HT4 := hide hT4
      have Hn4 := hide hn4
      clear hv2 hT4 hn4 hb4
      go_wp2_with fail
      refine (decimals_c qd _ _ (unhide HV2') (by omega) (unhide HT4)).mono ?_
      rintro e w5 ⟨rfl, hb5⟩
      have hn5 := below_next (unhide Hn4).1 (unhide Hn4).2 hb5
      have c0 := newcell hn5.1 0
      have c1 := newcell hn5.1 1
      have c2 := newcell hn5.1 2
      have f0 := newfree hn5.1 0
      have f1 := newfree hn5.1 1
      have f2 := newfree hn5.1 2
      have hbX := below_new hn5.1
      simp at c0 c1 c2
      have hbb : w.heap.size < w5.heap.size := hn5.2
      clear hb5 hn5
      by_cases h1 : 60 < (dec qu).size
      · rw [if_pos (.inl h1)] at Hlow
        go_wp2
        refine bodyPost_ret (v := numAns none) (by simp [results, Tryz.results158, go_sem, numAns, numO, noNum, numV, c0, c1, c2, hbb]) rfl ⟨by rw [unhide Hlow], ?_⟩
        exact below_three_alloc hbX hbX.size _ (Nat.le_refl _) _ _ _ _
      · by_cases h2 : 60 < (dec qd).size
        · rw [if_pos (.inr h2)] at Hlow
          go_wp2
          refine bodyPost_ret (v := numAns none) (by simp [results, Tryz.results158, go_sem, numAns, numO, noNum, numV, c0, c1, c2, hbb]) rfl ⟨by rw [unhide Hlow], ?_⟩
          exact below_three_alloc hbX hbX.size _ (Nat.le_refl _) _ _ _ _
        · rw [if_neg (by rintro (h | h); exact h1 h; exact h2 h)] at Hlow
          go_wp2
          refine bodyPost_ret (v := numAns (some (true, qu, qd))) (by simp [results, Tryz.results158, go_sem, numAns, numO, numV, c0, c1, c2, hbb]) rfl ⟨by rw [unhide Hlow, unhide Hsg], ?_⟩
          exact below_three_alloc hbX hbX.size _ (Nat.le_refl _) _ _ _ _
end Go.Proofs.YtpbnmhnbkfnaeaaGreatDoor
namespace Go.Proofs.YtpbnmhnbkfnaeaaGreatDoor
open Go.RowKit Nt

theorem okM_plain (neg : Bool) (u d : List UInt8) : okM neg u d = (plain u && plain d && decide (valDec d ≠ 0) && !(neg && decide (valDec u = 0)) && decide (Nat.gcd (valDec u) (valDec d) = 1)) := by
  unfold okM plain
  cases decide (u.length ≤ 60) <;> cases decide (d.length ≤ 60) <;> cases isDec u <;> cases isDec d <;> simp

theorem dec_gr {x n : Nat} (h : (dec x).size ≤ n) : (gr x).length ≤ n := by
  have h1 := dec_lt x
  apply dg_len_le (by omega)
  have h2 : (10 : Nat) ^ (dec x).size ≤ 1000000000 ^ n := Nat.le_trans (Nat.pow_le_pow_left (by omega) _) (Nat.pow_le_pow_right (by omega) h)
  omega


set_option maxRecDepth 100000 in
set_option maxHeartbeats 4000000 in
theorem implNumOk_no (neg : Bool) (u d : List UInt8) (w : World) (hsu : u.length ≤ 1000000000) (hsd : d.length ≤ 1000000000) (h : (plain u && plain d) = false) :
    Calls Tryz.prog 159 #[numB neg u d] w fun e w' => e = .returned (.bool (okM neg u d)) ∧ Below w.heap.size w w' := by
  have Hok : Hid (okM neg u d = false) := by show _ = _; rw [okM_plain, h]; simp
  unfold numB
  have h1 := fun w => numPlain_c u w hsu
  have h2 := fun w => numPlain_c d w hsd
  have H2 := hide h2
  cases hu : plain u with
  | false =>
    rw [hu] at h1
    have H1 := hide h1
    clear h hu h1 h2
    go_enter Tryz.func159, Tryz.ntmps159
    go_wp2_with fail
    refine (unhide H1 _).mono ?_
    rintro e w1 ⟨rfl, hb1⟩
    have hb0 := below_alloc_size hb1
    have hz0 : w.heap.size + 1 ≤ w1.heap.size := by have := hb1.size; simpa using this
    clear hb1
    go_wp2
    go_ret
    exact ⟨ret_bool (unhide Hok).symm, below_new hb0⟩
  | true =>
    rw [hu] at h1 h
    have hd : plain d = false := by simpa using h
    rw [hd] at H2
    have H1 := hide h1
    clear h hu hd h1 h2
    go_enter Tryz.func159, Tryz.ntmps159
    go_wp2_with fail
    refine (unhide H1 _).mono ?_
    rintro e w1 ⟨rfl, hb1⟩
    have hb0 := below_alloc_size hb1
    have hz0 : w.heap.size + 1 ≤ w1.heap.size := by have := hb1.size; simpa using this
    clear hb1
    -- hb0: the Below from the box on
    have c0 := newcell hb0 0
    have c1 := newcell hb0 1
    have c2 := newcell hb0 2
    simp at c0 c1 c2
    go_wp2_with fail
    refine (unhide H2 _).mono ?_
    rintro e w2 ⟨rfl, hb2⟩
    have hn2 := below_next hb0 hz0 hb2
    go_wp2
    go_ret
    exact ⟨ret_bool (unhide Hok).symm, below_new hn2.1⟩



set_option maxRecDepth 100000 in
set_option maxHeartbeats 4000000 in
theorem implNumOk_yes (neg : Bool) (u d : List UInt8) (w : World) (hu : plain u = true) (hd : plain d = true) (hT : Tens w) :
    Calls Tryz.prog 159 #[numB neg u d] w fun e w' => e = .returned (.bool (okM neg u d)) ∧ Below w.heap.size w w' := by
  have hu' := hu
  have hd' := hd
  unfold plain at hu' hd'
  simp only [Bool.and_eq_true, decide_eq_true_eq] at hu' hd'
  have Hok : Hid (okM neg u d = (decide (valDec d ≠ 0) && !(neg && decide (valDec u = 0)) && decide (Nat.gcd (valDec u) (valDec d) = 1))) := by
    show _ = _; rw [okM_plain, hu, hd]; simp
  have h1 := fun w => numPlain_c u w (by omega)
  have h2 := fun w => numPlain_c d w (by omega)
  rw [hu] at h1
  rw [hd] at h2
  have Bu : B u = dec (valDec u) := by unfold dec txt; rw [← isDec_val hu'.1]
  have Bd : B d = dec (valDec d) := by unfold dec txt; rw [← isDec_val hd'.1]
  have hau := B_size u
  have had := B_size d
  unfold numB
  rw [Bu] at h1 hau
  rw [Bd] at h2 had
  rw [Bu, Bd]
  have HT := hide hT
  have H1 := hide h1
  have H2 := hide h2
  generalize valDec u = a at *
  generalize valDec d = q at *
  have hsa : (dec a).size ≤ 60 := by omega
  have hsq : (dec q).size ≤ 60 := by omega
  have hga := dec_gr hsa
  have hgq := dec_gr hsq
  have ha0 := dec_is0 a
  have hq0 := dec_is0 q
  clear h1 h2 Bu Bd hu hd hu' hd' hau had hT
  by_cases hq : q = 0
  · rw [decide_eq_true hq] at hq0
    have Hok : Hid (okM neg u d = false) := by show _ = _; rw [unhide Hok]; simp [hq]
    clear hq
    go_enter Tryz.func159, Tryz.ntmps159
    go_wp2_with fail
    refine (unhide H1 _).mono ?_
    rintro e w1 ⟨rfl, hb1⟩
    have hb0 := below_alloc_size hb1
    have hz0 : w.heap.size + 1 ≤ w1.heap.size := by have := hb1.size; simpa using this
    clear hb1
    -- hb0: the Below from the box on
    have c0 := newcell hb0 0
    have c1 := newcell hb0 1
    have c2 := newcell hb0 2
    simp at c0 c1 c2
    go_wp2_with fail
    refine (unhide H2 _).mono ?_
    rintro e w2 ⟨rfl, hb2⟩
    have hn2 := below_next hb0 hz0 hb2
    clear c0 c1 c2 hb2 hb0 hz0
    -- hn2.1: the Below from the box on
    have c0 := newcell hn2.1 0
    have c1 := newcell hn2.1 1
    have c2 := newcell hn2.1 2
    simp at c0 c1 c2
    go_wp2
    go_ret
    exact ⟨ret_bool (unhide Hok).symm, below_new hn2.1⟩
  · rw [decide_eq_false hq] at hq0
    have hgg : (gr (Nat.gcd a q)).length ≤ 60 := gr_le_of_le (Nat.gcd_le_right a (by omega)) hgq
    cases neg with
    | false =>
      have Hok : Hid (okM false u d = decide (Nat.gcd a q = 1)) := by show _ = _; rw [unhide Hok]; simp [hq]
      clear hq
      go_enter Tryz.func159, Tryz.ntmps159
      go_wp2_with fail
      refine (unhide H1 _).mono ?_
      rintro e w1 ⟨rfl, hb1⟩
      have hb0 := below_alloc_size hb1
      have hz0 : w.heap.size + 1 ≤ w1.heap.size := by have := hb1.size; simpa using this
      clear hb1
      -- hb0: the Below from the box on
      have c0 := newcell hb0 0
      have c1 := newcell hb0 1
      have c2 := newcell hb0 2
      simp at c0 c1 c2
      go_wp2_with fail
      refine (unhide H2 _).mono ?_
      rintro e w2 ⟨rfl, hb2⟩
      have hn2 := below_next hb0 hz0 hb2
      clear c0 c1 c2 hb2 hb0 hz0
      -- hn2.1: the Below from the box on
      have c0 := newcell hn2.1 0
      have c1 := newcell hn2.1 1
      have c2 := newcell hn2.1 2
      simp at c0 c1 c2
      have HT2 := hide ((unhide HT).below (below_new hn2.1))
      have HW : Hid (Below (w.heap.size + 1) (w.alloc (.cells #[.bool false, .string (dec a), .string (dec q)] 79)) w2.drew ∧ w.heap.size + 1 ≤ w2.drew.heap.size) := hide ⟨hn2.1.drew, hn2.2⟩
      have HC : Hid (∀ wx : World, Below w2.drew.heap.size w2.drew wx → wx.cell? ⟨w.heap.size, 1, none⟩ = some (.string (dec a)) ∧ wx.cell? ⟨w.heap.size, 2, none⟩ = some (.string (dec q))) := by
        intro wx hx
        have hlt : w.heap.size < w2.drew.heap.size := hn2.2
        exact ⟨by rw [hx.cell (p := ⟨w.heap.size, 1, none⟩) hlt]; exact c1, by rw [hx.cell (p := ⟨w.heap.size, 2, none⟩) hlt]; exact c2⟩
      go_wp2
      go_region_with (first | (go_at_call_of 186 (dec a); refine (natRead_c a _ (by omega) (by first | exact (unhide HT2) | exact Tens.below (w := w2.drew) (unhide HT2) (by assumption))).mono ?_; rintro e wa ⟨⟨va, rfl, hva⟩, hba⟩; have Hva := hide hva; have Hba := hide hba; clear hva; have ca1 : wa.cell? ⟨w.heap.size, 1, none⟩ = some (.string (dec a)) := (by first | exact (unhide HC _ hba).1 | exact (unhide HC _ ((unhide Hbq).trans (hba.mono (unhide Hbq).size))).1); have ca2 : wa.cell? ⟨w.heap.size, 2, none⟩ = some (.string (dec q)) := (by first | exact (unhide HC _ hba).2 | exact (unhide HC _ ((unhide Hbq).trans (hba.mono (unhide Hbq).size))).2)) | (go_at_call_of 186 (dec q); refine (natRead_c q _ (by omega) (by first | exact (unhide HT2) | exact Tens.below (w := w2.drew) (unhide HT2) (by assumption))).mono ?_; rintro e wq ⟨⟨vq, rfl, hvq⟩, hbq⟩; have Hvq := hide hvq; have Hbq := hide hbq; clear hvq; have cq1 : wq.cell? ⟨w.heap.size, 1, none⟩ = some (.string (dec a)) := (by first | exact (unhide HC _ hbq).1 | exact (unhide HC _ ((unhide Hba).trans (hbq.mono (unhide Hba).size))).1); have cq2 : wq.cell? ⟨w.heap.size, 2, none⟩ = some (.string (dec q)) := (by first | exact (unhide HC _ hbq).2 | exact (unhide HC _ ((unhide Hba).trans (hbq.mono (unhide Hba).size))).2)) | (go_at_call 182; refine (gcd_c a q va vq _ (by first | exact unhide Hva | exact isNat_below (unhide Hva) (unhide Hbq)) (by first | exact unhide Hvq | exact isNat_below (unhide Hvq) (unhide Hba)) (by omega) (by omega)).mono ?_; rintro e wg ⟨⟨vg, rfl, hvg⟩, hbg⟩; have Hvg := hide hvg; have Hbg := hide hbg; clear hvg) | (go_at_call 187; refine (isOne_c (Nat.gcd a q) vg _ (unhide Hvg) (by omega)).mono ?_; rintro e wi ⟨rfl, rfl⟩))
      all_goals
        go_wp2
        go_ret
        refine ⟨ret_bool (unhide Hok).symm, below_new (o := .cells #[.bool false, .string (dec a), .string (dec q)] 79) ?_⟩
        first
          | exact (below_next (below_next (below_next (unhide HW).1 (unhide HW).2 (unhide Hba)).1 (below_next (unhide HW).1 (unhide HW).2 (unhide Hba)).2 (unhide Hbq)).1 (below_next (below_next (unhide HW).1 (unhide HW).2 (unhide Hba)).1 (below_next (unhide HW).1 (unhide HW).2 (unhide Hba)).2 (unhide Hbq)).2 (unhide Hbg)).1
          | exact (below_next (below_next (below_next (unhide HW).1 (unhide HW).2 (unhide Hbq)).1 (below_next (unhide HW).1 (unhide HW).2 (unhide Hbq)).2 (unhide Hba)).1 (below_next (below_next (unhide HW).1 (unhide HW).2 (unhide Hbq)).1 (below_next (unhide HW).1 (unhide HW).2 (unhide Hbq)).2 (unhide Hba)).2 (unhide Hbg)).1
    | true =>
      by_cases ha : a = 0
      · rw [decide_eq_true ha] at ha0
        have Hok : Hid (okM true u d = false) := by show _ = _; rw [unhide Hok]; simp [ha]
        clear hq ha
        go_enter Tryz.func159, Tryz.ntmps159
        go_wp2_with fail
        refine (unhide H1 _).mono ?_
        rintro e w1 ⟨rfl, hb1⟩
        have hb0 := below_alloc_size hb1
        have hz0 : w.heap.size + 1 ≤ w1.heap.size := by have := hb1.size; simpa using this
        clear hb1
        -- hb0: the Below from the box on
        have c0 := newcell hb0 0
        have c1 := newcell hb0 1
        have c2 := newcell hb0 2
        simp at c0 c1 c2
        go_wp2_with fail
        refine (unhide H2 _).mono ?_
        rintro e w2 ⟨rfl, hb2⟩
        have hn2 := below_next hb0 hz0 hb2
        clear c0 c1 c2 hb2 hb0 hz0
        -- hn2.1: the Below from the box on
        have c0 := newcell hn2.1 0
        have c1 := newcell hn2.1 1
        have c2 := newcell hn2.1 2
        simp at c0 c1 c2
        go_wp2
        go_ret
        exact ⟨ret_bool (unhide Hok).symm, below_new hn2.1⟩
      · rw [decide_eq_false ha] at ha0
        have Hok : Hid (okM true u d = decide (Nat.gcd a q = 1)) := by show _ = _; rw [unhide Hok]; simp [hq, ha]
        clear hq ha
        go_enter Tryz.func159, Tryz.ntmps159
        go_wp2_with fail
        refine (unhide H1 _).mono ?_
        rintro e w1 ⟨rfl, hb1⟩
        have hb0 := below_alloc_size hb1
        have hz0 : w.heap.size + 1 ≤ w1.heap.size := by have := hb1.size; simpa using this
        clear hb1
        -- hb0: the Below from the box on
        have c0 := newcell hb0 0
        have c1 := newcell hb0 1
        have c2 := newcell hb0 2
        simp at c0 c1 c2
        go_wp2_with fail
        refine (unhide H2 _).mono ?_
        rintro e w2 ⟨rfl, hb2⟩
        have hn2 := below_next hb0 hz0 hb2
        clear c0 c1 c2 hb2 hb0 hz0
        -- hn2.1: the Below from the box on
        have c0 := newcell hn2.1 0
        have c1 := newcell hn2.1 1
        have c2 := newcell hn2.1 2
        simp at c0 c1 c2
        have HT2 := hide ((unhide HT).below (below_new hn2.1))
        have HW : Hid (Below (w.heap.size + 1) (w.alloc (.cells #[.bool true, .string (dec a), .string (dec q)] 79)) w2.drew ∧ w.heap.size + 1 ≤ w2.drew.heap.size) := hide ⟨hn2.1.drew, hn2.2⟩
        have HC : Hid (∀ wx : World, Below w2.drew.heap.size w2.drew wx → wx.cell? ⟨w.heap.size, 1, none⟩ = some (.string (dec a)) ∧ wx.cell? ⟨w.heap.size, 2, none⟩ = some (.string (dec q))) := by
          intro wx hx
          have hlt : w.heap.size < w2.drew.heap.size := hn2.2
          exact ⟨by rw [hx.cell (p := ⟨w.heap.size, 1, none⟩) hlt]; exact c1, by rw [hx.cell (p := ⟨w.heap.size, 2, none⟩) hlt]; exact c2⟩
        go_wp2
        go_region_with (first | (go_at_call_of 186 (dec a); refine (natRead_c a _ (by omega) (by first | exact (unhide HT2) | exact Tens.below (w := w2.drew) (unhide HT2) (by assumption))).mono ?_; rintro e wa ⟨⟨va, rfl, hva⟩, hba⟩; have Hva := hide hva; have Hba := hide hba; clear hva; have ca1 : wa.cell? ⟨w.heap.size, 1, none⟩ = some (.string (dec a)) := (by first | exact (unhide HC _ hba).1 | exact (unhide HC _ ((unhide Hbq).trans (hba.mono (unhide Hbq).size))).1); have ca2 : wa.cell? ⟨w.heap.size, 2, none⟩ = some (.string (dec q)) := (by first | exact (unhide HC _ hba).2 | exact (unhide HC _ ((unhide Hbq).trans (hba.mono (unhide Hbq).size))).2)) | (go_at_call_of 186 (dec q); refine (natRead_c q _ (by omega) (by first | exact (unhide HT2) | exact Tens.below (w := w2.drew) (unhide HT2) (by assumption))).mono ?_; rintro e wq ⟨⟨vq, rfl, hvq⟩, hbq⟩; have Hvq := hide hvq; have Hbq := hide hbq; clear hvq; have cq1 : wq.cell? ⟨w.heap.size, 1, none⟩ = some (.string (dec a)) := (by first | exact (unhide HC _ hbq).1 | exact (unhide HC _ ((unhide Hba).trans (hbq.mono (unhide Hba).size))).1); have cq2 : wq.cell? ⟨w.heap.size, 2, none⟩ = some (.string (dec q)) := (by first | exact (unhide HC _ hbq).2 | exact (unhide HC _ ((unhide Hba).trans (hbq.mono (unhide Hba).size))).2)) | (go_at_call 182; refine (gcd_c a q va vq _ (by first | exact unhide Hva | exact isNat_below (unhide Hva) (unhide Hbq)) (by first | exact unhide Hvq | exact isNat_below (unhide Hvq) (unhide Hba)) (by omega) (by omega)).mono ?_; rintro e wg ⟨⟨vg, rfl, hvg⟩, hbg⟩; have Hvg := hide hvg; have Hbg := hide hbg; clear hvg) | (go_at_call 187; refine (isOne_c (Nat.gcd a q) vg _ (unhide Hvg) (by omega)).mono ?_; rintro e wi ⟨rfl, rfl⟩))
        all_goals
          go_wp2
          go_ret
          refine ⟨ret_bool (unhide Hok).symm, below_new (o := .cells #[.bool true, .string (dec a), .string (dec q)] 79) ?_⟩
          first
            | exact (below_next (below_next (below_next (unhide HW).1 (unhide HW).2 (unhide Hba)).1 (below_next (unhide HW).1 (unhide HW).2 (unhide Hba)).2 (unhide Hbq)).1 (below_next (below_next (unhide HW).1 (unhide HW).2 (unhide Hba)).1 (below_next (unhide HW).1 (unhide HW).2 (unhide Hba)).2 (unhide Hbq)).2 (unhide Hbg)).1
            | exact (below_next (below_next (below_next (unhide HW).1 (unhide HW).2 (unhide Hbq)).1 (below_next (unhide HW).1 (unhide HW).2 (unhide Hbq)).2 (unhide Hba)).1 (below_next (below_next (unhide HW).1 (unhide HW).2 (unhide Hbq)).1 (below_next (unhide HW).1 (unhide HW).2 (unhide Hbq)).2 (unhide Hba)).2 (unhide Hbg)).1

theorem implNumOk_c (neg : Bool) (u d : List UInt8) (w : World) (hsu : u.length ≤ 1000000000) (hsd : d.length ≤ 1000000000) (hT : Tens w) :
    Calls Tryz.prog 159 #[numB neg u d] w fun e w' => e = .returned (.bool (okM neg u d)) ∧ Below w.heap.size w w' := by
  cases h : plain u && plain d with
  | false => exact implNumOk_no neg u d w hsu hsd h
  | true =>
    simp only [Bool.and_eq_true] at h
    exact implNumOk_yes neg u d w h.1 h.2 hT
end Go.Proofs.YtpbnmhnbkfnaeaaGreatDoor
