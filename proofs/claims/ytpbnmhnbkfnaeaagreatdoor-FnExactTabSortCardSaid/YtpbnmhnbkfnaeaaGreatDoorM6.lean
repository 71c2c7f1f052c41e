/- A part of the proof, put together out of smaller texts: each piece says what it is for. -/
import Derived.Test.YtpbnmhnbkfnaeaaGreatDoorM5
import Derived.Deep.RegionWith
namespace Go.Proofs.YtpbnmhnbkfnaeaaGreatDoor
open Go.RowKit Nt

def plainM (neg : Bool) (b : Nat) (l : List UInt8) : Option (Bool × Nat × Nat) := if okN b l then lowest neg (rdN b l) 1 else none
def bodyM (neg : Bool) (b : Nat) (l : List UInt8) : Option (Bool × Nat × Nat) :=
  match findB 47 l with
  | some k => overM neg b (l.take k) (l.drop (k + 1))
  | none => match findB 46 l with
    | some k => if b = 10 then pointM neg (l.take k) (l.drop (k + 1)) else plainM neg b l
    | none => plainM neg b l
def signB (b : Nat) : List UInt8 → Option (Bool × Nat × Nat)
  | [] => bodyM false b []
  | c :: t => if c = 45 then bodyM true b t else if c = 43 then bodyM false b t else bodyM false b (c :: t)
def parseM (l : List UInt8) (r : Int) : Option (Bool × Nat × Nat) := if isRadix r && decide (l.length ≤ 240) then signB r.toNat l else none

theorem findB_lt {c : UInt8} : ∀ {l : List UInt8} {k : Nat}, findB c l = some k → k < l.length := by
  intro l
  induction l with
  | nil => intro k h; simp [findB] at h
  | cons d r ih =>
    intro k h
    simp only [findB] at h
    split at h
    · simp at h; subst h; simp
    · cases hr : findB c r with
      | none => rw [hr] at h; simp at h
      | some j => rw [hr] at h; simp at h; subst h; have := ih hr; simp; omega

theorem l2Find_at (l : List UInt8) (c : UInt8) (n : Int) (hn : (c.toNat : Int) = n) (w : World) (hs : l.length ≤ 1000000000) :
    Calls Tryz.prog 104 #[.string (B l), .int .u8 n] w fun e w' => e = .returned (.int .i64 (findI c l)) ∧ w' = w := by
  subst hn; exact l2Find_c l c w hs

theorem isRadix_nat {r : Int} (h : isRadix r = true) : ∃ b : Nat, r = b ∧ (b = 2 ∨ b = 8 ∨ b = 10 ∨ b = 16) := by
  unfold isRadix at h
  simp only [Bool.or_eq_true, beq_iff_eq] at h
  exact ⟨r.toNat, by omega, by omega⟩



theorem parse_bad (l : List UInt8) (r : Int) (h : isRadix r = false ∨ 240 < l.length) : parseM l r = none := by
  unfold parseM
  rcases h with h | h
  · simp [h]
  · rw [decide_eq_false (by omega)]; simp

set_option maxRecDepth 100000 in
set_option maxHeartbeats 4000000 in
theorem specNumParse_no (l : List UInt8) (r : Int) (w : World) (hs : l.length ≤ 1000000000) (h : isRadix r = false ∨ 240 < l.length) :
    Calls Tryz.prog 64 #[.string (B l), .int .i64 r] w fun e w' => e = .returned (numAns (parseM l r)) ∧ Below w.heap.size w w' := by
  rw [parse_bad l r h]
  have hsz : (B l).size ≤ 1000000000 := by rw [B_size]; exact hs
  by_cases hr : isRadix r = false
  · clear h
    go_enter Tryz.func64, Tryz.ntmps64
    go_wp2_with fail
    refine (l2Radix_c r _).mono ?_
    rintro e w1 ⟨rfl, rfl⟩
    rw [hr]
    go_wp2
    refine bodyPost_ret (v := numAns none) (by simp [results, Tryz.results64, go_sem, numAns, numO, noNum, numV]) rfl ⟨rfl, ?_⟩
    exact (Below.refl _ _).alloc (Nat.le_refl _) _
  · have hr' : isRadix r = true := by simpa using hr
    have hl : 240 < (B l).size := by rw [B_size]; rcases h with h | h; exact absurd h hr; exact h
    clear h hr
    go_enter Tryz.func64, Tryz.ntmps64
    go_wp2_with fail
    refine (l2Radix_c r _).mono ?_
    rintro e w1 ⟨rfl, rfl⟩
    rw [hr']
    go_wp2
    refine bodyPost_ret (v := numAns none) (by simp [results, Tryz.results64, go_sem, numAns, numO, noNum, numV]) rfl ⟨rfl, ?_⟩
    exact (Below.refl _ _).alloc (Nat.le_refl _) _

theorem parse_yes (l : List UInt8) (b : Nat) (hb4 : b = 2 ∨ b = 8 ∨ b = 10 ∨ b = 16) (hl : l.length ≤ 240) : parseM l (b : Int) = signB b l := by
  have hr : isRadix (b : Int) = true := by rcases hb4 with rfl | rfl | rfl | rfl <;> rfl
  unfold parseM
  rw [hr, decide_eq_true hl]
  simp

set_option maxRecDepth 100000 in
set_option maxHeartbeats 4000000 in
theorem specNumParse_none (b : Nat) (w : World) (hb4 : b = 2 ∨ b = 8 ∨ b = 10 ∨ b = 16) :
    Calls Tryz.prog 64 #[.string (B []), .int .i64 b] w fun e w' => e = .returned (numAns (parseM [] b)) ∧ Below w.heap.size w w' := by
  obtain ⟨l, hl⟩ : ∃ l : List UInt8, l = [] := ⟨_, rfl⟩
  rw [← hl]
  have hr : isRadix (b : Int) = true := by rcases hb4 with rfl | rfl | rfl | rfl <;> rfl
  have hl2 : l.length ≤ 240 := by rw [hl]; simp
  have Hm : Hid (parseM l (b : Int) = bodyM false b l) := by show _ = _; rw [parse_yes l b hb4 hl2, hl]; rfl
  have hz : (B l).size ≤ 0 := by rw [B_size, hl]; simp
  clear hl
  go_enter Tryz.func64, Tryz.ntmps64
  go_wp2_with fail
  refine (l2Radix_c b _).mono ?_
  rintro e w1 ⟨rfl, rfl⟩
  rw [hr]
  -- false: the sign as a Bool; l: the text behind it (a list); wants hb4 : b = 2 ∨ .., hl2 : its length ≤ 240, Hm : Hid (parseM .. = bodyM false b l)
  go_wp2_with fail
  refine (l2Find_at l 47 47 rfl _ (by omega)).mono ?_
  rintro e w1 ⟨rfl, rfl⟩
  cases hf : findB 47 l with
  | some k =>
    have hfi : findI 47 l = (k : Int) := by unfold findI; rw [hf]
    have hk := findB_lt hf
    have Hov2 : Hid (parseM l (b : Int) = overM false b ((l).take k) ((l).drop (k + 1))) := by
      show _ = _
      rw [unhide Hm]; unfold bodyM; rw [hf]
    rw [hfi]
    clear hfi hf
    go_wp2_with fail
    refine (l2Over_c false l k b _ hk (by omega) (by omega) (by omega)).mono ?_
    rintro e w2 ⟨rfl, hb2⟩
    have hb0 := below_alloc_size hb2
    have c0 := newcell hb0 0
    have c1 := newcell hb0 1
    have c2 := newcell hb0 2
    have f0 := newfree hb0 0
    have f1 := newfree hb0 1
    have f2 := newfree hb0 2
    have hbX := below_new hb0
    simp at c0 c1 c2
    clear hb2 hb0
    -- behind l2Make's contract: 64 the function; the struct is stored and told. Wants: Hov2 : Hid (M = lowest ..), c0 c1 c2 f0 f1 f2 hbX, the answer's option overM false b ((l).take k) ((l).drop (k + 1))
    generalize overM false b ((l).take k) ((l).drop (k + 1)) = o at *
    unfold numAns
    obtain ⟨n3, u3, d3, ho⟩ : ∃ n3 u3 d3, numO o = numV n3 u3 d3 := by
      cases o with
      | none => exact ⟨_, _, _, rfl⟩
      | some p => exact ⟨_, _, _, rfl⟩
    have Ho := hide ho
    rw [ho]
    unfold numV
    clear ho
    go_wp2
    refine bodyPost_ret (v := numAns o) (by simp [results, Tryz.results64, go_sem, numAns, unhide Ho, numV, c0, c1, c2]) rfl ⟨by rw [unhide Hov2], ?_⟩
    exact below_three hbX _ (Nat.le_refl _) _ _ _
  | none =>
    have hfi : findI 47 l = -1 := by unfold findI; rw [hf]
    rw [hfi]
    clear hfi
    go_wp2_with fail
    refine (l2Find_at l 46 46 rfl _ (by omega)).mono ?_
    rintro e w2 ⟨rfl, rfl⟩
    have Hf := hide hf
    clear hf
    by_cases hpt : b = 10 ∧ ∃ k, findB 46 l = some k
    · obtain ⟨hb10, k, hfk⟩ := hpt
      have hfi : findI 46 l = (k : Int) := by unfold findI; rw [hfk]
      have hk := findB_lt hfk
      have Hov2 : Hid (parseM l (b : Int) = pointM false ((l).take k) ((l).drop (k + 1))) := by
        show _ = _
        rw [unhide Hm]; unfold bodyM; rw [unhide Hf]
        simp only [hfk]
        rw [if_pos hb10]
      rw [hfi]
      have hbq : ((b : Int) == 10) = true := by rw [beq_iff_eq]; omega
      clear hfi hfk hb10
      go_wp2_with fail
      refine (l2Point_c false l k _ hk (by omega)).mono ?_
      rintro e w3 ⟨rfl, hb3⟩
      have hb0 := below_alloc_size hb3
      have c0 := newcell hb0 0
      have c1 := newcell hb0 1
      have c2 := newcell hb0 2
      have f0 := newfree hb0 0
      have f1 := newfree hb0 1
      have f2 := newfree hb0 2
      have hbX := below_new hb0
      simp at c0 c1 c2
      clear hb3 hb0
      -- behind l2Make's contract: 64 the function; the struct is stored and told. Wants: Hov2 : Hid (M = lowest ..), c0 c1 c2 f0 f1 f2 hbX, the answer's option pointM false ((l).take k) ((l).drop (k + 1))
      generalize pointM false ((l).take k) ((l).drop (k + 1)) = o at *
      unfold numAns
      obtain ⟨n3, u3, d3, ho⟩ : ∃ n3 u3 d3, numO o = numV n3 u3 d3 := by
        cases o with
        | none => exact ⟨_, _, _, rfl⟩
        | some p => exact ⟨_, _, _, rfl⟩
      have Ho := hide ho
      rw [ho]
      unfold numV
      clear ho
      go_wp2
      refine bodyPost_ret (v := numAns o) (by simp [results, Tryz.results64, go_sem, numAns, unhide Ho, numV, c0, c1, c2]) rfl ⟨by rw [unhide Hov2], ?_⟩
      exact below_three hbX _ (Nat.le_refl _) _ _ _
    · have Hpl : Hid (parseM l (b : Int) = plainM false b l) := by
        show _ = _
        rw [unhide Hm]; unfold bodyM; rw [unhide Hf]
        cases hfk : findB 46 l with
        | none => rfl
        | some k =>
          simp only
          rw [if_neg (fun h => hpt ⟨h, k, hfk⟩)]
      have hsn := fun h => rdN_size (b := b) (l := l) (by omega) h
      have hvn : okN b l = true → natV b l = rdN b l := fun h => by unfold natV; rw [if_pos h]
      have Hpo : Hid (plainM false b l = if okN b l then lowest false (rdN b l) 1 else none) := hide rfl
      have d1 : dec 1 = ⟨#[49]⟩ := dec_one
      by_cases hfz : 0 ≤ findI 46 l
      · have hbq : ((b : Int) == 10) = false := by
          rw [beq_eq_false_iff_ne]
          intro hh
          apply hpt
          refine ⟨by omega, ?_⟩
          unfold findI at hfz
          cases hfk : findB 46 l with
          | none => rw [hfk] at hfz; simp at hfz
          | some k => exact ⟨k, rfl⟩
        clear hpt
        go_wp2_with fail
        refine (l2Nat_c l b _ (by omega) (by omega) (by omega)).mono ?_
        rintro e w3 ⟨rfl, hb3⟩
        unfold natAns
        have hb0 := below_alloc_size hb3
        have hzz : w.heap.size + 1 ≤ w3.heap.size := by have := hb3.size; simpa using this
        generalize natV b l = vx at *
        generalize okN b l = ox at *
        cases ox with
        | false =>
          have c0 := newcell hb0 0
          have c1 := newcell hb0 1
          have c2 := newcell hb0 2
          have f0 := newfree hb0 0
          have f1 := newfree hb0 1
          have f2 := newfree hb0 2
          have hbX := below_new hb0
          simp at c0 c1 c2
          clear hb3 hb0 hsn hvn d1
          go_wp2
          refine bodyPost_ret (v := numAns none) (by simp [results, Tryz.results64, go_sem, numAns, numO, noNum, numV, c0, c1, c2]) rfl ⟨by rw [unhide Hpl, unhide Hpo]; rfl, ?_⟩
          exact below_three hbX _ (Nat.le_refl _) _ _ _
        | true =>
          have h1 := hsn rfl
          rw [← hvn rfl] at h1
          have Hov2 : Hid (parseM l (b : Int) = lowest false vx 1) := by rw [hvn rfl]; exact (unhide Hpl).trans (unhide Hpo)
          have d1s := dec_small (n := 1) (by omega)
          clear hsn hvn
          go_wp2_with fail
          rw [← d1]
          clear d1
          refine (l2Make_c false vx 1 _ (by omega) (by omega)).mono ?_
          rintro e w4 ⟨rfl, hb4'⟩
          have hn4 := below_next hb0 hzz hb4'
          have c0 := newcell hn4.1 0
          have c1 := newcell hn4.1 1
          have c2 := newcell hn4.1 2
          have f0 := newfree hn4.1 0
          have f1 := newfree hn4.1 1
          have f2 := newfree hn4.1 2
          have hbX := below_new hn4.1
          simp at c0 c1 c2
          clear hb3 hb0 hb4' hn4
          -- behind l2Make's contract: 64 the function; the struct is stored and told. Wants: Hov2 : Hid (M = lowest ..), c0 c1 c2 f0 f1 f2 hbX, the answer's option lowest false vx 1
          generalize lowest false vx 1 = o at *
          unfold numAns
          obtain ⟨n3, u3, d3, ho⟩ : ∃ n3 u3 d3, numO o = numV n3 u3 d3 := by
            cases o with
            | none => exact ⟨_, _, _, rfl⟩
            | some p => exact ⟨_, _, _, rfl⟩
          have Ho := hide ho
          rw [ho]
          unfold numV
          clear ho
          go_wp2
          refine bodyPost_ret (v := numAns o) (by simp [results, Tryz.results64, go_sem, numAns, unhide Ho, numV, c0, c1, c2]) rfl ⟨by rw [unhide Hov2], ?_⟩
          exact below_three hbX _ (Nat.le_refl _) _ _ _
      · clear hpt
        go_wp2_with fail
        refine (l2Nat_c l b _ (by omega) (by omega) (by omega)).mono ?_
        rintro e w3 ⟨rfl, hb3⟩
        unfold natAns
        have hb0 := below_alloc_size hb3
        have hzz : w.heap.size + 1 ≤ w3.heap.size := by have := hb3.size; simpa using this
        generalize natV b l = vx at *
        generalize okN b l = ox at *
        cases ox with
        | false =>
          have c0 := newcell hb0 0
          have c1 := newcell hb0 1
          have c2 := newcell hb0 2
          have f0 := newfree hb0 0
          have f1 := newfree hb0 1
          have f2 := newfree hb0 2
          have hbX := below_new hb0
          simp at c0 c1 c2
          clear hb3 hb0 hsn hvn d1
          go_wp2
          refine bodyPost_ret (v := numAns none) (by simp [results, Tryz.results64, go_sem, numAns, numO, noNum, numV, c0, c1, c2]) rfl ⟨by rw [unhide Hpl, unhide Hpo]; rfl, ?_⟩
          exact below_three hbX _ (Nat.le_refl _) _ _ _
        | true =>
          have h1 := hsn rfl
          rw [← hvn rfl] at h1
          have Hov2 : Hid (parseM l (b : Int) = lowest false vx 1) := by rw [hvn rfl]; exact (unhide Hpl).trans (unhide Hpo)
          have d1s := dec_small (n := 1) (by omega)
          clear hsn hvn
          go_wp2_with fail
          rw [← d1]
          clear d1
          refine (l2Make_c false vx 1 _ (by omega) (by omega)).mono ?_
          rintro e w4 ⟨rfl, hb4'⟩
          have hn4 := below_next hb0 hzz hb4'
          have c0 := newcell hn4.1 0
          have c1 := newcell hn4.1 1
          have c2 := newcell hn4.1 2
          have f0 := newfree hn4.1 0
          have f1 := newfree hn4.1 1
          have f2 := newfree hn4.1 2
          have hbX := below_new hn4.1
          simp at c0 c1 c2
          clear hb3 hb0 hb4' hn4
          -- behind l2Make's contract: 64 the function; the struct is stored and told. Wants: Hov2 : Hid (M = lowest ..), c0 c1 c2 f0 f1 f2 hbX, the answer's option lowest false vx 1
          generalize lowest false vx 1 = o at *
          unfold numAns
          obtain ⟨n3, u3, d3, ho⟩ : ∃ n3 u3 d3, numO o = numV n3 u3 d3 := by
            cases o with
            | none => exact ⟨_, _, _, rfl⟩
            | some p => exact ⟨_, _, _, rfl⟩
          have Ho := hide ho
          rw [ho]
          unfold numV
          clear ho
          go_wp2
          refine bodyPost_ret (v := numAns o) (by simp [results, Tryz.results64, go_sem, numAns, unhide Ho, numV, c0, c1, c2]) rfl ⟨by rw [unhide Hov2], ?_⟩
          exact below_three hbX _ (Nat.le_refl _) _ _ _


set_option maxRecDepth 100000 in
set_option maxHeartbeats 4000000 in
theorem specNumParse_minus (t : List UInt8) (b : Nat) (w : World) (hb4 : b = 2 ∨ b = 8 ∨ b = 10 ∨ b = 16) (c : UInt8) (hc : c = 45) (hlen : (c :: t).length ≤ 240) :
    Calls Tryz.prog 64 #[.string (B (c :: t)), .int .i64 b] w fun e w' => e = .returned (numAns (parseM (c :: t) b)) ∧ Below w.heap.size w w' := by
  obtain ⟨l, hl⟩ : ∃ l : List UInt8, l = c :: t := ⟨_, rfl⟩
  rw [← hl]
  have hr : isRadix (b : Int) = true := by rcases hb4 with rfl | rfl | rfl | rfl <;> rfl
  have hl2 : l.length ≤ 240 := by rw [hl]; exact hlen
  have htl : t.length ≤ 240 := by simp at hlen; omega
  have hpos : 0 < (B l).size := by rw [B_size, hl]; simp
  have hposI : (0 : Int) < ((B l).size : Int) := by omega
  have hsz : (B l).size ≤ 240 := by rw [B_size]; exact hl2
  have hc0 : ((B l)[0]'hpos).toNat = c.toNat := by rw [B_get]; simp [hl]
  have hcut : (B l).extract 1 (B l).size = B t := by rw [B_extract, B_size, List.take_length, hl]; rfl
  have Hm : Hid (parseM l (b : Int) = bodyM true b t) := by show _ = _; rw [parse_yes l b hb4 hl2, hl]; simp [signB, hc]
  have hq : (((B l)[0]'hpos).toNat : Int) == 45 := by rw [hc0, hc]; rfl
  clear hl hc hc0 hlen
  go_enter Tryz.func64, Tryz.ntmps64
  go_wp2_with fail
  refine (l2Radix_c b _).mono ?_
  rintro e w1 ⟨rfl, rfl⟩
  rw [hr]
  -- true: the sign as a Bool; t: the text behind it (a list); wants hb4 : b = 2 ∨ .., hl2 : its length ≤ 240, Hm : Hid (parseM .. = bodyM true b t)
  go_wp2_with fail
  refine (l2Find_at t 47 47 rfl _ (by omega)).mono ?_
  rintro e w1 ⟨rfl, rfl⟩
  cases hf : findB 47 t with
  | some k =>
    have hfi : findI 47 t = (k : Int) := by unfold findI; rw [hf]
    have hk := findB_lt hf
    have Hov2 : Hid (parseM l (b : Int) = overM true b ((t).take k) ((t).drop (k + 1))) := by
      show _ = _
      rw [unhide Hm]; unfold bodyM; rw [hf]
    rw [hfi]
    clear hfi hf
    go_wp2_with fail
    refine (l2Over_c true t k b _ hk (by omega) (by omega) (by omega)).mono ?_
    rintro e w2 ⟨rfl, hb2⟩
    have hb0 := below_alloc_size hb2
    have c0 := newcell hb0 0
    have c1 := newcell hb0 1
    have c2 := newcell hb0 2
    have f0 := newfree hb0 0
    have f1 := newfree hb0 1
    have f2 := newfree hb0 2
    have hbX := below_new hb0
    simp at c0 c1 c2
    clear hb2 hb0
    -- behind l2Make's contract: 64 the function; the struct is stored and told. Wants: Hov2 : Hid (M = lowest ..), c0 c1 c2 f0 f1 f2 hbX, the answer's option overM true b ((t).take k) ((t).drop (k + 1))
    generalize overM true b ((t).take k) ((t).drop (k + 1)) = o at *
    unfold numAns
    obtain ⟨n3, u3, d3, ho⟩ : ∃ n3 u3 d3, numO o = numV n3 u3 d3 := by
      cases o with
      | none => exact ⟨_, _, _, rfl⟩
      | some p => exact ⟨_, _, _, rfl⟩
    have Ho := hide ho
    rw [ho]
    unfold numV
    clear ho
    go_wp2
    refine bodyPost_ret (v := numAns o) (by simp [results, Tryz.results64, go_sem, numAns, unhide Ho, numV, c0, c1, c2]) rfl ⟨by rw [unhide Hov2], ?_⟩
    exact below_three hbX _ (Nat.le_refl _) _ _ _
  | none =>
    have hfi : findI 47 t = -1 := by unfold findI; rw [hf]
    rw [hfi]
    clear hfi
    go_wp2_with fail
    refine (l2Find_at t 46 46 rfl _ (by omega)).mono ?_
    rintro e w2 ⟨rfl, rfl⟩
    have Hf := hide hf
    clear hf
    by_cases hpt : b = 10 ∧ ∃ k, findB 46 t = some k
    · obtain ⟨hb10, k, hfk⟩ := hpt
      have hfi : findI 46 t = (k : Int) := by unfold findI; rw [hfk]
      have hk := findB_lt hfk
      have Hov2 : Hid (parseM l (b : Int) = pointM true ((t).take k) ((t).drop (k + 1))) := by
        show _ = _
        rw [unhide Hm]; unfold bodyM; rw [unhide Hf]
        simp only [hfk]
        rw [if_pos hb10]
      rw [hfi]
      have hbq : ((b : Int) == 10) = true := by rw [beq_iff_eq]; omega
      clear hfi hfk hb10
      go_wp2_with fail
      refine (l2Point_c true t k _ hk (by omega)).mono ?_
      rintro e w3 ⟨rfl, hb3⟩
      have hb0 := below_alloc_size hb3
      have c0 := newcell hb0 0
      have c1 := newcell hb0 1
      have c2 := newcell hb0 2
      have f0 := newfree hb0 0
      have f1 := newfree hb0 1
      have f2 := newfree hb0 2
      have hbX := below_new hb0
      simp at c0 c1 c2
      clear hb3 hb0
      -- behind l2Make's contract: 64 the function; the struct is stored and told. Wants: Hov2 : Hid (M = lowest ..), c0 c1 c2 f0 f1 f2 hbX, the answer's option pointM true ((t).take k) ((t).drop (k + 1))
      generalize pointM true ((t).take k) ((t).drop (k + 1)) = o at *
      unfold numAns
      obtain ⟨n3, u3, d3, ho⟩ : ∃ n3 u3 d3, numO o = numV n3 u3 d3 := by
        cases o with
        | none => exact ⟨_, _, _, rfl⟩
        | some p => exact ⟨_, _, _, rfl⟩
      have Ho := hide ho
      rw [ho]
      unfold numV
      clear ho
      go_wp2
      refine bodyPost_ret (v := numAns o) (by simp [results, Tryz.results64, go_sem, numAns, unhide Ho, numV, c0, c1, c2]) rfl ⟨by rw [unhide Hov2], ?_⟩
      exact below_three hbX _ (Nat.le_refl _) _ _ _
    · have Hpl : Hid (parseM l (b : Int) = plainM true b t) := by
        show _ = _
        rw [unhide Hm]; unfold bodyM; rw [unhide Hf]
        cases hfk : findB 46 t with
        | none => rfl
        | some k =>
          simp only
          rw [if_neg (fun h => hpt ⟨h, k, hfk⟩)]
      have hsn := fun h => rdN_size (b := b) (l := t) (by omega) h
      have hvn : okN b t = true → natV b t = rdN b t := fun h => by unfold natV; rw [if_pos h]
      have Hpo : Hid (plainM true b t = if okN b t then lowest true (rdN b t) 1 else none) := hide rfl
      have d1 : dec 1 = ⟨#[49]⟩ := dec_one
      by_cases hfz : 0 ≤ findI 46 t
      · have hbq : ((b : Int) == 10) = false := by
          rw [beq_eq_false_iff_ne]
          intro hh
          apply hpt
          refine ⟨by omega, ?_⟩
          unfold findI at hfz
          cases hfk : findB 46 t with
          | none => rw [hfk] at hfz; simp at hfz
          | some k => exact ⟨k, rfl⟩
        clear hpt
        go_wp2_with fail
        refine (l2Nat_c t b _ (by omega) (by omega) (by omega)).mono ?_
        rintro e w3 ⟨rfl, hb3⟩
        unfold natAns
        have hb0 := below_alloc_size hb3
        have hzz : w.heap.size + 1 ≤ w3.heap.size := by have := hb3.size; simpa using this
        generalize natV b t = vx at *
        generalize okN b t = ox at *
        cases ox with
        | false =>
          have c0 := newcell hb0 0
          have c1 := newcell hb0 1
          have c2 := newcell hb0 2
          have f0 := newfree hb0 0
          have f1 := newfree hb0 1
          have f2 := newfree hb0 2
          have hbX := below_new hb0
          simp at c0 c1 c2
          clear hb3 hb0 hsn hvn d1
          go_wp2
          refine bodyPost_ret (v := numAns none) (by simp [results, Tryz.results64, go_sem, numAns, numO, noNum, numV, c0, c1, c2]) rfl ⟨by rw [unhide Hpl, unhide Hpo]; rfl, ?_⟩
          exact below_three hbX _ (Nat.le_refl _) _ _ _
        | true =>
          have h1 := hsn rfl
          rw [← hvn rfl] at h1
          have Hov2 : Hid (parseM l (b : Int) = lowest true vx 1) := by rw [hvn rfl]; exact (unhide Hpl).trans (unhide Hpo)
          have d1s := dec_small (n := 1) (by omega)
          clear hsn hvn
          go_wp2_with fail
          rw [← d1]
          clear d1
          refine (l2Make_c true vx 1 _ (by omega) (by omega)).mono ?_
          rintro e w4 ⟨rfl, hb4'⟩
          have hn4 := below_next hb0 hzz hb4'
          have c0 := newcell hn4.1 0
          have c1 := newcell hn4.1 1
          have c2 := newcell hn4.1 2
          have f0 := newfree hn4.1 0
          have f1 := newfree hn4.1 1
          have f2 := newfree hn4.1 2
          have hbX := below_new hn4.1
          simp at c0 c1 c2
          clear hb3 hb0 hb4' hn4
          -- behind l2Make's contract: 64 the function; the struct is stored and told. Wants: Hov2 : Hid (M = lowest ..), c0 c1 c2 f0 f1 f2 hbX, the answer's option lowest true vx 1
          generalize lowest true vx 1 = o at *
          unfold numAns
          obtain ⟨n3, u3, d3, ho⟩ : ∃ n3 u3 d3, numO o = numV n3 u3 d3 := by
            cases o with
            | none => exact ⟨_, _, _, rfl⟩
            | some p => exact ⟨_, _, _, rfl⟩
          have Ho := hide ho
          rw [ho]
          unfold numV
          clear ho
          go_wp2
          refine bodyPost_ret (v := numAns o) (by simp [results, Tryz.results64, go_sem, numAns, unhide Ho, numV, c0, c1, c2]) rfl ⟨by rw [unhide Hov2], ?_⟩
          exact below_three hbX _ (Nat.le_refl _) _ _ _
      · clear hpt
        go_wp2_with fail
        refine (l2Nat_c t b _ (by omega) (by omega) (by omega)).mono ?_
        rintro e w3 ⟨rfl, hb3⟩
        unfold natAns
        have hb0 := below_alloc_size hb3
        have hzz : w.heap.size + 1 ≤ w3.heap.size := by have := hb3.size; simpa using this
        generalize natV b t = vx at *
        generalize okN b t = ox at *
        cases ox with
        | false =>
          have c0 := newcell hb0 0
          have c1 := newcell hb0 1
          have c2 := newcell hb0 2
          have f0 := newfree hb0 0
          have f1 := newfree hb0 1
          have f2 := newfree hb0 2
          have hbX := below_new hb0
          simp at c0 c1 c2
          clear hb3 hb0 hsn hvn d1
          go_wp2
          refine bodyPost_ret (v := numAns none) (by simp [results, Tryz.results64, go_sem, numAns, numO, noNum, numV, c0, c1, c2]) rfl ⟨by rw [unhide Hpl, unhide Hpo]; rfl, ?_⟩
          exact below_three hbX _ (Nat.le_refl _) _ _ _
        | true =>
          have h1 := hsn rfl
          rw [← hvn rfl] at h1
          have Hov2 : Hid (parseM l (b : Int) = lowest true vx 1) := by rw [hvn rfl]; exact (unhide Hpl).trans (unhide Hpo)
          have d1s := dec_small (n := 1) (by omega)
          clear hsn hvn
          go_wp2_with fail
          rw [← d1]
          clear d1
          refine (l2Make_c true vx 1 _ (by omega) (by omega)).mono ?_
          rintro e w4 ⟨rfl, hb4'⟩
          have hn4 := below_next hb0 hzz hb4'
          have c0 := newcell hn4.1 0
          have c1 := newcell hn4.1 1
          have c2 := newcell hn4.1 2
          have f0 := newfree hn4.1 0
          have f1 := newfree hn4.1 1
          have f2 := newfree hn4.1 2
          have hbX := below_new hn4.1
          simp at c0 c1 c2
          clear hb3 hb0 hb4' hn4
          -- behind l2Make's contract: 64 the function; the struct is stored and told. Wants: Hov2 : Hid (M = lowest ..), c0 c1 c2 f0 f1 f2 hbX, the answer's option lowest true vx 1
          generalize lowest true vx 1 = o at *
          unfold numAns
          obtain ⟨n3, u3, d3, ho⟩ : ∃ n3 u3 d3, numO o = numV n3 u3 d3 := by
            cases o with
            | none => exact ⟨_, _, _, rfl⟩
            | some p => exact ⟨_, _, _, rfl⟩
          have Ho := hide ho
          rw [ho]
          unfold numV
          clear ho
          go_wp2
          refine bodyPost_ret (v := numAns o) (by simp [results, Tryz.results64, go_sem, numAns, unhide Ho, numV, c0, c1, c2]) rfl ⟨by rw [unhide Hov2], ?_⟩
          exact below_three hbX _ (Nat.le_refl _) _ _ _

set_option maxRecDepth 100000 in
set_option maxHeartbeats 4000000 in
theorem specNumParse_plus (t : List UInt8) (b : Nat) (w : World) (hb4 : b = 2 ∨ b = 8 ∨ b = 10 ∨ b = 16) (c : UInt8) (hc : c = 43) (hlen : (c :: t).length ≤ 240) :
    Calls Tryz.prog 64 #[.string (B (c :: t)), .int .i64 b] w fun e w' => e = .returned (numAns (parseM (c :: t) b)) ∧ Below w.heap.size w w' := by
  obtain ⟨l, hl⟩ : ∃ l : List UInt8, l = c :: t := ⟨_, rfl⟩
  rw [← hl]
  have hr : isRadix (b : Int) = true := by rcases hb4 with rfl | rfl | rfl | rfl <;> rfl
  have hl2 : l.length ≤ 240 := by rw [hl]; exact hlen
  have htl : t.length ≤ 240 := by simp at hlen; omega
  have hpos : 0 < (B l).size := by rw [B_size, hl]; simp
  have hposI : (0 : Int) < ((B l).size : Int) := by omega
  have hsz : (B l).size ≤ 240 := by rw [B_size]; exact hl2
  have hc0 : ((B l)[0]'hpos).toNat = c.toNat := by rw [B_get]; simp [hl]
  have hcut : (B l).extract 1 (B l).size = B t := by rw [B_extract, B_size, List.take_length, hl]; rfl
  have Hm : Hid (parseM l (b : Int) = bodyM false b t) := by show _ = _; rw [parse_yes l b hb4 hl2, hl]; simp [signB, hc]
  have hq : ((((B l)[0]'hpos).toNat : Int) == 45) = false := by rw [hc0, hc]; rfl
  have hq2 : ((((B l)[0]'hpos).toNat : Int) == 43) = true := by rw [hc0, hc]; rfl
  clear hl hc hc0 hlen
  go_enter Tryz.func64, Tryz.ntmps64
  go_wp2_with fail
  refine (l2Radix_c b _).mono ?_
  rintro e w1 ⟨rfl, rfl⟩
  rw [hr]
  -- false: the sign as a Bool; t: the text behind it (a list); wants hb4 : b = 2 ∨ .., hl2 : its length ≤ 240, Hm : Hid (parseM .. = bodyM false b t)
  go_wp2_with fail
  refine (l2Find_at t 47 47 rfl _ (by omega)).mono ?_
  rintro e w1 ⟨rfl, rfl⟩
  cases hf : findB 47 t with
  | some k =>
    have hfi : findI 47 t = (k : Int) := by unfold findI; rw [hf]
    have hk := findB_lt hf
    have Hov2 : Hid (parseM l (b : Int) = overM false b ((t).take k) ((t).drop (k + 1))) := by
      show _ = _
      rw [unhide Hm]; unfold bodyM; rw [hf]
    rw [hfi]
    clear hfi hf
    go_wp2_with fail
    refine (l2Over_c false t k b _ hk (by omega) (by omega) (by omega)).mono ?_
    rintro e w2 ⟨rfl, hb2⟩
    have hb0 := below_alloc_size hb2
    have c0 := newcell hb0 0
    have c1 := newcell hb0 1
    have c2 := newcell hb0 2
    have f0 := newfree hb0 0
    have f1 := newfree hb0 1
    have f2 := newfree hb0 2
    have hbX := below_new hb0
    simp at c0 c1 c2
    clear hb2 hb0
    -- behind l2Make's contract: 64 the function; the struct is stored and told. Wants: Hov2 : Hid (M = lowest ..), c0 c1 c2 f0 f1 f2 hbX, the answer's option overM false b ((t).take k) ((t).drop (k + 1))
    generalize overM false b ((t).take k) ((t).drop (k + 1)) = o at *
    unfold numAns
    obtain ⟨n3, u3, d3, ho⟩ : ∃ n3 u3 d3, numO o = numV n3 u3 d3 := by
      cases o with
      | none => exact ⟨_, _, _, rfl⟩
      | some p => exact ⟨_, _, _, rfl⟩
    have Ho := hide ho
    rw [ho]
    unfold numV
    clear ho
    go_wp2
    refine bodyPost_ret (v := numAns o) (by simp [results, Tryz.results64, go_sem, numAns, unhide Ho, numV, c0, c1, c2]) rfl ⟨by rw [unhide Hov2], ?_⟩
    exact below_three hbX _ (Nat.le_refl _) _ _ _
  | none =>
    have hfi : findI 47 t = -1 := by unfold findI; rw [hf]
    rw [hfi]
    clear hfi
    go_wp2_with fail
    refine (l2Find_at t 46 46 rfl _ (by omega)).mono ?_
    rintro e w2 ⟨rfl, rfl⟩
    have Hf := hide hf
    clear hf
    by_cases hpt : b = 10 ∧ ∃ k, findB 46 t = some k
    · obtain ⟨hb10, k, hfk⟩ := hpt
      have hfi : findI 46 t = (k : Int) := by unfold findI; rw [hfk]
      have hk := findB_lt hfk
      have Hov2 : Hid (parseM l (b : Int) = pointM false ((t).take k) ((t).drop (k + 1))) := by
        show _ = _
        rw [unhide Hm]; unfold bodyM; rw [unhide Hf]
        simp only [hfk]
        rw [if_pos hb10]
      rw [hfi]
      have hbq : ((b : Int) == 10) = true := by rw [beq_iff_eq]; omega
      clear hfi hfk hb10
      go_wp2_with fail
      refine (l2Point_c false t k _ hk (by omega)).mono ?_
      rintro e w3 ⟨rfl, hb3⟩
      have hb0 := below_alloc_size hb3
      have c0 := newcell hb0 0
      have c1 := newcell hb0 1
      have c2 := newcell hb0 2
      have f0 := newfree hb0 0
      have f1 := newfree hb0 1
      have f2 := newfree hb0 2
      have hbX := below_new hb0
      simp at c0 c1 c2
      clear hb3 hb0
      -- behind l2Make's contract: 64 the function; the struct is stored and told. Wants: Hov2 : Hid (M = lowest ..), c0 c1 c2 f0 f1 f2 hbX, the answer's option pointM false ((t).take k) ((t).drop (k + 1))
      generalize pointM false ((t).take k) ((t).drop (k + 1)) = o at *
      unfold numAns
      obtain ⟨n3, u3, d3, ho⟩ : ∃ n3 u3 d3, numO o = numV n3 u3 d3 := by
        cases o with
        | none => exact ⟨_, _, _, rfl⟩
        | some p => exact ⟨_, _, _, rfl⟩
      have Ho := hide ho
      rw [ho]
      unfold numV
      clear ho
      go_wp2
      refine bodyPost_ret (v := numAns o) (by simp [results, Tryz.results64, go_sem, numAns, unhide Ho, numV, c0, c1, c2]) rfl ⟨by rw [unhide Hov2], ?_⟩
      exact below_three hbX _ (Nat.le_refl _) _ _ _
    · have Hpl : Hid (parseM l (b : Int) = plainM false b t) := by
        show _ = _
        rw [unhide Hm]; unfold bodyM; rw [unhide Hf]
        cases hfk : findB 46 t with
        | none => rfl
        | some k =>
          simp only
          rw [if_neg (fun h => hpt ⟨h, k, hfk⟩)]
      have hsn := fun h => rdN_size (b := b) (l := t) (by omega) h
      have hvn : okN b t = true → natV b t = rdN b t := fun h => by unfold natV; rw [if_pos h]
      have Hpo : Hid (plainM false b t = if okN b t then lowest false (rdN b t) 1 else none) := hide rfl
      have d1 : dec 1 = ⟨#[49]⟩ := dec_one
      by_cases hfz : 0 ≤ findI 46 t
      · have hbq : ((b : Int) == 10) = false := by
          rw [beq_eq_false_iff_ne]
          intro hh
          apply hpt
          refine ⟨by omega, ?_⟩
          unfold findI at hfz
          cases hfk : findB 46 t with
          | none => rw [hfk] at hfz; simp at hfz
          | some k => exact ⟨k, rfl⟩
        clear hpt
        go_wp2_with fail
        refine (l2Nat_c t b _ (by omega) (by omega) (by omega)).mono ?_
        rintro e w3 ⟨rfl, hb3⟩
        unfold natAns
        have hb0 := below_alloc_size hb3
        have hzz : w.heap.size + 1 ≤ w3.heap.size := by have := hb3.size; simpa using this
        generalize natV b t = vx at *
        generalize okN b t = ox at *
        cases ox with
        | false =>
          have c0 := newcell hb0 0
          have c1 := newcell hb0 1
          have c2 := newcell hb0 2
          have f0 := newfree hb0 0
          have f1 := newfree hb0 1
          have f2 := newfree hb0 2
          have hbX := below_new hb0
          simp at c0 c1 c2
          clear hb3 hb0 hsn hvn d1
          go_wp2
          refine bodyPost_ret (v := numAns none) (by simp [results, Tryz.results64, go_sem, numAns, numO, noNum, numV, c0, c1, c2]) rfl ⟨by rw [unhide Hpl, unhide Hpo]; rfl, ?_⟩
          exact below_three hbX _ (Nat.le_refl _) _ _ _
        | true =>
          have h1 := hsn rfl
          rw [← hvn rfl] at h1
          have Hov2 : Hid (parseM l (b : Int) = lowest false vx 1) := by rw [hvn rfl]; exact (unhide Hpl).trans (unhide Hpo)
          have d1s := dec_small (n := 1) (by omega)
          clear hsn hvn
          go_wp2_with fail
          rw [← d1]
          clear d1
          refine (l2Make_c false vx 1 _ (by omega) (by omega)).mono ?_
          rintro e w4 ⟨rfl, hb4'⟩
          have hn4 := below_next hb0 hzz hb4'
          have c0 := newcell hn4.1 0
          have c1 := newcell hn4.1 1
          have c2 := newcell hn4.1 2
          have f0 := newfree hn4.1 0
          have f1 := newfree hn4.1 1
          have f2 := newfree hn4.1 2
          have hbX := below_new hn4.1
          simp at c0 c1 c2
          clear hb3 hb0 hb4' hn4
          -- behind l2Make's contract: 64 the function; the struct is stored and told. Wants: Hov2 : Hid (M = lowest ..), c0 c1 c2 f0 f1 f2 hbX, the answer's option lowest false vx 1
          generalize lowest false vx 1 = o at *
          unfold numAns
          obtain ⟨n3, u3, d3, ho⟩ : ∃ n3 u3 d3, numO o = numV n3 u3 d3 := by
            cases o with
            | none => exact ⟨_, _, _, rfl⟩
            | some p => exact ⟨_, _, _, rfl⟩
          have Ho := hide ho
          rw [ho]
          unfold numV
          clear ho
          go_wp2
          refine bodyPost_ret (v := numAns o) (by simp [results, Tryz.results64, go_sem, numAns, unhide Ho, numV, c0, c1, c2]) rfl ⟨by rw [unhide Hov2], ?_⟩
          exact below_three hbX _ (Nat.le_refl _) _ _ _
      · clear hpt
        go_wp2_with fail
        refine (l2Nat_c t b _ (by omega) (by omega) (by omega)).mono ?_
        rintro e w3 ⟨rfl, hb3⟩
        unfold natAns
        have hb0 := below_alloc_size hb3
        have hzz : w.heap.size + 1 ≤ w3.heap.size := by have := hb3.size; simpa using this
        generalize natV b t = vx at *
        generalize okN b t = ox at *
        cases ox with
        | false =>
          have c0 := newcell hb0 0
          have c1 := newcell hb0 1
          have c2 := newcell hb0 2
          have f0 := newfree hb0 0
          have f1 := newfree hb0 1
          have f2 := newfree hb0 2
          have hbX := below_new hb0
          simp at c0 c1 c2
          clear hb3 hb0 hsn hvn d1
          go_wp2
          refine bodyPost_ret (v := numAns none) (by simp [results, Tryz.results64, go_sem, numAns, numO, noNum, numV, c0, c1, c2]) rfl ⟨by rw [unhide Hpl, unhide Hpo]; rfl, ?_⟩
          exact below_three hbX _ (Nat.le_refl _) _ _ _
        | true =>
          have h1 := hsn rfl
          rw [← hvn rfl] at h1
          have Hov2 : Hid (parseM l (b : Int) = lowest false vx 1) := by rw [hvn rfl]; exact (unhide Hpl).trans (unhide Hpo)
          have d1s := dec_small (n := 1) (by omega)
          clear hsn hvn
          go_wp2_with fail
          rw [← d1]
          clear d1
          refine (l2Make_c false vx 1 _ (by omega) (by omega)).mono ?_
          rintro e w4 ⟨rfl, hb4'⟩
          have hn4 := below_next hb0 hzz hb4'
          have c0 := newcell hn4.1 0
          have c1 := newcell hn4.1 1
          have c2 := newcell hn4.1 2
          have f0 := newfree hn4.1 0
          have f1 := newfree hn4.1 1
          have f2 := newfree hn4.1 2
          have hbX := below_new hn4.1
          simp at c0 c1 c2
          clear hb3 hb0 hb4' hn4
          -- behind l2Make's contract: 64 the function; the struct is stored and told. Wants: Hov2 : Hid (M = lowest ..), c0 c1 c2 f0 f1 f2 hbX, the answer's option lowest false vx 1
          generalize lowest false vx 1 = o at *
          unfold numAns
          obtain ⟨n3, u3, d3, ho⟩ : ∃ n3 u3 d3, numO o = numV n3 u3 d3 := by
            cases o with
            | none => exact ⟨_, _, _, rfl⟩
            | some p => exact ⟨_, _, _, rfl⟩
          have Ho := hide ho
          rw [ho]
          unfold numV
          clear ho
          go_wp2
          refine bodyPost_ret (v := numAns o) (by simp [results, Tryz.results64, go_sem, numAns, unhide Ho, numV, c0, c1, c2]) rfl ⟨by rw [unhide Hov2], ?_⟩
          exact below_three hbX _ (Nat.le_refl _) _ _ _

set_option maxRecDepth 100000 in
set_option maxHeartbeats 4000000 in
theorem specNumParse_bare (t : List UInt8) (b : Nat) (w : World) (hb4 : b = 2 ∨ b = 8 ∨ b = 10 ∨ b = 16) (c : UInt8) (hc : c ≠ 45) (hc2 : c ≠ 43) (hlen : (c :: t).length ≤ 240) :
    Calls Tryz.prog 64 #[.string (B (c :: t)), .int .i64 b] w fun e w' => e = .returned (numAns (parseM (c :: t) b)) ∧ Below w.heap.size w w' := by
  obtain ⟨l, hl⟩ : ∃ l : List UInt8, l = c :: t := ⟨_, rfl⟩
  rw [← hl]
  have hr : isRadix (b : Int) = true := by rcases hb4 with rfl | rfl | rfl | rfl <;> rfl
  have hl2 : l.length ≤ 240 := by rw [hl]; exact hlen
  have htl : t.length ≤ 240 := by simp at hlen; omega
  have hpos : 0 < (B l).size := by rw [B_size, hl]; simp
  have hposI : (0 : Int) < ((B l).size : Int) := by omega
  have hsz : (B l).size ≤ 240 := by rw [B_size]; exact hl2
  have hc0 : ((B l)[0]'hpos).toNat = c.toNat := by rw [B_get]; simp [hl]
  have hcut : (B l).extract 1 (B l).size = B t := by rw [B_extract, B_size, List.take_length, hl]; rfl
  have Hm : Hid (parseM l (b : Int) = bodyM false b l) := by show _ = _; rw [parse_yes l b hb4 hl2, hl]; simp [signB, hc, hc2]
  have hq : ((((B l)[0]'hpos).toNat : Int) == 45) = false := by
    rw [hc0, beq_eq_false_iff_ne]; intro hh; apply hc; apply UInt8.toNat_inj.1; simp only [UInt8.toNat_ofNat]; omega
  have hq2 : ((((B l)[0]'hpos).toNat : Int) == 43) = false := by
    rw [hc0, beq_eq_false_iff_ne]; intro hh; apply hc2; apply UInt8.toNat_inj.1; simp only [UInt8.toNat_ofNat]; omega
  clear hl hc hc2 hc0 hlen hcut
  go_enter Tryz.func64, Tryz.ntmps64
  go_wp2_with fail
  refine (l2Radix_c b _).mono ?_
  rintro e w1 ⟨rfl, rfl⟩
  rw [hr]
  -- false: the sign as a Bool; l: the text behind it (a list); wants hb4 : b = 2 ∨ .., hl2 : its length ≤ 240, Hm : Hid (parseM .. = bodyM false b l)
  go_wp2_with fail
  refine (l2Find_at l 47 47 rfl _ (by omega)).mono ?_
  rintro e w1 ⟨rfl, rfl⟩
  cases hf : findB 47 l with
  | some k =>
    have hfi : findI 47 l = (k : Int) := by unfold findI; rw [hf]
    have hk := findB_lt hf
    have Hov2 : Hid (parseM l (b : Int) = overM false b ((l).take k) ((l).drop (k + 1))) := by
      show _ = _
      rw [unhide Hm]; unfold bodyM; rw [hf]
    rw [hfi]
    clear hfi hf
    go_wp2_with fail
    refine (l2Over_c false l k b _ hk (by omega) (by omega) (by omega)).mono ?_
    rintro e w2 ⟨rfl, hb2⟩
    have hb0 := below_alloc_size hb2
    have c0 := newcell hb0 0
    have c1 := newcell hb0 1
    have c2 := newcell hb0 2
    have f0 := newfree hb0 0
    have f1 := newfree hb0 1
    have f2 := newfree hb0 2
    have hbX := below_new hb0
    simp at c0 c1 c2
    clear hb2 hb0
    -- behind l2Make's contract: 64 the function; the struct is stored and told. Wants: Hov2 : Hid (M = lowest ..), c0 c1 c2 f0 f1 f2 hbX, the answer's option overM false b ((l).take k) ((l).drop (k + 1))
    generalize overM false b ((l).take k) ((l).drop (k + 1)) = o at *
    unfold numAns
    obtain ⟨n3, u3, d3, ho⟩ : ∃ n3 u3 d3, numO o = numV n3 u3 d3 := by
      cases o with
      | none => exact ⟨_, _, _, rfl⟩
      | some p => exact ⟨_, _, _, rfl⟩
    have Ho := hide ho
    rw [ho]
    unfold numV
    clear ho
    go_wp2
    refine bodyPost_ret (v := numAns o) (by simp [results, Tryz.results64, go_sem, numAns, unhide Ho, numV, c0, c1, c2]) rfl ⟨by rw [unhide Hov2], ?_⟩
    exact below_three hbX _ (Nat.le_refl _) _ _ _
  | none =>
    have hfi : findI 47 l = -1 := by unfold findI; rw [hf]
    rw [hfi]
    clear hfi
    go_wp2_with fail
    refine (l2Find_at l 46 46 rfl _ (by omega)).mono ?_
    rintro e w2 ⟨rfl, rfl⟩
    have Hf := hide hf
    clear hf
    by_cases hpt : b = 10 ∧ ∃ k, findB 46 l = some k
    · obtain ⟨hb10, k, hfk⟩ := hpt
      have hfi : findI 46 l = (k : Int) := by unfold findI; rw [hfk]
      have hk := findB_lt hfk
      have Hov2 : Hid (parseM l (b : Int) = pointM false ((l).take k) ((l).drop (k + 1))) := by
        show _ = _
        rw [unhide Hm]; unfold bodyM; rw [unhide Hf]
        simp only [hfk]
        rw [if_pos hb10]
      rw [hfi]
      have hbq : ((b : Int) == 10) = true := by rw [beq_iff_eq]; omega
      clear hfi hfk hb10
      go_wp2_with fail
      refine (l2Point_c false l k _ hk (by omega)).mono ?_
      rintro e w3 ⟨rfl, hb3⟩
      have hb0 := below_alloc_size hb3
      have c0 := newcell hb0 0
      have c1 := newcell hb0 1
      have c2 := newcell hb0 2
      have f0 := newfree hb0 0
      have f1 := newfree hb0 1
      have f2 := newfree hb0 2
      have hbX := below_new hb0
      simp at c0 c1 c2
      clear hb3 hb0
      -- behind l2Make's contract: 64 the function; the struct is stored and told. Wants: Hov2 : Hid (M = lowest ..), c0 c1 c2 f0 f1 f2 hbX, the answer's option pointM false ((l).take k) ((l).drop (k + 1))
      generalize pointM false ((l).take k) ((l).drop (k + 1)) = o at *
      unfold numAns
      obtain ⟨n3, u3, d3, ho⟩ : ∃ n3 u3 d3, numO o = numV n3 u3 d3 := by
        cases o with
        | none => exact ⟨_, _, _, rfl⟩
        | some p => exact ⟨_, _, _, rfl⟩
      have Ho := hide ho
      rw [ho]
      unfold numV
      clear ho
      go_wp2
      refine bodyPost_ret (v := numAns o) (by simp [results, Tryz.results64, go_sem, numAns, unhide Ho, numV, c0, c1, c2]) rfl ⟨by rw [unhide Hov2], ?_⟩
      exact below_three hbX _ (Nat.le_refl _) _ _ _
    · have Hpl : Hid (parseM l (b : Int) = plainM false b l) := by
        show _ = _
        rw [unhide Hm]; unfold bodyM; rw [unhide Hf]
        cases hfk : findB 46 l with
        | none => rfl
        | some k =>
          simp only
          rw [if_neg (fun h => hpt ⟨h, k, hfk⟩)]
      have hsn := fun h => rdN_size (b := b) (l := l) (by omega) h
      have hvn : okN b l = true → natV b l = rdN b l := fun h => by unfold natV; rw [if_pos h]
      have Hpo : Hid (plainM false b l = if okN b l then lowest false (rdN b l) 1 else none) := hide rfl
      have d1 : dec 1 = ⟨#[49]⟩ := dec_one
      by_cases hfz : 0 ≤ findI 46 l
      · have hbq : ((b : Int) == 10) = false := by
          rw [beq_eq_false_iff_ne]
          intro hh
          apply hpt
          refine ⟨by omega, ?_⟩
          unfold findI at hfz
          cases hfk : findB 46 l with
          | none => rw [hfk] at hfz; simp at hfz
          | some k => exact ⟨k, rfl⟩
        clear hpt
        go_wp2_with fail
        refine (l2Nat_c l b _ (by omega) (by omega) (by omega)).mono ?_
        rintro e w3 ⟨rfl, hb3⟩
        unfold natAns
        have hb0 := below_alloc_size hb3
        have hzz : w.heap.size + 1 ≤ w3.heap.size := by have := hb3.size; simpa using this
        generalize natV b l = vx at *
        generalize okN b l = ox at *
        cases ox with
        | false =>
          have c0 := newcell hb0 0
          have c1 := newcell hb0 1
          have c2 := newcell hb0 2
          have f0 := newfree hb0 0
          have f1 := newfree hb0 1
          have f2 := newfree hb0 2
          have hbX := below_new hb0
          simp at c0 c1 c2
          clear hb3 hb0 hsn hvn d1
          go_wp2
          refine bodyPost_ret (v := numAns none) (by simp [results, Tryz.results64, go_sem, numAns, numO, noNum, numV, c0, c1, c2]) rfl ⟨by rw [unhide Hpl, unhide Hpo]; rfl, ?_⟩
          exact below_three hbX _ (Nat.le_refl _) _ _ _
        | true =>
          have h1 := hsn rfl
          rw [← hvn rfl] at h1
          have Hov2 : Hid (parseM l (b : Int) = lowest false vx 1) := by rw [hvn rfl]; exact (unhide Hpl).trans (unhide Hpo)
          have d1s := dec_small (n := 1) (by omega)
          clear hsn hvn
          go_wp2_with fail
          rw [← d1]
          clear d1
          refine (l2Make_c false vx 1 _ (by omega) (by omega)).mono ?_
          rintro e w4 ⟨rfl, hb4'⟩
          have hn4 := below_next hb0 hzz hb4'
          have c0 := newcell hn4.1 0
          have c1 := newcell hn4.1 1
          have c2 := newcell hn4.1 2
          have f0 := newfree hn4.1 0
          have f1 := newfree hn4.1 1
          have f2 := newfree hn4.1 2
          have hbX := below_new hn4.1
          simp at c0 c1 c2
          clear hb3 hb0 hb4' hn4
          -- behind l2Make's contract: 64 the function; the struct is stored and told. Wants: Hov2 : Hid (M = lowest ..), c0 c1 c2 f0 f1 f2 hbX, the answer's option lowest false vx 1
          generalize lowest false vx 1 = o at *
          unfold numAns
          obtain ⟨n3, u3, d3, ho⟩ : ∃ n3 u3 d3, numO o = numV n3 u3 d3 := by
            cases o with
            | none => exact ⟨_, _, _, rfl⟩
            | some p => exact ⟨_, _, _, rfl⟩
          have Ho := hide ho
          rw [ho]
          unfold numV
          clear ho
          go_wp2
          refine bodyPost_ret (v := numAns o) (by simp [results, Tryz.results64, go_sem, numAns, unhide Ho, numV, c0, c1, c2]) rfl ⟨by rw [unhide Hov2], ?_⟩
          exact below_three hbX _ (Nat.le_refl _) _ _ _
      · clear hpt
        go_wp2_with fail
        refine (l2Nat_c l b _ (by omega) (by omega) (by omega)).mono ?_
        rintro e w3 ⟨rfl, hb3⟩
        unfold natAns
        have hb0 := below_alloc_size hb3
        have hzz : w.heap.size + 1 ≤ w3.heap.size := by have := hb3.size; simpa using this
        generalize natV b l = vx at *
        generalize okN b l = ox at *
        cases ox with
        | false =>
          have c0 := newcell hb0 0
          have c1 := newcell hb0 1
          have c2 := newcell hb0 2
          have f0 := newfree hb0 0
          have f1 := newfree hb0 1
          have f2 := newfree hb0 2
          have hbX := below_new hb0
          simp at c0 c1 c2
          clear hb3 hb0 hsn hvn d1
          go_wp2
          refine bodyPost_ret (v := numAns none) (by simp [results, Tryz.results64, go_sem, numAns, numO, noNum, numV, c0, c1, c2]) rfl ⟨by rw [unhide Hpl, unhide Hpo]; rfl, ?_⟩
          exact below_three hbX _ (Nat.le_refl _) _ _ _
        | true =>
          have h1 := hsn rfl
          rw [← hvn rfl] at h1
          have Hov2 : Hid (parseM l (b : Int) = lowest false vx 1) := by rw [hvn rfl]; exact (unhide Hpl).trans (unhide Hpo)
          have d1s := dec_small (n := 1) (by omega)
          clear hsn hvn
          go_wp2_with fail
          rw [← d1]
          clear d1
          refine (l2Make_c false vx 1 _ (by omega) (by omega)).mono ?_
          rintro e w4 ⟨rfl, hb4'⟩
          have hn4 := below_next hb0 hzz hb4'
          have c0 := newcell hn4.1 0
          have c1 := newcell hn4.1 1
          have c2 := newcell hn4.1 2
          have f0 := newfree hn4.1 0
          have f1 := newfree hn4.1 1
          have f2 := newfree hn4.1 2
          have hbX := below_new hn4.1
          simp at c0 c1 c2
          clear hb3 hb0 hb4' hn4
          -- behind l2Make's contract: 64 the function; the struct is stored and told. Wants: Hov2 : Hid (M = lowest ..), c0 c1 c2 f0 f1 f2 hbX, the answer's option lowest false vx 1
          generalize lowest false vx 1 = o at *
          unfold numAns
          obtain ⟨n3, u3, d3, ho⟩ : ∃ n3 u3 d3, numO o = numV n3 u3 d3 := by
            cases o with
            | none => exact ⟨_, _, _, rfl⟩
            | some p => exact ⟨_, _, _, rfl⟩
          have Ho := hide ho
          rw [ho]
          unfold numV
          clear ho
          go_wp2
          refine bodyPost_ret (v := numAns o) (by simp [results, Tryz.results64, go_sem, numAns, unhide Ho, numV, c0, c1, c2]) rfl ⟨by rw [unhide Hov2], ?_⟩
          exact below_three hbX _ (Nat.le_refl _) _ _ _

/-- spec.NumParse, whatever the text and the radix -/
theorem specNumParse_c (l : List UInt8) (r : Int) (w : World) (hs : l.length ≤ 1000000000) :
    Calls Tryz.prog 64 #[.string (B l), .int .i64 r] w fun e w' => e = .returned (numAns (parseM l r)) ∧ Below w.heap.size w w' := by
  by_cases h : isRadix r = false ∨ 240 < l.length
  · exact specNumParse_no l r w hs h
  · have hr : isRadix r = true := by cases hh : isRadix r with
      | true => rfl
      | false => exact absurd (.inl hh) h
    obtain ⟨b, rfl, hb4⟩ := isRadix_nat hr
    have hl : l.length ≤ 240 := by
      rcases Nat.lt_or_ge 240 l.length with h1 | h1
      · exact absurd (.inr h1) h
      · exact h1
    cases l with
    | nil => exact specNumParse_none b w hb4
    | cons c t =>
      by_cases h1 : c = 45
      · exact specNumParse_minus t b w hb4 c h1 hl
      · by_cases h2 : c = 43
        · exact specNumParse_plus t b w hb4 c h2 hl
        · exact specNumParse_bare t b w hb4 c h1 h2 hl
end Go.Proofs.YtpbnmhnbkfnaeaaGreatDoor
namespace Go.Proofs.YtpbnmhnbkfnaeaaGreatDoor
open Go.RowKit Nt

/-- whether a number is ok -/
def okM (neg : Bool) (u d : List UInt8) : Bool :=
  decide (u.length ≤ 60) && decide (d.length ≤ 60) && isDec u && isDec d && decide (valDec d ≠ 0) && !(neg && decide (valDec u = 0)) && decide (Nat.gcd (valDec u) (valDec d) = 1)

def numB (neg : Bool) (u d : List UInt8) : Value := .agg #[.bool neg, .string (B u), .string (B d)]

theorem dec_is1 (n : Nat) : ((dec n).toList == [49]) = decide (n = 1) := by
  have := dec_beq n 1
  rwa [show (dec 1).toList = [49] from by rw [dec_one]; exact B_tl [49]] at this


set_option maxRecDepth 100000 in
set_option maxHeartbeats 4000000 in
theorem specNumOk_c (neg : Bool) (u d : List UInt8) (w : World) (hsu : u.length ≤ 1000000000) (hsd : d.length ≤ 1000000000) :
    Calls Tryz.prog 92 #[numB neg u d] w fun e w' => e = .returned (.bool (okM neg u d)) ∧ Below w.heap.size w w' := by
  unfold numB
  have hzu : (B u).size = u.length := B_size u
  have hzd : (B d).size = d.length := B_size d
  by_cases h1 : u.length ≤ 60
  · by_cases h2 : d.length ≤ 60
    · by_cases h3 : isDec u = true
      · by_cases h4 : isDec d = true
        · have eu := isDec_val h3
          have ed := isDec_val h4
          have Hok : Hid (okM neg u d = (decide (valDec d ≠ 0) && !(neg && decide (valDec u = 0)) && decide (Nat.gcd (valDec u) (valDec d) = 1))) := by
            show _ = _; unfold okM; rw [decide_eq_true h1, decide_eq_true h2, h3, h4]; simp
          have Bu : B u = dec (valDec u) := by unfold dec txt; rw [← eu]
          have Bd : B d = dec (valDec d) := by unfold dec txt; rw [← ed]
          have h3d := @l1DigitsOk_c u
          have h4d := @l1DigitsOk_c d
          rw [h3] at h3d
          rw [h4] at h4d
          rw [Bu] at h3d hzu
          rw [Bd] at h4d hzd
          rw [Bu, Bd]
          have H3 := hide h3d
          have H4 := hide h4d
          generalize valDec u = a at *
          generalize valDec d = b at *
          have hau : (dec a).size ≤ 60 := by omega
          have hbd : (dec b).size ≤ 60 := by omega
          have ha0 := dec_is0 a
          have hb0 := dec_is0 b
          clear h3d h4d eu ed Bu Bd h3 h4
          by_cases hb : b = 0
          · rw [decide_eq_true hb] at hb0
            have Hok : Hid (okM neg u d = false) := by show _ = _; rw [unhide Hok]; simp [hb]
            clear hb
            go_enter Tryz.func92, Tryz.ntmps92
            go_wp2_with fail
            refine (unhide H3 _ (by omega)).mono ?_
            rintro e w1 ⟨rfl, rfl⟩
            go_wp2_with fail
            refine (unhide H4 _ (by omega)).mono ?_
            rintro e w1 ⟨rfl, rfl⟩
            go_wp2
            go_ret
            exact ⟨ret_bool (unhide Hok).symm, (Below.refl _ _).alloc (Nat.le_refl _) _⟩
          · rw [decide_eq_false hb] at hb0
            by_cases hn : neg = true ∧ a = 0
            · obtain ⟨hn1, ha⟩ := hn
              rw [decide_eq_true ha] at ha0
              subst hn1
              have Hok : Hid (okM true u d = false) := by show _ = _; rw [unhide Hok]; simp [ha]
              clear hb ha
              go_enter Tryz.func92, Tryz.ntmps92
              go_wp2_with fail
              refine (unhide H3 _ (by omega)).mono ?_
              rintro e w1 ⟨rfl, rfl⟩
              go_wp2_with fail
              refine (unhide H4 _ (by omega)).mono ?_
              rintro e w1 ⟨rfl, rfl⟩
              go_wp2
              go_ret
              exact ⟨ret_bool (unhide Hok).symm, (Below.refl _ _).alloc (Nat.le_refl _) _⟩
            · have Hok : Hid (okM neg u d = decide (Nat.gcd a b = 1)) := by
                show _ = _; rw [unhide Hok]
                cases neg
                · simp [hb]
                · simp at hn; simp [hb, hn]
              have hg1 := dec_is1 (Nat.gcd a b)
              have hcase : neg = false ∨ (neg = true ∧ a ≠ 0) := by cases neg <;> simp_all
              rcases hcase with rfl | ⟨rfl, ha⟩
              · clear hn hb
                go_enter Tryz.func92, Tryz.ntmps92
                go_wp2_with fail
                refine (unhide H3 _ (by omega)).mono ?_
                rintro e w1 ⟨rfl, rfl⟩
                go_wp2_with fail
                refine (unhide H4 _ (by omega)).mono ?_
                rintro e w1 ⟨rfl, rfl⟩
                go_wp2_with fail
                refine (l1Gcd_c a b _ (by omega) (by omega)).mono ?_
                rintro e w2 ⟨rfl, hb2⟩
                go_wp2
                go_ret
                exact ⟨ret_bool (unhide Hok).symm, below_new (below_alloc_size hb2)⟩
              · rw [decide_eq_false ha] at ha0
                clear hn hb ha
                go_enter Tryz.func92, Tryz.ntmps92
                go_wp2_with fail
                refine (unhide H3 _ (by omega)).mono ?_
                rintro e w1 ⟨rfl, rfl⟩
                go_wp2_with fail
                refine (unhide H4 _ (by omega)).mono ?_
                rintro e w1 ⟨rfl, rfl⟩
                go_wp2_with fail
                refine (l1Gcd_c a b _ (by omega) (by omega)).mono ?_
                rintro e w2 ⟨rfl, hb2⟩
                go_wp2
                go_ret
                exact ⟨ret_bool (unhide Hok).symm, below_new (below_alloc_size hb2)⟩
        · have h4' : isDec d = false := by simpa using h4
          have Hok : Hid (okM neg u d = false) := by show _ = _; unfold okM; rw [h4']; simp
          have h3d := @l1DigitsOk_c u
          have h4d := @l1DigitsOk_c d
          rw [h3] at h3d
          rw [h4'] at h4d
          have H3 := hide h3d
          have H4 := hide h4d
          clear h3d h4d h3 h4 h4'
          go_enter Tryz.func92, Tryz.ntmps92
          go_wp2_with fail
          refine (unhide H3 _ (by omega)).mono ?_
          rintro e w1 ⟨rfl, rfl⟩
          go_wp2_with fail
          refine (unhide H4 _ (by omega)).mono ?_
          rintro e w1 ⟨rfl, rfl⟩
          go_wp2
          go_ret
          exact ⟨ret_bool (unhide Hok).symm, (Below.refl _ _).alloc (Nat.le_refl _) _⟩
      · have h3' : isDec u = false := by simpa using h3
        have Hok : Hid (okM neg u d = false) := by show _ = _; unfold okM; rw [h3']; simp
        have h3d := @l1DigitsOk_c u
        rw [h3'] at h3d
        have H3 := hide h3d
        clear h3d h3 h3'
        go_enter Tryz.func92, Tryz.ntmps92
        go_wp2_with fail
        refine (unhide H3 _ (by omega)).mono ?_
        rintro e w1 ⟨rfl, rfl⟩
        go_wp2
        go_ret
        exact ⟨ret_bool (unhide Hok).symm, (Below.refl _ _).alloc (Nat.le_refl _) _⟩
    · have Hok : Hid (okM neg u d = false) := by show _ = _; unfold okM; simp [h2]
      go_enter Tryz.func92, Tryz.ntmps92
      go_wp2
      go_ret
      exact ⟨ret_bool (unhide Hok).symm, (Below.refl _ _).alloc (Nat.le_refl _) _⟩
  · have Hok : Hid (okM neg u d = false) := by show _ = _; unfold okM; simp [h1]
    go_enter Tryz.func92, Tryz.ntmps92
    go_wp2
    go_ret
    exact ⟨ret_bool (unhide Hok).symm, (Below.refl _ _).alloc (Nat.le_refl _) _⟩
end Go.Proofs.YtpbnmhnbkfnaeaaGreatDoor
namespace Go.Proofs.YtpbnmhnbkfnaeaaGreatDoor
open Go.RowKit Nt

/-- what is written of a number that is ok -/
def prM (neg : Bool) (a d b : Nat) : List UInt8 := (if neg then [45] else []) ++ txl b a ++ (if d = 1 then [] else 47 :: txl b d)
def printM (neg : Bool) (u d : List UInt8) (r : Int) : List UInt8 := if okM neg u d && isRadix r then prM neg (valDec u) (valDec d) r.toNat else []

theorem ok_parts {neg : Bool} {u d : List UInt8} (h : okM neg u d = true) : isDec u = true ∧ isDec d = true ∧ u.length ≤ 60 ∧ d.length ≤ 60 ∧ valDec d ≠ 0 ∧ (neg = true → valDec u ≠ 0) ∧ Nat.gcd (valDec u) (valDec d) = 1 := by
  unfold okM at h
  simp only [Bool.and_eq_true, decide_eq_true_eq, Bool.not_eq_true', Bool.and_eq_false_iff, decide_eq_false_iff_not] at h
  obtain ⟨⟨⟨⟨⟨⟨h1, h2⟩, h3⟩, h4⟩, h5⟩, h6⟩, h7⟩ := h
  exact ⟨h3, h4, h1, h2, h5, fun hn => by rcases h6 with h6 | h6; rw [hn] at h6; cases h6; exact h6, h7⟩

theorem txt_size {b n : Nat} (hb2 : 2 ≤ b) (h : (dec n).size ≤ 60) : (txt b n).size ≤ 240 := by
  unfold txt; rw [B_size]
  apply txl_len_le hb2 (by omega)
  have h1 := dec_lt n
  have h2 : (10 : Nat) ^ (dec n).size ≤ 16 ^ 60 := Nat.le_trans (Nat.pow_le_pow_left (by omega) _) (Nat.pow_le_pow_right (by omega) h)
  have h3 : (16 : Nat) ^ 60 = 2 ^ 240 := by rw [show (16 : Nat) = 2 ^ 4 from rfl, ← Nat.pow_mul]
  have h4 : (2 : Nat) ^ 240 ≤ b ^ 240 := Nat.pow_le_pow_left hb2 _
  omega



set_option maxRecDepth 100000 in
set_option maxHeartbeats 4000000 in
theorem specNumPrint_no (neg : Bool) (u d : List UInt8) (r : Int) (w : World) (hsu : u.length ≤ 1000000000) (hsd : d.length ≤ 1000000000) (h : (okM neg u d && isRadix r) = false) :
    Calls Tryz.prog 57 #[numB neg u d, .int .i64 r] w fun e w' => e = .returned (.string (B (printM neg u d r))) ∧ Below w.heap.size w w' := by
  have Hf : Hid (B (printM neg u d r) = ⟨#[]⟩) := by show _ = _; unfold printM; rw [h]; rfl
  have h1 := fun w => specNumOk_c neg u d w hsu hsd
  have H1 := hide h1
  clear h1
  unfold numB at *
  cases hok : okM neg u d with
  | false =>
    rw [hok] at H1
    clear h hok
    go_enter Tryz.func57, Tryz.ntmps57
    go_wp2_with fail
    refine (unhide H1 _).mono ?_
    rintro e w1 ⟨rfl, hb1⟩
    have hb0 := below_alloc_size hb1
    have hz0 : w.heap.size + 1 ≤ w1.heap.size := by have := hb1.size; simpa using this
    have c0 := newcell hb0 0
    have c1 := newcell hb0 1
    have c2 := newcell hb0 2
    simp at c0 c1 c2
    go_wp2
    go_ret
    exact ⟨ret_str (unhide Hf).symm, below_new hb0⟩
  | true =>
    rw [hok] at H1 h
    have hr : isRadix r = false := by simpa using h
    clear h hok
    go_enter Tryz.func57, Tryz.ntmps57
    go_wp2_with fail
    refine (unhide H1 _).mono ?_
    rintro e w1 ⟨rfl, hb1⟩
    have hb0 := below_alloc_size hb1
    have hz0 : w.heap.size + 1 ≤ w1.heap.size := by have := hb1.size; simpa using this
    have c0 := newcell hb0 0
    have c1 := newcell hb0 1
    have c2 := newcell hb0 2
    simp at c0 c1 c2
    go_wp2_with fail
    refine (l2Radix_c r _).mono ?_
    rintro e w2 ⟨rfl, rfl⟩
    rw [hr]
    go_wp2
    go_ret
    exact ⟨ret_str (unhide Hf).symm, below_new hb0⟩

set_option maxRecDepth 100000 in
set_option maxHeartbeats 4000000 in
theorem specNumPrint_yes (neg : Bool) (u d : List UInt8) (b : Nat) (w : World) (hok : okM neg u d = true) (hb4 : b = 2 ∨ b = 8 ∨ b = 10 ∨ b = 16) :
    Calls Tryz.prog 57 #[numB neg u d, .int .i64 b] w fun e w' => e = .returned (.string (B (printM neg u d b))) ∧ Below w.heap.size w w' := by
  have hr : isRadix (b : Int) = true := by rcases hb4 with rfl | rfl | rfl | rfl <;> rfl
  obtain ⟨h3, h4, hu, hd, hd0, hn0, _⟩ := ok_parts hok
  have h1 := fun w => specNumOk_c neg u d w (by omega) (by omega)
  rw [hok] at h1
  have Hf : Hid (printM neg u d b = prM neg (valDec u) (valDec d) b) := by show _ = _; unfold printM; rw [hok, hr]; simp
  have Bu : B u = dec (valDec u) := by unfold dec txt; rw [← isDec_val h3]
  have Bd : B d = dec (valDec d) := by unfold dec txt; rw [← isDec_val h4]
  have hau := B_size u
  have had := B_size d
  unfold numB at *
  rw [Bu, Bd] at h1
  rw [Bu] at hau
  rw [Bd] at had
  rw [Bu, Bd]
  generalize valDec u = a at *
  generalize valDec d = q at *
  have hau60 : (dec a).size ≤ 60 := by omega
  have had60 : (dec q).size ≤ 60 := by omega
  have hq1 := dec_is1 q
  have hta := txt_size (b := b) (by omega) hau60
  have htq := txt_size (b := b) (by omega) had60
  have hta' : (txl b a).length ≤ 240 := by unfold txt at hta; rwa [B_size] at hta
  have htq' : (txl b q).length ≤ 240 := by unfold txt at htq; rwa [B_size] at htq
  have H1 := hide h1
  clear h1 Bu Bd h3 h4 hok hau had hn0
  go_enter Tryz.func57, Tryz.ntmps57
  go_wp2_with fail
  refine (unhide H1 _).mono ?_
  rintro e w1 ⟨rfl, hb1⟩
  have hb0 := below_alloc_size hb1
  have hz0 : w.heap.size + 1 ≤ w1.heap.size := by have := hb1.size; simpa using this
  have c0 := newcell hb0 0
  have c1 := newcell hb0 1
  have c2 := newcell hb0 2
  simp at c0 c1 c2
  go_wp2_with fail
  refine (l2Radix_c b _).mono ?_
  rintro e w2 ⟨rfl, rfl⟩
  rw [hr]
  go_wp2_with fail
  refine (l2Out_c a b _ (by omega) (by omega) (by omega) (by omega)).mono ?_
  rintro e w3 ⟨rfl, hb3⟩
  have hn3 := below_next hb0 hz0 hb3
  clear c0 c1 c2 hb1 hb0 hz0 hb3
  have c0 := newcell hn3.1 0
  have c1 := newcell hn3.1 1
  have c2 := newcell hn3.1 2
  simp at c0 c1 c2
  by_cases hone : q = 1
  · rw [decide_eq_true hone] at hq1
    cases neg with
    | false =>
      have Hf2 : Hid (B (printM false u d b) = txt b a) := by show _ = _; rw [unhide Hf]; simp [prM, hone, txt]
      clear hone
      go_wp2
      go_ret
      exact ⟨ret_str (unhide Hf2).symm, below_new hn3.1⟩
    | true =>
      have Hf2 : Hid (B (printM true u d b) = ⟨#[45]⟩ ++ txt b a) := by
        show _ = _; rw [unhide Hf, show (⟨#[45]⟩ : ByteArray) = B [45] from rfl]; unfold txt; rw [B_append]; simp [prM, hone]
      have hns : ¬ 9223372036854775807 < 1 + (txt b a).size := by omega
      clear hone
      go_wp2
      go_ret
      exact ⟨ret_str (unhide Hf2).symm, below_new hn3.1⟩
  · rw [decide_eq_false hone] at hq1
    cases neg with
    | false =>
      have Hf2 : Hid (B (printM false u d b) = (txt b a ++ ⟨#[47]⟩) ++ txt b q) := by
        show _ = _; rw [unhide Hf, show (⟨#[47]⟩ : ByteArray) = B [47] from rfl]; unfold txt; rw [B_append, B_append]; simp [prM, hone]
      clear hone
      go_wp2_with fail
      refine (l2Out_c q b _ (by omega) (by omega) (by omega) (by omega)).mono ?_
      rintro e w4 ⟨rfl, hb4'⟩
      have hn4 := below_next hn3.1 hn3.2 hb4'
      go_wp2
      go_ret
      exact ⟨ret_str (unhide Hf2).symm, below_new hn4.1⟩
    | true =>
      have Hf2 : Hid (B (printM true u d b) = ((⟨#[45]⟩ ++ txt b a) ++ ⟨#[47]⟩) ++ txt b q) := by
        show _ = _; rw [unhide Hf, show (⟨#[47]⟩ : ByteArray) = B [47] from rfl, show (⟨#[45]⟩ : ByteArray) = B [45] from rfl]; unfold txt; rw [B_append, B_append, B_append]; simp [prM, hone]
      have hns : ¬ 9223372036854775807 < 1 + (txt b a).size := by omega
      clear hone
      go_wp2_with fail
      refine (l2Out_c q b _ (by omega) (by omega) (by omega) (by omega)).mono ?_
      rintro e w4 ⟨rfl, hb4'⟩
      have hn4 := below_next hn3.1 hn3.2 hb4'
      go_wp2
      go_ret
      exact ⟨ret_str (unhide Hf2).symm, below_new hn4.1⟩

theorem specNumPrint_c (neg : Bool) (u d : List UInt8) (r : Int) (w : World) (hsu : u.length ≤ 1000000000) (hsd : d.length ≤ 1000000000) :
    Calls Tryz.prog 57 #[numB neg u d, .int .i64 r] w fun e w' => e = .returned (.string (B (printM neg u d r))) ∧ Below w.heap.size w w' := by
  cases h : okM neg u d && isRadix r with
  | false => exact specNumPrint_no neg u d r w hsu hsd h
  | true =>
    simp only [Bool.and_eq_true] at h
    obtain ⟨b, rfl, hb4⟩ := isRadix_nat h.2
    exact specNumPrint_yes neg u d b w h.1 hb4

/-- an integer as a number -/
def intV (i : Int) : Value := numV (decide (i < 0)) (dec i.natAbs) (dec 1)

end Go.Proofs.YtpbnmhnbkfnaeaaGreatDoor
namespace Go.Proofs.YtpbnmhnbkfnaeaaGreatDoor
open Go.RowKit Nt

theorem gr_len0 {x : Nat} : (gr x).length = 0 ↔ x = 0 := by
  rw [List.length_eq_zero_iff]; exact gr_nil

theorem gr_le_of_le {x y n : Nat} (h : x ≤ y) (hy : (gr y).length ≤ n) : (gr x).length ≤ n := Nat.le_trans (gr_len_le h) hy

theorem below_three_alloc {w w3 : World} {b : Nat} (h : Below b w w3) (hs : b ≤ w3.heap.size) (g : Nat) (hg : b ≤ g) (x y z : Value) (o : Obj) : Below b w ((((w3.setCell ⟨g, 0, none⟩ x).setCell ⟨g, 1, none⟩ y).setCell ⟨g, 2, none⟩ z).alloc o) :=
  (below_three h g hg x y z).alloc (by simpa using hs) o

theorem lowest_pos {neg : Bool} {u d : Nat} (hd : 0 < d) : lowest neg u d = if 60 < (dec (u / Nat.gcd u d)).size ∨ 60 < (dec (d / Nat.gcd u d)).size then none else some (neg && u / Nat.gcd u d != 0, u / Nat.gcd u d, d / Nat.gcd u d) := by
  unfold lowest
  by_cases h : 60 < (dec (u / Nat.gcd u d)).size ∨ 60 < (dec (d / Nat.gcd u d)).size
  · rw [if_pos (.inr h), if_pos h]
  · rw [if_neg (by rintro (h1 | h1); omega; exact h h1), if_neg h]


set_option maxRecDepth 100000 in
set_option maxHeartbeats 4000000 in
theorem numLowest_c (neg : Bool) (u d : Nat) (vu vd : Value) (w : World) (hu : isNat w vu u) (hdn : isNat w vd d) (hd : 0 < d) (hsu : (gr u).length ≤ 100000) (hsd : (gr d).length ≤ 100000) (hT : Tens w) :
    Calls Tryz.prog 158 #[.bool neg, vu, vd] w fun e w' => e = .returned (numAns (lowest neg u d)) ∧ Below w.heap.size w w' := by
  have Hu := hide hu
  have Hd := hide hdn
  have HT := hide hT
  have hg : 0 < Nat.gcd u d := Nat.gcd_pos_of_pos_right _ hd
  have hgl := gr_le_of_le (Nat.gcd_le_right u hd) hsd
  have hql := gr_le_of_le (Nat.div_le_self u (Nat.gcd u d)) hsu
  have hdl := gr_le_of_le (Nat.div_le_self d (Nat.gcd u d)) hsd
  have Hlow := hide (lowest_pos (neg := neg) (u := u) hd)
  clear hu hdn hT
  go_enter Tryz.func158, Tryz.ntmps158
  go_wp2_with fail
  have hbA : ∀ o : Obj, Below w.heap.size w (w.alloc o) := fun o => (Below.refl _ _).alloc (Nat.le_refl _) _
  refine (gcd_c u d _ _ _ (isNat_below (unhide Hu) (hbA _)) (isNat_below (unhide Hd) (hbA _)) (by omega) (by omega)).mono ?_
  rintro e w1 ⟨⟨vg, rfl, hvg⟩, hb1⟩
  have hb0 := below_alloc_size hb1
  have hz0 : w.heap.size + 1 ≤ w1.heap.size := by have := hb1.size; simpa using this
  have hbu1 := below_new hb0
  have Hvg := hide hvg
  have Hn1 := hide (And.intro hb0 hz0)
  clear hvg hb1 hb0 hz0
  go_wp2_with fail
  refine (over_c u _ _ _ _ (isNat_below (unhide Hu) hbu1) (unhide Hvg) (by omega) (by omega) hg).mono ?_
  rintro e w2 ⟨⟨v1, v1r, rfl, hv1, _⟩, hb2⟩
  have hn2 := below_next (unhide Hn1).1 (unhide Hn1).2 hb2
  have hbu2 := below_new hn2.1
  have Hv1 := hide hv1
  have Hvg2 := hide (isNat_below (unhide Hvg) hb2)
  have Hn2 := hide hn2
  clear hv1 hb2 hn2 hbu1
  go_wp2_with fail
  refine (over_c d _ _ _ _ (isNat_below (unhide Hd) hbu2) (unhide Hvg2) (by omega) (by omega) hg).mono ?_
  rintro e w3 ⟨⟨v2, v2r, rfl, hv2, _⟩, hb3⟩
  have hn3 := below_next (unhide Hn2).1 (unhide Hn2).2 hb3
  have HV1 := hide (isNat_below (unhide Hv1) hb3)
  have HV2 := hide hv2
  have HT3 := hide ((unhide HT).below (below_new hn3.1))
  have Hn3 := hide hn3
  clear hv2 hb3 hn3 hbu2 Hv1 Hvg2 Hn2 Hn1 Hvg hbA
  generalize hqu : u / Nat.gcd u d = qu at *
  generalize hqd : d / Nat.gcd u d = qd at *
  clear hqu hqd
  obtain ⟨p1, cp1, hv1s⟩ := own_slice (unhide HV1)
  subst hv1s
  by_cases hq0 : qu = 0
  · have hl0 : decide (0 < (gr qu).length) = false := by have := gr_len0.2 hq0; rw [decide_eq_false_iff_not]; omega
    have Hsg : Hid ((neg && qu != 0) = false) := by show _ = _; rw [hq0]; simp
    clear hq0
    cases neg with
    | false =>
      -- false: the sign as it comes out
      go_wp2_with fail
      refine (decimals_c qu _ _ (unhide HV1) (by omega) (unhide HT3)).mono ?_
      rintro e w4 ⟨rfl, hb4⟩
      have hn4 := below_next (unhide Hn3).1 (unhide Hn3).2 hb4
      have hv2 := isNat_below (unhide HV2) hb4
      have hT4 := (unhide HT3).below hb4
      have HV2' := hide hv2
      have HT4 := hide hT4
      have Hn4 := hide hn4
      clear hv2 hT4 hn4 hb4
      go_wp2_with fail
      refine (decimals_c qd _ _ (unhide HV2') (by omega) (unhide HT4)).mono ?_
      rintro e w5 ⟨rfl, hb5⟩
      have hn5 := below_next (unhide Hn4).1 (unhide Hn4).2 hb5
      have c0 := newcell hn5.1 0
      have c1 := newcell hn5.1 1
      have c2 := newcell hn5.1 2
      have f0 := newfree hn5.1 0
      have f1 := newfree hn5.1 1
      have f2 := newfree hn5.1 2
      have hbX := below_new hn5.1
      simp at c0 c1 c2
      have hbb : w.heap.size < w5.heap.size := hn5.2
      clear hb5 hn5
      by_cases h1 : 60 < (dec qu).size
      · rw [if_pos (.inl h1)] at Hlow
        go_wp2
        refine bodyPost_ret (v := numAns none) (by simp [results, Tryz.results158, go_sem, numAns, numO, noNum, numV, c0, c1, c2, hbb]) rfl ⟨by rw [unhide Hlow], ?_⟩
        exact below_three_alloc hbX hbX.size _ (Nat.le_refl _) _ _ _ _
      · by_cases h2 : 60 < (dec qd).size
        · rw [if_pos (.inr h2)] at Hlow
          go_wp2
          refine bodyPost_ret (v := numAns none) (by simp [results, Tryz.results158, go_sem, numAns, numO, noNum, numV, c0, c1, c2, hbb]) rfl ⟨by rw [unhide Hlow], ?_⟩
          exact below_three_alloc hbX hbX.size _ (Nat.le_refl _) _ _ _ _
        · rw [if_neg (by rintro (h | h); exact h1 h; exact h2 h)] at Hlow
          go_wp2
          refine bodyPost_ret (v := numAns (some (false, qu, qd))) (by simp [results, Tryz.results158, go_sem, numAns, numO, numV, c0, c1, c2, hbb]) rfl ⟨by rw [unhide Hlow, unhide Hsg], ?_⟩
          exact below_three_alloc hbX hbX.size _ (Nat.le_refl _) _ _ _ _
    | true =>
      -- false: the sign as it comes out
      go_wp2_with fail
      refine (decimals_c qu _ _ (unhide HV1) (by omega) (unhide HT3)).mono ?_
      rintro e w4 ⟨rfl, hb4⟩
      have hn4 := below_next (unhide Hn3).1 (unhide Hn3).2 hb4
      have hv2 := isNat_below (unhide HV2) hb4
      have hT4 := (unhide HT3).below hb4
      have HV2' := hide hv2
      have HT4 := hide hT4
      have Hn4 := hide hn4
      clear hv2 hT4 hn4 hb4
      go_wp2_with fail
      refine (decimals_c qd _ _ (unhide HV2') (by omega) (unhide HT4)).mono ?_
      rintro e w5 ⟨rfl, hb5⟩
      have hn5 := below_next (unhide Hn4).1 (unhide Hn4).2 hb5
      have c0 := newcell hn5.1 0
      have c1 := newcell hn5.1 1
      have c2 := newcell hn5.1 2
      have f0 := newfree hn5.1 0
      have f1 := newfree hn5.1 1
      have f2 := newfree hn5.1 2
      have hbX := below_new hn5.1
      simp at c0 c1 c2
      have hbb : w.heap.size < w5.heap.size := hn5.2
      clear hb5 hn5
      by_cases h1 : 60 < (dec qu).size
      · rw [if_pos (.inl h1)] at Hlow
        go_wp2
        refine bodyPost_ret (v := numAns none) (by simp [results, Tryz.results158, go_sem, numAns, numO, noNum, numV, c0, c1, c2, hbb]) rfl ⟨by rw [unhide Hlow], ?_⟩
        exact below_three_alloc hbX hbX.size _ (Nat.le_refl _) _ _ _ _
      · by_cases h2 : 60 < (dec qd).size
        · rw [if_pos (.inr h2)] at Hlow
          go_wp2
          refine bodyPost_ret (v := numAns none) (by simp [results, Tryz.results158, go_sem, numAns, numO, noNum, numV, c0, c1, c2, hbb]) rfl ⟨by rw [unhide Hlow], ?_⟩
          exact below_three_alloc hbX hbX.size _ (Nat.le_refl _) _ _ _ _
        · rw [if_neg (by rintro (h | h); exact h1 h; exact h2 h)] at Hlow
          go_wp2
          refine bodyPost_ret (v := numAns (some (false, qu, qd))) (by simp [results, Tryz.results158, go_sem, numAns, numO, numV, c0, c1, c2, hbb]) rfl ⟨by rw [unhide Hlow, unhide Hsg], ?_⟩
          exact below_three_alloc hbX hbX.size _ (Nat.le_refl _) _ _ _ _
  · have hl0 : decide (0 < (gr qu).length) = true := by have := mt gr_len0.1 hq0; rw [decide_eq_true_eq]; omega
    cases neg with
    | false =>
      have Hsg : Hid ((false && qu != 0) = false) := rfl
      clear hq0
      -- false: the sign as it comes out
      go_wp2_with fail
      refine (decimals_c qu _ _ (unhide HV1) (by omega) (unhide HT3)).mono ?_
      rintro e w4 ⟨rfl, hb4⟩
      have hn4 := below_next (unhide Hn3).1 (unhide Hn3).2 hb4
      have hv2 := isNat_below (unhide HV2) hb4
      have hT4 := (unhide HT3).below hb4
      have HV2' := hide hv2
      have HT4 := hide hT4
      have Hn4 := hide hn4
      clear hv2 hT4 hn4 hb4
      go_wp2_with fail
      refine (decimals_c qd _ _ (unhide HV2') (by omega) (unhide HT4)).mono ?_
      rintro e w5 ⟨rfl, hb5⟩
      have hn5 := below_next (unhide Hn4).1 (unhide Hn4).2 hb5
      have c0 := newcell hn5.1 0
      have c1 := newcell hn5.1 1
      have c2 := newcell hn5.1 2
      have f0 := newfree hn5.1 0
      have f1 := newfree hn5.1 1
      have f2 := newfree hn5.1 2
      have hbX := below_new hn5.1
      simp at c0 c1 c2
      have hbb : w.heap.size < w5.heap.size := hn5.2
      clear hb5 hn5
      by_cases h1 : 60 < (dec qu).size
      · rw [if_pos (.inl h1)] at Hlow
        go_wp2
        refine bodyPost_ret (v := numAns none) (by simp [results, Tryz.results158, go_sem, numAns, numO, noNum, numV, c0, c1, c2, hbb]) rfl ⟨by rw [unhide Hlow], ?_⟩
        exact below_three_alloc hbX hbX.size _ (Nat.le_refl _) _ _ _ _
      · by_cases h2 : 60 < (dec qd).size
        · rw [if_pos (.inr h2)] at Hlow
          go_wp2
          refine bodyPost_ret (v := numAns none) (by simp [results, Tryz.results158, go_sem, numAns, numO, noNum, numV, c0, c1, c2, hbb]) rfl ⟨by rw [unhide Hlow], ?_⟩
          exact below_three_alloc hbX hbX.size _ (Nat.le_refl _) _ _ _ _
        · rw [if_neg (by rintro (h | h); exact h1 h; exact h2 h)] at Hlow
          go_wp2
          refine bodyPost_ret (v := numAns (some (false, qu, qd))) (by simp [results, Tryz.results158, go_sem, numAns, numO, numV, c0, c1, c2, hbb]) rfl ⟨by rw [unhide Hlow, unhide Hsg], ?_⟩
          exact below_three_alloc hbX hbX.size _ (Nat.le_refl _) _ _ _ _
    | true =>
      have Hsg : Hid ((true && qu != 0) = true) := by show _ = _; rw [bne_iff_ne.2 hq0]; rfl
      clear hq0
      -- true: the sign as it comes out
      go_wp2_with fail
      refine (decimals_c qu _ _ (unhide HV1) (by omega) (unhide HT3)).mono ?_
      rintro e w4 ⟨rfl, hb4⟩
      have hn4 := below_next (unhide Hn3).1 (unhide Hn3).2 hb4
      have hv2 := isNat_below (unhide HV2) hb4
      have hT4 := (unhide HT3).below hb4
      have HV2' := hide hv2
      have HT4 := hide hT4
      have Hn4 := hide hn4
      clear hv2 hT4 hn4 hb4
      go_wp2_with fail
      refine (decimals_c qd _ _ (unhide HV2') (by omega) (unhide HT4)).mono ?_
      rintro e w5 ⟨rfl, hb5⟩
      have hn5 := below_next (unhide Hn4).1 (unhide Hn4).2 hb5
      have c0 := newcell hn5.1 0
      have c1 := newcell hn5.1 1
      have c2 := newcell hn5.1 2
      have f0 := newfree hn5.1 0
      have f1 := newfree hn5.1 1
      have f2 := newfree hn5.1 2
      have hbX := below_new hn5.1
      simp at c0 c1 c2
      have hbb : w.heap.size < w5.heap.size := hn5.2
      clear hb5 hn5
      by_cases h1 : 60 < (dec qu).size
      · rw [if_pos (.inl h1)] at Hlow
        go_wp2
        refine bodyPost_ret (v := numAns none) (by simp [results, Tryz.results158, go_sem, numAns, numO, noNum, numV, c0, c1, c2, hbb]) rfl ⟨by rw [unhide Hlow], ?_⟩
        exact below_three_alloc hbX hbX.size _ (Nat.le_refl _) _ _ _ _
      · by_cases h2 : 60 < (dec qd).size
        · rw [if_pos (.inr h2)] at Hlow
          go_wp2
          refine bodyPost_ret (v := numAns none) (by simp [results, Tryz.results158, go_sem, numAns, numO, noNum, numV, c0, c1, c2, hbb]) rfl ⟨by rw [unhide Hlow], ?_⟩
          exact below_three_alloc hbX hbX.size _ (Nat.le_refl _) _ _ _ _
        · rw [if_neg (by rintro (h | h); exact h1 h; exact h2 h)] at Hlow
          go_wp2
          refine bodyPost_ret (v := numAns (some (true, qu, qd))) (by simp [results, Tryz.results158, go_sem, numAns, numO, numV, c0, c1, c2, hbb]) rfl ⟨by rw [unhide Hlow, unhide Hsg], ?_⟩
          exact below_three_alloc hbX hbX.size _ (Nat.le_refl _) _ _ _ _
end Go.Proofs.YtpbnmhnbkfnaeaaGreatDoor
namespace Go.Proofs.YtpbnmhnbkfnaeaaGreatDoor
open Go.RowKit Nt

theorem okM_plain (neg : Bool) (u d : List UInt8) : okM neg u d = (plain u && plain d && decide (valDec d ≠ 0) && !(neg && decide (valDec u = 0)) && decide (Nat.gcd (valDec u) (valDec d) = 1)) := by
  unfold okM plain
  cases decide (u.length ≤ 60) <;> cases decide (d.length ≤ 60) <;> cases isDec u <;> cases isDec d <;> simp

theorem dec_gr {x n : Nat} (h : (dec x).size ≤ n) : (gr x).length ≤ n := by
  have h1 := dec_lt x
  apply dg_len_le (by omega)
  have h2 : (10 : Nat) ^ (dec x).size ≤ 1000000000 ^ n := Nat.le_trans (Nat.pow_le_pow_left (by omega) _) (Nat.pow_le_pow_right (by omega) h)
  omega


set_option maxRecDepth 100000 in
set_option maxHeartbeats 4000000 in
theorem implNumOk_no (neg : Bool) (u d : List UInt8) (w : World) (hsu : u.length ≤ 1000000000) (hsd : d.length ≤ 1000000000) (h : (plain u && plain d) = false) :
    Calls Tryz.prog 159 #[numB neg u d] w fun e w' => e = .returned (.bool (okM neg u d)) ∧ Below w.heap.size w w' := by
  have Hok : Hid (okM neg u d = false) := by show _ = _; rw [okM_plain, h]; simp
  unfold numB
  have h1 := fun w => numPlain_c u w hsu
  have h2 := fun w => numPlain_c d w hsd
  have H2 := hide h2
  cases hu : plain u with
  | false =>
    rw [hu] at h1
    have H1 := hide h1
    clear h hu h1 h2
    go_enter Tryz.func159, Tryz.ntmps159
    go_wp2_with fail
    refine (unhide H1 _).mono ?_
    rintro e w1 ⟨rfl, hb1⟩
    have hb0 := below_alloc_size hb1
    have hz0 : w.heap.size + 1 ≤ w1.heap.size := by have := hb1.size; simpa using this
    clear hb1
    go_wp2
    go_ret
    exact ⟨ret_bool (unhide Hok).symm, below_new hb0⟩
  | true =>
    rw [hu] at h1 h
    have hd : plain d = false := by simpa using h
    rw [hd] at H2
    have H1 := hide h1
    clear h hu hd h1 h2
    go_enter Tryz.func159, Tryz.ntmps159
    go_wp2_with fail
    refine (unhide H1 _).mono ?_
    rintro e w1 ⟨rfl, hb1⟩
    have hb0 := below_alloc_size hb1
    have hz0 : w.heap.size + 1 ≤ w1.heap.size := by have := hb1.size; simpa using this
    clear hb1
    -- hb0: the Below from the box on
    have c0 := newcell hb0 0
    have c1 := newcell hb0 1
    have c2 := newcell hb0 2
    simp at c0 c1 c2
    go_wp2_with fail
    refine (unhide H2 _).mono ?_
    rintro e w2 ⟨rfl, hb2⟩
    have hn2 := below_next hb0 hz0 hb2
    go_wp2
    go_ret
    exact ⟨ret_bool (unhide Hok).symm, below_new hn2.1⟩



set_option maxRecDepth 100000 in
set_option maxHeartbeats 4000000 in
theorem implNumOk_yes (neg : Bool) (u d : List UInt8) (w : World) (hu : plain u = true) (hd : plain d = true) (hT : Tens w) :
    Calls Tryz.prog 159 #[numB neg u d] w fun e w' => e = .returned (.bool (okM neg u d)) ∧ Below w.heap.size w w' := by
  have hu' := hu
  have hd' := hd
  unfold plain at hu' hd'
  simp only [Bool.and_eq_true, decide_eq_true_eq] at hu' hd'
  have Hok : Hid (okM neg u d = (decide (valDec d ≠ 0) && !(neg && decide (valDec u = 0)) && decide (Nat.gcd (valDec u) (valDec d) = 1))) := by
    show _ = _; rw [okM_plain, hu, hd]; simp
  have h1 := fun w => numPlain_c u w (by omega)
  have h2 := fun w => numPlain_c d w (by omega)
  rw [hu] at h1
  rw [hd] at h2
  have Bu : B u = dec (valDec u) := by unfold dec txt; rw [← isDec_val hu'.1]
  have Bd : B d = dec (valDec d) := by unfold dec txt; rw [← isDec_val hd'.1]
  have hau := B_size u
  have had := B_size d
  unfold numB
  rw [Bu] at h1 hau
  rw [Bd] at h2 had
  rw [Bu, Bd]
  have HT := hide hT
  have H1 := hide h1
  have H2 := hide h2
  generalize valDec u = a at *
  generalize valDec d = q at *
  have hsa : (dec a).size ≤ 60 := by omega
  have hsq : (dec q).size ≤ 60 := by omega
  have hga := dec_gr hsa
  have hgq := dec_gr hsq
  have ha0 := dec_is0 a
  have hq0 := dec_is0 q
  clear h1 h2 Bu Bd hu hd hu' hd' hau had hT
  by_cases hq : q = 0
  · rw [decide_eq_true hq] at hq0
    have Hok : Hid (okM neg u d = false) := by show _ = _; rw [unhide Hok]; simp [hq]
    clear hq
    go_enter Tryz.func159, Tryz.ntmps159
    go_wp2_with fail
    refine (unhide H1 _).mono ?_
    rintro e w1 ⟨rfl, hb1⟩
    have hb0 := below_alloc_size hb1
    have hz0 : w.heap.size + 1 ≤ w1.heap.size := by have := hb1.size; simpa using this
    clear hb1
    -- hb0: the Below from the box on
    have c0 := newcell hb0 0
    have c1 := newcell hb0 1
    have c2 := newcell hb0 2
    simp at c0 c1 c2
    go_wp2_with fail
    refine (unhide H2 _).mono ?_
    rintro e w2 ⟨rfl, hb2⟩
    have hn2 := below_next hb0 hz0 hb2
    clear c0 c1 c2 hb2 hb0 hz0
    -- hn2.1: the Below from the box on
    have c0 := newcell hn2.1 0
    have c1 := newcell hn2.1 1
    have c2 := newcell hn2.1 2
    simp at c0 c1 c2
    go_wp2
    go_ret
    exact ⟨ret_bool (unhide Hok).symm, below_new hn2.1⟩
  · rw [decide_eq_false hq] at hq0
    have hgg : (gr (Nat.gcd a q)).length ≤ 60 := gr_le_of_le (Nat.gcd_le_right a (by omega)) hgq
    cases neg with
    | false =>
      have Hok : Hid (okM false u d = decide (Nat.gcd a q = 1)) := by show _ = _; rw [unhide Hok]; simp [hq]
      clear hq
      go_enter Tryz.func159, Tryz.ntmps159
      go_wp2_with fail
      refine (unhide H1 _).mono ?_
      rintro e w1 ⟨rfl, hb1⟩
      have hb0 := below_alloc_size hb1
      have hz0 : w.heap.size + 1 ≤ w1.heap.size := by have := hb1.size; simpa using this
      clear hb1
      -- hb0: the Below from the box on
      have c0 := newcell hb0 0
      have c1 := newcell hb0 1
      have c2 := newcell hb0 2
      simp at c0 c1 c2
      go_wp2_with fail
      refine (unhide H2 _).mono ?_
      rintro e w2 ⟨rfl, hb2⟩
      have hn2 := below_next hb0 hz0 hb2
      clear c0 c1 c2 hb2 hb0 hz0
      -- hn2.1: the Below from the box on
      have c0 := newcell hn2.1 0
      have c1 := newcell hn2.1 1
      have c2 := newcell hn2.1 2
      simp at c0 c1 c2
      have HT2 := hide ((unhide HT).below (below_new hn2.1))
      have HW : Hid (Below (w.heap.size + 1) (w.alloc (.cells #[.bool false, .string (dec a), .string (dec q)] 79)) w2.drew ∧ w.heap.size + 1 ≤ w2.drew.heap.size) := hide ⟨hn2.1.drew, hn2.2⟩
      have HC : Hid (∀ wx : World, Below w2.drew.heap.size w2.drew wx → wx.cell? ⟨w.heap.size, 1, none⟩ = some (.string (dec a)) ∧ wx.cell? ⟨w.heap.size, 2, none⟩ = some (.string (dec q))) := by
        intro wx hx
        have hlt : w.heap.size < w2.drew.heap.size := hn2.2
        exact ⟨by rw [hx.cell (p := ⟨w.heap.size, 1, none⟩) hlt]; exact c1, by rw [hx.cell (p := ⟨w.heap.size, 2, none⟩) hlt]; exact c2⟩
      go_wp2
      go_region_with (first | (go_at_call_of 186 (dec a); refine (natRead_c a _ (by omega) (by first | exact (unhide HT2) | exact Tens.below (w := w2.drew) (unhide HT2) (by assumption))).mono ?_; rintro e wa ⟨⟨va, rfl, hva⟩, hba⟩; have Hva := hide hva; have Hba := hide hba; clear hva; have ca1 : wa.cell? ⟨w.heap.size, 1, none⟩ = some (.string (dec a)) := (by first | exact (unhide HC _ hba).1 | exact (unhide HC _ ((unhide Hbq).trans (hba.mono (unhide Hbq).size))).1); have ca2 : wa.cell? ⟨w.heap.size, 2, none⟩ = some (.string (dec q)) := (by first | exact (unhide HC _ hba).2 | exact (unhide HC _ ((unhide Hbq).trans (hba.mono (unhide Hbq).size))).2)) | (go_at_call_of 186 (dec q); refine (natRead_c q _ (by omega) (by first | exact (unhide HT2) | exact Tens.below (w := w2.drew) (unhide HT2) (by assumption))).mono ?_; rintro e wq ⟨⟨vq, rfl, hvq⟩, hbq⟩; have Hvq := hide hvq; have Hbq := hide hbq; clear hvq; have cq1 : wq.cell? ⟨w.heap.size, 1, none⟩ = some (.string (dec a)) := (by first | exact (unhide HC _ hbq).1 | exact (unhide HC _ ((unhide Hba).trans (hbq.mono (unhide Hba).size))).1); have cq2 : wq.cell? ⟨w.heap.size, 2, none⟩ = some (.string (dec q)) := (by first | exact (unhide HC _ hbq).2 | exact (unhide HC _ ((unhide Hba).trans (hbq.mono (unhide Hba).size))).2)) | (go_at_call 182; refine (gcd_c a q va vq _ (by first | exact unhide Hva | exact isNat_below (unhide Hva) (unhide Hbq)) (by first | exact unhide Hvq | exact isNat_below (unhide Hvq) (unhide Hba)) (by omega) (by omega)).mono ?_; rintro e wg ⟨⟨vg, rfl, hvg⟩, hbg⟩; have Hvg := hide hvg; have Hbg := hide hbg; clear hvg) | (go_at_call 187; refine (isOne_c (Nat.gcd a q) vg _ (unhide Hvg) (by omega)).mono ?_; rintro e wi ⟨rfl, rfl⟩))
      all_goals
        go_wp2
        go_ret
        refine ⟨ret_bool (unhide Hok).symm, below_new (o := .cells #[.bool false, .string (dec a), .string (dec q)] 79) ?_⟩
        first
          | exact (below_next (below_next (below_next (unhide HW).1 (unhide HW).2 (unhide Hba)).1 (below_next (unhide HW).1 (unhide HW).2 (unhide Hba)).2 (unhide Hbq)).1 (below_next (below_next (unhide HW).1 (unhide HW).2 (unhide Hba)).1 (below_next (unhide HW).1 (unhide HW).2 (unhide Hba)).2 (unhide Hbq)).2 (unhide Hbg)).1
          | exact (below_next (below_next (below_next (unhide HW).1 (unhide HW).2 (unhide Hbq)).1 (below_next (unhide HW).1 (unhide HW).2 (unhide Hbq)).2 (unhide Hba)).1 (below_next (below_next (unhide HW).1 (unhide HW).2 (unhide Hbq)).1 (below_next (unhide HW).1 (unhide HW).2 (unhide Hbq)).2 (unhide Hba)).2 (unhide Hbg)).1
    | true =>
      by_cases ha : a = 0
      · rw [decide_eq_true ha] at ha0
        have Hok : Hid (okM true u d = false) := by show _ = _; rw [unhide Hok]; simp [ha]
        clear hq ha
        go_enter Tryz.func159, Tryz.ntmps159
        go_wp2_with fail
        refine (unhide H1 _).mono ?_
        rintro e w1 ⟨rfl, hb1⟩
        have hb0 := below_alloc_size hb1
        have hz0 : w.heap.size + 1 ≤ w1.heap.size := by have := hb1.size; simpa using this
        clear hb1
        -- hb0: the Below from the box on
        have c0 := newcell hb0 0
        have c1 := newcell hb0 1
        have c2 := newcell hb0 2
        simp at c0 c1 c2
        go_wp2_with fail
        refine (unhide H2 _).mono ?_
        rintro e w2 ⟨rfl, hb2⟩
        have hn2 := below_next hb0 hz0 hb2
        clear c0 c1 c2 hb2 hb0 hz0
        -- hn2.1: the Below from the box on
        have c0 := newcell hn2.1 0
        have c1 := newcell hn2.1 1
        have c2 := newcell hn2.1 2
        simp at c0 c1 c2
        go_wp2
        go_ret
        exact ⟨ret_bool (unhide Hok).symm, below_new hn2.1⟩
      · rw [decide_eq_false ha] at ha0
        have Hok : Hid (okM true u d = decide (Nat.gcd a q = 1)) := by show _ = _; rw [unhide Hok]; simp [hq, ha]
        clear hq ha
        go_enter Tryz.func159, Tryz.ntmps159
        go_wp2_with fail
        refine (unhide H1 _).mono ?_
        rintro e w1 ⟨rfl, hb1⟩
        have hb0 := below_alloc_size hb1
        have hz0 : w.heap.size + 1 ≤ w1.heap.size := by have := hb1.size; simpa using this
        clear hb1
        -- hb0: the Below from the box on
        have c0 := newcell hb0 0
        have c1 := newcell hb0 1
        have c2 := newcell hb0 2
        simp at c0 c1 c2
        go_wp2_with fail
        refine (unhide H2 _).mono ?_
        rintro e w2 ⟨rfl, hb2⟩
        have hn2 := below_next hb0 hz0 hb2
        clear c0 c1 c2 hb2 hb0 hz0
        -- hn2.1: the Below from the box on
        have c0 := newcell hn2.1 0
        have c1 := newcell hn2.1 1
        have c2 := newcell hn2.1 2
        simp at c0 c1 c2
        have HT2 := hide ((unhide HT).below (below_new hn2.1))
        have HW : Hid (Below (w.heap.size + 1) (w.alloc (.cells #[.bool true, .string (dec a), .string (dec q)] 79)) w2.drew ∧ w.heap.size + 1 ≤ w2.drew.heap.size) := hide ⟨hn2.1.drew, hn2.2⟩
        have HC : Hid (∀ wx : World, Below w2.drew.heap.size w2.drew wx → wx.cell? ⟨w.heap.size, 1, none⟩ = some (.string (dec a)) ∧ wx.cell? ⟨w.heap.size, 2, none⟩ = some (.string (dec q))) := by
          intro wx hx
          have hlt : w.heap.size < w2.drew.heap.size := hn2.2
          exact ⟨by rw [hx.cell (p := ⟨w.heap.size, 1, none⟩) hlt]; exact c1, by rw [hx.cell (p := ⟨w.heap.size, 2, none⟩) hlt]; exact c2⟩
        go_wp2
        go_region_with (first | (go_at_call_of 186 (dec a); refine (natRead_c a _ (by omega) (by first | exact (unhide HT2) | exact Tens.below (w := w2.drew) (unhide HT2) (by assumption))).mono ?_; rintro e wa ⟨⟨va, rfl, hva⟩, hba⟩; have Hva := hide hva; have Hba := hide hba; clear hva; have ca1 : wa.cell? ⟨w.heap.size, 1, none⟩ = some (.string (dec a)) := (by first | exact (unhide HC _ hba).1 | exact (unhide HC _ ((unhide Hbq).trans (hba.mono (unhide Hbq).size))).1); have ca2 : wa.cell? ⟨w.heap.size, 2, none⟩ = some (.string (dec q)) := (by first | exact (unhide HC _ hba).2 | exact (unhide HC _ ((unhide Hbq).trans (hba.mono (unhide Hbq).size))).2)) | (go_at_call_of 186 (dec q); refine (natRead_c q _ (by omega) (by first | exact (unhide HT2) | exact Tens.below (w := w2.drew) (unhide HT2) (by assumption))).mono ?_; rintro e wq ⟨⟨vq, rfl, hvq⟩, hbq⟩; have Hvq := hide hvq; have Hbq := hide hbq; clear hvq; have cq1 : wq.cell? ⟨w.heap.size, 1, none⟩ = some (.string (dec a)) := (by first | exact (unhide HC _ hbq).1 | exact (unhide HC _ ((unhide Hba).trans (hbq.mono (unhide Hba).size))).1); have cq2 : wq.cell? ⟨w.heap.size, 2, none⟩ = some (.string (dec q)) := (by first | exact (unhide HC _ hbq).2 | exact (unhide HC _ ((unhide Hba).trans (hbq.mono (unhide Hba).size))).2)) | (go_at_call 182; refine (gcd_c a q va vq _ (by first | exact unhide Hva | exact isNat_below (unhide Hva) (unhide Hbq)) (by first | exact unhide Hvq | exact isNat_below (unhide Hvq) (unhide Hba)) (by omega) (by omega)).mono ?_; rintro e wg ⟨⟨vg, rfl, hvg⟩, hbg⟩; have Hvg := hide hvg; have Hbg := hide hbg; clear hvg) | (go_at_call 187; refine (isOne_c (Nat.gcd a q) vg _ (unhide Hvg) (by omega)).mono ?_; rintro e wi ⟨rfl, rfl⟩))
        all_goals
          go_wp2
          go_ret
          refine ⟨ret_bool (unhide Hok).symm, below_new (o := .cells #[.bool true, .string (dec a), .string (dec q)] 79) ?_⟩
          first
            | exact (below_next (below_next (below_next (unhide HW).1 (unhide HW).2 (unhide Hba)).1 (below_next (unhide HW).1 (unhide HW).2 (unhide Hba)).2 (unhide Hbq)).1 (below_next (below_next (unhide HW).1 (unhide HW).2 (unhide Hba)).1 (below_next (unhide HW).1 (unhide HW).2 (unhide Hba)).2 (unhide Hbq)).2 (unhide Hbg)).1
            | exact (below_next (below_next (below_next (unhide HW).1 (unhide HW).2 (unhide Hbq)).1 (below_next (unhide HW).1 (unhide HW).2 (unhide Hbq)).2 (unhide Hba)).1 (below_next (below_next (unhide HW).1 (unhide HW).2 (unhide Hbq)).1 (below_next (unhide HW).1 (unhide HW).2 (unhide Hbq)).2 (unhide Hba)).2 (unhide Hbg)).1

theorem implNumOk_c (neg : Bool) (u d : List UInt8) (w : World) (hsu : u.length ≤ 1000000000) (hsd : d.length ≤ 1000000000) (hT : Tens w) :
    Calls Tryz.prog 159 #[numB neg u d] w fun e w' => e = .returned (.bool (okM neg u d)) ∧ Below w.heap.size w w' := by
  cases h : plain u && plain d with
  | false => exact implNumOk_no neg u d w hsu hsd h
  | true =>
    simp only [Bool.and_eq_true] at h
    exact implNumOk_yes neg u d w h.1 h.2 hT
end Go.Proofs.YtpbnmhnbkfnaeaaGreatDoor
namespace Go.Proofs.YtpbnmhnbkfnaeaaGreatDoor
open Go.RowKit Nt

theorem isNatB_set4 {w : World} {base b : Nat} {v u0 u1 u2 u3 : Value} {x : Nat} (h : isNatB w base v x) (hb : b < base) : isNatB ((((w.setCell ⟨b, 0, none⟩ u0).setCell ⟨b, 1, none⟩ u1).setCell ⟨b, 2, none⟩ u2).setCell ⟨b, 3, none⟩ u3) base v x :=
  isNatB_set (isNatB_set (isNatB_set (isNatB_set h hb) hb) hb) hb
theorem far4 {w : World} {b : Nat} {u0 u1 u2 u3 : Value} {a : Addr} (h : b ≠ a.block) : ((((w.setCell ⟨b, 0, none⟩ u0).setCell ⟨b, 1, none⟩ u1).setCell ⟨b, 2, none⟩ u2).setCell ⟨b, 3, none⟩ u3).cell? a = w.cell? a := by
  rw [World.cell?_setCell_far _ _ _ _ h, World.cell?_setCell_far _ _ _ _ h, World.cell?_setCell_far _ _ _ _ h, World.cell?_setCell_far _ _ _ _ h]

set_option maxRecDepth 100000 in
set_option maxHeartbeats 4000000 in
theorem fractionOf_c (neg : Bool) (a q : Nat) (w : World) (ha : (dec a).size ≤ 60) (hq : (dec q).size ≤ 60) (hT : Tens w) :
    Calls Tryz.prog 160 #[.agg #[.bool neg, .string (dec a), .string (dec q)]] w fun e w' => (∃ v u, e = .returned (fracV neg false v u) ∧ isNatB w' w.heap.size v a ∧ isNatB w' w.heap.size u q) ∧ Below w.heap.size w w' := by
  have HW := hide (((Below.refl w.heap.size w).alloc (Nat.le_refl _) (.cells #[.bool neg, .string (dec a), .string (dec q)] 79)).alloc (by simp) (.cells #[.bool false, .slice none 0 0, .bool false, .slice none 0 0] 185))
  have HA := hide ((AtC.new w #[.bool neg, .string (dec a), .string (dec q)] 79).alloc (.cells #[.bool false, .slice none 0 0, .bool false, .slice none 0 0] 185))
  have HC := hide (AtC.new (w.alloc (.cells #[.bool neg, .string (dec a), .string (dec q)] 79)) #[.bool false, .slice none 0 0, .bool false, .slice none 0 0] 185)
  rw [World.size_alloc] at HC
  have HT := hide hT
  clear hT
  go_enter Tryz.func160, Tryz.ntmps160
  go_wp2
  go_region_held3 (fun w' => w'.cell? ⟨w.heap.size, 0, none⟩ = some (.bool neg) ∧ w'.cell? ⟨w.heap.size, 1, none⟩ = some (.string (dec a)) ∧ w'.cell? ⟨w.heap.size, 2, none⟩ = some (.string (dec q))) (((try dsimp only); (repeat' apply And.intro) <;> (first | with_reducible assumption | (rw [far4 (by first | (simp; done) | (simp; omega))]; with_reducible assumption) | exact (unhide HA).drew.c _))) (first | (go_at_call_of 186 (dec a); refine (natReadB_c a _ (by omega) (by exact (unhide HT).below (unhide HW).drew)).mono ?_; rintro e w1 ⟨⟨v, rfl, hv⟩, hb1⟩; obtain ⟨vp, vc, rfl⟩ := own_slice hv; have hA := (unhide HA).drew.below hb1; have hC := (unhide HC).drew.below hb1; have a10 : w1.cell? ⟨w.heap.size, 0, none⟩ = some (.bool neg) := hA.c 0; have a11 : w1.cell? ⟨w.heap.size, 1, none⟩ = some (.string (dec a)) := hA.c 1; have a12 : w1.cell? ⟨w.heap.size, 2, none⟩ = some (.string (dec q)) := hA.c 2; have HA1 := hide hA; have HC1 := hide hC; have Hv := hide hv; have HW1 := hide ((unhide HW).drew.trans (hb1.mono (unhide HW).drew.size)); clear hA hC hv hb1) | (go_at_call_of 186 (dec q); refine (natReadB_c q _ (by omega) (by exact (unhide HT).below (unhide HW1))).mono ?_; rintro e w2 ⟨⟨u, rfl, hu⟩, hb2⟩; obtain ⟨up, uc, rfl⟩ := own_slice hu; have hA := (unhide HA1).below hb2; have hC := (unhide HC1).below hb2; have a20 : w2.cell? ⟨w.heap.size, 0, none⟩ = some (.bool neg) := hA.c 0; have a21 : w2.cell? ⟨w.heap.size, 1, none⟩ = some (.string (dec a)) := hA.c 1; have a22 : w2.cell? ⟨w.heap.size, 2, none⟩ = some (.string (dec q)) := hA.c 2; have c20 : w2.cell? ⟨w.heap.size + 1, 0, none⟩ = some (.bool false) := hC.c 0; have c21 : w2.cell? ⟨w.heap.size + 1, 1, none⟩ = some (.slice none 0 0) := hC.c 1; have c22 : w2.cell? ⟨w.heap.size + 1, 2, none⟩ = some (.bool false) := hC.c 2; have c23 : w2.cell? ⟨w.heap.size + 1, 3, none⟩ = some (.slice none 0 0) := hC.c 3; have cf := hC.f; have hs := hC.lt; have Hu := hide hu; have Hv2 := hide (own_below (unhide Hv) hb2); have hs1 := (unhide HC1).lt; have HW2 := hide ((unhide HW1).trans (hb2.mono (unhide HW1).size)); clear hA hC hu hb2))
  go_wp2
  have hcc := And.intro c20 (And.intro c21 (And.intro c22 c23))
  refine bodyPost_ret (v := .agg #[.bool neg, .slice vp (gr a).length vc, .bool false, .slice up (gr q).length uc]) (by simp [results, Tryz.results160, go_sem, hcc]) rfl ⟨⟨_, _, rfl, ?_, ?_⟩, ?_⟩
  · have h0 := isNatB_set4 (b := w.heap.size + 1) (u0 := .bool neg) (u1 := .slice vp (gr a).length vc) (u2 := .bool false) (u3 := .slice up (gr q).length uc) (unhide Hv2) (by simp)
    exact own_base h0 (by simp; omega)
  · have h0 := isNatB_set4 (b := w.heap.size + 1) (u0 := .bool neg) (u1 := .slice vp (gr a).length vc) (u2 := .bool false) (u3 := .slice up (gr q).length uc) (unhide Hu) (by omega)
    exact own_base h0 (by have := (unhide HW1).size; omega)
  · exact ((((unhide HW2).setCell (by show w.heap.size ≤ w.heap.size + 1; omega) _).setCell (by show w.heap.size ≤ w.heap.size + 1; omega) _).setCell (by show w.heap.size ≤ w.heap.size + 1; omega) _).setCell (by show w.heap.size ≤ w.heap.size + 1; omega) _

end Go.Proofs.YtpbnmhnbkfnaeaaGreatDoor
namespace Go.Proofs.YtpbnmhnbkfnaeaaGreatDoor
open Go.RowKit Nt

end Go.Proofs.YtpbnmhnbkfnaeaaGreatDoor
namespace Go.Proofs.YtpbnmhnbkfnaeaaGreatDoor
open Go.RowKit Nt

end Go.Proofs.YtpbnmhnbkfnaeaaGreatDoor
namespace Go.Proofs.YtpbnmhnbkfnaeaaGreatDoor
open Go.RowKit Nt

theorem plusW_le (a b : Bool × Nat) : (plusW a b).2 ≤ a.2 + b.2 := by
  unfold plusW; split
  · simp
  · split
    · simp; omega
    · simp; omega
theorem gr_prod {x y : Nat} (hx : (dec x).size ≤ 60) (hy : (dec y).size ≤ 60) : x * y < 10 ^ 120 := by
  have h1 := dec_lt x
  have h2 := dec_lt y
  have h3 : 10 ^ (dec x).size ≤ 10 ^ 60 := Nat.pow_le_pow_right (by omega) hx
  have h4 : 10 ^ (dec y).size ≤ 10 ^ 60 := Nat.pow_le_pow_right (by omega) hy
  calc x * y < 10 ^ 60 * 10 ^ 60 := Nat.mul_lt_mul'' (by omega) (by omega)
    _ = 10 ^ 120 := by rw [← Nat.pow_add]
theorem gr_small {n : Nat} (h : n < 10 ^ 121) : (gr n).length ≤ 121 := by
  apply dec_gr
  rw [dec_len]; exact txl_len_le (by omega) (by omega) h
theorem gr_prod_len {x y : Nat} (hx : (dec x).size ≤ 60) (hy : (dec y).size ≤ 60) : (gr (x * y)).length ≤ 121 := gr_small (Nat.lt_of_lt_of_le (gr_prod hx hy) (Nat.pow_le_pow_right (by omega) (by omega)))
theorem gr_plusW {n1 n2 : Bool} {x1 y1 x2 y2 : Nat} (h1 : (dec x1).size ≤ 60) (h2 : (dec y1).size ≤ 60) (h3 : (dec x2).size ≤ 60) (h4 : (dec y2).size ≤ 60) : (gr (plusW (n1, x1 * y2) (n2, x2 * y1)).2).length ≤ 121 := by
  apply gr_small
  have ha := gr_prod h1 h4
  have hb := gr_prod h3 h2
  have hp := plusW_le (n1, x1 * y2) (n2, x2 * y1)
  have : (10 : Nat) ^ 121 = 10 * 10 ^ 120 := by rw [Nat.pow_succ, Nat.mul_comm]
  rw [this]
  generalize (10 : Nat) ^ 120 = p at *
  simp only at hp
  omega

/-- an answer of the field: the number, and 0, or nothing, and a code -/
def ansC (o : Option (Bool × Nat × Nat)) (c : Int) : Value := .tuple #[numO o, .int .i64 c]
def codeOf (o : Option (Bool × Nat × Nat)) : Int := if o.isSome then 0 else 3


end Go.Proofs.YtpbnmhnbkfnaeaaGreatDoor
namespace Go.Proofs.YtpbnmhnbkfnaeaaGreatDoor
open Go.RowKit Nt

end Go.Proofs.YtpbnmhnbkfnaeaaGreatDoor
namespace Go.Proofs.YtpbnmhnbkfnaeaaGreatDoor
open Go.RowKit Nt


theorem numO_agg (o : Option (Bool × Nat × Nat)) : ∃ n u d, numO o = .agg #[.bool n, .string u, .string d] := by
  cases o with
  | none => exact ⟨_, _, _, rfl⟩
  | some p => exact ⟨_, _, _, rfl⟩
theorem far3 {w : World} {b : Nat} {u0 u1 u2 : Value} {a : Addr} (h : b ≠ a.block) : (((w.setCell ⟨b, 0, none⟩ u0).setCell ⟨b, 1, none⟩ u1).setCell ⟨b, 2, none⟩ u2).cell? a = w.cell? a := by
  rw [World.cell?_setCell_far _ _ _ _ h, World.cell?_setCell_far _ _ _ _ h, World.cell?_setCell_far _ _ _ _ h]
theorem dec_prod {x y : Nat} (hx : (dec x).size ≤ 60) (hy : (dec y).size ≤ 60) : (dec (x * y)).size ≤ 120 := by
  rw [dec_len]; exact txl_len_le (by omega) (by omega) (gr_prod hx hy)
theorem dec_sum {x y : Nat} (hx : (dec x).size ≤ 120) (hy : (dec y).size ≤ 120) : (dec (x + y)).size ≤ 121 := by
  have h1 := dec_lt x
  have h2 := dec_lt y
  have h3 : 10 ^ (dec x).size ≤ 10 ^ 120 := Nat.pow_le_pow_right (by omega) hx
  have h4 : 10 ^ (dec y).size ≤ 10 ^ 120 := Nat.pow_le_pow_right (by omega) hy
  rw [dec_len]
  apply txl_len_le (by omega) (by omega)
  have e : (10 : Nat) ^ 121 = 10 * 10 ^ 120 := by rw [Nat.pow_succ, Nat.mul_comm]
  rw [e]
  generalize (10 : Nat) ^ 120 = p at *
  omega

end Go.Proofs.YtpbnmhnbkfnaeaaGreatDoor
namespace Go.Proofs.YtpbnmhnbkfnaeaaGreatDoor
open Go.RowKit Nt

end Go.Proofs.YtpbnmhnbkfnaeaaGreatDoor
namespace Go.Proofs.YtpbnmhnbkfnaeaaGreatDoor
open Go.RowKit Nt

theorem digN_sg {d : Nat} (h : d < 16) : digN (sg d) = d := by
  unfold digN
  rw [sg_toNat h]
  by_cases h10 : d < 10
  · rw [if_pos h10, if_pos (by omega)]; omega
  · rw [if_neg h10, if_neg (by omega), if_pos (by omega)]; omega

theorem rdN_txl {b : Nat} (hb2 : 2 ≤ b) (hb16 : b ≤ 16) (n : Nat) : rdN b (txl b n) = n := by
  induction n using Nat.strongRecOn with
  | _ n ih =>
    by_cases h : n < b
    · rw [txl_one b hb2 n h]; show 0 * b + digN (sg n) = n; rw [digN_sg (by omega)]; omega
    · have hm : n % b < b := Nat.mod_lt _ (by omega)
      rw [txl_step b hb2 n (by omega), rdN_snoc, ih (n / b) (Nat.div_lt_self (by omega) (by omega)), digN_sg (by omega)]
      exact Nat.div_add_mod' n b

theorem txl_digits {b : Nat} (hb2 : 2 ≤ b) (n : Nat) : ∀ c ∈ txl b n, ∃ d, d < b ∧ c = sg d := by
  intro c hc
  unfold txl at hc
  split at hc
  · simp at hc; exact ⟨0, by omega, by rw [hc]; rfl⟩
  · simp at hc
    obtain ⟨d, hd, rfl⟩ := hc
    exact ⟨d, dg_lt hb2 n d hd, rfl⟩

theorem okN_txl {b : Nat} (hb2 : 2 ≤ b) (hb16 : b ≤ 16) (n : Nat) : okN b (txl b n) = true := by
  apply okN_good (txl_length_pos hb2 n)
  intro c hc
  obtain ⟨d, hd, rfl⟩ := txl_digits hb2 n c hc
  rw [digN_sg (by omega)]; exact hd

theorem sg_ge {d : Nat} (h : d < 16) : 48 ≤ (sg d).toNat := by rw [sg_toNat h]; split <;> omega

theorem txl_ne {b : Nat} (hb2 : 2 ≤ b) (hb16 : b ≤ 16) (n : Nat) {c : UInt8} (hc : c.toNat < 48) : ∀ x ∈ txl b n, x ≠ c := by
  intro x hx
  obtain ⟨d, hd, rfl⟩ := txl_digits hb2 n x hx
  intro h
  have := sg_ge (d := d) (by omega)
  rw [h] at this; omega

theorem find_txl {b : Nat} (hb2 : 2 ≤ b) (hb16 : b ≤ 16) (n : Nat) {c : UInt8} (hc : c.toNat < 48) : findB c (txl b n) = none :=
  findB_none fun _ hj => txl_ne hb2 hb16 n hc _ (List.getElem_mem hj)

theorem find_over {b : Nat} (hb2 : 2 ≤ b) (hb16 : b ≤ 16) (n : Nat) (r : List UInt8) : findB 47 (txl b n ++ 47 :: r) = some (txl b n).length := by
  apply findB_some (by simp)
  · simp
  · intro j hj hlt
    rw [List.getElem_append_left hlt]
    exact txl_ne hb2 hb16 n (by decide) _ (List.getElem_mem hlt)

theorem lowest_co {neg : Bool} {a q : Nat} (hq : q ≠ 0) (hg : Nat.gcd a q = 1) (ha : (dec a).size ≤ 60) (hqs : (dec q).size ≤ 60) (hn : neg = true → a ≠ 0) : lowest neg a q = some (neg, a, q) := by
  unfold lowest
  rw [hg, Nat.div_one, Nat.div_one, if_neg (by omega)]
  cases neg with
  | false => rfl
  | true => simp [hn rfl]

theorem body_print {neg : Bool} {a q b : Nat} (hb2 : 2 ≤ b) (hb16 : b ≤ 16) (hq : q ≠ 0) (hg : Nat.gcd a q = 1) (ha : (dec a).size ≤ 60) (hqs : (dec q).size ≤ 60) (hn : neg = true → a ≠ 0) :
    bodyM neg b (txl b a ++ (if q = 1 then [] else 47 :: txl b q)) = some (neg, a, q) := by
  by_cases h1 : q = 1
  · subst h1
    rw [if_pos rfl, List.append_nil]
    unfold bodyM
    rw [find_txl hb2 hb16 a (by decide), find_txl hb2 hb16 a (by decide)]
    show plainM neg b (txl b a) = _
    unfold plainM
    rw [okN_txl hb2 hb16, rdN_txl hb2 hb16]
    exact lowest_co hq hg ha hqs hn
  · rw [if_neg h1]
    unfold bodyM
    rw [find_over hb2 hb16 a]
    show overM neg b _ _ = _
    rw [List.take_left' rfl, show (txl b a ++ 47 :: txl b q).drop ((txl b a).length + 1) = txl b q from by simp [List.drop_append, List.drop_eq_nil_of_le]]
    unfold overM
    rw [okN_txl hb2 hb16, okN_txl hb2 hb16, rdN_txl hb2 hb16, rdN_txl hb2 hb16]
    exact lowest_co hq hg ha hqs hn

theorem sign_print {neg : Bool} {a q b : Nat} (hb2 : 2 ≤ b) (hb16 : b ≤ 16) (hq : q ≠ 0) (hg : Nat.gcd a q = 1) (ha : (dec a).size ≤ 60) (hqs : (dec q).size ≤ 60) (hn : neg = true → a ≠ 0) :
    signB b (prM neg a q b) = some (neg, a, q) := by
  have hb := body_print hb2 hb16 hq hg ha hqs hn
  unfold prM
  cases neg with
  | true => simpa [signB] using hb
  | false =>
    rw [if_neg (by simp), List.nil_append]
    have hne : 0 < (txl b a).length := txl_length_pos hb2 a
    have h45 := txl_ne hb2 hb16 a (c := 45) (by decide)
    have h43 := txl_ne hb2 hb16 a (c := 43) (by decide)
    revert hb hne h45 h43
    cases txl b a with
    | nil => intro _ h; simp at h
    | cons c t =>
      intro hb _ h45 h43
      rw [List.cons_append] at hb ⊢
      show (if c = 45 then _ else if c = 43 then _ else _) = _
      rw [if_neg (h45 c (by simp)), if_neg (h43 c (by simp))]
      exact hb

theorem parse_print {neg : Bool} {u d : List UInt8} {b : Nat} (hok : okM neg u d = true) (hb4 : b = 2 ∨ b = 8 ∨ b = 10 ∨ b = 16) (hl : (printM neg u d b).length ≤ 240) :
    parseM (printM neg u d b) b = some (neg, valDec u, valDec d) := by
  have hr : isRadix (b : Int) = true := by rcases hb4 with rfl | rfl | rfl | rfl <;> rfl
  obtain ⟨h3, h4, hu, hd, hd0, hn0, hg⟩ := ok_parts hok
  have e : printM neg u d b = prM neg (valDec u) (valDec d) b := by unfold printM; rw [hok, hr]; simp
  rw [parse_yes _ b hb4 hl, e]
  exact sign_print (by omega) (by omega) hd0 hg (by rw [dec_len, ← isDec_val h3]; exact hu) (by rw [dec_len, ← isDec_val h4]; exact hd) hn0

theorem okM_mk {neg : Bool} {u d : List UInt8} (h1 : u.length ≤ 60) (h2 : d.length ≤ 60) (h3 : isDec u = true) (h4 : isDec d = true) (h5 : valDec d ≠ 0) (h6 : neg = true → valDec u ≠ 0) (h7 : Nat.gcd (valDec u) (valDec d) = 1) : okM neg u d = true := by
  unfold okM
  simp only [Bool.and_eq_true, decide_eq_true_eq, Bool.not_eq_true', Bool.and_eq_false_iff, decide_eq_false_iff_not]
  refine ⟨⟨⟨⟨⟨⟨h1, h2⟩, h3⟩, h4⟩, h5⟩, ?_⟩, h7⟩
  cases neg with
  | false => exact .inl rfl
  | true => exact .inr (h6 rfl)

theorem lowest_ok {neg n : Bool} {u d x y : Nat} (h : lowest neg u d = some (n, x, y)) : okM n (txl 10 x) (txl 10 y) = true := by
  unfold lowest at h
  split at h
  · cases h
  · rename_i hh
    simp only [Option.some.injEq, Prod.mk.injEq] at h
    obtain ⟨rfl, rfl, rfl⟩ := h
    have hd : d ≠ 0 := fun hd => hh (.inl hd)
    have h1 : ¬ 60 < (dec (u / Nat.gcd u d)).size := fun k => hh (.inr (.inl k))
    have h2 : ¬ 60 < (dec (d / Nat.gcd u d)).size := fun k => hh (.inr (.inr k))
    rw [dec_len] at h1 h2
    have hgp : 0 < Nat.gcd u d := Nat.gcd_pos_of_pos_right _ (by omega)
    have hdd : d / Nat.gcd u d ≠ 0 := by
      have := Nat.div_pos (Nat.le_of_dvd (by omega) (Nat.gcd_dvd_right u d)) hgp
      omega
    have hco : Nat.gcd (u / Nat.gcd u d) (d / Nat.gcd u d) = 1 := Nat.coprime_div_gcd_div_gcd hgp
    refine okM_mk (by omega) (by omega) (isDec_txl _) (isDec_txl _) (by rw [valDec_txl]; exact hdd) ?_ (by rw [valDec_txl, valDec_txl]; exact hco)
    intro hh
    rw [valDec_txl]
    intro h0
    rw [h0] at hh
    simp at hh

theorem body_lowest {neg : Bool} {b : Nat} {l : List UInt8} {p : Bool × Nat × Nat} (h : bodyM neg b l = some p) : ∃ u d, lowest neg u d = some p := by
  unfold bodyM overM pointM plainM at h
  split at h
  · split at h
    · exact ⟨_, _, h⟩
    · cases h
  · split at h
    · split at h
      · split at h
        · exact ⟨_, _, h⟩
        · cases h
      · split at h
        · exact ⟨_, _, h⟩
        · cases h
    · split at h
      · exact ⟨_, _, h⟩
      · cases h

theorem parse_ok {l : List UInt8} {r : Int} {n : Bool} {x y : Nat} (h : parseM l r = some (n, x, y)) : okM n (txl 10 x) (txl 10 y) = true := by
  have key : ∀ neg b l, bodyM neg b l = some (n, x, y) → okM n (txl 10 x) (txl 10 y) = true := by
    intro neg b l h
    obtain ⟨u, d, h⟩ := body_lowest h
    exact lowest_ok h
  unfold parseM at h
  split at h
  · unfold signB at h
    split at h
    · exact key _ _ _ h
    · split at h
      · exact key _ _ _ h
      · split at h
        · exact key _ _ _ h
        · exact key _ _ _ h
  · cases h

theorem noNum_B : noNum = numB false [] [] := rfl
theorem numV_B (n : Bool) (x y : Nat) : numV n (dec x) (dec y) = numB n (txl 10 x) (txl 10 y) := rfl

/-- an answer as fields -/
def ansN (o : Option (Bool × Nat × Nat)) : Bool := match o with | some (n, _, _) => n | none => false
def ansU (o : Option (Bool × Nat × Nat)) : List UInt8 := match o with | some (_, u, _) => txl 10 u | none => []
def ansD (o : Option (Bool × Nat × Nat)) : List UInt8 := match o with | some (_, _, d) => txl 10 d | none => []
theorem numO_B (o : Option (Bool × Nat × Nat)) : numO o = numB (ansN o) (ansU o) (ansD o) := by
  cases o with
  | none => rfl
  | some p => rfl
theorem okM_ans (l : List UInt8) (r : Int) : okM (ansN (parseM l r)) (ansU (parseM l r)) (ansD (parseM l r)) = (parseM l r).isSome := by
  cases h : parseM l r with
  | none => rfl
  | some p => obtain ⟨n, x, y⟩ := p; exact parse_ok h
theorem ans_len (l : List UInt8) (r : Int) : (ansU (parseM l r)).length ≤ 60 ∧ (ansD (parseM l r)).length ≤ 60 := by
  cases h : parseM l r with
  | none => exact ⟨by simp [ansU], by simp [ansD]⟩
  | some p =>
    obtain ⟨n, x, y⟩ := p
    have := ok_parts (parse_ok h)
    exact ⟨this.2.2.1, this.2.2.2.1⟩

theorem intV_B (i : Int) : intV i = numB (decide (i < 0)) (txl 10 i.natAbs) (txl 10 1) := rfl
theorem int_ok {i : Int} (h0 : -9223372036854775808 ≤ i) (h1 : i ≤ 9223372036854775807) : okM (decide (i < 0)) (txl 10 i.natAbs) (txl 10 1) = true := by
  have hl : (txl 10 i.natAbs).length ≤ 60 := txl_len_le (by omega) (by omega) (Nat.lt_of_le_of_lt (show i.natAbs ≤ 9223372036854775808 by omega) (by decide))
  refine okM_mk hl (by decide) (isDec_txl _) (isDec_txl _) (by rw [valDec_txl]; omega) ?_ (by rw [valDec_txl, valDec_txl]; exact Nat.gcd_one_right _)
  intro hi
  rw [valDec_txl]
  have := of_decide_eq_true hi
  omega
end Go.Proofs.YtpbnmhnbkfnaeaaGreatDoor
/- Rationals in lowest terms: what is written hangs on the rational alone. -/
namespace Go.Proofs.YtpbnmhnbkfnaeaaGreatDoor
open Go.RowKit Nt

def sgn (p : Bool × Nat) : Int := if p.1 then -(p.2 : Int) else (p.2 : Int)
def lowZ (z : Int) (d : Nat) : Option (Bool × Nat × Nat) := lowest (decide (z < 0)) z.natAbs d

theorem sgn_natAbs (p : Bool × Nat) : (sgn p).natAbs = p.2 := by unfold sgn; split <;> simp
theorem lowest_sgn (n : Bool) (u d : Nat) : lowest n u d = lowZ (sgn (n, u)) d := by
  unfold lowZ
  rw [sgn_natAbs]
  by_cases hu : u = 0
  · subst hu
    unfold lowest
    cases n <;> simp [sgn]
  · have : decide (sgn (n, u) < 0) = n := by
      cases n
      · simp [sgn]
      · simp [sgn]; omega
    rw [this]

theorem co_cross {a b a' b' : Nat} (h : Nat.gcd a b = 1) (h' : Nat.gcd a' b' = 1) (he : a * b' = a' * b) (hb : 0 < b) : a = a' ∧ b = b' := by
  have d1 : b ∣ b' := by
    have : b ∣ a * b' := ⟨a', by rw [he, Nat.mul_comm]⟩
    exact (Nat.Coprime.symm h).dvd_of_dvd_mul_left this
  have d2 : b' ∣ b := by
    have : b' ∣ a' * b := ⟨a, by rw [← he, Nat.mul_comm]⟩
    exact (Nat.Coprime.symm h').dvd_of_dvd_mul_left this
  have hbb : b = b' := Nat.dvd_antisymm d1 d2
  subst hbb
  exact ⟨Nat.eq_of_mul_eq_mul_right hb he, rfl⟩

theorem low_cross {u d u' d' : Nat} (hd : 0 < d) (hd' : 0 < d') (h : u * d' = u' * d) : u / Nat.gcd u d = u' / Nat.gcd u' d' ∧ d / Nat.gcd u d = d' / Nat.gcd u' d' := by
  have hg : 0 < Nat.gcd u d := Nat.gcd_pos_of_pos_right _ hd
  have hg' : 0 < Nat.gcd u' d' := Nat.gcd_pos_of_pos_right _ hd'
  have hc : Nat.gcd (u / Nat.gcd u d) (d / Nat.gcd u d) = 1 := Nat.coprime_div_gcd_div_gcd hg
  have hc' : Nat.gcd (u' / Nat.gcd u' d') (d' / Nat.gcd u' d') = 1 := Nat.coprime_div_gcd_div_gcd hg'
  have eu : Nat.gcd u d * (u / Nat.gcd u d) = u := Nat.mul_div_cancel' (Nat.gcd_dvd_left u d)
  have ed : Nat.gcd u d * (d / Nat.gcd u d) = d := Nat.mul_div_cancel' (Nat.gcd_dvd_right u d)
  have eu' : Nat.gcd u' d' * (u' / Nat.gcd u' d') = u' := Nat.mul_div_cancel' (Nat.gcd_dvd_left u' d')
  have ed' : Nat.gcd u' d' * (d' / Nat.gcd u' d') = d' := Nat.mul_div_cancel' (Nat.gcd_dvd_right u' d')
  have hb : 0 < d / Nat.gcd u d := Nat.div_pos (Nat.le_of_dvd hd (Nat.gcd_dvd_right u d)) hg
  generalize Nat.gcd u d = g at *
  generalize Nat.gcd u' d' = g' at *
  generalize u / g = a at *
  generalize d / g = b at *
  generalize u' / g' = a' at *
  generalize d' / g' = b' at *
  subst eu ed eu' ed'
  apply co_cross hc hc' _ hb
  have h2 : (g * g') * (a * b') = (g * g') * (a' * b) := by
    have e1 : g * a * (g' * b') = (g * g') * (a * b') := by simp only [Nat.mul_comm, Nat.mul_left_comm]
    have e2 : g' * a' * (g * b) = (g * g') * (a' * b) := by simp only [Nat.mul_comm, Nat.mul_left_comm]
    rw [← e1, ← e2, h]
  exact Nat.eq_of_mul_eq_mul_left (Nat.mul_pos hg hg') h2

theorem lowZ_eq {z z' : Int} {d d' : Nat} (hd : 0 < d) (hd' : 0 < d') (h : z * (d' : Int) = z' * (d : Int)) : lowZ z d = lowZ z' d' := by
  have hn : z.natAbs * d' = z'.natAbs * d := by
    have := congrArg Int.natAbs h
    rwa [Int.natAbs_mul, Int.natAbs_mul, Int.natAbs_natCast, Int.natAbs_natCast] at this
  have hs : decide (z < 0) = decide (z' < 0) := by
    have key : ∀ {x y : Int} {e f : Nat}, 0 < e → 0 < f → x * (f : Int) = y * (e : Int) → x < 0 → y < 0 := by
      intro x y e f he hf hh hx
      rcases (show y < 0 ∨ 0 ≤ y by omega) with h1 | h1
      · exact h1
      · have h2 : x * (f : Int) < 0 := Int.mul_neg_of_neg_of_pos hx (by omega)
        have h3 : 0 ≤ y * (e : Int) := Int.mul_nonneg h1 (by omega)
        omega
    by_cases h1 : z < 0
    · rw [decide_eq_true h1, decide_eq_true (key hd hd' h h1)]
    · have : ¬ z' < 0 := fun h2 => h1 (key hd' hd h.symm h2)
      rw [decide_eq_false h1, decide_eq_false this]
  obtain ⟨e1, e2⟩ := low_cross hd hd' hn
  unfold lowZ lowest
  rw [hs, e1, e2]
  have z1 : ¬ d = 0 := by omega
  have z2 : ¬ d' = 0 := by omega
  simp only [z1, z2, false_or]

/-- what is ok is its own lowest terms -/
theorem lowZ_ok {n : Bool} {x y : Nat} (h : okM n (txl 10 x) (txl 10 y) = true) : lowZ (sgn (n, x)) y = some (n, x, y) := by
  obtain ⟨_, _, h3, h4, h5, h6, h7⟩ := ok_parts h
  rw [valDec_txl] at h5 h6
  rw [valDec_txl, valDec_txl] at h7
  rw [← lowest_sgn]
  exact lowest_co h5 h7 (by rw [dec_len]; exact h3) (by rw [dec_len]; exact h4) h6

theorem plusW_sgn (p q : Bool × Nat) : sgn (plusW p q) = sgn p + sgn q := by
  obtain ⟨n, x⟩ := p
  obtain ⟨m, y⟩ := q
  unfold plusW sgn
  cases n <;> cases m <;> simp
  · by_cases h : x < y
    · simp [h]; omega
    · simp [h]; omega
  · by_cases h : x < y
    · simp [h]; omega
    · simp [h]; omega
  · omega

/-- the lowest terms of a rational stand for it -/
theorem lowZ_val {z : Int} {d : Nat} {n : Bool} {x y : Nat} (h : lowZ z d = some (n, x, y)) : 0 < d ∧ 0 < y ∧ sgn (n, x) * (d : Int) = z * (y : Int) := by
  unfold lowZ lowest at h
  split at h
  · cases h
  · rename_i hh
    have hd : 0 < d := by omega
    have hg : 0 < Nat.gcd z.natAbs d := Nat.gcd_pos_of_pos_right _ hd
    have ed : Nat.gcd z.natAbs d * (d / Nat.gcd z.natAbs d) = d := Nat.mul_div_cancel' (Nat.gcd_dvd_right _ d)
    have eu : Nat.gcd z.natAbs d * (z.natAbs / Nat.gcd z.natAbs d) = z.natAbs := Nat.mul_div_cancel' (Nat.gcd_dvd_left _ d)
    have hb : 0 < d / Nat.gcd z.natAbs d := Nat.div_pos (Nat.le_of_dvd hd (Nat.gcd_dvd_right _ d)) hg
    simp only [Option.some.injEq, Prod.mk.injEq] at h
    obtain ⟨h1, h2, h3⟩ := h
    rw [h2] at eu h1
    rw [h3] at ed hb
    generalize Nat.gcd z.natAbs d = g at *
    refine ⟨hd, hb, ?_⟩
    have hz : z = sgn (n, g * x) := by
      unfold sgn
      by_cases hx : x = 0
      · subst hx; simp at eu; simp; omega
      · by_cases hz0 : z < 0
        · have hn : n = true := by rw [← h1]; simp [hz0, hx]
          rw [hn]; simp; omega
        · have hn : n = false := by rw [← h1]; simp [hz0]
          rw [hn]; simp; omega
    rw [hz, ← ed]
    unfold sgn
    cases n
    · simp [Int.mul_comm, Int.mul_left_comm]
    · simp only [if_true, Int.natCast_mul, Int.neg_mul]
      congr 1
      simp [Int.mul_comm, Int.mul_left_comm]
end Go.Proofs.YtpbnmhnbkfnaeaaGreatDoor
