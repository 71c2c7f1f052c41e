/- A part of the proof, put together out of smaller texts: each piece says what it is for. -/
import Derived.Test.YtijgolgfcgkbiaaDoorM3
namespace Go.Proofs.YtijgolgfcgkbiaaDoor
open Go.RowKit Nt

def plainM (neg : Bool) (b : Nat) (l : List UInt8) : Option (Bool × Nat × Nat) := if okN b l then lowest neg (rdN b l) 1 else none
def bodyM (neg : Bool) (b : Nat) (l : List UInt8) : Option (Bool × Nat × Nat) :=
  match findB 47 l with
  | some k => overM neg b (l.take k) (l.drop (k + 1))
  | none => match findB 46 l with
    | some k => if b = 10 then pointM neg (l.take k) (l.drop (k + 1)) else plainM neg b l
    | none => plainM neg b l
def signB (b : Nat) : List UInt8 → Option (Bool × Nat × Nat)
  | [] => bodyM false b []
  | c :: t => if c = 45 then bodyM true b t else if c = 43 then bodyM false b t else bodyM false b (c :: t)
def parseM (l : List UInt8) (r : Int) : Option (Bool × Nat × Nat) := if isRadix r && decide (l.length ≤ 240) then signB r.toNat l else none

theorem findB_lt {c : UInt8} : ∀ {l : List UInt8} {k : Nat}, findB c l = some k → k < l.length := by
  intro l
  induction l with
  | nil => intro k h; simp [findB] at h
  | cons d r ih =>
    intro k h
    simp only [findB] at h
    split at h
    · simp at h; subst h; simp
    · cases hr : findB c r with
      | none => rw [hr] at h; simp at h
      | some j => rw [hr] at h; simp at h; subst h; have := ih hr; simp; omega

theorem l2Find_at (l : List UInt8) (c : UInt8) (n : Int) (hn : (c.toNat : Int) = n) (w : World) (hs : l.length ≤ 1000000000) :
    Calls Tryd.prog 35 #[.string (B l), .int .u8 n] w fun e w' => e = .returned (.int .i64 (findI c l)) ∧ w' = w := by
  subst hn; exact l2Find_c l c w hs

theorem isRadix_nat {r : Int} (h : isRadix r = true) : ∃ b : Nat, r = b ∧ (b = 2 ∨ b = 8 ∨ b = 10 ∨ b = 16) := by
  unfold isRadix at h
  simp only [Bool.or_eq_true, beq_iff_eq] at h
  exact ⟨r.toNat, by omega, by omega⟩



theorem parse_bad (l : List UInt8) (r : Int) (h : isRadix r = false ∨ 240 < l.length) : parseM l r = none := by
  unfold parseM
  rcases h with h | h
  · simp [h]
  · rw [decide_eq_false (by omega)]; simp

set_option maxRecDepth 100000 in
set_option maxHeartbeats 1000000 in
theorem specNumParse_no (l : List UInt8) (r : Int) (w : World) (hs : l.length ≤ 1000000000) (h : isRadix r = false ∨ 240 < l.length) :
    Calls Tryd.prog 7 #[.string (B l), .int .i64 r] w fun e w' => e = .returned (numAns (parseM l r)) ∧ Below w.heap.size w w' := by
  rw [parse_bad l r h]
  have hsz : (B l).size ≤ 1000000000 := by rw [B_size]; exact hs
  by_cases hr : isRadix r = false
  · clear h
    go_enter Tryd.func7, Tryd.ntmps7
    go_wp2_with fail
    refine (l2Radix_c r _).mono ?_
    rintro e w1 ⟨rfl, rfl⟩
    rw [hr]
    go_wp2
    refine bodyPost_ret (v := numAns none) (by simp [results, Tryd.results7, go_sem, numAns, numO, noNum, numV]) rfl ⟨rfl, ?_⟩
    exact (Below.refl _ _).alloc (Nat.le_refl _) _
  · have hr' : isRadix r = true := by simpa using hr
    have hl : 240 < (B l).size := by rw [B_size]; rcases h with h | h; exact absurd h hr; exact h
    clear h hr
    go_enter Tryd.func7, Tryd.ntmps7
    go_wp2_with fail
    refine (l2Radix_c r _).mono ?_
    rintro e w1 ⟨rfl, rfl⟩
    rw [hr']
    go_wp2
    refine bodyPost_ret (v := numAns none) (by simp [results, Tryd.results7, go_sem, numAns, numO, noNum, numV]) rfl ⟨rfl, ?_⟩
    exact (Below.refl _ _).alloc (Nat.le_refl _) _

theorem parse_yes (l : List UInt8) (b : Nat) (hb4 : b = 2 ∨ b = 8 ∨ b = 10 ∨ b = 16) (hl : l.length ≤ 240) : parseM l (b : Int) = signB b l := by
  have hr : isRadix (b : Int) = true := by rcases hb4 with rfl | rfl | rfl | rfl <;> rfl
  unfold parseM
  rw [hr, decide_eq_true hl]
  simp

set_option maxRecDepth 100000 in
set_option maxHeartbeats 2000000 in
theorem specNumParse_none (b : Nat) (w : World) (hb4 : b = 2 ∨ b = 8 ∨ b = 10 ∨ b = 16) :
    Calls Tryd.prog 7 #[.string (B []), .int .i64 b] w fun e w' => e = .returned (numAns (parseM [] b)) ∧ Below w.heap.size w w' := by
  obtain ⟨l, hl⟩ : ∃ l : List UInt8, l = [] := ⟨_, rfl⟩
  rw [← hl]
  have hr : isRadix (b : Int) = true := by rcases hb4 with rfl | rfl | rfl | rfl <;> rfl
  have hl2 : l.length ≤ 240 := by rw [hl]; simp
  have Hm : Hid (parseM l (b : Int) = bodyM false b l) := by show _ = _; rw [parse_yes l b hb4 hl2, hl]; rfl
  have hz : (B l).size ≤ 0 := by rw [B_size, hl]; simp
  clear hl
  go_enter Tryd.func7, Tryd.ntmps7
  go_wp2_with fail
  refine (l2Radix_c b _).mono ?_
  rintro e w1 ⟨rfl, rfl⟩
  rw [hr]
  -- false: the sign as a Bool; l: the text behind it (a list); wants hb4 : b = 2 ∨ .., hl2 : its length ≤ 240, Hm : Hid (parseM .. = bodyM false b l)
  go_wp2_with fail
  refine (l2Find_at l 47 47 rfl _ (by omega)).mono ?_
  rintro e w1 ⟨rfl, rfl⟩
  cases hf : findB 47 l with
  | some k =>
    have hfi : findI 47 l = (k : Int) := by unfold findI; rw [hf]
    have hk := findB_lt hf
    have Hov2 : Hid (parseM l (b : Int) = overM false b ((l).take k) ((l).drop (k + 1))) := by
      show _ = _
      rw [unhide Hm]; unfold bodyM; rw [hf]
    rw [hfi]
    clear hfi hf
    go_wp2_with fail
    refine (l2Over_c false l k b _ hk (by omega) (by omega) (by omega)).mono ?_
    rintro e w2 ⟨rfl, hb2⟩
    have hb0 := below_alloc_size hb2
    have c0 := newcell hb0 0
    have c1 := newcell hb0 1
    have c2 := newcell hb0 2
    have f0 := newfree hb0 0
    have f1 := newfree hb0 1
    have f2 := newfree hb0 2
    have hbX := below_new hb0
    simp at c0 c1 c2
    clear hb2 hb0
    -- behind l2Make's contract: 7 the function; the struct is stored and told. Wants: Hov2 : Hid (M = lowest ..), c0 c1 c2 f0 f1 f2 hbX, the answer's option overM false b ((l).take k) ((l).drop (k + 1))
    generalize overM false b ((l).take k) ((l).drop (k + 1)) = o at *
    unfold numAns
    obtain ⟨n3, u3, d3, ho⟩ : ∃ n3 u3 d3, numO o = numV n3 u3 d3 := by
      cases o with
      | none => exact ⟨_, _, _, rfl⟩
      | some p => exact ⟨_, _, _, rfl⟩
    have Ho := hide ho
    rw [ho]
    unfold numV
    clear ho
    go_wp2
    refine bodyPost_ret (v := numAns o) (by simp [results, Tryd.results7, go_sem, numAns, unhide Ho, numV, c0, c1, c2]) rfl ⟨by rw [unhide Hov2], ?_⟩
    exact below_three hbX _ (Nat.le_refl _) _ _ _
  | none =>
    have hfi : findI 47 l = -1 := by unfold findI; rw [hf]
    rw [hfi]
    clear hfi
    go_wp2_with fail
    refine (l2Find_at l 46 46 rfl _ (by omega)).mono ?_
    rintro e w2 ⟨rfl, rfl⟩
    have Hf := hide hf
    clear hf
    by_cases hpt : b = 10 ∧ ∃ k, findB 46 l = some k
    · obtain ⟨hb10, k, hfk⟩ := hpt
      have hfi : findI 46 l = (k : Int) := by unfold findI; rw [hfk]
      have hk := findB_lt hfk
      have Hov2 : Hid (parseM l (b : Int) = pointM false ((l).take k) ((l).drop (k + 1))) := by
        show _ = _
        rw [unhide Hm]; unfold bodyM; rw [unhide Hf]
        simp only [hfk]
        rw [if_pos hb10]
      rw [hfi]
      have hbq : ((b : Int) == 10) = true := by rw [beq_iff_eq]; omega
      clear hfi hfk hb10
      go_wp2_with fail
      refine (l2Point_c false l k _ hk (by omega)).mono ?_
      rintro e w3 ⟨rfl, hb3⟩
      have hb0 := below_alloc_size hb3
      have c0 := newcell hb0 0
      have c1 := newcell hb0 1
      have c2 := newcell hb0 2
      have f0 := newfree hb0 0
      have f1 := newfree hb0 1
      have f2 := newfree hb0 2
      have hbX := below_new hb0
      simp at c0 c1 c2
      clear hb3 hb0
      -- behind l2Make's contract: 7 the function; the struct is stored and told. Wants: Hov2 : Hid (M = lowest ..), c0 c1 c2 f0 f1 f2 hbX, the answer's option pointM false ((l).take k) ((l).drop (k + 1))
      generalize pointM false ((l).take k) ((l).drop (k + 1)) = o at *
      unfold numAns
      obtain ⟨n3, u3, d3, ho⟩ : ∃ n3 u3 d3, numO o = numV n3 u3 d3 := by
        cases o with
        | none => exact ⟨_, _, _, rfl⟩
        | some p => exact ⟨_, _, _, rfl⟩
      have Ho := hide ho
      rw [ho]
      unfold numV
      clear ho
      go_wp2
      refine bodyPost_ret (v := numAns o) (by simp [results, Tryd.results7, go_sem, numAns, unhide Ho, numV, c0, c1, c2]) rfl ⟨by rw [unhide Hov2], ?_⟩
      exact below_three hbX _ (Nat.le_refl _) _ _ _
    · have Hpl : Hid (parseM l (b : Int) = plainM false b l) := by
        show _ = _
        rw [unhide Hm]; unfold bodyM; rw [unhide Hf]
        cases hfk : findB 46 l with
        | none => rfl
        | some k =>
          simp only
          rw [if_neg (fun h => hpt ⟨h, k, hfk⟩)]
      have hsn := fun h => rdN_size (b := b) (l := l) (by omega) h
      have hvn : okN b l = true → natV b l = rdN b l := fun h => by unfold natV; rw [if_pos h]
      have Hpo : Hid (plainM false b l = if okN b l then lowest false (rdN b l) 1 else none) := hide rfl
      have d1 : dec 1 = ⟨#[49]⟩ := dec_one
      by_cases hfz : 0 ≤ findI 46 l
      · have hbq : ((b : Int) == 10) = false := by
          rw [beq_eq_false_iff_ne]
          intro hh
          apply hpt
          refine ⟨by omega, ?_⟩
          unfold findI at hfz
          cases hfk : findB 46 l with
          | none => rw [hfk] at hfz; simp at hfz
          | some k => exact ⟨k, rfl⟩
        clear hpt
        go_wp2_with fail
        refine (l2Nat_c l b _ (by omega) (by omega) (by omega)).mono ?_
        rintro e w3 ⟨rfl, hb3⟩
        unfold natAns
        have hb0 := below_alloc_size hb3
        have hzz : w.heap.size + 1 ≤ w3.heap.size := by have := hb3.size; simpa using this
        generalize natV b l = vx at *
        generalize okN b l = ox at *
        cases ox with
        | false =>
          have c0 := newcell hb0 0
          have c1 := newcell hb0 1
          have c2 := newcell hb0 2
          have f0 := newfree hb0 0
          have f1 := newfree hb0 1
          have f2 := newfree hb0 2
          have hbX := below_new hb0
          simp at c0 c1 c2
          clear hb3 hb0 hsn hvn d1
          go_wp2
          refine bodyPost_ret (v := numAns none) (by simp [results, Tryd.results7, go_sem, numAns, numO, noNum, numV, c0, c1, c2]) rfl ⟨by rw [unhide Hpl, unhide Hpo]; rfl, ?_⟩
          exact below_three hbX _ (Nat.le_refl _) _ _ _
        | true =>
          have h1 := hsn rfl
          rw [← hvn rfl] at h1
          have Hov2 : Hid (parseM l (b : Int) = lowest false vx 1) := by rw [hvn rfl]; exact (unhide Hpl).trans (unhide Hpo)
          have d1s := dec_small (n := 1) (by omega)
          clear hsn hvn
          go_wp2_with fail
          rw [← d1]
          clear d1
          refine (l2Make_c false vx 1 _ (by omega) (by omega)).mono ?_
          rintro e w4 ⟨rfl, hb4'⟩
          have hn4 := below_next hb0 hzz hb4'
          have c0 := newcell hn4.1 0
          have c1 := newcell hn4.1 1
          have c2 := newcell hn4.1 2
          have f0 := newfree hn4.1 0
          have f1 := newfree hn4.1 1
          have f2 := newfree hn4.1 2
          have hbX := below_new hn4.1
          simp at c0 c1 c2
          clear hb3 hb0 hb4' hn4
          -- behind l2Make's contract: 7 the function; the struct is stored and told. Wants: Hov2 : Hid (M = lowest ..), c0 c1 c2 f0 f1 f2 hbX, the answer's option lowest false vx 1
          generalize lowest false vx 1 = o at *
          unfold numAns
          obtain ⟨n3, u3, d3, ho⟩ : ∃ n3 u3 d3, numO o = numV n3 u3 d3 := by
            cases o with
            | none => exact ⟨_, _, _, rfl⟩
            | some p => exact ⟨_, _, _, rfl⟩
          have Ho := hide ho
          rw [ho]
          unfold numV
          clear ho
          go_wp2
          refine bodyPost_ret (v := numAns o) (by simp [results, Tryd.results7, go_sem, numAns, unhide Ho, numV, c0, c1, c2]) rfl ⟨by rw [unhide Hov2], ?_⟩
          exact below_three hbX _ (Nat.le_refl _) _ _ _
      · clear hpt
        go_wp2_with fail
        refine (l2Nat_c l b _ (by omega) (by omega) (by omega)).mono ?_
        rintro e w3 ⟨rfl, hb3⟩
        unfold natAns
        have hb0 := below_alloc_size hb3
        have hzz : w.heap.size + 1 ≤ w3.heap.size := by have := hb3.size; simpa using this
        generalize natV b l = vx at *
        generalize okN b l = ox at *
        cases ox with
        | false =>
          have c0 := newcell hb0 0
          have c1 := newcell hb0 1
          have c2 := newcell hb0 2
          have f0 := newfree hb0 0
          have f1 := newfree hb0 1
          have f2 := newfree hb0 2
          have hbX := below_new hb0
          simp at c0 c1 c2
          clear hb3 hb0 hsn hvn d1
          go_wp2
          refine bodyPost_ret (v := numAns none) (by simp [results, Tryd.results7, go_sem, numAns, numO, noNum, numV, c0, c1, c2]) rfl ⟨by rw [unhide Hpl, unhide Hpo]; rfl, ?_⟩
          exact below_three hbX _ (Nat.le_refl _) _ _ _
        | true =>
          have h1 := hsn rfl
          rw [← hvn rfl] at h1
          have Hov2 : Hid (parseM l (b : Int) = lowest false vx 1) := by rw [hvn rfl]; exact (unhide Hpl).trans (unhide Hpo)
          have d1s := dec_small (n := 1) (by omega)
          clear hsn hvn
          go_wp2_with fail
          rw [← d1]
          clear d1
          refine (l2Make_c false vx 1 _ (by omega) (by omega)).mono ?_
          rintro e w4 ⟨rfl, hb4'⟩
          have hn4 := below_next hb0 hzz hb4'
          have c0 := newcell hn4.1 0
          have c1 := newcell hn4.1 1
          have c2 := newcell hn4.1 2
          have f0 := newfree hn4.1 0
          have f1 := newfree hn4.1 1
          have f2 := newfree hn4.1 2
          have hbX := below_new hn4.1
          simp at c0 c1 c2
          clear hb3 hb0 hb4' hn4
          -- behind l2Make's contract: 7 the function; the struct is stored and told. Wants: Hov2 : Hid (M = lowest ..), c0 c1 c2 f0 f1 f2 hbX, the answer's option lowest false vx 1
          generalize lowest false vx 1 = o at *
          unfold numAns
          obtain ⟨n3, u3, d3, ho⟩ : ∃ n3 u3 d3, numO o = numV n3 u3 d3 := by
            cases o with
            | none => exact ⟨_, _, _, rfl⟩
            | some p => exact ⟨_, _, _, rfl⟩
          have Ho := hide ho
          rw [ho]
          unfold numV
          clear ho
          go_wp2
          refine bodyPost_ret (v := numAns o) (by simp [results, Tryd.results7, go_sem, numAns, unhide Ho, numV, c0, c1, c2]) rfl ⟨by rw [unhide Hov2], ?_⟩
          exact below_three hbX _ (Nat.le_refl _) _ _ _


set_option maxRecDepth 100000 in
set_option maxHeartbeats 2000000 in
theorem specNumParse_minus (t : List UInt8) (b : Nat) (w : World) (hb4 : b = 2 ∨ b = 8 ∨ b = 10 ∨ b = 16) (c : UInt8) (hc : c = 45) (hlen : (c :: t).length ≤ 240) :
    Calls Tryd.prog 7 #[.string (B (c :: t)), .int .i64 b] w fun e w' => e = .returned (numAns (parseM (c :: t) b)) ∧ Below w.heap.size w w' := by
  obtain ⟨l, hl⟩ : ∃ l : List UInt8, l = c :: t := ⟨_, rfl⟩
  rw [← hl]
  have hr : isRadix (b : Int) = true := by rcases hb4 with rfl | rfl | rfl | rfl <;> rfl
  have hl2 : l.length ≤ 240 := by rw [hl]; exact hlen
  have htl : t.length ≤ 240 := by simp at hlen; omega
  have hpos : 0 < (B l).size := by rw [B_size, hl]; simp
  have hposI : (0 : Int) < ((B l).size : Int) := by omega
  have hsz : (B l).size ≤ 240 := by rw [B_size]; exact hl2
  have hc0 : ((B l)[0]'hpos).toNat = c.toNat := by rw [B_get]; simp [hl]
  have hcut : (B l).extract 1 (B l).size = B t := by rw [B_extract, B_size, List.take_length, hl]; rfl
  have Hm : Hid (parseM l (b : Int) = bodyM true b t) := by show _ = _; rw [parse_yes l b hb4 hl2, hl]; simp [signB, hc]
  have hq : (((B l)[0]'hpos).toNat : Int) == 45 := by rw [hc0, hc]; rfl
  clear hl hc hc0 hlen
  go_enter Tryd.func7, Tryd.ntmps7
  go_wp2_with fail
  refine (l2Radix_c b _).mono ?_
  rintro e w1 ⟨rfl, rfl⟩
  rw [hr]
  -- true: the sign as a Bool; t: the text behind it (a list); wants hb4 : b = 2 ∨ .., hl2 : its length ≤ 240, Hm : Hid (parseM .. = bodyM true b t)
  go_wp2_with fail
  refine (l2Find_at t 47 47 rfl _ (by omega)).mono ?_
  rintro e w1 ⟨rfl, rfl⟩
  cases hf : findB 47 t with
  | some k =>
    have hfi : findI 47 t = (k : Int) := by unfold findI; rw [hf]
    have hk := findB_lt hf
    have Hov2 : Hid (parseM l (b : Int) = overM true b ((t).take k) ((t).drop (k + 1))) := by
      show _ = _
      rw [unhide Hm]; unfold bodyM; rw [hf]
    rw [hfi]
    clear hfi hf
    go_wp2_with fail
    refine (l2Over_c true t k b _ hk (by omega) (by omega) (by omega)).mono ?_
    rintro e w2 ⟨rfl, hb2⟩
    have hb0 := below_alloc_size hb2
    have c0 := newcell hb0 0
    have c1 := newcell hb0 1
    have c2 := newcell hb0 2
    have f0 := newfree hb0 0
    have f1 := newfree hb0 1
    have f2 := newfree hb0 2
    have hbX := below_new hb0
    simp at c0 c1 c2
    clear hb2 hb0
    -- behind l2Make's contract: 7 the function; the struct is stored and told. Wants: Hov2 : Hid (M = lowest ..), c0 c1 c2 f0 f1 f2 hbX, the answer's option overM true b ((t).take k) ((t).drop (k + 1))
    generalize overM true b ((t).take k) ((t).drop (k + 1)) = o at *
    unfold numAns
    obtain ⟨n3, u3, d3, ho⟩ : ∃ n3 u3 d3, numO o = numV n3 u3 d3 := by
      cases o with
      | none => exact ⟨_, _, _, rfl⟩
      | some p => exact ⟨_, _, _, rfl⟩
    have Ho := hide ho
    rw [ho]
    unfold numV
    clear ho
    go_wp2
    refine bodyPost_ret (v := numAns o) (by simp [results, Tryd.results7, go_sem, numAns, unhide Ho, numV, c0, c1, c2]) rfl ⟨by rw [unhide Hov2], ?_⟩
    exact below_three hbX _ (Nat.le_refl _) _ _ _
  | none =>
    have hfi : findI 47 t = -1 := by unfold findI; rw [hf]
    rw [hfi]
    clear hfi
    go_wp2_with fail
    refine (l2Find_at t 46 46 rfl _ (by omega)).mono ?_
    rintro e w2 ⟨rfl, rfl⟩
    have Hf := hide hf
    clear hf
    by_cases hpt : b = 10 ∧ ∃ k, findB 46 t = some k
    · obtain ⟨hb10, k, hfk⟩ := hpt
      have hfi : findI 46 t = (k : Int) := by unfold findI; rw [hfk]
      have hk := findB_lt hfk
      have Hov2 : Hid (parseM l (b : Int) = pointM true ((t).take k) ((t).drop (k + 1))) := by
        show _ = _
        rw [unhide Hm]; unfold bodyM; rw [unhide Hf]
        simp only [hfk]
        rw [if_pos hb10]
      rw [hfi]
      have hbq : ((b : Int) == 10) = true := by rw [beq_iff_eq]; omega
      clear hfi hfk hb10
      go_wp2_with fail
      refine (l2Point_c true t k _ hk (by omega)).mono ?_
      rintro e w3 ⟨rfl, hb3⟩
      have hb0 := below_alloc_size hb3
      have c0 := newcell hb0 0
      have c1 := newcell hb0 1
      have c2 := newcell hb0 2
      have f0 := newfree hb0 0
      have f1 := newfree hb0 1
      have f2 := newfree hb0 2
      have hbX := below_new hb0
      simp at c0 c1 c2
      clear hb3 hb0
      -- behind l2Make's contract: 7 the function; the struct is stored and told. Wants: Hov2 : Hid (M = lowest ..), c0 c1 c2 f0 f1 f2 hbX, the answer's option pointM true ((t).take k) ((t).drop (k + 1))
      generalize pointM true ((t).take k) ((t).drop (k + 1)) = o at *
      unfold numAns
      obtain ⟨n3, u3, d3, ho⟩ : ∃ n3 u3 d3, numO o = numV n3 u3 d3 := by
        cases o with
        | none => exact ⟨_, _, _, rfl⟩
        | some p => exact ⟨_, _, _, rfl⟩
      have Ho := hide ho
      rw [ho]
      unfold numV
      clear ho
      go_wp2
      refine bodyPost_ret (v := numAns o) (by simp [results, Tryd.results7, go_sem, numAns, unhide Ho, numV, c0, c1, c2]) rfl ⟨by rw [unhide Hov2], ?_⟩
      exact below_three hbX _ (Nat.le_refl _) _ _ _
    · have Hpl : Hid (parseM l (b : Int) = plainM true b t) := by
        show _ = _
        rw [unhide Hm]; unfold bodyM; rw [unhide Hf]
        cases hfk : findB 46 t with
        | none => rfl
        | some k =>
          simp only
          rw [if_neg (fun h => hpt ⟨h, k, hfk⟩)]
      have hsn := fun h => rdN_size (b := b) (l := t) (by omega) h
      have hvn : okN b t = true → natV b t = rdN b t := fun h => by unfold natV; rw [if_pos h]
      have Hpo : Hid (plainM true b t = if okN b t then lowest true (rdN b t) 1 else none) := hide rfl
      have d1 : dec 1 = ⟨#[49]⟩ := dec_one
      by_cases hfz : 0 ≤ findI 46 t
      · have hbq : ((b : Int) == 10) = false := by
          rw [beq_eq_false_iff_ne]
          intro hh
          apply hpt
          refine ⟨by omega, ?_⟩
          unfold findI at hfz
          cases hfk : findB 46 t with
          | none => rw [hfk] at hfz; simp at hfz
          | some k => exact ⟨k, rfl⟩
        clear hpt
        go_wp2_with fail
        refine (l2Nat_c t b _ (by omega) (by omega) (by omega)).mono ?_
        rintro e w3 ⟨rfl, hb3⟩
        unfold natAns
        have hb0 := below_alloc_size hb3
        have hzz : w.heap.size + 1 ≤ w3.heap.size := by have := hb3.size; simpa using this
        generalize natV b t = vx at *
        generalize okN b t = ox at *
        cases ox with
        | false =>
          have c0 := newcell hb0 0
          have c1 := newcell hb0 1
          have c2 := newcell hb0 2
          have f0 := newfree hb0 0
          have f1 := newfree hb0 1
          have f2 := newfree hb0 2
          have hbX := below_new hb0
          simp at c0 c1 c2
          clear hb3 hb0 hsn hvn d1
          go_wp2
          refine bodyPost_ret (v := numAns none) (by simp [results, Tryd.results7, go_sem, numAns, numO, noNum, numV, c0, c1, c2]) rfl ⟨by rw [unhide Hpl, unhide Hpo]; rfl, ?_⟩
          exact below_three hbX _ (Nat.le_refl _) _ _ _
        | true =>
          have h1 := hsn rfl
          rw [← hvn rfl] at h1
          have Hov2 : Hid (parseM l (b : Int) = lowest true vx 1) := by rw [hvn rfl]; exact (unhide Hpl).trans (unhide Hpo)
          have d1s := dec_small (n := 1) (by omega)
          clear hsn hvn
          go_wp2_with fail
          rw [← d1]
          clear d1
          refine (l2Make_c true vx 1 _ (by omega) (by omega)).mono ?_
          rintro e w4 ⟨rfl, hb4'⟩
          have hn4 := below_next hb0 hzz hb4'
          have c0 := newcell hn4.1 0
          have c1 := newcell hn4.1 1
          have c2 := newcell hn4.1 2
          have f0 := newfree hn4.1 0
          have f1 := newfree hn4.1 1
          have f2 := newfree hn4.1 2
          have hbX := below_new hn4.1
          simp at c0 c1 c2
          clear hb3 hb0 hb4' hn4
          -- behind l2Make's contract: 7 the function; the struct is stored and told. Wants: Hov2 : Hid (M = lowest ..), c0 c1 c2 f0 f1 f2 hbX, the answer's option lowest true vx 1
          generalize lowest true vx 1 = o at *
          unfold numAns
          obtain ⟨n3, u3, d3, ho⟩ : ∃ n3 u3 d3, numO o = numV n3 u3 d3 := by
            cases o with
            | none => exact ⟨_, _, _, rfl⟩
            | some p => exact ⟨_, _, _, rfl⟩
          have Ho := hide ho
          rw [ho]
          unfold numV
          clear ho
          go_wp2
          refine bodyPost_ret (v := numAns o) (by simp [results, Tryd.results7, go_sem, numAns, unhide Ho, numV, c0, c1, c2]) rfl ⟨by rw [unhide Hov2], ?_⟩
          exact below_three hbX _ (Nat.le_refl _) _ _ _
      · clear hpt
        go_wp2_with fail
        refine (l2Nat_c t b _ (by omega) (by omega) (by omega)).mono ?_
        rintro e w3 ⟨rfl, hb3⟩
        unfold natAns
        have hb0 := below_alloc_size hb3
        have hzz : w.heap.size + 1 ≤ w3.heap.size := by have := hb3.size; simpa using this
        generalize natV b t = vx at *
        generalize okN b t = ox at *
        cases ox with
        | false =>
          have c0 := newcell hb0 0
          have c1 := newcell hb0 1
          have c2 := newcell hb0 2
          have f0 := newfree hb0 0
          have f1 := newfree hb0 1
          have f2 := newfree hb0 2
          have hbX := below_new hb0
          simp at c0 c1 c2
          clear hb3 hb0 hsn hvn d1
          go_wp2
          refine bodyPost_ret (v := numAns none) (by simp [results, Tryd.results7, go_sem, numAns, numO, noNum, numV, c0, c1, c2]) rfl ⟨by rw [unhide Hpl, unhide Hpo]; rfl, ?_⟩
          exact below_three hbX _ (Nat.le_refl _) _ _ _
        | true =>
          have h1 := hsn rfl
          rw [← hvn rfl] at h1
          have Hov2 : Hid (parseM l (b : Int) = lowest true vx 1) := by rw [hvn rfl]; exact (unhide Hpl).trans (unhide Hpo)
          have d1s := dec_small (n := 1) (by omega)
          clear hsn hvn
          go_wp2_with fail
          rw [← d1]
          clear d1
          refine (l2Make_c true vx 1 _ (by omega) (by omega)).mono ?_
          rintro e w4 ⟨rfl, hb4'⟩
          have hn4 := below_next hb0 hzz hb4'
          have c0 := newcell hn4.1 0
          have c1 := newcell hn4.1 1
          have c2 := newcell hn4.1 2
          have f0 := newfree hn4.1 0
          have f1 := newfree hn4.1 1
          have f2 := newfree hn4.1 2
          have hbX := below_new hn4.1
          simp at c0 c1 c2
          clear hb3 hb0 hb4' hn4
          -- behind l2Make's contract: 7 the function; the struct is stored and told. Wants: Hov2 : Hid (M = lowest ..), c0 c1 c2 f0 f1 f2 hbX, the answer's option lowest true vx 1
          generalize lowest true vx 1 = o at *
          unfold numAns
          obtain ⟨n3, u3, d3, ho⟩ : ∃ n3 u3 d3, numO o = numV n3 u3 d3 := by
            cases o with
            | none => exact ⟨_, _, _, rfl⟩
            | some p => exact ⟨_, _, _, rfl⟩
          have Ho := hide ho
          rw [ho]
          unfold numV
          clear ho
          go_wp2
          refine bodyPost_ret (v := numAns o) (by simp [results, Tryd.results7, go_sem, numAns, unhide Ho, numV, c0, c1, c2]) rfl ⟨by rw [unhide Hov2], ?_⟩
          exact below_three hbX _ (Nat.le_refl _) _ _ _

set_option maxRecDepth 100000 in
set_option maxHeartbeats 2000000 in
theorem specNumParse_plus (t : List UInt8) (b : Nat) (w : World) (hb4 : b = 2 ∨ b = 8 ∨ b = 10 ∨ b = 16) (c : UInt8) (hc : c = 43) (hlen : (c :: t).length ≤ 240) :
    Calls Tryd.prog 7 #[.string (B (c :: t)), .int .i64 b] w fun e w' => e = .returned (numAns (parseM (c :: t) b)) ∧ Below w.heap.size w w' := by
  obtain ⟨l, hl⟩ : ∃ l : List UInt8, l = c :: t := ⟨_, rfl⟩
  rw [← hl]
  have hr : isRadix (b : Int) = true := by rcases hb4 with rfl | rfl | rfl | rfl <;> rfl
  have hl2 : l.length ≤ 240 := by rw [hl]; exact hlen
  have htl : t.length ≤ 240 := by simp at hlen; omega
  have hpos : 0 < (B l).size := by rw [B_size, hl]; simp
  have hposI : (0 : Int) < ((B l).size : Int) := by omega
  have hsz : (B l).size ≤ 240 := by rw [B_size]; exact hl2
  have hc0 : ((B l)[0]'hpos).toNat = c.toNat := by rw [B_get]; simp [hl]
  have hcut : (B l).extract 1 (B l).size = B t := by rw [B_extract, B_size, List.take_length, hl]; rfl
  have Hm : Hid (parseM l (b : Int) = bodyM false b t) := by show _ = _; rw [parse_yes l b hb4 hl2, hl]; simp [signB, hc]
  have hq : ((((B l)[0]'hpos).toNat : Int) == 45) = false := by rw [hc0, hc]; rfl
  have hq2 : ((((B l)[0]'hpos).toNat : Int) == 43) = true := by rw [hc0, hc]; rfl
  clear hl hc hc0 hlen
  go_enter Tryd.func7, Tryd.ntmps7
  go_wp2_with fail
  refine (l2Radix_c b _).mono ?_
  rintro e w1 ⟨rfl, rfl⟩
  rw [hr]
  -- false: the sign as a Bool; t: the text behind it (a list); wants hb4 : b = 2 ∨ .., hl2 : its length ≤ 240, Hm : Hid (parseM .. = bodyM false b t)
  go_wp2_with fail
  refine (l2Find_at t 47 47 rfl _ (by omega)).mono ?_
  rintro e w1 ⟨rfl, rfl⟩
  cases hf : findB 47 t with
  | some k =>
    have hfi : findI 47 t = (k : Int) := by unfold findI; rw [hf]
    have hk := findB_lt hf
    have Hov2 : Hid (parseM l (b : Int) = overM false b ((t).take k) ((t).drop (k + 1))) := by
      show _ = _
      rw [unhide Hm]; unfold bodyM; rw [hf]
    rw [hfi]
    clear hfi hf
    go_wp2_with fail
    refine (l2Over_c false t k b _ hk (by omega) (by omega) (by omega)).mono ?_
    rintro e w2 ⟨rfl, hb2⟩
    have hb0 := below_alloc_size hb2
    have c0 := newcell hb0 0
    have c1 := newcell hb0 1
    have c2 := newcell hb0 2
    have f0 := newfree hb0 0
    have f1 := newfree hb0 1
    have f2 := newfree hb0 2
    have hbX := below_new hb0
    simp at c0 c1 c2
    clear hb2 hb0
    -- behind l2Make's contract: 7 the function; the struct is stored and told. Wants: Hov2 : Hid (M = lowest ..), c0 c1 c2 f0 f1 f2 hbX, the answer's option overM false b ((t).take k) ((t).drop (k + 1))
    generalize overM false b ((t).take k) ((t).drop (k + 1)) = o at *
    unfold numAns
    obtain ⟨n3, u3, d3, ho⟩ : ∃ n3 u3 d3, numO o = numV n3 u3 d3 := by
      cases o with
      | none => exact ⟨_, _, _, rfl⟩
      | some p => exact ⟨_, _, _, rfl⟩
    have Ho := hide ho
    rw [ho]
    unfold numV
    clear ho
    go_wp2
    refine bodyPost_ret (v := numAns o) (by simp [results, Tryd.results7, go_sem, numAns, unhide Ho, numV, c0, c1, c2]) rfl ⟨by rw [unhide Hov2], ?_⟩
    exact below_three hbX _ (Nat.le_refl _) _ _ _
  | none =>
    have hfi : findI 47 t = -1 := by unfold findI; rw [hf]
    rw [hfi]
    clear hfi
    go_wp2_with fail
    refine (l2Find_at t 46 46 rfl _ (by omega)).mono ?_
    rintro e w2 ⟨rfl, rfl⟩
    have Hf := hide hf
    clear hf
    by_cases hpt : b = 10 ∧ ∃ k, findB 46 t = some k
    · obtain ⟨hb10, k, hfk⟩ := hpt
      have hfi : findI 46 t = (k : Int) := by unfold findI; rw [hfk]
      have hk := findB_lt hfk
      have Hov2 : Hid (parseM l (b : Int) = pointM false ((t).take k) ((t).drop (k + 1))) := by
        show _ = _
        rw [unhide Hm]; unfold bodyM; rw [unhide Hf]
        simp only [hfk]
        rw [if_pos hb10]
      rw [hfi]
      have hbq : ((b : Int) == 10) = true := by rw [beq_iff_eq]; omega
      clear hfi hfk hb10
      go_wp2_with fail
      refine (l2Point_c false t k _ hk (by omega)).mono ?_
      rintro e w3 ⟨rfl, hb3⟩
      have hb0 := below_alloc_size hb3
      have c0 := newcell hb0 0
      have c1 := newcell hb0 1
      have c2 := newcell hb0 2
      have f0 := newfree hb0 0
      have f1 := newfree hb0 1
      have f2 := newfree hb0 2
      have hbX := below_new hb0
      simp at c0 c1 c2
      clear hb3 hb0
      -- behind l2Make's contract: 7 the function; the struct is stored and told. Wants: Hov2 : Hid (M = lowest ..), c0 c1 c2 f0 f1 f2 hbX, the answer's option pointM false ((t).take k) ((t).drop (k + 1))
      generalize pointM false ((t).take k) ((t).drop (k + 1)) = o at *
      unfold numAns
      obtain ⟨n3, u3, d3, ho⟩ : ∃ n3 u3 d3, numO o = numV n3 u3 d3 := by
        cases o with
        | none => exact ⟨_, _, _, rfl⟩
        | some p => exact ⟨_, _, _, rfl⟩
      have Ho := hide ho
      rw [ho]
      unfold numV
      clear ho
      go_wp2
      refine bodyPost_ret (v := numAns o) (by simp [results, Tryd.results7, go_sem, numAns, unhide Ho, numV, c0, c1, c2]) rfl ⟨by rw [unhide Hov2], ?_⟩
      exact below_three hbX _ (Nat.le_refl _) _ _ _
    · have Hpl : Hid (parseM l (b : Int) = plainM false b t) := by
        show _ = _
        rw [unhide Hm]; unfold bodyM; rw [unhide Hf]
        cases hfk : findB 46 t with
        | none => rfl
        | some k =>
          simp only
          rw [if_neg (fun h => hpt ⟨h, k, hfk⟩)]
      have hsn := fun h => rdN_size (b := b) (l := t) (by omega) h
      have hvn : okN b t = true → natV b t = rdN b t := fun h => by unfold natV; rw [if_pos h]
      have Hpo : Hid (plainM false b t = if okN b t then lowest false (rdN b t) 1 else none) := hide rfl
      have d1 : dec 1 = ⟨#[49]⟩ := dec_one
      by_cases hfz : 0 ≤ findI 46 t
      · have hbq : ((b : Int) == 10) = false := by
          rw [beq_eq_false_iff_ne]
          intro hh
          apply hpt
          refine ⟨by omega, ?_⟩
          unfold findI at hfz
          cases hfk : findB 46 t with
          | none => rw [hfk] at hfz; simp at hfz
          | some k => exact ⟨k, rfl⟩
        clear hpt
        go_wp2_with fail
        refine (l2Nat_c t b _ (by omega) (by omega) (by omega)).mono ?_
        rintro e w3 ⟨rfl, hb3⟩
        unfold natAns
        have hb0 := below_alloc_size hb3
        have hzz : w.heap.size + 1 ≤ w3.heap.size := by have := hb3.size; simpa using this
        generalize natV b t = vx at *
        generalize okN b t = ox at *
        cases ox with
        | false =>
          have c0 := newcell hb0 0
          have c1 := newcell hb0 1
          have c2 := newcell hb0 2
          have f0 := newfree hb0 0
          have f1 := newfree hb0 1
          have f2 := newfree hb0 2
          have hbX := below_new hb0
          simp at c0 c1 c2
          clear hb3 hb0 hsn hvn d1
          go_wp2
          refine bodyPost_ret (v := numAns none) (by simp [results, Tryd.results7, go_sem, numAns, numO, noNum, numV, c0, c1, c2]) rfl ⟨by rw [unhide Hpl, unhide Hpo]; rfl, ?_⟩
          exact below_three hbX _ (Nat.le_refl _) _ _ _
        | true =>
          have h1 := hsn rfl
          rw [← hvn rfl] at h1
          have Hov2 : Hid (parseM l (b : Int) = lowest false vx 1) := by rw [hvn rfl]; exact (unhide Hpl).trans (unhide Hpo)
          have d1s := dec_small (n := 1) (by omega)
          clear hsn hvn
          go_wp2_with fail
          rw [← d1]
          clear d1
          refine (l2Make_c false vx 1 _ (by omega) (by omega)).mono ?_
          rintro e w4 ⟨rfl, hb4'⟩
          have hn4 := below_next hb0 hzz hb4'
          have c0 := newcell hn4.1 0
          have c1 := newcell hn4.1 1
          have c2 := newcell hn4.1 2
          have f0 := newfree hn4.1 0
          have f1 := newfree hn4.1 1
          have f2 := newfree hn4.1 2
          have hbX := below_new hn4.1
          simp at c0 c1 c2
          clear hb3 hb0 hb4' hn4
          -- behind l2Make's contract: 7 the function; the struct is stored and told. Wants: Hov2 : Hid (M = lowest ..), c0 c1 c2 f0 f1 f2 hbX, the answer's option lowest false vx 1
          generalize lowest false vx 1 = o at *
          unfold numAns
          obtain ⟨n3, u3, d3, ho⟩ : ∃ n3 u3 d3, numO o = numV n3 u3 d3 := by
            cases o with
            | none => exact ⟨_, _, _, rfl⟩
            | some p => exact ⟨_, _, _, rfl⟩
          have Ho := hide ho
          rw [ho]
          unfold numV
          clear ho
          go_wp2
          refine bodyPost_ret (v := numAns o) (by simp [results, Tryd.results7, go_sem, numAns, unhide Ho, numV, c0, c1, c2]) rfl ⟨by rw [unhide Hov2], ?_⟩
          exact below_three hbX _ (Nat.le_refl _) _ _ _
      · clear hpt
        go_wp2_with fail
        refine (l2Nat_c t b _ (by omega) (by omega) (by omega)).mono ?_
        rintro e w3 ⟨rfl, hb3⟩
        unfold natAns
        have hb0 := below_alloc_size hb3
        have hzz : w.heap.size + 1 ≤ w3.heap.size := by have := hb3.size; simpa using this
        generalize natV b t = vx at *
        generalize okN b t = ox at *
        cases ox with
        | false =>
          have c0 := newcell hb0 0
          have c1 := newcell hb0 1
          have c2 := newcell hb0 2
          have f0 := newfree hb0 0
          have f1 := newfree hb0 1
          have f2 := newfree hb0 2
          have hbX := below_new hb0
          simp at c0 c1 c2
          clear hb3 hb0 hsn hvn d1
          go_wp2
          refine bodyPost_ret (v := numAns none) (by simp [results, Tryd.results7, go_sem, numAns, numO, noNum, numV, c0, c1, c2]) rfl ⟨by rw [unhide Hpl, unhide Hpo]; rfl, ?_⟩
          exact below_three hbX _ (Nat.le_refl _) _ _ _
        | true =>
          have h1 := hsn rfl
          rw [← hvn rfl] at h1
          have Hov2 : Hid (parseM l (b : Int) = lowest false vx 1) := by rw [hvn rfl]; exact (unhide Hpl).trans (unhide Hpo)
          have d1s := dec_small (n := 1) (by omega)
          clear hsn hvn
          go_wp2_with fail
          rw [← d1]
          clear d1
          refine (l2Make_c false vx 1 _ (by omega) (by omega)).mono ?_
          rintro e w4 ⟨rfl, hb4'⟩
          have hn4 := below_next hb0 hzz hb4'
          have c0 := newcell hn4.1 0
          have c1 := newcell hn4.1 1
          have c2 := newcell hn4.1 2
          have f0 := newfree hn4.1 0
          have f1 := newfree hn4.1 1
          have f2 := newfree hn4.1 2
          have hbX := below_new hn4.1
          simp at c0 c1 c2
          clear hb3 hb0 hb4' hn4
          -- behind l2Make's contract: 7 the function; the struct is stored and told. Wants: Hov2 : Hid (M = lowest ..), c0 c1 c2 f0 f1 f2 hbX, the answer's option lowest false vx 1
          generalize lowest false vx 1 = o at *
          unfold numAns
          obtain ⟨n3, u3, d3, ho⟩ : ∃ n3 u3 d3, numO o = numV n3 u3 d3 := by
            cases o with
            | none => exact ⟨_, _, _, rfl⟩
            | some p => exact ⟨_, _, _, rfl⟩
          have Ho := hide ho
          rw [ho]
          unfold numV
          clear ho
          go_wp2
          refine bodyPost_ret (v := numAns o) (by simp [results, Tryd.results7, go_sem, numAns, unhide Ho, numV, c0, c1, c2]) rfl ⟨by rw [unhide Hov2], ?_⟩
          exact below_three hbX _ (Nat.le_refl _) _ _ _

set_option maxRecDepth 100000 in
set_option maxHeartbeats 2000000 in
theorem specNumParse_bare (t : List UInt8) (b : Nat) (w : World) (hb4 : b = 2 ∨ b = 8 ∨ b = 10 ∨ b = 16) (c : UInt8) (hc : c ≠ 45) (hc2 : c ≠ 43) (hlen : (c :: t).length ≤ 240) :
    Calls Tryd.prog 7 #[.string (B (c :: t)), .int .i64 b] w fun e w' => e = .returned (numAns (parseM (c :: t) b)) ∧ Below w.heap.size w w' := by
  obtain ⟨l, hl⟩ : ∃ l : List UInt8, l = c :: t := ⟨_, rfl⟩
  rw [← hl]
  have hr : isRadix (b : Int) = true := by rcases hb4 with rfl | rfl | rfl | rfl <;> rfl
  have hl2 : l.length ≤ 240 := by rw [hl]; exact hlen
  have htl : t.length ≤ 240 := by simp at hlen; omega
  have hpos : 0 < (B l).size := by rw [B_size, hl]; simp
  have hposI : (0 : Int) < ((B l).size : Int) := by omega
  have hsz : (B l).size ≤ 240 := by rw [B_size]; exact hl2
  have hc0 : ((B l)[0]'hpos).toNat = c.toNat := by rw [B_get]; simp [hl]
  have hcut : (B l).extract 1 (B l).size = B t := by rw [B_extract, B_size, List.take_length, hl]; rfl
  have Hm : Hid (parseM l (b : Int) = bodyM false b l) := by show _ = _; rw [parse_yes l b hb4 hl2, hl]; simp [signB, hc, hc2]
  have hq : ((((B l)[0]'hpos).toNat : Int) == 45) = false := by
    rw [hc0, beq_eq_false_iff_ne]; intro hh; apply hc; apply UInt8.toNat_inj.1; simp only [UInt8.toNat_ofNat]; omega
  have hq2 : ((((B l)[0]'hpos).toNat : Int) == 43) = false := by
    rw [hc0, beq_eq_false_iff_ne]; intro hh; apply hc2; apply UInt8.toNat_inj.1; simp only [UInt8.toNat_ofNat]; omega
  clear hl hc hc2 hc0 hlen hcut
  go_enter Tryd.func7, Tryd.ntmps7
  go_wp2_with fail
  refine (l2Radix_c b _).mono ?_
  rintro e w1 ⟨rfl, rfl⟩
  rw [hr]
  -- false: the sign as a Bool; l: the text behind it (a list); wants hb4 : b = 2 ∨ .., hl2 : its length ≤ 240, Hm : Hid (parseM .. = bodyM false b l)
  go_wp2_with fail
  refine (l2Find_at l 47 47 rfl _ (by omega)).mono ?_
  rintro e w1 ⟨rfl, rfl⟩
  cases hf : findB 47 l with
  | some k =>
    have hfi : findI 47 l = (k : Int) := by unfold findI; rw [hf]
    have hk := findB_lt hf
    have Hov2 : Hid (parseM l (b : Int) = overM false b ((l).take k) ((l).drop (k + 1))) := by
      show _ = _
      rw [unhide Hm]; unfold bodyM; rw [hf]
    rw [hfi]
    clear hfi hf
    go_wp2_with fail
    refine (l2Over_c false l k b _ hk (by omega) (by omega) (by omega)).mono ?_
    rintro e w2 ⟨rfl, hb2⟩
    have hb0 := below_alloc_size hb2
    have c0 := newcell hb0 0
    have c1 := newcell hb0 1
    have c2 := newcell hb0 2
    have f0 := newfree hb0 0
    have f1 := newfree hb0 1
    have f2 := newfree hb0 2
    have hbX := below_new hb0
    simp at c0 c1 c2
    clear hb2 hb0
    -- behind l2Make's contract: 7 the function; the struct is stored and told. Wants: Hov2 : Hid (M = lowest ..), c0 c1 c2 f0 f1 f2 hbX, the answer's option overM false b ((l).take k) ((l).drop (k + 1))
    generalize overM false b ((l).take k) ((l).drop (k + 1)) = o at *
    unfold numAns
    obtain ⟨n3, u3, d3, ho⟩ : ∃ n3 u3 d3, numO o = numV n3 u3 d3 := by
      cases o with
      | none => exact ⟨_, _, _, rfl⟩
      | some p => exact ⟨_, _, _, rfl⟩
    have Ho := hide ho
    rw [ho]
    unfold numV
    clear ho
    go_wp2
    refine bodyPost_ret (v := numAns o) (by simp [results, Tryd.results7, go_sem, numAns, unhide Ho, numV, c0, c1, c2]) rfl ⟨by rw [unhide Hov2], ?_⟩
    exact below_three hbX _ (Nat.le_refl _) _ _ _
  | none =>
    have hfi : findI 47 l = -1 := by unfold findI; rw [hf]
    rw [hfi]
    clear hfi
    go_wp2_with fail
    refine (l2Find_at l 46 46 rfl _ (by omega)).mono ?_
    rintro e w2 ⟨rfl, rfl⟩
    have Hf := hide hf
    clear hf
    by_cases hpt : b = 10 ∧ ∃ k, findB 46 l = some k
    · obtain ⟨hb10, k, hfk⟩ := hpt
      have hfi : findI 46 l = (k : Int) := by unfold findI; rw [hfk]
      have hk := findB_lt hfk
      have Hov2 : Hid (parseM l (b : Int) = pointM false ((l).take k) ((l).drop (k + 1))) := by
        show _ = _
        rw [unhide Hm]; unfold bodyM; rw [unhide Hf]
        simp only [hfk]
        rw [if_pos hb10]
      rw [hfi]
      have hbq : ((b : Int) == 10) = true := by rw [beq_iff_eq]; omega
      clear hfi hfk hb10
      go_wp2_with fail
      refine (l2Point_c false l k _ hk (by omega)).mono ?_
      rintro e w3 ⟨rfl, hb3⟩
      have hb0 := below_alloc_size hb3
      have c0 := newcell hb0 0
      have c1 := newcell hb0 1
      have c2 := newcell hb0 2
      have f0 := newfree hb0 0
      have f1 := newfree hb0 1
      have f2 := newfree hb0 2
      have hbX := below_new hb0
      simp at c0 c1 c2
      clear hb3 hb0
      -- behind l2Make's contract: 7 the function; the struct is stored and told. Wants: Hov2 : Hid (M = lowest ..), c0 c1 c2 f0 f1 f2 hbX, the answer's option pointM false ((l).take k) ((l).drop (k + 1))
      generalize pointM false ((l).take k) ((l).drop (k + 1)) = o at *
      unfold numAns
      obtain ⟨n3, u3, d3, ho⟩ : ∃ n3 u3 d3, numO o = numV n3 u3 d3 := by
        cases o with
        | none => exact ⟨_, _, _, rfl⟩
        | some p => exact ⟨_, _, _, rfl⟩
      have Ho := hide ho
      rw [ho]
      unfold numV
      clear ho
      go_wp2
      refine bodyPost_ret (v := numAns o) (by simp [results, Tryd.results7, go_sem, numAns, unhide Ho, numV, c0, c1, c2]) rfl ⟨by rw [unhide Hov2], ?_⟩
      exact below_three hbX _ (Nat.le_refl _) _ _ _
    · have Hpl : Hid (parseM l (b : Int) = plainM false b l) := by
        show _ = _
        rw [unhide Hm]; unfold bodyM; rw [unhide Hf]
        cases hfk : findB 46 l with
        | none => rfl
        | some k =>
          simp only
          rw [if_neg (fun h => hpt ⟨h, k, hfk⟩)]
      have hsn := fun h => rdN_size (b := b) (l := l) (by omega) h
      have hvn : okN b l = true → natV b l = rdN b l := fun h => by unfold natV; rw [if_pos h]
      have Hpo : Hid (plainM false b l = if okN b l then lowest false (rdN b l) 1 else none) := hide rfl
      have d1 : dec 1 = ⟨#[49]⟩ := dec_one
      by_cases hfz : 0 ≤ findI 46 l
      · have hbq : ((b : Int) == 10) = false := by
          rw [beq_eq_false_iff_ne]
          intro hh
          apply hpt
          refine ⟨by omega, ?_⟩
          unfold findI at hfz
          cases hfk : findB 46 l with
          | none => rw [hfk] at hfz; simp at hfz
          | some k => exact ⟨k, rfl⟩
        clear hpt
        go_wp2_with fail
        refine (l2Nat_c l b _ (by omega) (by omega) (by omega)).mono ?_
        rintro e w3 ⟨rfl, hb3⟩
        unfold natAns
        have hb0 := below_alloc_size hb3
        have hzz : w.heap.size + 1 ≤ w3.heap.size := by have := hb3.size; simpa using this
        generalize natV b l = vx at *
        generalize okN b l = ox at *
        cases ox with
        | false =>
          have c0 := newcell hb0 0
          have c1 := newcell hb0 1
          have c2 := newcell hb0 2
          have f0 := newfree hb0 0
          have f1 := newfree hb0 1
          have f2 := newfree hb0 2
          have hbX := below_new hb0
          simp at c0 c1 c2
          clear hb3 hb0 hsn hvn d1
          go_wp2
          refine bodyPost_ret (v := numAns none) (by simp [results, Tryd.results7, go_sem, numAns, numO, noNum, numV, c0, c1, c2]) rfl ⟨by rw [unhide Hpl, unhide Hpo]; rfl, ?_⟩
          exact below_three hbX _ (Nat.le_refl _) _ _ _
        | true =>
          have h1 := hsn rfl
          rw [← hvn rfl] at h1
          have Hov2 : Hid (parseM l (b : Int) = lowest false vx 1) := by rw [hvn rfl]; exact (unhide Hpl).trans (unhide Hpo)
          have d1s := dec_small (n := 1) (by omega)
          clear hsn hvn
          go_wp2_with fail
          rw [← d1]
          clear d1
          refine (l2Make_c false vx 1 _ (by omega) (by omega)).mono ?_
          rintro e w4 ⟨rfl, hb4'⟩
          have hn4 := below_next hb0 hzz hb4'
          have c0 := newcell hn4.1 0
          have c1 := newcell hn4.1 1
          have c2 := newcell hn4.1 2
          have f0 := newfree hn4.1 0
          have f1 := newfree hn4.1 1
          have f2 := newfree hn4.1 2
          have hbX := below_new hn4.1
          simp at c0 c1 c2
          clear hb3 hb0 hb4' hn4
          -- behind l2Make's contract: 7 the function; the struct is stored and told. Wants: Hov2 : Hid (M = lowest ..), c0 c1 c2 f0 f1 f2 hbX, the answer's option lowest false vx 1
          generalize lowest false vx 1 = o at *
          unfold numAns
          obtain ⟨n3, u3, d3, ho⟩ : ∃ n3 u3 d3, numO o = numV n3 u3 d3 := by
            cases o with
            | none => exact ⟨_, _, _, rfl⟩
            | some p => exact ⟨_, _, _, rfl⟩
          have Ho := hide ho
          rw [ho]
          unfold numV
          clear ho
          go_wp2
          refine bodyPost_ret (v := numAns o) (by simp [results, Tryd.results7, go_sem, numAns, unhide Ho, numV, c0, c1, c2]) rfl ⟨by rw [unhide Hov2], ?_⟩
          exact below_three hbX _ (Nat.le_refl _) _ _ _
      · clear hpt
        go_wp2_with fail
        refine (l2Nat_c l b _ (by omega) (by omega) (by omega)).mono ?_
        rintro e w3 ⟨rfl, hb3⟩
        unfold natAns
        have hb0 := below_alloc_size hb3
        have hzz : w.heap.size + 1 ≤ w3.heap.size := by have := hb3.size; simpa using this
        generalize natV b l = vx at *
        generalize okN b l = ox at *
        cases ox with
        | false =>
          have c0 := newcell hb0 0
          have c1 := newcell hb0 1
          have c2 := newcell hb0 2
          have f0 := newfree hb0 0
          have f1 := newfree hb0 1
          have f2 := newfree hb0 2
          have hbX := below_new hb0
          simp at c0 c1 c2
          clear hb3 hb0 hsn hvn d1
          go_wp2
          refine bodyPost_ret (v := numAns none) (by simp [results, Tryd.results7, go_sem, numAns, numO, noNum, numV, c0, c1, c2]) rfl ⟨by rw [unhide Hpl, unhide Hpo]; rfl, ?_⟩
          exact below_three hbX _ (Nat.le_refl _) _ _ _
        | true =>
          have h1 := hsn rfl
          rw [← hvn rfl] at h1
          have Hov2 : Hid (parseM l (b : Int) = lowest false vx 1) := by rw [hvn rfl]; exact (unhide Hpl).trans (unhide Hpo)
          have d1s := dec_small (n := 1) (by omega)
          clear hsn hvn
          go_wp2_with fail
          rw [← d1]
          clear d1
          refine (l2Make_c false vx 1 _ (by omega) (by omega)).mono ?_
          rintro e w4 ⟨rfl, hb4'⟩
          have hn4 := below_next hb0 hzz hb4'
          have c0 := newcell hn4.1 0
          have c1 := newcell hn4.1 1
          have c2 := newcell hn4.1 2
          have f0 := newfree hn4.1 0
          have f1 := newfree hn4.1 1
          have f2 := newfree hn4.1 2
          have hbX := below_new hn4.1
          simp at c0 c1 c2
          clear hb3 hb0 hb4' hn4
          -- behind l2Make's contract: 7 the function; the struct is stored and told. Wants: Hov2 : Hid (M = lowest ..), c0 c1 c2 f0 f1 f2 hbX, the answer's option lowest false vx 1
          generalize lowest false vx 1 = o at *
          unfold numAns
          obtain ⟨n3, u3, d3, ho⟩ : ∃ n3 u3 d3, numO o = numV n3 u3 d3 := by
            cases o with
            | none => exact ⟨_, _, _, rfl⟩
            | some p => exact ⟨_, _, _, rfl⟩
          have Ho := hide ho
          rw [ho]
          unfold numV
          clear ho
          go_wp2
          refine bodyPost_ret (v := numAns o) (by simp [results, Tryd.results7, go_sem, numAns, unhide Ho, numV, c0, c1, c2]) rfl ⟨by rw [unhide Hov2], ?_⟩
          exact below_three hbX _ (Nat.le_refl _) _ _ _

/-- spec.NumParse, whatever the text and the radix -/
theorem specNumParse_c (l : List UInt8) (r : Int) (w : World) (hs : l.length ≤ 1000000000) :
    Calls Tryd.prog 7 #[.string (B l), .int .i64 r] w fun e w' => e = .returned (numAns (parseM l r)) ∧ Below w.heap.size w w' := by
  by_cases h : isRadix r = false ∨ 240 < l.length
  · exact specNumParse_no l r w hs h
  · have hr : isRadix r = true := by cases hh : isRadix r with
      | true => rfl
      | false => exact absurd (.inl hh) h
    obtain ⟨b, rfl, hb4⟩ := isRadix_nat hr
    have hl : l.length ≤ 240 := by
      rcases Nat.lt_or_ge 240 l.length with h1 | h1
      · exact absurd (.inr h1) h
      · exact h1
    cases l with
    | nil => exact specNumParse_none b w hb4
    | cons c t =>
      by_cases h1 : c = 45
      · exact specNumParse_minus t b w hb4 c h1 hl
      · by_cases h2 : c = 43
        · exact specNumParse_plus t b w hb4 c h2 hl
        · exact specNumParse_bare t b w hb4 c h1 h2 hl
end Go.Proofs.YtijgolgfcgkbiaaDoor
namespace Go.Proofs.YtijgolgfcgkbiaaDoor
open Go.RowKit Nt

/-- whether a number is ok -/
def okM (neg : Bool) (u d : List UInt8) : Bool :=
  decide (u.length ≤ 60) && decide (d.length ≤ 60) && isDec u && isDec d && decide (valDec d ≠ 0) && !(neg && decide (valDec u = 0)) && decide (Nat.gcd (valDec u) (valDec d) = 1)

def numB (neg : Bool) (u d : List UInt8) : Value := .agg #[.bool neg, .string (B u), .string (B d)]

theorem dec_is1 (n : Nat) : ((dec n).toList == [49]) = decide (n = 1) := by
  have := dec_beq n 1
  rwa [show (dec 1).toList = [49] from by rw [dec_one]; exact B_tl [49]] at this


set_option maxRecDepth 100000 in
set_option maxHeartbeats 2000000 in
theorem specNumOk_c (neg : Bool) (u d : List UInt8) (w : World) (hsu : u.length ≤ 1000000000) (hsd : d.length ≤ 1000000000) :
    Calls Tryd.prog 20 #[numB neg u d] w fun e w' => e = .returned (.bool (okM neg u d)) ∧ Below w.heap.size w w' := by
  unfold numB
  have hzu : (B u).size = u.length := B_size u
  have hzd : (B d).size = d.length := B_size d
  by_cases h1 : u.length ≤ 60
  · by_cases h2 : d.length ≤ 60
    · by_cases h3 : isDec u = true
      · by_cases h4 : isDec d = true
        · have eu := isDec_val h3
          have ed := isDec_val h4
          have Hok : Hid (okM neg u d = (decide (valDec d ≠ 0) && !(neg && decide (valDec u = 0)) && decide (Nat.gcd (valDec u) (valDec d) = 1))) := by
            show _ = _; unfold okM; rw [decide_eq_true h1, decide_eq_true h2, h3, h4]; simp
          have Bu : B u = dec (valDec u) := by unfold dec txt; rw [← eu]
          have Bd : B d = dec (valDec d) := by unfold dec txt; rw [← ed]
          have h3d := @l1DigitsOk_c u
          have h4d := @l1DigitsOk_c d
          rw [h3] at h3d
          rw [h4] at h4d
          rw [Bu] at h3d hzu
          rw [Bd] at h4d hzd
          rw [Bu, Bd]
          have H3 := hide h3d
          have H4 := hide h4d
          generalize valDec u = a at *
          generalize valDec d = b at *
          have hau : (dec a).size ≤ 60 := by omega
          have hbd : (dec b).size ≤ 60 := by omega
          have ha0 := dec_is0 a
          have hb0 := dec_is0 b
          clear h3d h4d eu ed Bu Bd h3 h4
          by_cases hb : b = 0
          · rw [decide_eq_true hb] at hb0
            have Hok : Hid (okM neg u d = false) := by show _ = _; rw [unhide Hok]; simp [hb]
            clear hb
            go_enter Tryd.func20, Tryd.ntmps20
            go_wp2_with fail
            refine (unhide H3 _ (by omega)).mono ?_
            rintro e w1 ⟨rfl, rfl⟩
            go_wp2_with fail
            refine (unhide H4 _ (by omega)).mono ?_
            rintro e w1 ⟨rfl, rfl⟩
            go_wp2
            go_ret
            exact ⟨ret_bool (unhide Hok).symm, (Below.refl _ _).alloc (Nat.le_refl _) _⟩
          · rw [decide_eq_false hb] at hb0
            by_cases hn : neg = true ∧ a = 0
            · obtain ⟨hn1, ha⟩ := hn
              rw [decide_eq_true ha] at ha0
              subst hn1
              have Hok : Hid (okM true u d = false) := by show _ = _; rw [unhide Hok]; simp [ha]
              clear hb ha
              go_enter Tryd.func20, Tryd.ntmps20
              go_wp2_with fail
              refine (unhide H3 _ (by omega)).mono ?_
              rintro e w1 ⟨rfl, rfl⟩
              go_wp2_with fail
              refine (unhide H4 _ (by omega)).mono ?_
              rintro e w1 ⟨rfl, rfl⟩
              go_wp2
              go_ret
              exact ⟨ret_bool (unhide Hok).symm, (Below.refl _ _).alloc (Nat.le_refl _) _⟩
            · have Hok : Hid (okM neg u d = decide (Nat.gcd a b = 1)) := by
                show _ = _; rw [unhide Hok]
                cases neg
                · simp [hb]
                · simp at hn; simp [hb, hn]
              have hg1 := dec_is1 (Nat.gcd a b)
              have hcase : neg = false ∨ (neg = true ∧ a ≠ 0) := by cases neg <;> simp_all
              rcases hcase with rfl | ⟨rfl, ha⟩
              · clear hn hb
                go_enter Tryd.func20, Tryd.ntmps20
                go_wp2_with fail
                refine (unhide H3 _ (by omega)).mono ?_
                rintro e w1 ⟨rfl, rfl⟩
                go_wp2_with fail
                refine (unhide H4 _ (by omega)).mono ?_
                rintro e w1 ⟨rfl, rfl⟩
                go_wp2_with fail
                refine (l1Gcd_c a b _ (by omega) (by omega)).mono ?_
                rintro e w2 ⟨rfl, hb2⟩
                go_wp2
                go_ret
                exact ⟨ret_bool (unhide Hok).symm, below_new (below_alloc_size hb2)⟩
              · rw [decide_eq_false ha] at ha0
                clear hn hb ha
                go_enter Tryd.func20, Tryd.ntmps20
                go_wp2_with fail
                refine (unhide H3 _ (by omega)).mono ?_
                rintro e w1 ⟨rfl, rfl⟩
                go_wp2_with fail
                refine (unhide H4 _ (by omega)).mono ?_
                rintro e w1 ⟨rfl, rfl⟩
                go_wp2_with fail
                refine (l1Gcd_c a b _ (by omega) (by omega)).mono ?_
                rintro e w2 ⟨rfl, hb2⟩
                go_wp2
                go_ret
                exact ⟨ret_bool (unhide Hok).symm, below_new (below_alloc_size hb2)⟩
        · have h4' : isDec d = false := by simpa using h4
          have Hok : Hid (okM neg u d = false) := by show _ = _; unfold okM; rw [h4']; simp
          have h3d := @l1DigitsOk_c u
          have h4d := @l1DigitsOk_c d
          rw [h3] at h3d
          rw [h4'] at h4d
          have H3 := hide h3d
          have H4 := hide h4d
          clear h3d h4d h3 h4 h4'
          go_enter Tryd.func20, Tryd.ntmps20
          go_wp2_with fail
          refine (unhide H3 _ (by omega)).mono ?_
          rintro e w1 ⟨rfl, rfl⟩
          go_wp2_with fail
          refine (unhide H4 _ (by omega)).mono ?_
          rintro e w1 ⟨rfl, rfl⟩
          go_wp2
          go_ret
          exact ⟨ret_bool (unhide Hok).symm, (Below.refl _ _).alloc (Nat.le_refl _) _⟩
      · have h3' : isDec u = false := by simpa using h3
        have Hok : Hid (okM neg u d = false) := by show _ = _; unfold okM; rw [h3']; simp
        have h3d := @l1DigitsOk_c u
        rw [h3'] at h3d
        have H3 := hide h3d
        clear h3d h3 h3'
        go_enter Tryd.func20, Tryd.ntmps20
        go_wp2_with fail
        refine (unhide H3 _ (by omega)).mono ?_
        rintro e w1 ⟨rfl, rfl⟩
        go_wp2
        go_ret
        exact ⟨ret_bool (unhide Hok).symm, (Below.refl _ _).alloc (Nat.le_refl _) _⟩
    · have Hok : Hid (okM neg u d = false) := by show _ = _; unfold okM; simp [h2]
      go_enter Tryd.func20, Tryd.ntmps20
      go_wp2
      go_ret
      exact ⟨ret_bool (unhide Hok).symm, (Below.refl _ _).alloc (Nat.le_refl _) _⟩
  · have Hok : Hid (okM neg u d = false) := by show _ = _; unfold okM; simp [h1]
    go_enter Tryd.func20, Tryd.ntmps20
    go_wp2
    go_ret
    exact ⟨ret_bool (unhide Hok).symm, (Below.refl _ _).alloc (Nat.le_refl _) _⟩
end Go.Proofs.YtijgolgfcgkbiaaDoor
namespace Go.Proofs.YtijgolgfcgkbiaaDoor
open Go.RowKit Nt

/-- what is written of a number that is ok -/
def prM (neg : Bool) (a d b : Nat) : List UInt8 := (if neg then [45] else []) ++ txl b a ++ (if d = 1 then [] else 47 :: txl b d)
def printM (neg : Bool) (u d : List UInt8) (r : Int) : List UInt8 := if okM neg u d && isRadix r then prM neg (valDec u) (valDec d) r.toNat else []

theorem ok_parts {neg : Bool} {u d : List UInt8} (h : okM neg u d = true) : isDec u = true ∧ isDec d = true ∧ u.length ≤ 60 ∧ d.length ≤ 60 ∧ valDec d ≠ 0 ∧ (neg = true → valDec u ≠ 0) ∧ Nat.gcd (valDec u) (valDec d) = 1 := by
  unfold okM at h
  simp only [Bool.and_eq_true, decide_eq_true_eq, Bool.not_eq_true', Bool.and_eq_false_iff, decide_eq_false_iff_not] at h
  obtain ⟨⟨⟨⟨⟨⟨h1, h2⟩, h3⟩, h4⟩, h5⟩, h6⟩, h7⟩ := h
  exact ⟨h3, h4, h1, h2, h5, fun hn => by rcases h6 with h6 | h6; rw [hn] at h6; cases h6; exact h6, h7⟩

theorem txt_size {b n : Nat} (hb2 : 2 ≤ b) (h : (dec n).size ≤ 60) : (txt b n).size ≤ 240 := by
  unfold txt; rw [B_size]
  apply txl_len_le hb2 (by omega)
  have h1 := dec_lt n
  have h2 : (10 : Nat) ^ (dec n).size ≤ 16 ^ 60 := Nat.le_trans (Nat.pow_le_pow_left (by omega) _) (Nat.pow_le_pow_right (by omega) h)
  have h3 : (16 : Nat) ^ 60 = 2 ^ 240 := by rw [show (16 : Nat) = 2 ^ 4 from rfl, ← Nat.pow_mul]
  have h4 : (2 : Nat) ^ 240 ≤ b ^ 240 := Nat.pow_le_pow_left hb2 _
  omega



set_option maxRecDepth 100000 in
set_option maxHeartbeats 2000000 in
theorem specNumPrint_no (neg : Bool) (u d : List UInt8) (r : Int) (w : World) (hsu : u.length ≤ 1000000000) (hsd : d.length ≤ 1000000000) (h : (okM neg u d && isRadix r) = false) :
    Calls Tryd.prog 11 #[numB neg u d, .int .i64 r] w fun e w' => e = .returned (.string (B (printM neg u d r))) ∧ Below w.heap.size w w' := by
  have Hf : Hid (B (printM neg u d r) = ⟨#[]⟩) := by show _ = _; unfold printM; rw [h]; rfl
  have h1 := fun w => specNumOk_c neg u d w hsu hsd
  have H1 := hide h1
  clear h1
  unfold numB at *
  cases hok : okM neg u d with
  | false =>
    rw [hok] at H1
    clear h hok
    go_enter Tryd.func11, Tryd.ntmps11
    go_wp2_with fail
    refine (unhide H1 _).mono ?_
    rintro e w1 ⟨rfl, hb1⟩
    have hb0 := below_alloc_size hb1
    have hz0 : w.heap.size + 1 ≤ w1.heap.size := by have := hb1.size; simpa using this
    have c0 := newcell hb0 0
    have c1 := newcell hb0 1
    have c2 := newcell hb0 2
    simp at c0 c1 c2
    go_wp2
    go_ret
    exact ⟨ret_str (unhide Hf).symm, below_new hb0⟩
  | true =>
    rw [hok] at H1 h
    have hr : isRadix r = false := by simpa using h
    clear h hok
    go_enter Tryd.func11, Tryd.ntmps11
    go_wp2_with fail
    refine (unhide H1 _).mono ?_
    rintro e w1 ⟨rfl, hb1⟩
    have hb0 := below_alloc_size hb1
    have hz0 : w.heap.size + 1 ≤ w1.heap.size := by have := hb1.size; simpa using this
    have c0 := newcell hb0 0
    have c1 := newcell hb0 1
    have c2 := newcell hb0 2
    simp at c0 c1 c2
    go_wp2_with fail
    refine (l2Radix_c r _).mono ?_
    rintro e w2 ⟨rfl, rfl⟩
    rw [hr]
    go_wp2
    go_ret
    exact ⟨ret_str (unhide Hf).symm, below_new hb0⟩

set_option maxRecDepth 100000 in
set_option maxHeartbeats 4000000 in
theorem specNumPrint_yes (neg : Bool) (u d : List UInt8) (b : Nat) (w : World) (hok : okM neg u d = true) (hb4 : b = 2 ∨ b = 8 ∨ b = 10 ∨ b = 16) :
    Calls Tryd.prog 11 #[numB neg u d, .int .i64 b] w fun e w' => e = .returned (.string (B (printM neg u d b))) ∧ Below w.heap.size w w' := by
  have hr : isRadix (b : Int) = true := by rcases hb4 with rfl | rfl | rfl | rfl <;> rfl
  obtain ⟨h3, h4, hu, hd, hd0, hn0, _⟩ := ok_parts hok
  have h1 := fun w => specNumOk_c neg u d w (by omega) (by omega)
  rw [hok] at h1
  have Hf : Hid (printM neg u d b = prM neg (valDec u) (valDec d) b) := by show _ = _; unfold printM; rw [hok, hr]; simp
  have Bu : B u = dec (valDec u) := by unfold dec txt; rw [← isDec_val h3]
  have Bd : B d = dec (valDec d) := by unfold dec txt; rw [← isDec_val h4]
  have hau := B_size u
  have had := B_size d
  unfold numB at *
  rw [Bu, Bd] at h1
  rw [Bu] at hau
  rw [Bd] at had
  rw [Bu, Bd]
  generalize valDec u = a at *
  generalize valDec d = q at *
  have hau60 : (dec a).size ≤ 60 := by omega
  have had60 : (dec q).size ≤ 60 := by omega
  have hq1 := dec_is1 q
  have hta := txt_size (b := b) (by omega) hau60
  have htq := txt_size (b := b) (by omega) had60
  have hta' : (txl b a).length ≤ 240 := by unfold txt at hta; rwa [B_size] at hta
  have htq' : (txl b q).length ≤ 240 := by unfold txt at htq; rwa [B_size] at htq
  have H1 := hide h1
  clear h1 Bu Bd h3 h4 hok hau had hn0
  go_enter Tryd.func11, Tryd.ntmps11
  go_wp2_with fail
  refine (unhide H1 _).mono ?_
  rintro e w1 ⟨rfl, hb1⟩
  have hb0 := below_alloc_size hb1
  have hz0 : w.heap.size + 1 ≤ w1.heap.size := by have := hb1.size; simpa using this
  have c0 := newcell hb0 0
  have c1 := newcell hb0 1
  have c2 := newcell hb0 2
  simp at c0 c1 c2
  go_wp2_with fail
  refine (l2Radix_c b _).mono ?_
  rintro e w2 ⟨rfl, rfl⟩
  rw [hr]
  go_wp2_with fail
  refine (l2Out_c a b _ (by omega) (by omega) (by omega) (by omega)).mono ?_
  rintro e w3 ⟨rfl, hb3⟩
  have hn3 := below_next hb0 hz0 hb3
  clear c0 c1 c2 hb1 hb0 hz0 hb3
  have c0 := newcell hn3.1 0
  have c1 := newcell hn3.1 1
  have c2 := newcell hn3.1 2
  simp at c0 c1 c2
  by_cases hone : q = 1
  · rw [decide_eq_true hone] at hq1
    cases neg with
    | false =>
      have Hf2 : Hid (B (printM false u d b) = txt b a) := by show _ = _; rw [unhide Hf]; simp [prM, hone, txt]
      clear hone
      go_wp2
      go_ret
      exact ⟨ret_str (unhide Hf2).symm, below_new hn3.1⟩
    | true =>
      have Hf2 : Hid (B (printM true u d b) = ⟨#[45]⟩ ++ txt b a) := by
        show _ = _; rw [unhide Hf, show (⟨#[45]⟩ : ByteArray) = B [45] from rfl]; unfold txt; rw [B_append]; simp [prM, hone]
      have hns : ¬ 9223372036854775807 < 1 + (txt b a).size := by omega
      clear hone
      go_wp2
      go_ret
      exact ⟨ret_str (unhide Hf2).symm, below_new hn3.1⟩
  · rw [decide_eq_false hone] at hq1
    cases neg with
    | false =>
      have Hf2 : Hid (B (printM false u d b) = (txt b a ++ ⟨#[47]⟩) ++ txt b q) := by
        show _ = _; rw [unhide Hf, show (⟨#[47]⟩ : ByteArray) = B [47] from rfl]; unfold txt; rw [B_append, B_append]; simp [prM, hone]
      clear hone
      go_wp2_with fail
      refine (l2Out_c q b _ (by omega) (by omega) (by omega) (by omega)).mono ?_
      rintro e w4 ⟨rfl, hb4'⟩
      have hn4 := below_next hn3.1 hn3.2 hb4'
      go_wp2
      go_ret
      exact ⟨ret_str (unhide Hf2).symm, below_new hn4.1⟩
    | true =>
      have Hf2 : Hid (B (printM true u d b) = ((⟨#[45]⟩ ++ txt b a) ++ ⟨#[47]⟩) ++ txt b q) := by
        show _ = _; rw [unhide Hf, show (⟨#[47]⟩ : ByteArray) = B [47] from rfl, show (⟨#[45]⟩ : ByteArray) = B [45] from rfl]; unfold txt; rw [B_append, B_append, B_append]; simp [prM, hone]
      have hns : ¬ 9223372036854775807 < 1 + (txt b a).size := by omega
      clear hone
      go_wp2_with fail
      refine (l2Out_c q b _ (by omega) (by omega) (by omega) (by omega)).mono ?_
      rintro e w4 ⟨rfl, hb4'⟩
      have hn4 := below_next hn3.1 hn3.2 hb4'
      go_wp2
      go_ret
      exact ⟨ret_str (unhide Hf2).symm, below_new hn4.1⟩

theorem specNumPrint_c (neg : Bool) (u d : List UInt8) (r : Int) (w : World) (hsu : u.length ≤ 1000000000) (hsd : d.length ≤ 1000000000) :
    Calls Tryd.prog 11 #[numB neg u d, .int .i64 r] w fun e w' => e = .returned (.string (B (printM neg u d r))) ∧ Below w.heap.size w w' := by
  cases h : okM neg u d && isRadix r with
  | false => exact specNumPrint_no neg u d r w hsu hsd h
  | true =>
    simp only [Bool.and_eq_true] at h
    obtain ⟨b, rfl, hb4⟩ := isRadix_nat h.2
    exact specNumPrint_yes neg u d b w h.1 hb4

/-- an integer as a number -/
def intV (i : Int) : Value := numV (decide (i < 0)) (dec i.natAbs) (dec 1)

set_option maxRecDepth 100000 in
set_option maxHeartbeats 1000000 in
theorem specNumInt_c (i : Int) (w : World) (h0 : -9223372036854775808 ≤ i) (h1 : i ≤ 9223372036854775807) :
    Calls Tryd.prog 14 #[.int .i64 i] w fun e w' => e = .returned (intV i) ∧ Below w.heap.size w w' := by
  by_cases hi : 0 ≤ i
  · obtain ⟨n, rfl⟩ := Int.eq_ofNat_of_zero_le hi
    have Hf : Hid (intV (n : Int) = numV false (dec n) ⟨#[49]⟩) := by
      show _ = _; unfold intV; rw [decide_eq_false (by omega), dec_one]; simp
    go_enter Tryd.func14, Tryd.ntmps14
    go_wp2_with fail
    refine (l1Small_c n (by omega) _).mono ?_
    rintro e w1 ⟨rfl, hb1⟩
    have hb0 := below_alloc_size hb1
    have c0 := newcell hb0 0
    have c1 := newcell hb0 1
    have c2 := newcell hb0 2
    have f0 := newfree hb0 0
    have f1 := newfree hb0 1
    have f2 := newfree hb0 2
    have hbX := below_new hb0
    simp at c0 c1 c2
    clear hb1 hb0
    go_wp2
    refine bodyPost_ret (v := numV false (dec n) ⟨#[49]⟩) (by simp [results, Tryd.results14, go_sem, numV, c0, c1, c2]) rfl ⟨by rw [unhide Hf], ?_⟩
    exact below_three hbX _ (Nat.le_refl _) _ _ _
  · obtain ⟨n, hn⟩ := Int.eq_ofNat_of_zero_le (show 0 ≤ -(i + 1) by omega)
    have hn' : i = -(n : Int) - 1 := by omega
    have e1 : (i : Int) + 1 = -(n : Int) := by omega
    subst hn'
    have Hf : Hid (intV (-(n : Int) - 1) = numV true (dec (n + 1)) ⟨#[49]⟩) := by
      show _ = _; unfold intV; rw [decide_eq_true (by omega), dec_one, show (-(n : Int) - 1).natAbs = n + 1 from by omega]
    have hs1 := dec_small (n := 1) (by omega)
    have hsn : (dec n).size ≤ 19 := by rw [dec_len]; exact txl_len_le (by omega) (by omega) (by omega)
    have d1 : dec 1 = ⟨#[49]⟩ := dec_one
    clear hn
    go_enter Tryd.func14, Tryd.ntmps14
    go_wp2_with fail
    refine (l1Small_c n (by omega) _).mono ?_
    rintro e w1 ⟨rfl, hb1⟩
    have hb0 := below_alloc_size hb1
    have hz0 : w.heap.size + 1 ≤ w1.heap.size := by have := hb1.size; simpa using this
    go_wp2_with fail
    rw [← d1]
    refine (l1Add_c n 1 _ (by omega) (by omega)).mono ?_
    rintro e w2 ⟨rfl, hb2⟩
    have hn2 := below_next hb0 hz0 hb2
    have c0 := newcell hn2.1 0
    have c1 := newcell hn2.1 1
    have c2 := newcell hn2.1 2
    have f0 := newfree hn2.1 0
    have f1 := newfree hn2.1 1
    have f2 := newfree hn2.1 2
    have hbX := below_new hn2.1
    simp at c0 c1 c2
    clear hb1 hb0 hb2 hn2 hz0
    go_wp2
    refine bodyPost_ret (v := numV true (dec (n + 1)) ⟨#[49]⟩) (by simp [results, Tryd.results14, go_sem, numV, c0, c1, c2]) rfl ⟨by rw [unhide Hf], ?_⟩
    exact below_three hbX _ (Nat.le_refl _) _ _ _
end Go.Proofs.YtijgolgfcgkbiaaDoor
