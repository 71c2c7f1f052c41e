/- A part of the proof, put together out of smaller texts: each piece says what it is for. -/
import Derived.Test.YtpbnmhnbkfnaeaaGreatDoorM8
import Derived.Deep.Cut
import Derived.Deep.CutRange
import Derived.Deep.RegionHeld3
import Derived.Shelf.Small.Utf8
import Derived.Shelf.Small.Strs
import Derived.Shelf.Utf8.RuneCount
import Derived.Shelf.Strings.Runes
namespace Go.Proofs.YtpbnmhnbkfnaeaaGreatDoor
open Go.RowKit Nt

theorem natV_gr {b : Nat} (hb : b ≤ 16) (l : List UInt8) : (gr (natV b l)).length ≤ 2 * l.length + 1 := by
  unfold natV
  by_cases h : okN b l = true
  · rw [if_pos h]; exact dec_gr (rdN_size hb h)
  · rw [if_neg h, gr_zero]; simp

theorem parts_gr {b : Nat} (hb : b ≤ 16) (l : List UInt8) (hl : l.length ≤ 240) : (gr (partsM b l).1).length ≤ 1000 ∧ (gr (partsM b l).2.1).length ≤ 1000 := by
  unfold partsM
  cases h47 : findB 47 l with
  | some k =>
    dsimp only
    refine ⟨Nat.le_trans (natV_gr hb _) ?_, Nat.le_trans (natV_gr hb _) ?_⟩
    · rw [List.length_take]; omega
    · rw [List.length_drop]; omega
  | none =>
    cases h46 : findB 46 l with
    | some k =>
      dsimp only
      by_cases h10 : b = 10
      · rw [if_pos h10]
        refine ⟨Nat.le_trans (natV_gr (by omega) _) ?_, ?_⟩
        · rw [List.length_append, List.length_take, List.length_drop]; omega
        · rw [gr_ten, List.length_set, List.length_replicate, List.length_drop]; omega
      · rw [if_neg h10, gr_zero]; simp
    | none =>
      dsimp only
      refine ⟨Nat.le_trans (natV_gr hb _) (by omega), ?_⟩
      have := gr_ten 0
      rw [Nat.pow_zero] at this
      rw [this, List.length_set, List.length_replicate]; omega


set_option maxRecDepth 100000 in
set_option maxHeartbeats 4000000 in
theorem implNumParse_bare (l : List UInt8) (b : Nat) (w : World) (hb4 : b = 2 ∨ b = 8 ∨ b = 10 ∨ b = 16) (hl : l.length ≤ 240) (h45 : (l.head? == some 45) = false) (h43 : (l.head? == some 43) = false) (hT : Tens w) :
    Calls Tryz.prog 128 #[.string (B l), .int .i64 b] w fun e w' => e = .returned (numAns (parseM l b)) ∧ Below w.heap.size w w' := by
  have hr : isRadix (b : Int) = true := by rcases hb4 with rfl | rfl | rfl | rfl <;> rfl
  have Hm : Hid (parseM l (b : Int) = bodyM false b l) := by
    show _ = _
    rw [parse_yes l b hb4 hl]
    cases l with
    | nil => rfl
    | cons c t =>
      show (if c = 45 then bodyM true b t else if c = 43 then bodyM false b t else bodyM false b (c :: t)) = _
      rw [if_neg (by simpa using h45), if_neg (by simpa using h43)]
  have hsz : ¬ (240 : Int) < ((B l).size : Int) := by rw [B_size]; omega
  have h1 := fun w => known_c (b : Int) w
  have h2 := fun w => prefix_c l 45 w
  have h3 := fun w => prefix_c l 43 w
  rw [hr] at h1
  rw [h45] at h2
  rw [h43] at h3
  have H1 := hide h1
  have H2 := hide h2
  have H3 := hide h3
  have HT := hide hT
  clear h1 h2 h3 hT hr h45 h43
  go_enter Tryz.func128, Tryz.ntmps128
  go_wp2_with fail
  refine (unhide H1 _).mono ?_
  rintro e w1 ⟨rfl, rfl⟩
  go_wp2_with fail
  refine (unhide H2 _).mono ?_
  rintro e w1 ⟨rfl, rfl⟩
  go_wp2_with fail
  refine (unhide H3 _).mono ?_
  rintro e w1 ⟨rfl, rfl⟩
  clear H1 H2 H3
  -- false: the sign as a Bool; l: the text behind it; wants hb4, htl : its length ≤ 240, Hm : Hid (parseM .. = bodyM false b l), HT
  have Hpb : Hid (parseM l (b : Int) = if (partsM b l).2.2 then lowest false (partsM b l).1 (partsM b l).2.1 else none) := hide ((unhide Hm).trans (body_parts false (by omega) l))
  have hgs := parts_gr (b := b) (by omega) l (by omega)
  clear Hm
  go_wp2_with fail
  have h := readParts_c l b (w.alloc (.cells #[.bool false, .string ⟨#[]⟩, .string ⟨#[]⟩] 79)) (by omega) (by omega) (by omega) ((unhide HT).below ((Below.refl _ _).alloc (Nat.le_refl _) _))
  refine h.mono ?_
  clear h
  rintro e w2 ⟨⟨vu, vd, rfl, hvu, hvd⟩, hb2⟩
  have hb0 := below_alloc_size hb2
  have hz0 : w.heap.size + 1 ≤ w2.heap.size := by have := hb2.size; simpa using this
  have HT2 := hide ((unhide HT).below (below_new hb0))
  generalize (partsM b l).1 = pu at *
  generalize (partsM b l).2.1 = pd at *
  generalize (partsM b l).2.2 = po at *
  obtain ⟨pp, cp, hvs⟩ := own_slice hvd
  subst hvs
  have Hvu := hide hvu
  have Hvd := hide hvd
  clear hvu hvd hb2
  cases po with
  | false =>
    have c0 := newcell hb0 0
    have c1 := newcell hb0 1
    have c2 := newcell hb0 2
    have f0 := newfree hb0 0
    have f1 := newfree hb0 1
    have f2 := newfree hb0 2
    have hbX := below_new hb0
    simp at c0 c1 c2
    clear hb0
    go_wp2
    refine bodyPost_ret (v := numAns none) (by simp [results, Tryz.results128, go_sem, numAns, numO, noNum, numV, c0, c1, c2]) rfl ⟨by rw [unhide Hpb]; rfl, ?_⟩
    exact below_three hbX _ (Nat.le_refl _) _ _ _
  | true =>
    by_cases hd : pd = 0
    · have hl0 : (((gr pd).length : Int) == 0) = true := by rw [hd, gr_zero]; rfl
      have Hf : Hid (parseM l (b : Int) = none) := by show _ = _; rw [unhide Hpb, hd, if_pos rfl, lowest_none]
      clear hd
      have c0 := newcell hb0 0
      have c1 := newcell hb0 1
      have c2 := newcell hb0 2
      have f0 := newfree hb0 0
      have f1 := newfree hb0 1
      have f2 := newfree hb0 2
      have hbX := below_new hb0
      simp at c0 c1 c2
      clear hb0
      go_wp2
      refine bodyPost_ret (v := numAns none) (by simp [results, Tryz.results128, go_sem, numAns, numO, noNum, numV, c0, c1, c2]) rfl ⟨by rw [unhide Hf], ?_⟩
      exact below_three hbX _ (Nat.le_refl _) _ _ _
    · have hl0 : (((gr pd).length : Int) == 0) = false := by rw [beq_eq_false_iff_ne]; have := mt gr_len0.1 hd; omega
      have Hov2 : Hid (parseM l (b : Int) = lowest false pu pd) := by show _ = _; rw [unhide Hpb, if_pos rfl]
      have hdp : 0 < pd := by omega
      clear hd
      go_wp2_with fail
      have h := numLowest_c false pu pd vu _ w2 (unhide Hvu) (unhide Hvd) hdp (by omega) (by omega) (unhide HT2)
      refine h.mono ?_
      clear h
      rintro e w3 ⟨rfl, hb3⟩
      have hn3 := below_next hb0 hz0 hb3
      have c0 := newcell hn3.1 0
      have c1 := newcell hn3.1 1
      have c2 := newcell hn3.1 2
      have f0 := newfree hn3.1 0
      have f1 := newfree hn3.1 1
      have f2 := newfree hn3.1 2
      have hbX := below_new hn3.1
      simp at c0 c1 c2
      clear hb3 hb0 hn3 hl0 hdp
      -- behind l2Make's contract: 128 the function; the struct is stored and told. Wants: Hov2 : Hid (M = lowest ..), c0 c1 c2 f0 f1 f2 hbX, the answer's option lowest false pu pd
      generalize lowest false pu pd = o at *
      unfold numAns
      obtain ⟨n3, u3, d3, ho⟩ : ∃ n3 u3 d3, numO o = numV n3 u3 d3 := by
        cases o with
        | none => exact ⟨_, _, _, rfl⟩
        | some p => exact ⟨_, _, _, rfl⟩
      have Ho := hide ho
      rw [ho]
      unfold numV
      clear ho
      go_wp2
      refine bodyPost_ret (v := numAns o) (by simp [results, Tryz.results128, go_sem, numAns, unhide Ho, numV, c0, c1, c2]) rfl ⟨by rw [unhide Hov2], ?_⟩
      exact below_three hbX _ (Nat.le_refl _) _ _ _
set_option maxRecDepth 100000 in
set_option maxHeartbeats 4000000 in
theorem implNumParse_minus (t : List UInt8) (b : Nat) (w : World) (hb4 : b = 2 ∨ b = 8 ∨ b = 10 ∨ b = 16) (hlen : (45 :: t).length ≤ 240) (hT : Tens w) :
    Calls Tryz.prog 128 #[.string (B (45 :: t)), .int .i64 b] w fun e w' => e = .returned (numAns (parseM (45 :: t) b)) ∧ Below w.heap.size w w' := by
  have hr : isRadix (b : Int) = true := by rcases hb4 with rfl | rfl | rfl | rfl <;> rfl
  obtain ⟨l, hl⟩ : ∃ l : List UInt8, l = 45 :: t := ⟨_, rfl⟩
  rw [← hl]
  rw [← hl] at hlen
  have Hm : Hid (parseM l (b : Int) = bodyM true b t) := by
    show _ = _
    rw [parse_yes l b hb4 hlen, hl]
    rfl
  have htl : t.length ≤ 240 := by rw [hl] at hlen; simp at hlen; omega
  have hsz : ¬ (240 : Int) < ((B l).size : Int) := by rw [B_size]; omega
  have hcut : (B l).extract 1 (B l).size = B t := by rw [B_extract, B_size, List.take_length, hl]; rfl
  have hszp : (1 : Int) ≤ ((B l).size : Int) := by rw [B_size, hl]; simp; omega
  have h1 := fun w => known_c (b : Int) w
  have h2 := fun w => prefix_c l 45 w
  rw [hr] at h1
  rw [show (l.head? == some 45) = true from by rw [hl]; rfl] at h2
  have H1 := hide h1
  have H2 := hide h2
  have HT := hide hT
  clear h1 h2  hT hr hl
  go_enter Tryz.func128, Tryz.ntmps128
  go_wp2_with fail
  refine (unhide H1 _).mono ?_
  rintro e w1 ⟨rfl, rfl⟩
  go_wp2_with fail
  refine (unhide H2 _).mono ?_
  rintro e w1 ⟨rfl, rfl⟩
  clear H1 H2 
  -- true: the sign as a Bool; t: the text behind it; wants hb4, htl : its length ≤ 240, Hm : Hid (parseM .. = bodyM true b t), HT
  have Hpb : Hid (parseM l (b : Int) = if (partsM b t).2.2 then lowest true (partsM b t).1 (partsM b t).2.1 else none) := hide ((unhide Hm).trans (body_parts true (by omega) t))
  have hgs := parts_gr (b := b) (by omega) t (by omega)
  clear Hm
  go_wp2_with fail
  have h := readParts_c t b (w.alloc (.cells #[.bool false, .string ⟨#[]⟩, .string ⟨#[]⟩] 79)) (by omega) (by omega) (by omega) ((unhide HT).below ((Below.refl _ _).alloc (Nat.le_refl _) _))
  refine h.mono ?_
  clear h
  rintro e w2 ⟨⟨vu, vd, rfl, hvu, hvd⟩, hb2⟩
  have hb0 := below_alloc_size hb2
  have hz0 : w.heap.size + 1 ≤ w2.heap.size := by have := hb2.size; simpa using this
  have HT2 := hide ((unhide HT).below (below_new hb0))
  generalize (partsM b t).1 = pu at *
  generalize (partsM b t).2.1 = pd at *
  generalize (partsM b t).2.2 = po at *
  obtain ⟨pp, cp, hvs⟩ := own_slice hvd
  subst hvs
  have Hvu := hide hvu
  have Hvd := hide hvd
  clear hvu hvd hb2
  cases po with
  | false =>
    have c0 := newcell hb0 0
    have c1 := newcell hb0 1
    have c2 := newcell hb0 2
    have f0 := newfree hb0 0
    have f1 := newfree hb0 1
    have f2 := newfree hb0 2
    have hbX := below_new hb0
    simp at c0 c1 c2
    clear hb0
    go_wp2
    refine bodyPost_ret (v := numAns none) (by simp [results, Tryz.results128, go_sem, numAns, numO, noNum, numV, c0, c1, c2]) rfl ⟨by rw [unhide Hpb]; rfl, ?_⟩
    exact below_three hbX _ (Nat.le_refl _) _ _ _
  | true =>
    by_cases hd : pd = 0
    · have hl0 : (((gr pd).length : Int) == 0) = true := by rw [hd, gr_zero]; rfl
      have Hf : Hid (parseM l (b : Int) = none) := by show _ = _; rw [unhide Hpb, hd, if_pos rfl, lowest_none]
      clear hd
      have c0 := newcell hb0 0
      have c1 := newcell hb0 1
      have c2 := newcell hb0 2
      have f0 := newfree hb0 0
      have f1 := newfree hb0 1
      have f2 := newfree hb0 2
      have hbX := below_new hb0
      simp at c0 c1 c2
      clear hb0
      go_wp2
      refine bodyPost_ret (v := numAns none) (by simp [results, Tryz.results128, go_sem, numAns, numO, noNum, numV, c0, c1, c2]) rfl ⟨by rw [unhide Hf], ?_⟩
      exact below_three hbX _ (Nat.le_refl _) _ _ _
    · have hl0 : (((gr pd).length : Int) == 0) = false := by rw [beq_eq_false_iff_ne]; have := mt gr_len0.1 hd; omega
      have Hov2 : Hid (parseM l (b : Int) = lowest true pu pd) := by show _ = _; rw [unhide Hpb, if_pos rfl]
      have hdp : 0 < pd := by omega
      clear hd
      go_wp2_with fail
      have h := numLowest_c true pu pd vu _ w2 (unhide Hvu) (unhide Hvd) hdp (by omega) (by omega) (unhide HT2)
      refine h.mono ?_
      clear h
      rintro e w3 ⟨rfl, hb3⟩
      have hn3 := below_next hb0 hz0 hb3
      have c0 := newcell hn3.1 0
      have c1 := newcell hn3.1 1
      have c2 := newcell hn3.1 2
      have f0 := newfree hn3.1 0
      have f1 := newfree hn3.1 1
      have f2 := newfree hn3.1 2
      have hbX := below_new hn3.1
      simp at c0 c1 c2
      clear hb3 hb0 hn3 hl0 hdp
      -- behind l2Make's contract: 128 the function; the struct is stored and told. Wants: Hov2 : Hid (M = lowest ..), c0 c1 c2 f0 f1 f2 hbX, the answer's option lowest true pu pd
      generalize lowest true pu pd = o at *
      unfold numAns
      obtain ⟨n3, u3, d3, ho⟩ : ∃ n3 u3 d3, numO o = numV n3 u3 d3 := by
        cases o with
        | none => exact ⟨_, _, _, rfl⟩
        | some p => exact ⟨_, _, _, rfl⟩
      have Ho := hide ho
      rw [ho]
      unfold numV
      clear ho
      go_wp2
      refine bodyPost_ret (v := numAns o) (by simp [results, Tryz.results128, go_sem, numAns, unhide Ho, numV, c0, c1, c2]) rfl ⟨by rw [unhide Hov2], ?_⟩
      exact below_three hbX _ (Nat.le_refl _) _ _ _

set_option maxRecDepth 100000 in
set_option maxHeartbeats 4000000 in
theorem implNumParse_plus (t : List UInt8) (b : Nat) (w : World) (hb4 : b = 2 ∨ b = 8 ∨ b = 10 ∨ b = 16) (hlen : (43 :: t).length ≤ 240) (hT : Tens w) :
    Calls Tryz.prog 128 #[.string (B (43 :: t)), .int .i64 b] w fun e w' => e = .returned (numAns (parseM (43 :: t) b)) ∧ Below w.heap.size w w' := by
  have hr : isRadix (b : Int) = true := by rcases hb4 with rfl | rfl | rfl | rfl <;> rfl
  obtain ⟨l, hl⟩ : ∃ l : List UInt8, l = 43 :: t := ⟨_, rfl⟩
  rw [← hl]
  rw [← hl] at hlen
  have Hm : Hid (parseM l (b : Int) = bodyM false b t) := by
    show _ = _
    rw [parse_yes l b hb4 hlen, hl]
    rfl
  have htl : t.length ≤ 240 := by rw [hl] at hlen; simp at hlen; omega
  have hsz : ¬ (240 : Int) < ((B l).size : Int) := by rw [B_size]; omega
  have hcut : (B l).extract 1 (B l).size = B t := by rw [B_extract, B_size, List.take_length, hl]; rfl
  have hszp : (1 : Int) ≤ ((B l).size : Int) := by rw [B_size, hl]; simp; omega
  have h1 := fun w => known_c (b : Int) w
  have h2 := fun w => prefix_c l 45 w
  have h3 := fun w => prefix_c l 43 w
  rw [hr] at h1
  rw [show (l.head? == some 45) = false from by rw [hl]; rfl] at h2
  rw [show (l.head? == some 43) = true from by rw [hl]; rfl] at h3
  have H1 := hide h1
  have H2 := hide h2
  have H3 := hide h3
  have HT := hide hT
  clear h1 h2 h3 hT hr hl
  go_enter Tryz.func128, Tryz.ntmps128
  go_wp2_with fail
  refine (unhide H1 _).mono ?_
  rintro e w1 ⟨rfl, rfl⟩
  go_wp2_with fail
  refine (unhide H2 _).mono ?_
  rintro e w1 ⟨rfl, rfl⟩
  go_wp2_with fail
  refine (unhide H3 _).mono ?_
  rintro e w1 ⟨rfl, rfl⟩
  clear H1 H2 H3
  -- false: the sign as a Bool; t: the text behind it; wants hb4, htl : its length ≤ 240, Hm : Hid (parseM .. = bodyM false b t), HT
  have Hpb : Hid (parseM l (b : Int) = if (partsM b t).2.2 then lowest false (partsM b t).1 (partsM b t).2.1 else none) := hide ((unhide Hm).trans (body_parts false (by omega) t))
  have hgs := parts_gr (b := b) (by omega) t (by omega)
  clear Hm
  go_wp2_with fail
  have h := readParts_c t b (w.alloc (.cells #[.bool false, .string ⟨#[]⟩, .string ⟨#[]⟩] 79)) (by omega) (by omega) (by omega) ((unhide HT).below ((Below.refl _ _).alloc (Nat.le_refl _) _))
  refine h.mono ?_
  clear h
  rintro e w2 ⟨⟨vu, vd, rfl, hvu, hvd⟩, hb2⟩
  have hb0 := below_alloc_size hb2
  have hz0 : w.heap.size + 1 ≤ w2.heap.size := by have := hb2.size; simpa using this
  have HT2 := hide ((unhide HT).below (below_new hb0))
  generalize (partsM b t).1 = pu at *
  generalize (partsM b t).2.1 = pd at *
  generalize (partsM b t).2.2 = po at *
  obtain ⟨pp, cp, hvs⟩ := own_slice hvd
  subst hvs
  have Hvu := hide hvu
  have Hvd := hide hvd
  clear hvu hvd hb2
  cases po with
  | false =>
    have c0 := newcell hb0 0
    have c1 := newcell hb0 1
    have c2 := newcell hb0 2
    have f0 := newfree hb0 0
    have f1 := newfree hb0 1
    have f2 := newfree hb0 2
    have hbX := below_new hb0
    simp at c0 c1 c2
    clear hb0
    go_wp2
    refine bodyPost_ret (v := numAns none) (by simp [results, Tryz.results128, go_sem, numAns, numO, noNum, numV, c0, c1, c2]) rfl ⟨by rw [unhide Hpb]; rfl, ?_⟩
    exact below_three hbX _ (Nat.le_refl _) _ _ _
  | true =>
    by_cases hd : pd = 0
    · have hl0 : (((gr pd).length : Int) == 0) = true := by rw [hd, gr_zero]; rfl
      have Hf : Hid (parseM l (b : Int) = none) := by show _ = _; rw [unhide Hpb, hd, if_pos rfl, lowest_none]
      clear hd
      have c0 := newcell hb0 0
      have c1 := newcell hb0 1
      have c2 := newcell hb0 2
      have f0 := newfree hb0 0
      have f1 := newfree hb0 1
      have f2 := newfree hb0 2
      have hbX := below_new hb0
      simp at c0 c1 c2
      clear hb0
      go_wp2
      refine bodyPost_ret (v := numAns none) (by simp [results, Tryz.results128, go_sem, numAns, numO, noNum, numV, c0, c1, c2]) rfl ⟨by rw [unhide Hf], ?_⟩
      exact below_three hbX _ (Nat.le_refl _) _ _ _
    · have hl0 : (((gr pd).length : Int) == 0) = false := by rw [beq_eq_false_iff_ne]; have := mt gr_len0.1 hd; omega
      have Hov2 : Hid (parseM l (b : Int) = lowest false pu pd) := by show _ = _; rw [unhide Hpb, if_pos rfl]
      have hdp : 0 < pd := by omega
      clear hd
      go_wp2_with fail
      have h := numLowest_c false pu pd vu _ w2 (unhide Hvu) (unhide Hvd) hdp (by omega) (by omega) (unhide HT2)
      refine h.mono ?_
      clear h
      rintro e w3 ⟨rfl, hb3⟩
      have hn3 := below_next hb0 hz0 hb3
      have c0 := newcell hn3.1 0
      have c1 := newcell hn3.1 1
      have c2 := newcell hn3.1 2
      have f0 := newfree hn3.1 0
      have f1 := newfree hn3.1 1
      have f2 := newfree hn3.1 2
      have hbX := below_new hn3.1
      simp at c0 c1 c2
      clear hb3 hb0 hn3 hl0 hdp
      -- behind l2Make's contract: 128 the function; the struct is stored and told. Wants: Hov2 : Hid (M = lowest ..), c0 c1 c2 f0 f1 f2 hbX, the answer's option lowest false pu pd
      generalize lowest false pu pd = o at *
      unfold numAns
      obtain ⟨n3, u3, d3, ho⟩ : ∃ n3 u3 d3, numO o = numV n3 u3 d3 := by
        cases o with
        | none => exact ⟨_, _, _, rfl⟩
        | some p => exact ⟨_, _, _, rfl⟩
      have Ho := hide ho
      rw [ho]
      unfold numV
      clear ho
      go_wp2
      refine bodyPost_ret (v := numAns o) (by simp [results, Tryz.results128, go_sem, numAns, unhide Ho, numV, c0, c1, c2]) rfl ⟨by rw [unhide Hov2], ?_⟩
      exact below_three hbX _ (Nat.le_refl _) _ _ _

set_option maxRecDepth 100000 in
set_option maxHeartbeats 4000000 in
theorem implNumParse_no (l : List UInt8) (r : Int) (w : World) (hs : l.length ≤ 1000000000) (h : isRadix r = false ∨ 240 < l.length) :
    Calls Tryz.prog 128 #[.string (B l), .int .i64 r] w fun e w' => e = .returned (numAns (parseM l r)) ∧ Below w.heap.size w w' := by
  rw [parse_bad l r h]
  have hsz : (B l).size ≤ 1000000000 := by rw [B_size]; exact hs
  by_cases hr : isRadix r = false
  · clear h
    go_enter Tryz.func128, Tryz.ntmps128
    go_wp2_with fail
    refine (known_c r _).mono ?_
    rintro e w1 ⟨rfl, rfl⟩
    rw [hr]
    go_wp2
    refine bodyPost_ret (v := numAns none) (by simp [results, Tryz.results128, go_sem, numAns, numO, noNum, numV]) rfl ⟨rfl, ?_⟩
    exact (Below.refl _ _).alloc (Nat.le_refl _) _
  · have hr' : isRadix r = true := by simpa using hr
    have hl : (240 : Int) < ((B l).size : Int) := by rw [B_size]; rcases h with h | h; exact absurd h hr; omega
    clear h hr
    go_enter Tryz.func128, Tryz.ntmps128
    go_wp2_with fail
    refine (known_c r _).mono ?_
    rintro e w1 ⟨rfl, rfl⟩
    rw [hr']
    go_wp2
    refine bodyPost_ret (v := numAns none) (by simp [results, Tryz.results128, go_sem, numAns, numO, noNum, numV]) rfl ⟨rfl, ?_⟩
    exact (Below.refl _ _).alloc (Nat.le_refl _) _

theorem implNumParse_c (l : List UInt8) (r : Int) (w : World) (hs : l.length ≤ 1000000000) (hT : Tens w) :
    Calls Tryz.prog 128 #[.string (B l), .int .i64 r] w fun e w' => e = .returned (numAns (parseM l r)) ∧ Below w.heap.size w w' := by
  by_cases h : isRadix r = false ∨ 240 < l.length
  · exact implNumParse_no l r w hs h
  · have hr : isRadix r = true := by
      cases hh : isRadix r with
      | true => rfl
      | false => exact absurd (.inl hh) h
    have hl : l.length ≤ 240 := by
      apply Decidable.byContradiction
      intro hh
      exact h (.inr (by omega))
    obtain ⟨b, rfl, hb4⟩ := isRadix_nat hr
    cases l with
    | nil => exact implNumParse_bare [] b w hb4 hl rfl rfl hT
    | cons c t =>
      by_cases h45 : c = 45
      · subst h45; exact implNumParse_minus t b w hb4 hl hT
      · by_cases h43 : c = 43
        · subst h43; exact implNumParse_plus t b w hb4 hl hT
        · exact implNumParse_bare (c :: t) b w hb4 hl (by simpa using h45) (by simpa using h43) hT
end Go.Proofs.YtpbnmhnbkfnaeaaGreatDoor
namespace Go.Proofs.YtpbnmhnbkfnaeaaGreatDoor
open Go.RowKit Nt

theorem hex_sg (d : Nat) (h : d < 16) : ((⟨#[48, 49, 50, 51, 52, 53, 54, 55, 56, 57, 97, 98, 99, 100, 101, 102]⟩ : ByteArray)[d]'h).toNat = (sg d).toNat := by
  rcases d with _ | _ | _ | _ | _ | _ | _ | _ | _ | _ | _ | _ | _ | _ | _ | _ | d
  all_goals first | rfl | omega

set_option maxRecDepth 100000 in
set_option maxHeartbeats 4000000 in
theorem write_c (x b : Nat) (v : Value) (w : World) (hx : isNat w v x) (hs : (gr x).length ≤ 100000) (hb2 : 2 ≤ b) (hb16 : b ≤ 16) (hsd : (dg b x).length ≤ 1000000) :
    Calls Tryz.prog 251 #[.int .i64 b, v] w fun e w' => e = .returned (.string (txt b x)) ∧ Below w.heap.size w w' := by
  obtain ⟨i0, hi, hz0, hz1, hz2⟩ := info_parts Tryz.infoByte
  obtain ⟨p, cap, hv⟩ := own_slice hx
  subst hv
  by_cases hz : x = 0
  · subst hz
    have h0 : txt b 0 = ⟨#[48]⟩ := by unfold txt; rw [txl_zero]; rfl
    rw [gr_zero, h0]
    clear hx hs
    go_enter Tryz.func251, Tryz.ntmps251
    go_wp2
    go_ret
    exact ⟨rfl, Below.refl _ _⟩
  · have hn0 : 0 < (gr x).length := by have := mt gr_len0.1 hz; omega
    have hnI : (((gr x).length : Int) == 0) = false := by rw [beq_eq_false_iff_ne]; omega
    have e1 := wu64 (b : Int) (by omega) (by omega)
    have Hx := hide hx
    have Hz := hide hz
    clear hx hz
    go_enter Tryz.func251, Tryz.ntmps251
    go_wp2
    go_loopw [1, 5, 6, 7] (fun n out _ _ wr => ∃ (k : Nat) (ls : List Nat), k ≤ x ∧ isNat wr n k ∧ wr.ownsRow w.heap.size 5 1 out ls.length ((ls.map sg).map u8v) ∧ Below w.heap.size w wr ∧ Hid (dg b x = ls ++ dg b k))
      (fun _ out _ _ _ => (dg b x).length - lenV out)
    case atStart =>
      exact ⟨x, [], Nat.le_refl _, own_below (unhide Hx) ((Below.refl _ _).alloc (Nat.le_refl _) _), World.ownsRow_made w #[] 0 (Nat.le_refl _) (by decide) (by simp), (Below.refl _ _).alloc (Nat.le_refl _) _, hide (by simp)⟩
    case round =>
      obtain ⟨k, ls, hk, hnat, hown, hb, hdg⟩ := hrel
      obtain ⟨pk, ck, hvk⟩ := own_slice hnat
      subst hvk
      obtain ⟨po, co, hvo⟩ := own_slice hown
      subst hvo
      by_cases hk0 : k = 0
      · have hl0 : ¬ (0 : Int) < ((gr k).length : Int) := by rw [hk0, gr_zero]; simp
        have hfin : ls = dg b x := by rw [unhide hdg, hk0, dg_zero, List.append_nil]
        have hls : 0 < ls.length := by
          rcases Nat.eq_zero_or_pos ls.length with h | h
          · have h' : ls = [] := List.eq_nil_of_length_eq_zero h
            rw [h'] at hfin
            exact absurd ((dg_eq_nil hb2).1 hfin.symm) (unhide Hz)
          · exact h
        have hsl : ls.length ≤ 1000000 := by rw [hfin]; exact hsd
        obtain ⟨g, cap', hvv, hcc, hbg, hgw⟩ := own_some hown hls
        simp only [Value.slice.injEq, true_and] at hvv
        obtain ⟨rfl, rfl⟩ := hvv
        have Hfin := hide hfin
        have hrv := reverse_c (ls.map sg) g co w.heap.size wr (by rw [List.length_map]; omega) (by rw [List.length_map]; exact hown)
        rw [List.length_map] at hrv
        have Hrv := hide hrv
        clear hrv hown hfin
        go_wp2_with fail
        refine (unhide Hrv).mono ?_
        rintro e w3 ⟨rfl, hown3, hg3⟩
        have hbX := hb.grown hg3 hb.size (fun k hk => by cases hk; omega)
        have hconv := run_conv_bytes (dst := 9) Tryz.underlying22 Tryz.underlying5 Tryz.underlying9 hown3
        have hfin2 : B (ls.map sg).reverse = txt b x := by unfold txt; rw [txl_pos (unhide Hz), ← unhide Hfin]
        rw [hfin2] at hconv
        clear hfin2 hown3 hg3 Hrv
        go_wp2
        go_ret
        exact ⟨rfl, hbX⟩
      · have hl0 : (0 : Int) < ((gr k).length : Int) := by have := mt gr_len0.1 hk0; omega
        have hgk := gr_len_le hk
        have hpos := dg_pos (b := b) hb2 (show 0 < k by omega)
        have hdl : k % b < 16 := Nat.lt_of_lt_of_le (Nat.mod_lt _ (by omega)) hb16
        have hqk : k / b ≤ x := Nat.le_trans (Nat.div_le_self _ _) hk
        have hdg2 : dg b x = (ls ++ [k % b]) ++ dg b (k / b) := by rw [unhide hdg, hpos]; simp
        have Hdg2 := hide hdg2
        have hll := congrArg List.length hdg2
        rw [List.length_append, List.length_append] at hll
        clear hpos hdg2
        go_wp2_with fail
        have h := overWordB_c k b _ wr hnat (by omega) (by omega) (by omega)
        refine h.mono ?_
        clear h
        rintro e w2 ⟨⟨v2, rfl, hv2⟩, hb2'⟩
        have hown2 := own_below hown hb2'
        have hbw := hb.trans (hb2'.mono hb.size)
        have hhex := hex_sg (k % b) hdl
        unfold isNatB at hv2
        have hne : v2.ownBlock = none ∨ v2.ownBlock ≠ (Value.slice po ls.length co).ownBlock := by
          by_cases hh : v2.ownBlock = none
          · exact .inl hh
          · refine .inr (fun he => ?_)
            obtain ⟨g, hg⟩ := Option.ne_none_iff_exists'.1 hh
            have h1 := (hv2.lt g hg).1
            have h2 := (hown.lt g (he ▸ hg)).2
            omega
        have Hne := hide hne
        clear hne
        have Hv2 := hide hv2
        generalize k % b = d at *
        have hw := hbw.size
        have e8 : (sg d).toNat < 256 := (sg d).toNat_lt
        clear hv2 hnat hown
        go_wp2_with (at_builtin; refine wpList_append_own _ rfl (.tmp 22) (.tmp 25) 22 rfl w.heap.size 5 i0 (.int .u8 0) 1 1 Tryz.underlying22 hi hz0 hz1 hz2 rfl (by decide) _ _ _ rfl (hown2.alloc _) ⟨w2.heap.size, 0, none⟩ 1 1 [.int .u8 ((sg d).toNat : Int)] rfl rfl (cell_one_new _ _ _) (by intro u hu; simp at hu; subst hu; rfl) (by unfold maxLen; omega) (by omega) (by simp; omega) ?_; intro v3 w3 hown3 hg3 _)
        have hbX := below_grown (hbw.alloc hw _) (hown2.alloc _) hg3 (by simp <;> omega)
        obtain ⟨p3, c3, hv3⟩ := own_slice hown3
        subst hv3
        go_roundw
        case rel =>
          refine ⟨k / b, ls ++ [d], hqk, ?_, ?_, hbX, Hdg2⟩
          · exact own_base (((unhide Hv2).alloc _).kept hg3 (unhide Hne)) (Nat.zero_le _)
          · rw [List.length_append, List.map_append, List.map_append]
            exact hown3
        case measure =>
          show (dg b x).length - (ls.length + 1) < (dg b x).length - ls.length
          simp at hll
          omega
end Go.Proofs.YtpbnmhnbkfnaeaaGreatDoor
namespace Go.Proofs.YtpbnmhnbkfnaeaaGreatDoor
open Go.RowKit Nt

theorem dg_txl (b x : Nat) : (dg b x).length ≤ (txl b x).length := by
  unfold txl
  by_cases h : x = 0
  · rw [if_pos h, h, dg_zero]; simp
  · rw [if_neg h]; simp

set_option maxRecDepth 100000 in
set_option maxHeartbeats 4000000 in
theorem implNumPrint_no (neg : Bool) (u d : List UInt8) (r : Int) (w : World) (hsu : u.length ≤ 1000000000) (hsd : d.length ≤ 1000000000) (h : (okM neg u d && isRadix r) = false) (hT : Tens w) :
    Calls Tryz.prog 249 #[numB neg u d, .int .i64 r] w fun e w' => e = .returned (.string (B (printM neg u d r))) ∧ Below w.heap.size w w' := by
  have Hf : Hid (B (printM neg u d r) = ⟨#[]⟩) := by show _ = _; unfold printM; rw [h]; rfl
  have h1 := fun w hT => implNumOk_c neg u d w hsu hsd hT
  have HT := hide hT
  unfold numB at *
  clear hT
  cases hr : isRadix r with
  | false =>
    clear h h1
    go_enter Tryz.func249, Tryz.ntmps249
    go_wp2_with fail
    refine (known_c r _).mono ?_
    rintro e w2 ⟨rfl, rfl⟩
    rw [hr]
    go_wp2
    go_ret
    exact ⟨ret_str (unhide Hf).symm, (Below.refl _ _).alloc (Nat.le_refl _) _⟩
  | true =>
    rw [hr, Bool.and_true] at h
    rw [h] at h1
    have H1 := hide h1
    clear h h1
    go_enter Tryz.func249, Tryz.ntmps249
    go_wp2_with fail
    refine (known_c r _).mono ?_
    rintro e w2 ⟨rfl, rfl⟩
    rw [hr]
    go_wp2_with fail
    refine (unhide H1 _ ((unhide HT).below ((Below.refl _ _).alloc (Nat.le_refl _) _))).mono ?_
    rintro e w1 ⟨rfl, hb1⟩
    have hb0 := below_alloc_size hb1
    go_wp2
    go_ret
    exact ⟨ret_str (unhide Hf).symm, below_new hb0⟩


set_option maxRecDepth 100000 in
set_option maxHeartbeats 4000000 in
theorem implNumPrint_yes (neg : Bool) (u d : List UInt8) (b : Nat) (w : World) (hok : okM neg u d = true) (hb4 : b = 2 ∨ b = 8 ∨ b = 10 ∨ b = 16) (hT : Tens w) :
    Calls Tryz.prog 249 #[numB neg u d, .int .i64 b] w fun e w' => e = .returned (.string (B (printM neg u d b))) ∧ Below w.heap.size w w' := by
  have hr : isRadix (b : Int) = true := by rcases hb4 with rfl | rfl | rfl | rfl <;> rfl
  obtain ⟨h3, h4, hu, hd, hd0, hn0, _⟩ := ok_parts hok
  have h1 := fun w hT => implNumOk_c neg u d w (by omega) (by omega) hT
  rw [hok] at h1
  have Hf : Hid (printM neg u d b = prM neg (valDec u) (valDec d) b) := by show _ = _; unfold printM; rw [hok, hr]; simp
  have Bu : B u = dec (valDec u) := by unfold dec txt; rw [← isDec_val h3]
  have Bd : B d = dec (valDec d) := by unfold dec txt; rw [← isDec_val h4]
  have hau := B_size u
  have had := B_size d
  unfold numB at *
  rw [Bu, Bd] at h1
  rw [Bu] at hau
  rw [Bd] at had
  rw [Bu, Bd]
  generalize valDec u = a at *
  generalize valDec d = q at *
  have hau60 : (dec a).size ≤ 60 := by omega
  have had60 : (dec q).size ≤ 60 := by omega
  have hq1 := dec_is1 q
  have hta := txt_size (b := b) (by omega) hau60
  have htq := txt_size (b := b) (by omega) had60
  have hta' : (txl b a).length ≤ 240 := by unfold txt at hta; rwa [B_size] at hta
  have htq' : (txl b q).length ≤ 240 := by unfold txt at htq; rwa [B_size] at htq
  have hda := dg_txl b a
  have hdq := dg_txl b q
  have hga := dec_gr hau60
  have hgq := dec_gr had60
  have H1 := hide h1
  have HT := hide hT
  clear h1 Bu Bd h3 h4 hok hau had hn0 hT
  go_enter Tryz.func249, Tryz.ntmps249
  go_wp2_with fail
  refine (known_c b _).mono ?_
  rintro e w2 ⟨rfl, rfl⟩
  rw [hr]
  go_wp2_with fail
  refine (unhide H1 _ ((unhide HT).below ((Below.refl _ _).alloc (Nat.le_refl _) _))).mono ?_
  rintro e w1 ⟨rfl, hb1⟩
  have hb0 := below_alloc_size hb1
  have hz0 : w.heap.size + 1 ≤ w1.heap.size := by have := hb1.size; simpa using this
  have c0 := newcell hb0 0
  have c1 := newcell hb0 1
  have c2 := newcell hb0 2
  simp at c0 c1 c2
  go_wp2_with fail
  have h := natRead_c a w1 (by omega) ((unhide HT).below (below_new hb0))
  refine h.mono ?_
  clear h
  rintro e w2 ⟨⟨v2, rfl, hv2⟩, hb2⟩
  have hn2 := below_next hb0 hz0 hb2
  have Hv2 := hide hv2
  clear hv2
  go_wp2_with fail
  have h := write_c a b v2 w2 (unhide Hv2) (by omega) (by omega) (by omega) (by omega)
  refine h.mono ?_
  clear h
  rintro e w3 ⟨rfl, hb3⟩
  have hn3 := below_next hn2.1 hn2.2 hb3
  clear c0 c1 c2 hb1 hb0 hz0 hb2 hn2 hb3
  have c0 := newcell hn3.1 0
  have c1 := newcell hn3.1 1
  have c2 := newcell hn3.1 2
  simp at c0 c1 c2
  have hs47 : (⟨#[47]⟩ ++ txt b q : ByteArray).size = 1 + (txt b q).size := by rw [ByteArray.size_append]; rfl
  by_cases hone : q = 1
  · rw [decide_eq_true hone] at hq1
    cases neg with
    | false =>
      have Hf2 : Hid (B (printM false u d b) = txt b a) := by show _ = _; rw [unhide Hf]; simp [prM, hone, txt]
      clear hone
      go_wp2
      go_ret
      exact ⟨ret_str (unhide Hf2).symm, below_new hn3.1⟩
    | true =>
      have Hf2 : Hid (B (printM true u d b) = ⟨#[45]⟩ ++ txt b a) := by
        show _ = _; rw [unhide Hf, show (⟨#[45]⟩ : ByteArray) = B [45] from rfl]; unfold txt; rw [B_append]; simp [prM, hone]
      have hns : ¬ 9223372036854775807 < 1 + (txt b a).size := by omega
      clear hone
      go_wp2
      go_ret
      exact ⟨ret_str (unhide Hf2).symm, below_new hn3.1⟩
  · rw [decide_eq_false hone] at hq1
    cases neg with
    | false =>
      have Hf2 : Hid (B (printM false u d b) = txt b a ++ (⟨#[47]⟩ ++ txt b q)) := by
        show _ = _; rw [unhide Hf, show (⟨#[47]⟩ : ByteArray) = B [47] from rfl]; unfold txt; rw [B_append, B_append]; simp [prM, hone]
      clear hone
      -- the second number: behind hn3 (the frame), c0 c1 c2
      go_wp2_with fail
      have h := natRead_c q w3 (by omega) ((unhide HT).below (below_new hn3.1))
      refine h.mono ?_
      clear h
      rintro e w4 ⟨⟨v4, rfl, hv4⟩, hb4'⟩
      have hn4 := below_next hn3.1 hn3.2 hb4'
      have Hv4 := hide hv4
      clear hv4
      go_wp2_with fail
      have h := write_c q b v4 w4 (unhide Hv4) (by omega) (by omega) (by omega) (by omega)
      refine h.mono ?_
      clear h
      rintro e w5 ⟨rfl, hb5⟩
      have hn5 := below_next hn4.1 hn4.2 hb5
      go_wp2
      go_ret
      exact ⟨ret_str (unhide Hf2).symm, below_new hn5.1⟩
    | true =>
      have Hf2 : Hid (B (printM true u d b) = (⟨#[45]⟩ ++ txt b a) ++ (⟨#[47]⟩ ++ txt b q)) := by
        show _ = _; rw [unhide Hf, show (⟨#[47]⟩ : ByteArray) = B [47] from rfl, show (⟨#[45]⟩ : ByteArray) = B [45] from rfl]; unfold txt; rw [B_append, B_append, B_append]; simp [prM, hone]
      have hns : ¬ 9223372036854775807 < 1 + (txt b a).size := by omega
      clear hone
      -- the second number: behind hn3 (the frame), c0 c1 c2
      go_wp2_with fail
      have h := natRead_c q w3 (by omega) ((unhide HT).below (below_new hn3.1))
      refine h.mono ?_
      clear h
      rintro e w4 ⟨⟨v4, rfl, hv4⟩, hb4'⟩
      have hn4 := below_next hn3.1 hn3.2 hb4'
      have Hv4 := hide hv4
      clear hv4
      go_wp2_with fail
      have h := write_c q b v4 w4 (unhide Hv4) (by omega) (by omega) (by omega) (by omega)
      refine h.mono ?_
      clear h
      rintro e w5 ⟨rfl, hb5⟩
      have hn5 := below_next hn4.1 hn4.2 hb5
      go_wp2
      go_ret
      exact ⟨ret_str (unhide Hf2).symm, below_new hn5.1⟩

theorem implNumPrint_c (neg : Bool) (u d : List UInt8) (r : Int) (w : World) (hsu : u.length ≤ 1000000000) (hsd : d.length ≤ 1000000000) (hT : Tens w) :
    Calls Tryz.prog 249 #[numB neg u d, .int .i64 r] w fun e w' => e = .returned (.string (B (printM neg u d r))) ∧ Below w.heap.size w w' := by
  cases h : okM neg u d && isRadix r with
  | false => exact implNumPrint_no neg u d r w hsu hsd h hT
  | true =>
    simp only [Bool.and_eq_true] at h
    obtain ⟨b, rfl, hb4⟩ := isRadix_nat h.2
    exact implNumPrint_yes neg u d b w h.1 hb4 hT
end Go.Proofs.YtpbnmhnbkfnaeaaGreatDoor
/- The program's NumCmp: what is left of two whole numbers, its sign. -/
namespace Go.Proofs.YtpbnmhnbkfnaeaaGreatDoor
open Go.RowKit Nt

theorem cell_kept2 {w w' : World} (k : Below w.heap.size w w') {a : Addr} {v : Value} (h : w.cell? a = some v) : w'.cell? a = some v := (k.cell (World.block_lt_of_cell? _ _ h)).trans h
def wlV (n : Bool) (p : Option Addr) (l c : Nat) : Value := .agg #[.bool n, .slice p l c]
theorem wNeg_s (n : Bool) (v : Value) (x : Nat) (w : World) (hx : isNat w v x) :
    Calls Tryz.prog 190 #[wholeV n v] w fun e w' => (∃ p c, e = .returned (.agg #[.bool (!n), .slice p (gr x).length c]) ∧ isNat w' (.slice p (gr x).length c) x) ∧ Below w.heap.size w w' := by
  refine (wNeg_c n v x w hx).mono ?_
  rintro e w' ⟨⟨_, rfl, v1, rfl, hv⟩, hb⟩
  obtain ⟨p, c, rfl⟩ := own_slice hv
  exact ⟨⟨p, c, rfl, hv⟩, hb⟩
theorem wPlus_s (n m : Bool) (v u : Value) (x y : Nat) (R : Bool × Nat) (hR : plusW (n, x) (m, y) = R) (w : World) (hx : isNat w v x) (hy : isNat w u y) (hsx : (gr x).length ≤ 1000000) (hsy : (gr y).length ≤ 1000000) :
    Calls Tryz.prog 189 #[wholeV n v, wholeV m u] w fun e w' => (∃ p c, e = .returned (.agg #[.bool R.1, .slice p (gr R.2).length c])) ∧ Below w.heap.size w w' := by
  refine (wPlus_c n m v u x y w hx hy hsx hsy).mono ?_
  rintro e w' ⟨⟨_, rfl, v1, rfl, hv⟩, hb⟩
  obtain ⟨p, c, rfl⟩ := own_slice hv
  rw [hR]
  exact ⟨⟨p, c, rfl⟩, hb⟩
theorem wTimes_s (n m : Bool) (v u : Value) (x y : Nat) (w : World) (hx : isNat w v x) (hy : isNat w u y) (hsx : (gr x).length ≤ 1000000) (hsy : (gr y).length ≤ 1000000) :
    Calls Tryz.prog 161 #[wholeV n v, wholeV m u] w fun e w' => (∃ p c, e = .returned (.agg #[.bool (n != m), .slice p (gr (x * y)).length c]) ∧ isNat w' (.slice p (gr (x * y)).length c) (x * y)) ∧ Below w.heap.size w w' := by
  refine (wTimes_c n m v u x y w hx hy hsx hsy).mono ?_
  rintro e w' ⟨⟨_, rfl, v1, rfl, hv⟩, hb⟩
  obtain ⟨p, c, rfl⟩ := own_slice hv
  exact ⟨⟨p, c, rfl, isNatB.nat hv⟩, hb⟩
def sgW (R : Bool × Nat) : Int := if R.2 = 0 then 0 else if R.1 then -1 else 1
theorem sgW_sgn (R : Bool × Nat) : sgW R = sgI (sgn R) := by
  obtain ⟨n, x⟩ := R
  unfold sgW sgI sgn
  by_cases hx : x = 0
  · subst hx; cases n <;> simp
  · cases n
    · simp [hx]
      try omega
    · simp [hx]
      try omega
/-- behind cmp's region: what is left lies in a box of its own -/
def MadeW (W : World) (R : Bool × Nat) (s : Value) (wx : World) : Prop :=
  ∃ g p c, s = .pointer (some ⟨g, 0, none⟩) ∧ AtC2 wx g (.bool R.1) (.slice p (gr R.2).length c) 183 ∧ Below W.heap.size W wx
abbrev noWh : Obj := .cells #[.bool false, .slice none 0 0] 183
theorem madeW_new {W w2 : World} {R : Bool × Nat} {p : Option Addr} {c : Nat} (hK : Below W.heap.size W w2) : MadeW W R (.pointer (some ⟨w2.heap.size, 0, none⟩)) (w2.alloc (.cells #[.bool R.1, .slice p (gr R.2).length c] 183)) :=
  ⟨_, p, c, rfl, AtC2.new _ _ _ _, step_a hK _⟩
theorem madeW_old {W w2 : World} {R : Bool × Nat} {b : Nat} {p : Option Addr} {c : Nat} {x y : Value} (hM : AtC2 w2 b x y 183) (hb : W.heap.size ≤ b) (hK : Below W.heap.size W w2) :
    MadeW W R (.pointer (some ⟨b, 0, none⟩)) ((w2.setCell ⟨b, 0, none⟩ (.bool R.1)).setCell ⟨b, 1, none⟩ (.slice p (gr R.2).length c)) :=
  ⟨b, p, c, rfl, (hM.st0 _).st1 _, (hK.setCell (p := ⟨b, 0, none⟩) hb _).setCell (p := ⟨b, 1, none⟩) hb _⟩

set_option maxRecDepth 100000 in
set_option maxHeartbeats 4000000 in
theorem wCmp_c (n m : Bool) (v u : Value) (x y : Nat) (w : World) (hx : isNat w v x) (hy : isNat w u y) (hsx : (gr x).length ≤ 1000000) (hsy : (gr y).length ≤ 1000000) :
    Calls Tryz.prog 162 #[wholeV n v, wholeV m u] w fun e w' => e = .returned (.int .i64 (sgW (plusW (n, x) (!m, y)))) ∧ Below w.heap.size w w' := by
  obtain ⟨p, cap, rfl⟩ := own_slice hx
  obtain ⟨q, cap2, rfl⟩ := own_slice hy
  obtain ⟨R, hR⟩ : ∃ R, plusW (n, x) (!m, y) = R := ⟨_, rfl⟩
  rw [hR]
  obtain ⟨lx, hlx⟩ : ∃ l, (gr x).length = l := ⟨_, rfl⟩
  obtain ⟨ly, hly⟩ : ∃ l, (gr y).length = l := ⟨_, rfl⟩
  have HNS := hide (fun W h => wNeg_s m (.slice q ly cap2) y W h)
  have HPS := hide (fun W p1 c1 h1 h2 => wPlus_s n (!m) (.slice p lx cap) (.slice p1 ly c1) x y R hR W h1 h2 hsx hsy)
  rw [hly] at HNS hy
  rw [hlx] at hx
  unfold wholeV at HNS HPS ⊢
  rw [hlx, hly]
  have HX := hide hx
  have HY := hide hy
  have HB := hide (step_a (step_a (Below.refl w.heap.size w) (.cells #[.bool n, .slice p lx cap] 183)) (.cells #[.bool m, .slice q ly cap2] 183))
  have HA1 := hide ((AtC2.new w (.bool n) (.slice p lx cap) 183).alloc (.cells #[.bool m, .slice q ly cap2] 183))
  have HA2 := hide (AtC2.new (w.alloc (.cells #[.bool n, .slice p lx cap] 183)) (.bool m) (.slice q ly cap2) 183)
  rw [World.size_alloc] at HA2
  clear hx hy hR hlx hly hsx hsy
  go_enter Tryz.func162, Tryz.ntmps162
  go_wp2_with fail
  obtain ⟨W, hW⟩ : ∃ W, (w.alloc (.cells #[.bool n, .slice p lx cap] 183)).alloc (.cells #[.bool m, .slice q ly cap2] 183) = W := ⟨_, rfl⟩
  rw [hW] at HB HA1 HA2 ⊢
  clear hW
  have HX := hide (isNat_below (unhide HX) (unhide HB))
  have HY := hide (isNat_below (unhide HY) (unhide HB))
  have a0 := (unhide HA1).n0
  have a1 := (unhide HA1).n1
  have b0 := (unhide HA2).n0
  have b1 := (unhide HA2).n1
  have hWk := step_a (Below.refl W.heap.size W) noWh
  have a0' := cell_kept2 hWk a0
  have a1' := cell_kept2 hWk a1
  have b0' := cell_kept2 hWk b0
  have b1' := cell_kept2 hWk b1
  have HWK := hide hWk
  have HM0 := hide (AtC2.new W (.bool false) (.slice none 0 0) 183)
  clear hWk
  go_cut [5] from 6 to 9 (fun s wx => MadeW W R s wx)
  case first =>
    go_region_with (first
      | (go_at_call 190; refine (unhide HNS (W.alloc noWh).drew (isNat_below (unhide HY) (unhide HWK).drew)).mono ?_; rintro e w1 ⟨⟨p1, c1, rfl, hv1⟩, hb1⟩; have HK1 : Hid (Below W.heap.size W w1) := hide ((unhide HWK).drew.trans (hb1.mono (unhide HWK).size)); have HM1 := hide ((unhide HM0).below ((Below.refl _ _).drew.trans hb1)); have HV1 := hide hv1; have k0 := cell_kept2 (unhide HK1) a0; have k1 := cell_kept2 (unhide HK1) a1; have k2 := cell_kept2 (unhide HK1) b0; have k3 := cell_kept2 (unhide HK1) b1; clear hb1 hv1)
      | (go_at_call 190; refine (unhide HNS W.drew (isNat_below (unhide HY) (Below.refl _ _).drew)).mono ?_; rintro e w1 ⟨⟨p1, c1, rfl, hv1⟩, hb1⟩; have HK1 : Hid (Below W.heap.size W w1) := (Below.refl _ _).drew.trans hb1; have HV1 := hide hv1; have k0 := cell_kept2 (unhide HK1) a0; have k1 := cell_kept2 (unhide HK1) a1; have k2 := cell_kept2 (unhide HK1) b0; have k3 := cell_kept2 (unhide HK1) b1; have hal := step_a (Below.refl w1.heap.size w1) noWh; have k0' := cell_kept2 hal k0; have k1' := cell_kept2 hal k1; have k2' := cell_kept2 hal k2; have k3' := cell_kept2 hal k3; have HAL := hide hal; clear hb1 hv1 hal)
      | (go_at_call 189; refine (unhide HPS w1 p1 c1 (isNat_below (unhide HX) (unhide HK1)) (unhide HV1)).mono ?_; rintro e w2 ⟨⟨p2, c2, rfl⟩, hb2⟩; have HK2 := hide (step_b (unhide HK1) hb2); have HM2 := hide ((unhide HM1).below hb2); have m0 := (unhide HM2).n0; have m1 := (unhide HM2).n1; have mf := (unhide HM2).f; clear hb2)
      | (go_at_call 189; refine (unhide HPS w1 p1 c1 (isNat_below (unhide HX) (unhide HK1)) (unhide HV1)).mono ?_; rintro e w2 ⟨⟨p2, c2, rfl⟩, hb2⟩; have HK2 := hide (step_b (unhide HK1) hb2); clear hb2)
      | (go_at_call 189; refine (unhide HPS (w1.alloc noWh) p1 c1 (isNat_below (unhide HX) (step_b (unhide HK1) (unhide HAL))) (isNat_below (unhide HV1) (unhide HAL))).mono ?_; rintro e w2 ⟨⟨p2, c2, rfl⟩, hb2⟩; have HK2 := hide (step_b (step_b (unhide HK1) (unhide HAL)) hb2); have HM2 := hide ((AtC2.new w1 (.bool false) (.slice none 0 0) 183).below hb2); have m0 := (unhide HM2).n0; have m1 := (unhide HM2).n1; have mf := (unhide HM2).f; clear hb2))
    all_goals
      go_wp2_with fail
      go_meet
      first
        | exact madeW_new (unhide HK2)
        | exact madeW_old (unhide HM2) (Nat.le_refl _) (unhide HK2)
        | exact madeW_old (unhide HM2) (unhide HK1).size (unhide HK2)
  case rest =>
  obtain ⟨g, p3, c3, rfl, hM, hb⟩ := hcut
  rename World => w4
  have HB4 := hide (step_b (unhide HB) hb)
  have m0 := hM.n0
  have m1 := hM.n1
  obtain ⟨n3, x3⟩ := R
  simp only at m0 m1
  clear hM hb a0 a1 b0 b1 a0' a1' b0' b1'
  by_cases hx0 : x3 = 0
  · have hl : (((gr x3).length : Int) == 0) = true := by rw [hx0, gr_zero]; rfl
    have HQ : Hid (sgW (n3, x3) = 0) := hide (by unfold sgW; rw [if_pos hx0])
    clear hx0
    go_wp2_with fail
    go_ret
    exact ⟨ret_int (unhide HQ).symm, unhide HB4⟩
  · have hl : (((gr x3).length : Int) == 0) = false := by
      rw [beq_eq_false_iff_ne]
      intro e
      have h1 : gr x3 = [] := List.eq_nil_of_length_eq_zero (by omega)
      have h2 := ofd_dg (b := 1000000000) (by omega) x3
      unfold gr at h1
      rw [h1] at h2
      exact hx0 h2.symm
    cases n3 with
    | true =>
      have HQ : Hid (sgW (true, x3) = -1) := hide (by unfold sgW; rw [if_neg hx0, if_pos rfl])
      clear hx0
      go_wp2_with fail
      go_ret
      exact ⟨ret_int (unhide HQ).symm, unhide HB4⟩
    | false =>
      have HQ : Hid (sgW (false, x3) = 1) := hide (by unfold sgW; rw [if_neg hx0, if_neg (by simp)])
      clear hx0
      go_wp2_with fail
      go_ret
      exact ⟨ret_int (unhide HQ).symm, unhide HB4⟩
end Go.Proofs.YtpbnmhnbkfnaeaaGreatDoor
/- The program's NumCmp. -/
namespace Go.Proofs.YtpbnmhnbkfnaeaaGreatDoor
open Go.RowKit Nt

abbrev zeroFr : Array Value := #[.bool false, .slice none 0 0, .bool false, .slice none 0 0]
abbrev noFr : Obj := .cells #[.bool false, .slice none 0 0, .bool false, .slice none 0 0] 185
abbrev st4 (w : World) (b : Nat) (u0 u1 u2 u3 : Value) : World := (((w.setCell ⟨b, 0, none⟩ u0).setCell ⟨b, 1, none⟩ u1).setCell ⟨b, 2, none⟩ u2).setCell ⟨b, 3, none⟩ u3
theorem AtC.m0 {w : World} {b : Nat} {x y z s : Value} {T : TypeId} (h : AtC w b #[x, y, z, s] T) : w.cell? ⟨b, 0, none⟩ = some x := h.c 0
theorem AtC.m1 {w : World} {b : Nat} {x y z s : Value} {T : TypeId} (h : AtC w b #[x, y, z, s] T) : w.cell? ⟨b, 1, none⟩ = some y := h.c 1
theorem AtC.m2 {w : World} {b : Nat} {x y z s : Value} {T : TypeId} (h : AtC w b #[x, y, z, s] T) : w.cell? ⟨b, 2, none⟩ = some z := h.c 2
theorem AtC.m3 {w : World} {b : Nat} {x y z s : Value} {T : TypeId} (h : AtC w b #[x, y, z, s] T) : w.cell? ⟨b, 3, none⟩ = some s := h.c 3
theorem AtC.set4 {w : World} {b : Nat} {x y z s : Value} {T : TypeId} (h : AtC w b #[x, y, z, s] T) (u v t r : Value) : AtC (st4 w b u v t r) b #[u, v, t, r] T := by
  have e : ∀ (w : World) (i : Nat) (cs : Array Value) (u : Value), AtC w b cs T → AtC (w.setCell ⟨b, i, none⟩ u) b (cs.setIfInBounds i u) T := by
    intro w i cs u h
    show (w.heap.modify b _)[b]? = _
    rw [Array.getElem?_modify, if_pos rfl, show w.heap[b]? = _ from h]; rfl
  exact e _ 3 _ _ (e _ 2 _ _ (e _ 1 _ _ (e _ 0 _ _ h)))
theorem AtC.far1 {w : World} {b g i : Nat} {cs : Array Value} {T : TypeId} (h : AtC w g cs T) (hne : g ≠ b) (u : Value) : AtC (w.setCell ⟨b, i, none⟩ u) g cs T := by
  unfold AtC
  rw [Below.heap_setCell _ _ _ _ hne]
  exact h
theorem AtC.far4' {w : World} {b g : Nat} {cs : Array Value} {T : TypeId} (h : AtC w g cs T) (hne : g ≠ b) (u v t r : Value) : AtC (st4 w b u v t r) g cs T :=
  (((h.far1 hne u).far1 hne v).far1 hne t).far1 hne r
theorem nat_ne {w : World} {b x : Nat} {v : Value} {cs : Array Value} {T : TypeId} (h : isNat w v x) (hM : AtC w b cs T) (hT : T ≠ 173) : v.ownBlock ≠ some b := by
  unfold AtC at hM
  rcases h.2 with ⟨rfl, _⟩ | ⟨g1, c1, k1, rfl, _, hg1, _⟩
  · intro e; simp [Value.ownBlock] at e
  · intro e
    simp [Value.ownBlock] at e
    subst e
    rw [hg1] at hM
    simp at hM
    exact hT hM.2.symm
theorem nat_set1 {w : World} {b i x : Nat} {v : Value} (h : isNat w v x) (hne : v.ownBlock ≠ some b) (u : Value) : isNat (w.setCell ⟨b, i, none⟩ u) v x := by
  rcases h.2 with ⟨rfl, h0⟩ | ⟨g1, c1, k1, rfl, hb, hg1, r⟩
  · exact ⟨h.1, .inl ⟨rfl, h0⟩⟩
  · refine ⟨h.1, .inr ⟨g1, c1, k1, rfl, hb, ?_, r⟩⟩
    have : g1 ≠ b := fun e => hne (by rw [e]; rfl)
    rw [Below.heap_setCell _ _ _ _ this]
    exact hg1
theorem nat_set4 {w : World} {b x : Nat} {v : Value} (h : isNat w v x) (hne : v.ownBlock ≠ some b) (u0 u1 u2 u3 : Value) : isNat (st4 w b u0 u1 u2 u3) v x :=
  nat_set1 (nat_set1 (nat_set1 (nat_set1 h hne u0) hne u1) hne u2) hne u3
theorem below_st4 {B : Nat} {a w : World} (h : Below B a w) {b : Nat} (hb : B ≤ b) (u v t r : Value) : Below B a (st4 w b u v t r) :=
  (((h.setCell (p := ⟨b, 0, none⟩) hb u).setCell (p := ⟨b, 1, none⟩) hb v).setCell (p := ⟨b, 2, none⟩) hb t).setCell (p := ⟨b, 3, none⟩) hb r
abbrev FT : TypeId := 185
/-- a fraction in its box -/
def Fin' (w : World) (g : Nat) (n : Bool) (x q : Nat) : Prop := ∃ p c p' c', AtC w g #[.bool n, .slice p (gr x).length c, .bool false, .slice p' (gr q).length c'] FT ∧ isNat w (.slice p (gr x).length c) x ∧ isNat w (.slice p' (gr q).length c') q
section
variable {w : World} {n m : Bool} {x q y r : Nat} {p p' p2 p3 : Option Addr} {c c' c2 c3 : Nat}
theorem fin_alloc {g : Nat} (h : Fin' w g n x q) (o : Obj) : Fin' (w.alloc o) g n x q := by
  obtain ⟨p, c, p', c', h1, h2, h3⟩ := h
  exact ⟨p, c, p', c', h1.alloc o, isNat_below h2 (step_a (Below.refl _ _) o), isNat_below h3 (step_a (Below.refl _ _) o)⟩
theorem fin_new (h1 : isNat w (.slice p (gr x).length c) x) (h2 : isNat w (.slice p' (gr q).length c') q) : Fin' (w.alloc (.cells #[.bool n, .slice p (gr x).length c, .bool false, .slice p' (gr q).length c'] FT)) w.heap.size n x q :=
  ⟨p, c, p', c', AtC.new _ _ _, isNat_below h1 (step_a (Below.refl _ _) _), isNat_below h2 (step_a (Below.refl _ _) _)⟩
theorem fin_put {b : Nat} (hM : AtC w b zeroFr FT) (h1 : isNat w (.slice p (gr x).length c) x) (h2 : isNat w (.slice p' (gr q).length c') q) : Fin' (st4 w b (.bool n) (.slice p (gr x).length c) (.bool false) (.slice p' (gr q).length c')) b n x q :=
  ⟨p, c, p', c', hM.set4 _ _ _ _, nat_set4 h1 (nat_ne h1 hM (by decide)) _ _ _ _, nat_set4 h2 (nat_ne h2 hM (by decide)) _ _ _ _⟩
theorem fin_far {g b : Nat} (h : Fin' w g n x q) (hM : AtC w b zeroFr FT) (hne : g ≠ b) (u0 u1 u2 u3 : Value) : Fin' (st4 w b u0 u1 u2 u3) g n x q := by
  obtain ⟨p, c, p', c', h1, h2, h3⟩ := h
  exact ⟨p, c, p', c', h1.far4' hne _ _ _ _, nat_set4 h2 (nat_ne h2 hM (by decide)) _ _ _ _, nat_set4 h3 (nat_ne h3 hM (by decide)) _ _ _ _⟩
/-- behind the region: both fractions lie in boxes of their own -/
def MadeF (W : World) (n m : Bool) (x q y r : Nat) (s5 s6 : Value) (wx : World) : Prop :=
  ∃ g h, s5 = .pointer (some ⟨g, 0, none⟩) ∧ s6 = .pointer (some ⟨h, 0, none⟩) ∧ Fin' wx g n x q ∧ Fin' wx h m y r ∧ Below W.heap.size W wx
end
end Go.Proofs.YtpbnmhnbkfnaeaaGreatDoor
/- The program's NumCmp: the region that makes both fractions, by what holds whichever of its operations have been carried out. -/
namespace Go.Proofs.YtpbnmhnbkfnaeaaGreatDoor
open Go.RowKit Nt

/-- a fraction as a value -/
def FrV (w : World) (n : Bool) (x q : Nat) (v : Value) : Prop := ∃ p c p' c', v = .agg #[.bool n, .slice p (gr x).length c, .bool false, .slice p' (gr q).length c'] ∧ isNat w (.slice p (gr x).length c) x ∧ isNat w (.slice p' (gr q).length c') q
theorem FrV.below {w w' : World} {n : Bool} {x q : Nat} {v : Value} (h : FrV w n x q v) (hb : Below w.heap.size w w') : FrV w' n x q v := by
  obtain ⟨p, c, p', c', e, h1, h2⟩ := h
  exact ⟨p, c, p', c', e, isNat_below h1 hb, isNat_below h2 hb⟩
theorem FrV.st4 {w : World} {b : Nat} {n : Bool} {x q : Nat} {v : Value} (h : FrV w n x q v) (hM : AtC w b zeroFr FT) (u0 u1 u2 u3 : Value) : FrV (st4 w b u0 u1 u2 u3) n x q v := by
  obtain ⟨p, c, p', c', e, h1, h2⟩ := h
  exact ⟨p, c, p', c', e, nat_set4 h1 (nat_ne h1 hM (by decide)) _ _ _ _, nat_set4 h2 (nat_ne h2 hM (by decide)) _ _ _ _⟩
theorem fin_below {w w' : World} {g : Nat} {n : Bool} {x q : Nat} (h : Fin' w g n x q) (hb : Below w.heap.size w w') : Fin' w' g n x q := by
  obtain ⟨p, c, p', c', h1, h2, h3⟩ := h
  exact ⟨p, c, p', c', h1.below hb, isNat_below h2 hb, isNat_below h3 hb⟩
/-- a box: empty, or with its fraction -/
def Box (l : Array Bool) (k : Nat) (w : World) (g : Nat) (n : Bool) (x q : Nat) : Prop := (¬ LL l k ∧ AtC w g zeroFr FT) ∨ (LL l k ∧ Fin' w g n x q)
theorem Box.lt {l : Array Bool} {k g : Nat} {w : World} {n : Bool} {x q : Nat} (h : Box l k w g n x q) : g < w.heap.size := by
  rcases h with ⟨_, h⟩ | ⟨_, _, _, _, _, h, _⟩ <;> exact h.lt
theorem Box.below {l : Array Bool} {k g : Nat} {w w' : World} {n : Bool} {x q : Nat} (h : Box l k w g n x q) (hb : Below w.heap.size w w') : Box l k w' g n x q := by
  rcases h with ⟨e, h⟩ | ⟨e, h⟩
  · exact .inl ⟨e, h.below hb⟩
  · exact .inr ⟨e, fin_below h hb⟩
theorem Box.far {l : Array Bool} {k g b : Nat} {w : World} {n : Bool} {x q : Nat} (h : Box l k w g n x q) (hM : AtC w b zeroFr FT) (hne : g ≠ b) (u0 u1 u2 u3 : Value) : Box l k (st4 w b u0 u1 u2 u3) g n x q := by
  rcases h with ⟨e, h⟩ | ⟨e, h⟩
  · exact .inl ⟨e, h.far4' hne _ _ _ _⟩
  · exact .inr ⟨e, fin_far h hM hne _ _ _ _⟩
theorem Box.step {l l' : Array Bool} {k g : Nat} {w : World} {n : Bool} {x q : Nat} (h : Box l k w g n x q) (hk : LL l' k ↔ LL l k) : Box l' k w g n x q := by
  unfold Box at h ⊢
  rw [hk]; exact h
/-- the region's operations: 0 and 2 read the numbers, 1 and 3 make the fractions, 4 and 5 make the boxes, 6 and 7 fill them -/
structure NStep (W : World) (n1 n2 : Bool) (x1 y1 x2 y2 : Nat) (t0 t2 : Value) (l : Array Bool) (x : Nat → Value) (w : World) : Prop where
  sz : l.size = 8
  bl : Below W.heap.size W w
  v0 : LL l 0 → x 0 = t0
  v2 : LL l 2 → x 2 = t2
  f1 : LL l 1 → FrV w n1 x1 y1 (x 1)
  f3 : LL l 3 → FrV w n2 x2 y2 (x 3)
  c6 : LL l 6 → LL l 4
  c7 : LL l 7 → LL l 5
  b4 : LL l 4 → ∃ g, x 4 = .pointer (some ⟨g, 0, none⟩) ∧ W.heap.size ≤ g ∧ Box l 6 w g n1 x1 y1
  b5 : LL l 5 → ∃ g, x 5 = .pointer (some ⟨g, 0, none⟩) ∧ W.heap.size ≤ g ∧ Box l 7 w g n2 x2 y2
  ne : LL l 4 → LL l 5 → x 4 ≠ x 5
section
variable {W w w' : World} {n1 n2 : Bool} {x1 y1 x2 y2 : Nat} {t0 t2 u : Value} {l : Array Bool} {x : Nat → Value}
theorem NStep.start (n : l = Array.replicate 8 false) (h : Below W.heap.size W w) : NStep W n1 n2 x1 y1 x2 y2 t0 t2 l x w := by
  subst n
  have hn : ∀ j, ¬ LL (Array.replicate 8 false) j := fun j h => by unfold LL at h; simp [Array.getElem?_replicate] at h
  exact ⟨by simp, h, fun h => absurd h (hn _), fun h => absurd h (hn _), fun h => absurd h (hn _), fun h => absurd h (hn _), fun h => absurd h (hn _), fun h => absurd h (hn _), fun h => absurd h (hn _), fun h => absurd h (hn _), fun h => absurd h (hn _)⟩
/-- an operation but a store -/
theorem NStep.next (h : NStep W n1 n2 x1 y1 x2 y2 t0 t2 l x w) (i : Nat) (hi : i < 6) (hl : ¬ LL l i) (u : Value) (hb : Below w.heap.size w w')
    (h0 : i = 0 → u = t0) (h2 : i = 2 → u = t2) (h1 : i = 1 → FrV w' n1 x1 y1 u) (h3 : i = 3 → FrV w' n2 x2 y2 u)
    (h4 : (i = 4 ∨ i = 5) → u = .pointer (some ⟨w.heap.size, 0, none⟩) ∧ AtC w' w.heap.size zeroFr FT) :
    NStep W n1 n2 x1 y1 x2 y2 t0 t2 (l.setIfInBounds i true) (fun j => if j = i then u else x j) w' := by
  have hs := fun j => LL_set (l := l) (i := i) (by rw [h.sz]; omega) j
  have hk : ∀ {j}, j ≠ i → (LL (l.setIfInBounds i true) j ↔ LL l j) := fun {j} e => by rw [hs]; simp [e]
  have hx : ∀ {j}, j ≠ i → (if j = i then u else x j) = x j := fun {j} e => if_neg e
  have hB : Below W.heap.size W w' := step_b h.bl hb
  refine ⟨by simp [h.sz], hB, fun e => ?_, fun e => ?_, fun e => ?_, fun e => ?_, fun e => ?_, fun e => ?_, fun e => ?_, fun e => ?_, fun e e' => ?_⟩
  · by_cases c : i = 0
    · subst c; exact h0 rfl
    · rw [hx (Ne.symm c)]; exact h.v0 ((hk (Ne.symm c)).1 e)
  · by_cases c : i = 2
    · subst c; exact h2 rfl
    · rw [hx (Ne.symm c)]; exact h.v2 ((hk (Ne.symm c)).1 e)
  · by_cases c : i = 1
    · subst c; exact h1 rfl
    · rw [hx (Ne.symm c)]; exact (h.f1 ((hk (Ne.symm c)).1 e)).below hb
  · by_cases c : i = 3
    · subst c; exact h3 rfl
    · rw [hx (Ne.symm c)]; exact (h.f3 ((hk (Ne.symm c)).1 e)).below hb
  · exact (hs 4).2 (.inr (h.c6 ((hk (by omega)).1 e)))
  · exact (hs 5).2 (.inr (h.c7 ((hk (by omega)).1 e)))
  · by_cases c : i = 4
    · subst c
      obtain ⟨e1, e2⟩ := h4 (.inl rfl)
      exact ⟨w.heap.size, e1, h.bl.size, .inl ⟨fun q => hl (h.c6 ((hk (by omega)).1 q)), e2⟩⟩
    · rw [hx (Ne.symm c)]
      obtain ⟨g, e1, e2, e3⟩ := h.b4 ((hk (Ne.symm c)).1 e)
      exact ⟨g, e1, e2, (e3.below hb).step (hk (by omega))⟩
  · by_cases c : i = 5
    · subst c
      obtain ⟨e1, e2⟩ := h4 (.inr rfl)
      exact ⟨w.heap.size, e1, h.bl.size, .inl ⟨fun q => hl (h.c7 ((hk (by omega)).1 q)), e2⟩⟩
    · rw [hx (Ne.symm c)]
      obtain ⟨g, e1, e2, e3⟩ := h.b5 ((hk (Ne.symm c)).1 e)
      exact ⟨g, e1, e2, (e3.below hb).step (hk (by omega))⟩
  · by_cases c : i = 4
    · subst c
      obtain ⟨e1, _⟩ := h4 (.inl rfl)
      rw [hx (j := 5) (by omega)]
      obtain ⟨g, q1, _, q3⟩ := h.b5 ((hk (by omega)).1 e')
      rw [q1, if_pos rfl, e1]
      intro q; simp at q; have := q3.lt; omega
    · by_cases c' : i = 5
      · subst c'
        obtain ⟨e1, _⟩ := h4 (.inr rfl)
        rw [hx (j := 4) (by omega)]
        obtain ⟨g, q1, _, q3⟩ := h.b4 ((hk (by omega)).1 e)
        rw [q1, if_pos rfl, e1]
        intro q; simp at q; have := q3.lt; omega
      · rw [hx (Ne.symm c), hx (Ne.symm c')]
        exact h.ne ((hk (Ne.symm c)).1 e) ((hk (Ne.symm c')).1 e')
/-- what the first store finds, and what it leaves -/
theorem NStep.do6 (h : NStep W n1 n2 x1 y1 x2 y2 t0 t2 l x w) (hl : ¬ LL l 6) (h1 : LL l 1) (h4 : LL l 4) : ∃ g p c p' c', x 4 = .pointer (some ⟨g, 0, none⟩) ∧ AtC w g zeroFr FT ∧ x 1 = .agg #[.bool n1, .slice p (gr x1).length c, .bool false, .slice p' (gr y1).length c'] ∧
    NStep W n1 n2 x1 y1 x2 y2 t0 t2 (l.setIfInBounds 6 true) x (st4 w g (.bool n1) (.slice p (gr x1).length c) (.bool false) (.slice p' (gr y1).length c')) := by
  obtain ⟨g, e1, e2, e3⟩ := h.b4 h4
  obtain ⟨p, c, p', c', q1, q2, q3⟩ := h.f1 h1
  rcases e3 with ⟨_, e3⟩ | ⟨e, _⟩
  · have hs := fun j => LL_set (l := l) (i := 6) (by rw [h.sz]; omega) j
    have hk : ∀ {j}, j ≠ 6 → (LL (l.setIfInBounds 6 true) j ↔ LL l j) := fun {j} e => by rw [hs]; simp [e]
    refine ⟨g, p, c, p', c', e1, e3, q1, by simp [h.sz], below_st4 h.bl e2 _ _ _ _, fun e => h.v0 ((hk (by omega)).1 e), fun e => h.v2 ((hk (by omega)).1 e), fun e => (h.f1 ((hk (by omega)).1 e)).st4 e3 _ _ _ _, fun e => (h.f3 ((hk (by omega)).1 e)).st4 e3 _ _ _ _, fun _ => (hk (by omega)).2 h4, fun e => (hk (by omega)).2 (h.c7 ((hk (by omega)).1 e)), fun _ => ⟨g, e1, e2, .inr ⟨(hs 6).2 (.inl rfl), fin_put e3 q2 q3⟩⟩, fun e => ?_, fun e e' => h.ne ((hk (by omega)).1 e) ((hk (by omega)).1 e')⟩
    obtain ⟨g', r1, r2, r3⟩ := h.b5 ((hk (by omega)).1 e)
    exact ⟨g', r1, r2, (r3.far e3 (fun q => h.ne h4 ((hk (by omega)).1 e) (by rw [e1, r1, q])) _ _ _ _).step (hk (by omega))⟩
  · exact absurd e hl
theorem NStep.do7 (h : NStep W n1 n2 x1 y1 x2 y2 t0 t2 l x w) (hl : ¬ LL l 7) (h3 : LL l 3) (h5 : LL l 5) : ∃ g p c p' c', x 5 = .pointer (some ⟨g, 0, none⟩) ∧ AtC w g zeroFr FT ∧ x 3 = .agg #[.bool n2, .slice p (gr x2).length c, .bool false, .slice p' (gr y2).length c'] ∧
    NStep W n1 n2 x1 y1 x2 y2 t0 t2 (l.setIfInBounds 7 true) x (st4 w g (.bool n2) (.slice p (gr x2).length c) (.bool false) (.slice p' (gr y2).length c')) := by
  obtain ⟨g, e1, e2, e3⟩ := h.b5 h5
  obtain ⟨p, c, p', c', q1, q2, q3⟩ := h.f3 h3
  rcases e3 with ⟨_, e3⟩ | ⟨e, _⟩
  · have hs := fun j => LL_set (l := l) (i := 7) (by rw [h.sz]; omega) j
    have hk : ∀ {j}, j ≠ 7 → (LL (l.setIfInBounds 7 true) j ↔ LL l j) := fun {j} e => by rw [hs]; simp [e]
    refine ⟨g, p, c, p', c', e1, e3, q1, by simp [h.sz], below_st4 h.bl e2 _ _ _ _, fun e => h.v0 ((hk (by omega)).1 e), fun e => h.v2 ((hk (by omega)).1 e), fun e => (h.f1 ((hk (by omega)).1 e)).st4 e3 _ _ _ _, fun e => (h.f3 ((hk (by omega)).1 e)).st4 e3 _ _ _ _, fun e => (hk (by omega)).2 (h.c6 ((hk (by omega)).1 e)), fun _ => (hk (by omega)).2 h5, fun e => ?_, fun _ => ⟨g, e1, e2, .inr ⟨(hs 7).2 (.inl rfl), fin_put e3 q2 q3⟩⟩, fun e e' => h.ne ((hk (by omega)).1 e) ((hk (by omega)).1 e')⟩
    obtain ⟨g', r1, r2, r3⟩ := h.b4 ((hk (by omega)).1 e)
    exact ⟨g', r1, r2, (r3.far e3 (fun q => h.ne ((hk (by omega)).1 e) h5 (by rw [e1, r1, q])) _ _ _ _).step (hk (by omega))⟩
  · exact absurd e hl
/-- behind the region -/
theorem NStep.done (h : NStep W n1 n2 x1 y1 x2 y2 t0 t2 l x w) (h6 : LL l 6) (h7 : LL l 7) : MadeF W n1 n2 x1 y1 x2 y2 (x 4) (x 5) w := by
  obtain ⟨g, e1, _, e3⟩ := h.b4 (h.c6 h6)
  obtain ⟨g', r1, _, r3⟩ := h.b5 (h.c7 h7)
  rcases e3 with ⟨e, _⟩ | ⟨_, e3⟩
  · exact absurd h6 e
  rcases r3 with ⟨e, _⟩ | ⟨_, r3⟩
  · exact absurd h7 e
  exact ⟨g, g', e1, r1, e3, r3, h.bl⟩
end
end Go.Proofs.YtpbnmhnbkfnaeaaGreatDoor
/- The program's NumCmp. -/
namespace Go.Proofs.YtpbnmhnbkfnaeaaGreatDoor
open Go.RowKit Nt

theorem cell_drew (w : World) (a : Addr) : w.drew.cell? a = w.cell? a := rfl
theorem frac_s (neg : Bool) (a q : Nat) (w : World) (ha : (dec a).size ≤ 60) (hq : (dec q).size ≤ 60) (hT : Tens w) :
    Calls Tryz.prog 160 #[.agg #[.bool neg, .string (dec a), .string (dec q)]] w fun e w' => (∃ p c p' c', e = .returned (.agg #[.bool neg, .slice p (gr a).length c, .bool false, .slice p' (gr q).length c']) ∧ isNat w' (.slice p (gr a).length c) a ∧ isNat w' (.slice p' (gr q).length c') q) ∧ Below w.heap.size w w' := by
  refine (fractionOf_c neg a q w ha hq hT).mono ?_
  rintro e w' ⟨⟨v, u, rfl, hv, hu⟩, hb⟩
  obtain ⟨p, c, rfl⟩ := own_slice hv
  obtain ⟨p', c', rfl⟩ := own_slice hu
  exact ⟨⟨p, c, p', c', rfl, hv.nat, hu.nat⟩, hb⟩

theorem cmpRt_sgW (n1 n2 : Bool) (x1 y1 x2 y2 : Nat) : sgW (plusW (n1, x1 * y2) (!n2, x2 * y1)) = cmpRt (n1, x1, y1) (n2, x2, y2) := by
  rw [sgW_sgn, plusW_sgn, sgn_mul, sgn_mul, sgn_not, Int.neg_mul]
  rfl
set_option maxRecDepth 100000 in
set_option maxHeartbeats 16000000 in
theorem numCmp_yes (n1 n2 : Bool) (x1 y1 x2 y2 : Nat) (w : World) (sx1 : (dec x1).size ≤ 60) (sy1 : (dec y1).size ≤ 60) (sx2 : (dec x2).size ≤ 60) (sy2 : (dec y2).size ≤ 60) (hT : Tens w) (h3 : 3 < w.heap.size)
    (ho1 : okM n1 (txl 10 x1) (txl 10 y1) = true) (ho2 : okM n2 (txl 10 x2) (txl 10 y2) = true) :
    Calls Tryz.prog 129 #[.agg #[.bool n1, .string (dec x1), .string (dec y1)], .agg #[.bool n2, .string (dec x2), .string (dec y2)]] w fun e w' => e = .returned (.int .i64 (cmpRt (n1, x1, y1) (n2, x2, y2))) ∧ Below w.heap.size w w' := by
  obtain ⟨R, hR⟩ : ∃ R, cmpRt (n1, x1, y1) (n2, x2, y2) = R := ⟨_, rfl⟩
  rw [hR]
  have HCR := hide hR
  clear hR
  have HO1 := hide (fun W h => (by have := implNumOk_c n1 (txl 10 x1) (txl 10 y1) W (by rw [← dec_len]; omega) (by rw [← dec_len]; omega) h; rw [ho1] at this; exact this : Calls Tryz.prog 159 #[.agg #[.bool n1, .string (dec x1), .string (dec y1)]] W fun e w' => e = .returned (.bool true) ∧ Below W.heap.size W w'))
  have HO2 := hide (fun W h => (by have := implNumOk_c n2 (txl 10 x2) (txl 10 y2) W (by rw [← dec_len]; omega) (by rw [← dec_len]; omega) h; rw [ho2] at this; exact this : Calls Tryz.prog 159 #[.agg #[.bool n2, .string (dec x2), .string (dec y2)]] W fun e w' => e = .returned (.bool true) ∧ Below W.heap.size W w'))
  have HF1 := hide (fun W h => frac_s n1 x1 y1 W sx1 sy1 h)
  have HF2 := hide (fun W h => frac_s n2 x2 y2 W sx2 sy2 h)
  have HSX := hide (And.intro sx1 (And.intro sy1 (And.intro sx2 sy2)))
  have HTL := hide h3
  have hb00 := below_two w (.bool n1) (.string (dec x1)) (.string (dec y1)) (.bool n2) (.string (dec x2)) (.string (dec y2)) 79
  have HB0 := hide hb00
  have HA10 := hide ((AtC3.new w (.bool n1) (.string (dec x1)) (.string (dec y1)) 79).below (step_a (Below.refl _ _) (.cells #[.bool n2, .string (dec x2), .string (dec y2)] 79)))
  have HA20 := hide (AtC3.new (w.alloc (.cells #[.bool n1, .string (dec x1), .string (dec y1)] 79)) (.bool n2) (.string (dec x2)) (.string (dec y2)) 79)
  rw [World.size_alloc] at HA20
  clear ho1 ho2 sx1 sy1 sx2 sy2 hb00
  go_enter Tryz.func129, Tryz.ntmps129
  go_wp2_with fail
  obtain ⟨W0, hW⟩ : ∃ W, (w.alloc (.cells #[.bool n1, .string (dec x1), .string (dec y1)] 79)).alloc (.cells #[.bool n2, .string (dec x2), .string (dec y2)] 79) = W := ⟨_, rfl⟩
  rw [hW] at HB0 HA10 HA20 ⊢
  clear hW
  refine (unhide HO1 W0 (hT.belowB (unhide HB0) h3)).mono ?_
  rintro e Wa ⟨rfl, hba⟩
  have HBa := hide (step_b (unhide HB0) hba)
  have HA1a := hide ((unhide HA10).below hba)
  have HA2a := hide ((unhide HA20).below hba)
  have r0 := (unhide HA2a).n0
  have r1 := (unhide HA2a).n1
  have r2 := (unhide HA2a).n2
  clear hba
  go_wp2_with fail
  refine (unhide HO2 Wa (hT.belowB (unhide HBa) h3)).mono ?_
  rintro e W ⟨rfl, hbb⟩
  have HB := hide (step_b (unhide HBa) hbb)
  have HA1 := hide ((unhide HA1a).below hbb)
  have HA2 := hide ((unhide HA2a).below hbb)
  have HT := hide (hT.belowB (unhide HB) h3)
  have HTL2 : Hid (3 < W.heap.size) := hide (by have := (unhide HB).size; omega)
  clear hbb r0 r1 r2 HTL hT h3 HBa HA1a HA2a HB0 HA10 HA20
  have HTL := HTL2
  have a0 := (unhide HA1).n0
  have a1 := (unhide HA1).n1
  have a2 := (unhide HA1).n2
  have a3 := (unhide HA2).n0
  have a4 := (unhide HA2).n1
  have a5 := (unhide HA2).n2
  have HSIX : Hid (∀ w', Below W.heap.size W w' → w'.cell? ⟨w.heap.size, 0, none⟩ = some (.bool n1) ∧ w'.cell? ⟨w.heap.size, 1, none⟩ = some (.string (dec x1)) ∧ w'.cell? ⟨w.heap.size, 2, none⟩ = some (.string (dec y1)) ∧ w'.cell? ⟨w.heap.size + 1, 0, none⟩ = some (.bool n2) ∧ w'.cell? ⟨w.heap.size + 1, 1, none⟩ = some (.string (dec x2)) ∧ w'.cell? ⟨w.heap.size + 1, 2, none⟩ = some (.string (dec y2))) := hide (fun w' h => ⟨((unhide HA1).below h).n0, ((unhide HA1).below h).n1, ((unhide HA1).below h).n2, ((unhide HA2).below h).n0, ((unhide HA2).below h).n1, ((unhide HA2).below h).n2⟩)
  go_wp2_with fail
  go_cut [5, 6] from 15 to 18 (fun s5 s6 wx => MadeF W n1 n2 x1 y1 x2 y2 s5 s6 wx)
  case first =>
    refine wp_region_any (by kernel_rfl) ?_
    change wpAny _ _ _ _ _ _ _ (World.drew _)
    refine wpAny_inv (fun l a w' => ∃ x : Nat → Value, a = ⟨#[.agg #[.bool n1, .string (dec x1), .string (dec y1)], .agg #[.bool n2, .string (dec x2), .string (dec y2)], .pointer (some ⟨w.heap.size, 0, none⟩), .pointer (some ⟨w.heap.size + 1, 0, none⟩), .int .i64 0, x 4, x 5, .agg #[.bool n1, .string (dec x1), .string (dec y1)], .bool true, .bool false, .bool false, .agg #[.bool n2, .string (dec x2), .string (dec y2)], .bool true, .bool false, .bool false, x 0, x 1, x 2, x 3, undef, undef, undef, undef, undef, undef, undef, undef, undef, undef, undef], []⟩ ∧ NStep W n1 n2 x1 y1 x2 y2 (.agg #[.bool n1, .string (dec x1), .string (dec y1)]) (.agg #[.bool n2, .string (dec x2), .string (dec y2)]) l x w') ?hsz ?hend ?hstep ?hgo _ _ _ _ ?h0 ?hc
    case hsz =>
      rintro l a w' ⟨x, _, h⟩
      exact h.sz
    case h0 => exact ⟨fun _ => undef, rfl, NStep.start rfl (Below.refl _ _).drew⟩
    case hc => exact Nat.le_of_eq rfl
    case hgo =>
      rintro l a w' ⟨x, rfl, h⟩ hr j hj
      have k0 : l[0]? = some true := LL_ready hr 0 (by simp) (by rw [h.sz]; rfl) (by simp [Region.binds, Array.getD_eq_getD_getElem?])
      have k2 : l[2]? = some true := LL_ready hr 2 (by simp) (by rw [h.sz]; rfl) (by simp [Region.binds, Array.getD_eq_getD_getElem?])
      have k4 : l[4]? = some true := LL_ready hr 4 (by simp) (by rw [h.sz]; rfl) (by simp [Region.binds, Array.getD_eq_getD_getElem?])
      have k5 : l[5]? = some true := LL_ready hr 5 (by simp) (by rw [h.sz]; rfl) (by simp [Region.binds, Array.getD_eq_getD_getElem?])
      have k1 : l[1]? = some true := LL_ready hr 1 (by simp) (by rw [h.sz]; rfl) (by simp [Region.binds, Array.getD_eq_getD_getElem?, k0])
      have k3 : l[3]? = some true := LL_ready hr 3 (by simp) (by rw [h.sz]; rfl) (by simp [Region.binds, Array.getD_eq_getD_getElem?, k2, k1])
      have k6 : l[6]? = some true := LL_ready hr 6 (by simp) (by rw [h.sz]; rfl) (by simp [Region.binds, Array.getD_eq_getD_getElem?, k0, k2, k4, k5, k1, k3])
      have k7 : l[7]? = some true := LL_ready hr 7 (by simp) (by rw [h.sz]; rfl) (by simp [Region.binds, Array.getD_eq_getD_getElem?, k0, k2, k4, k5, k1, k3, k6])
      have hj : j < 8 := by simpa using hj
      rcases (by omega : j = 0 ∨ j = 1 ∨ j = 2 ∨ j = 3 ∨ j = 4 ∨ j = 5 ∨ j = 6 ∨ j = 7) with rfl | rfl | rfl | rfl | rfl | rfl | rfl | rfl
      all_goals assumption
    case hstep =>
      rintro l a w' j ⟨x, rfl, h⟩ hi
      have hi2 := hi
      unfold Region.ready at hi2
      rw [List.mem_filter] at hi2
      obtain ⟨hjj, hi3⟩ := hi2
      have hjj : j < 8 := by simpa using hjj
      have hjl : ¬ LL l j := fun e => by
        unfold LL at e
        simp [Array.getD_eq_getD_getElem?, e] at hi3
      clear hi
      rcases (by omega : j = 0 ∨ j = 1 ∨ j = 2 ∨ j = 3 ∨ j = 4 ∨ j = 5 ∨ j = 6 ∨ j = 7) with rfl | rfl | rfl | rfl | rfl | rfl | rfl | rfl
      · clear hi3
        obtain ⟨y0, y1', y2', z0, z1, z2⟩ := (unhide HSIX) w' h.bl
        refine wpOp_step rfl (fun K hK => ?_)
        go_simp
        exact hK _ _ ⟨_, by simp, h.next 0 (by omega) hjl (.agg #[.bool n1, .string (dec x1), .string (dec y1)]) (Below.refl _ _) (fun _ => rfl) (fun e => by omega) (fun e => by omega) (fun e => by omega) (fun e => by omega)⟩
      · have l0 : LL l 0 := LL_of (by simp [Region.binds, Array.getD_eq_getD_getElem?] at hi3; simp [hi3])
        clear hi3
        have x0' := h.v0 l0
        refine wpOp_step rfl (fun K hK => ?_)
        go_simp
        go_at_call 160
        refine (unhide HF1 w' ((unhide HT).belowB h.bl (unhide HTL))).mono ?_
        rintro e w1 ⟨⟨p, c, p', c', rfl, hv, hu⟩, hb⟩
        (try dsimp only)
        exact hK _ _ ⟨_, by simp [x0'], h.next 1 (by omega) hjl _ hb (fun e => by omega) (fun e => by omega) (fun _ => ⟨p, c, p', c', rfl, hv, hu⟩) (fun e => by omega) (fun e => by omega)⟩
      · clear hi3
        obtain ⟨y0, y1', y2', z0, z1, z2⟩ := (unhide HSIX) w' h.bl
        refine wpOp_step rfl (fun K hK => ?_)
        go_simp
        exact hK _ _ ⟨_, by simp, h.next 2 (by omega) hjl (.agg #[.bool n2, .string (dec x2), .string (dec y2)]) (Below.refl _ _) (fun e => by omega) (fun _ => rfl) (fun e => by omega) (fun e => by omega) (fun e => by omega)⟩
      · have l2 : LL l 2 := LL_of (by simp [Region.binds, Array.getD_eq_getD_getElem?] at hi3; simp [hi3])
        clear hi3
        have x2' := h.v2 l2
        refine wpOp_step rfl (fun K hK => ?_)
        go_simp
        go_at_call 160
        refine (unhide HF2 w' ((unhide HT).belowB h.bl (unhide HTL))).mono ?_
        rintro e w1 ⟨⟨p, c, p', c', rfl, hv, hu⟩, hb⟩
        (try dsimp only)
        exact hK _ _ ⟨_, by simp [x2'], h.next 3 (by omega) hjl _ hb (fun e => by omega) (fun e => by omega) (fun e => by omega) (fun _ => ⟨p, c, p', c', rfl, hv, hu⟩) (fun e => by omega)⟩
      · clear hi3
        refine wpOp_step rfl (fun K hK => ?_)
        go_simp
        exact hK _ _ ⟨_, by simp, h.next 4 (by omega) hjl (.pointer (some ⟨w'.heap.size, 0, none⟩)) (step_a (Below.refl _ _) noFr) (fun e => by omega) (fun e => by omega) (fun e => by omega) (fun e => by omega) (fun _ => ⟨rfl, AtC.new _ _ _⟩)⟩
      · clear hi3
        refine wpOp_step rfl (fun K hK => ?_)
        go_simp
        exact hK _ _ ⟨_, by simp, h.next 5 (by omega) hjl (.pointer (some ⟨w'.heap.size, 0, none⟩)) (step_a (Below.refl _ _) noFr) (fun e => by omega) (fun e => by omega) (fun e => by omega) (fun e => by omega) (fun _ => ⟨rfl, AtC.new _ _ _⟩)⟩
      · have l1 : LL l 1 := LL_of (by simp [Region.binds, Array.getD_eq_getD_getElem?] at hi3; simp [hi3])
        have l4 : LL l 4 := LL_of (by simp [Region.binds, Array.getD_eq_getD_getElem?] at hi3; simp [hi3])
        clear hi3
        obtain ⟨g, p, c, p', c', e5, hM, e1, hn⟩ := h.do6 hjl l1 l4
        have m0 := hM.m0
        have m1 := hM.m1
        have m2 := hM.m2
        have m3 := hM.m3
        have mf := hM.f
        have HN := hide hn
        clear hM hn
        refine wpOp_step rfl (fun K hK => ?_)
        go_simp
        exact hK _ _ ⟨_, by simp [e1, e5], unhide HN⟩
      · have l3 : LL l 3 := LL_of (by simp [Region.binds, Array.getD_eq_getD_getElem?] at hi3; simp [hi3])
        have l5 : LL l 5 := LL_of (by simp [Region.binds, Array.getD_eq_getD_getElem?] at hi3; simp [hi3])
        clear hi3
        obtain ⟨g, p, c, p', c', e5, hM, e1, hn⟩ := h.do7 hjl l3 l5
        have m0 := hM.m0
        have m1 := hM.m1
        have m2 := hM.m2
        have m3 := hM.m3
        have mf := hM.f
        have HN := hide hn
        clear hM hn
        refine wpOp_step rfl (fun K hK => ?_)
        go_simp
        exact hK _ _ ⟨_, by simp [e1, e5], unhide HN⟩
    case hend =>
      rintro l a w' ⟨x, rfl, h⟩ hall
      have HD := hide (h.done (hall 6 (by simp)) (hall 7 (by simp)))
      clear h hall
      go_wp2_with fail
      go_meet
      exact unhide HD
  case rest =>
  obtain ⟨g, h, rfl, rfl, ⟨p1, c1, q1, e1, hM1, v1, u1⟩, ⟨p2, c2, q2, e2, hM2, v2, u2⟩, hb⟩ := hcut
  rename World => w3
  have HB3 := hide (step_b (unhide HB) hb)
  have HG := hide hM1
  have HH := hide hM2
  have HV1 := hide v1
  have HU1 := hide u1
  have HV2 := hide v2
  have HU2 := hide u2
  have a0 := hM1.m0
  have a1 := hM1.m1
  have a2 := hM1.m2
  have a3 := hM1.m3
  have b0 := hM2.m0
  have b1 := hM2.m1
  have b2 := hM2.m2
  have b3 := hM2.m3
  have HE8 : Hid (∀ w', Below w3.heap.size w3 w' → w'.cell? ⟨g, 0, none⟩ = some (.bool n1) ∧ w'.cell? ⟨g, 1, none⟩ = some (.slice p1 (gr x1).length c1) ∧ w'.cell? ⟨g, 2, none⟩ = some (.bool false) ∧ w'.cell? ⟨g, 3, none⟩ = some (.slice q1 (gr y1).length e1) ∧ w'.cell? ⟨h, 0, none⟩ = some (.bool n2) ∧ w'.cell? ⟨h, 1, none⟩ = some (.slice p2 (gr x2).length c2) ∧ w'.cell? ⟨h, 2, none⟩ = some (.bool false) ∧ w'.cell? ⟨h, 3, none⟩ = some (.slice q2 (gr y2).length e2)) := hide (fun w' hb => ⟨(hM1.below hb).m0, (hM1.below hb).m1, (hM1.below hb).m2, (hM1.below hb).m3, (hM2.below hb).m0, (hM2.below hb).m1, (hM2.below hb).m2, (hM2.below hb).m3⟩)
  obtain ⟨sx1, sy1, sx2, sy2⟩ := unhide HSX
  have d1 := dec_gr (dec_prod sx1 sy2)
  have d2 := dec_gr (dec_prod sx2 sy1)
  have g1 := dec_gr sx1
  have g2 := dec_gr sy1
  have g3 := dec_gr sx2
  have g4 := dec_gr sy2
  have HT1 : Hid (∀ W, Below w3.heap.size w3 W → Calls Tryz.prog 161 #[wholeV n1 (.slice p1 (gr x1).length c1), wholeV false (.slice q2 (gr y2).length e2)] W fun e w' => (∃ p c, e = .returned (.agg #[.bool n1, .slice p (gr (x1 * y2)).length c]) ∧ isNat w' (.slice p (gr (x1 * y2)).length c) (x1 * y2)) ∧ Below W.heap.size W w') := hide (fun W hb => by have := wTimes_s n1 false _ _ x1 y2 W (isNat_below v1 hb) (isNat_below u2 hb) (by omega) (by omega); simpa only [Bool.bne_false] using this)
  have HT2 : Hid (∀ W, Below w3.heap.size w3 W → Calls Tryz.prog 161 #[wholeV n2 (.slice p2 (gr x2).length c2), wholeV false (.slice q1 (gr y1).length e1)] W fun e w' => (∃ p c, e = .returned (.agg #[.bool n2, .slice p (gr (x2 * y1)).length c]) ∧ isNat w' (.slice p (gr (x2 * y1)).length c) (x2 * y1)) ∧ Below W.heap.size W w') := hide (fun W hb => by have := wTimes_s n2 false _ _ x2 y1 W (isNat_below v2 hb) (isNat_below u1 hb) (by omega) (by omega); simpa only [Bool.bne_false] using this)
  have HWC : Hid (∀ W v u, isNat W v (x1 * y2) → isNat W u (x2 * y1) → Calls Tryz.prog 162 #[wholeV n1 v, wholeV n2 u] W fun e w' => e = .returned (.int .i64 R) ∧ Below W.heap.size W w') := hide (fun W v u hv hu => by rw [← unhide HCR, ← cmpRt_sgW]; exact wCmp_c n1 n2 v u (x1 * y2) (x2 * y1) W hv hu (by omega) (by omega))
  clear hb hM1 hM2 v1 u1 v2 u2 sx1 sy1 sx2 sy2 d1 d2 g1 g2 g3 g4 HSX HSIX HCR
  obtain ⟨lx1, hl1⟩ : ∃ l, (gr x1).length = l := ⟨_, rfl⟩
  obtain ⟨ly1, hl2⟩ : ∃ l, (gr y1).length = l := ⟨_, rfl⟩
  obtain ⟨lx2, hl3⟩ : ∃ l, (gr x2).length = l := ⟨_, rfl⟩
  obtain ⟨ly2, hl4⟩ : ∃ l, (gr y2).length = l := ⟨_, rfl⟩
  obtain ⟨lm1, hl5⟩ : ∃ l, (gr (x1 * y2)).length = l := ⟨_, rfl⟩
  obtain ⟨lm2, hl6⟩ : ∃ l, (gr (x2 * y1)).length = l := ⟨_, rfl⟩
  rw [hl1] at HE8 HT1 a1
  rw [hl2] at HE8 HT2 a3
  rw [hl3] at HE8 HT2 b1
  rw [hl4] at HE8 HT1 b3
  rw [hl5] at HT1
  rw [hl6] at HT2
  clear hl1 hl2 hl3 hl4 hl5 hl6 HG HH HV1 HU1 HV2 HU2
  go_wp2_with fail
  go_region_held3 (fun w' => w'.cell? ⟨g, 0, none⟩ = some (.bool n1) ∧ w'.cell? ⟨g, 1, none⟩ = some (.slice p1 lx1 c1) ∧ w'.cell? ⟨g, 2, none⟩ = some (.bool false) ∧ w'.cell? ⟨g, 3, none⟩ = some (.slice q1 ly1 e1) ∧ w'.cell? ⟨h, 0, none⟩ = some (.bool n2) ∧ w'.cell? ⟨h, 1, none⟩ = some (.slice p2 lx2 c2) ∧ w'.cell? ⟨h, 2, none⟩ = some (.bool false) ∧ w'.cell? ⟨h, 3, none⟩ = some (.slice q2 ly2 e2)) ((refine unhide HE8 _ ?_; first | with_reducible exact unhide HK3 | with_reducible exact unhide HK2 | with_reducible exact unhide HK1 | exact (Below.refl _ _).drew | exact Below.refl _ _)) (first
    | (go_at_call_of 161 (Value.slice p1 lx1 c1); refine (unhide HT1 w3.drew (Below.refl _ _).drew).mono ?_; rintro e w4 ⟨⟨r1, k1, rfl, hv1⟩, hb1⟩; have HK1 : Hid (Below w3.heap.size w3 w4) := hide ((Below.refl _ _).drew.trans hb1); have HV1 := hide hv1; clear hb1 hv1)
    | (go_at_call_of 161 (Value.slice p2 lx2 c2); refine (unhide HT2 w4 (unhide HK1)).mono ?_; rintro e w5 ⟨⟨r2, k2, rfl, hv2⟩, hb2⟩; have HK2 : Hid (Below w3.heap.size w3 w5) := hide (step_b (unhide HK1) hb2); have HV2 := hide hv2; have HV1' := hide (isNat_below (unhide HV1) hb2); clear hb2 hv2)
    | (go_at_call 162; refine (unhide HWC w5 _ _ (unhide HV1') (unhide HV2)).mono ?_; rintro e w6 ⟨rfl, hb3⟩; have HK3 : Hid (Below w3.heap.size w3 w6) := hide (step_b (unhide HK2) hb3); clear hb3))
  all_goals
    go_wp2_with fail
    go_ret
    exact ⟨rfl, step_b (unhide HB3) (unhide HK3)⟩
end Go.Proofs.YtpbnmhnbkfnaeaaGreatDoor
/- The program's NumCmp. -/
namespace Go.Proofs.YtpbnmhnbkfnaeaaGreatDoor
open Go.RowKit Nt

set_option maxRecDepth 100000 in
set_option maxHeartbeats 4000000 in
theorem implNumCmp_c (a b : T3) (w : World) (ha : smallT a) (hb : smallT b) (hT : Tens w) (h3 : 3 < w.heap.size) :
    Calls Tryz.prog 129 #[numT a, numT b] w fun e w' => e = .returned (.int .i64 (cmpT a b)) ∧ Below w.heap.size w w' := by
  obtain ⟨n1, u1, d1⟩ := a
  obtain ⟨n2, u2, d2⟩ := b
  obtain ⟨ha1, ha2⟩ := ha
  obtain ⟨hb1, hb2⟩ := hb
  simp only at ha1 ha2 hb1 hb2
  by_cases hoo : okM n1 u1 d1 = true ∧ okM n2 u2 d2 = true
  · obtain ⟨ho1, ho2⟩ := hoo
    obtain ⟨m1, x1, y1, e1, v1, s1, s2, s3, s4⟩ := ok_T (t := (n1, u1, d1)) ho1
    obtain ⟨m2, x2, y2, e2, v2, s5, s6, s7, s8⟩ := ok_T (t := (n2, u2, d2)) ho2
    rw [cmpT_yes (a := (n1, u1, d1)) (b := (n2, u2, d2)) ho1 ho2, v1, v2]
    unfold putT at e1 e2
    simp only [Prod.mk.injEq] at e1 e2
    obtain ⟨rfl, rfl, rfl⟩ := e1
    obtain ⟨rfl, rfl, rfl⟩ := e2
    exact numCmp_yes n1 n2 x1 y1 x2 y2 w s1 s2 s5 s6 hT h3 ho1 ho2
  have HQ := hide (cmpT_no (a := (n1, u1, d1)) (b := (n2, u2, d2)) (by
    show (okM n1 u1 d1 && okM n2 u2 d2) = false
    cases h1 : okM n1 u1 d1
    · rfl
    · cases h2 : okM n2 u2 d2
      · rfl
      · exact absurd ⟨h1, h2⟩ hoo))
  have HN := hide (fun (h : okM n1 u1 d1 = true) => Bool.eq_false_iff.2 (fun h' => hoo ⟨h, h'⟩))
  have HB := hide (below_two w (.bool n1) (.string (B u1)) (.string (B d1)) (.bool n2) (.string (B u2)) (.string (B d2)) 79)
  have HA1 := hide ((AtC3.new w (.bool n1) (.string (B u1)) (.string (B d1)) 79).below (step_a (Below.refl _ _) (.cells #[.bool n2, .string (B u2), .string (B d2)] 79)))
  have HA2 := hide (AtC3.new (w.alloc (.cells #[.bool n1, .string (B u1), .string (B d1)] 79)) (.bool n2) (.string (B u2)) (.string (B d2)) 79)
  rw [World.size_alloc] at HA2
  have HT := hide (fun W h => hT.belowB (w' := W) h h3)
  have H1 := hide (fun W h => implNumOk_c n1 u1 d1 W (by omega) (by omega) h)
  have H2 := hide (fun W h => implNumOk_c n2 u2 d2 W (by omega) (by omega) h)
  unfold numB at H1 H2
  show Calls Tryz.prog 129 #[.agg #[.bool n1, .string (B u1), .string (B d1)], .agg #[.bool n2, .string (B u2), .string (B d2)]] w _
  clear ha1 ha2 hb1 hb2 hoo hT h3
  go_enter Tryz.func129, Tryz.ntmps129
  go_wp2_with fail
  obtain ⟨W, hW⟩ : ∃ W, (w.alloc (.cells #[.bool n1, .string (B u1), .string (B d1)] 79)).alloc (.cells #[.bool n2, .string (B u2), .string (B d2)] 79) = W := ⟨_, rfl⟩
  rw [hW] at HB HA1 HA2 ⊢
  clear hW
  refine (unhide H1 W (unhide HT W (unhide HB))).mono ?_
  rintro e w1 ⟨rfl, hb1⟩
  have HB1 := hide (step_b (unhide HB) hb1)
  have HC2 := hide ((unhide HA2).below hb1)
  clear hb1 HB HA1 HA2
  cases ho1 : okM n1 u1 d1 with
  | false =>
    clear ho1
    go_wp2_with fail
    go_ret
    exact ⟨ret_int (unhide HQ).symm, unhide HB1⟩
  | true =>
    have HNO := hide (unhide HN ho1)
    have q0 := (unhide HC2).n0
    have q1 := (unhide HC2).n1
    have q2 := (unhide HC2).n2
    clear ho1
    go_wp2_with fail
    refine (unhide H2 w1 (unhide HT w1 (unhide HB1))).mono ?_
    rintro e w2 ⟨rfl, hb2⟩
    have HB2 := hide (step_b (unhide HB1) hb2)
    rw [unhide HNO]
    clear hb2 HB1 HC2 q0 q1 q2
    go_wp2_with fail
    go_ret
    exact ⟨ret_int (unhide HQ).symm, unhide HB2⟩
end Go.Proofs.YtpbnmhnbkfnaeaaGreatDoor
/- Contracts of Go's library at this program: as the kit's lay-shelf.mjs and lay-plain.mjs print them (the numbers are this seat's: lay anew at another). -/
namespace Go.Proofs.YtpbnmhnbkfnaeaaGreatDoor
open Go.Shelf
def Tryz.lays119_ren : Go.Shelf.Ren := ⟨fun | 119 => 229 | n => n, fun | 21 => 21 | 4 => 4 | n => n, fun | n => n⟩
theorem Tryz.lays119 : Go.Proofs.Lays.n119 Tryz.prog Tryz.lays119_ren := {
  mixed := by kernel_rfl
  f119 := Tryz.func229.trans (congrArg some (by kernel_rfl))
  t4 := Tryz.underlying4
  a4 := Tryz.isAgg4
  z4 := Tryz.sizeOf4
  v4 := Tryz.zeroValue4
  t21 := Tryz.underlying21
  a21 := Tryz.isAgg21
  z21 := Tryz.sizeOf21
  v21 := Tryz.zeroValue21 }
/-- utf8.ValidRune: "ValidRune reports whether r can be legally encoded as UTF-8. Code points that are out of range or a surrogate half are illegal.": IT RETURNS 'Lib.validRune r'; the world is as it was. (LAID: no walk: one application.) -/
theorem Tryz.utf8_ValidRune (r : Int) (w : World) :
    Calls Tryz.prog 229 #[.int .i32 r] w fun e w' => e = .returned (.bool (Lib.validRune r)) ∧ w' = w := Any.utf8_ValidRune Tryz.lays119 r w
def Tryz.lays213_ren : Go.Shelf.Ren := ⟨fun | 213 => 154 | 265 => 177 | n => n, fun | 9 => 9 | 3 => 3 | n => n, fun | n => n⟩
theorem Tryz.lays213 : Go.Proofs.Lays.n213 Tryz.prog Tryz.lays213_ren := {
  mixed := by kernel_rfl
  f213 := Tryz.func154.trans (congrArg some (by kernel_rfl))
  f265 := Tryz.func177.trans (congrArg some (by kernel_rfl))
  t3 := Tryz.underlying3
  a3 := Tryz.isAgg3
  z3 := Tryz.sizeOf3
  v3 := Tryz.zeroValue3
  t9 := Tryz.underlying9
  a9 := Tryz.isAgg9
  z9 := Tryz.sizeOf9
  v9 := Tryz.zeroValue9 }
open Go.RowKit in
/-- internal/bytealg.CompareString (what strings.Compare calls): IT RETURNS 'Lib.compareBytes a b'; the world is as it was. (LAID: no walk: one application.) -/
theorem Tryz.bytealg_CompareString (a b : ByteArray) (w : World) :
    Calls Tryz.prog 154 #[.string a, .string b] w fun e w' => e = .returned (.int .i64 (Lib.compareBytes a.data.toList b.data.toList)) ∧ w' = w := Any.bytealg_CompareString Tryz.lays213 a b w
def Tryz.lays106_ren : Go.Shelf.Ren := ⟨fun | 106 => 127 | 213 => 154 | 265 => 177 | n => n, fun | 9 => 9 | 3 => 3 | n => n, fun | n => n⟩
theorem Tryz.lays106 : Go.Proofs.Lays.n106 Tryz.prog Tryz.lays106_ren := {
  mixed := by kernel_rfl
  f106 := Tryz.func127.trans (congrArg some (by kernel_rfl))
  f213 := Tryz.func154.trans (congrArg some (by kernel_rfl))
  f265 := Tryz.func177.trans (congrArg some (by kernel_rfl))
  t3 := Tryz.underlying3
  a3 := Tryz.isAgg3
  z3 := Tryz.sizeOf3
  v3 := Tryz.zeroValue3
  t9 := Tryz.underlying9
  a9 := Tryz.isAgg9
  z9 := Tryz.sizeOf9
  v9 := Tryz.zeroValue9 }
open Go.RowKit in
/-- strings.Compare: "Compare returns an integer comparing two strings lexicographically. The result will be 0 if a == b, -1 if a < b, and +1 if a > b.": IT RETURNS 'Lib.compareBytes a b'; the world is as it was. (LAID: no walk: one application.) -/
theorem Tryz.strings_Compare (a b : ByteArray) (w : World) :
    Calls Tryz.prog 127 #[.string a, .string b] w fun e w' => e = .returned (.int .i64 (Lib.compareBytes a.data.toList b.data.toList)) ∧ w' = w := Any.strings_Compare Tryz.lays106 a b w
def Tryz.lays137_ren : Go.Shelf.Ren := ⟨fun | 137 => 228 | 217 => 221 | 266 => 226 | n => n, fun | 9 => 9 | 5 => 5 | 3 => 3 | n => n, fun | n => n⟩
theorem Tryz.lays137 : Go.Proofs.Lays.n137 Tryz.prog Tryz.lays137_ren := {
  mixed := by kernel_rfl
  f137 := Tryz.func228.trans (congrArg some (by kernel_rfl))
  f217 := Tryz.func221.trans (congrArg some (by kernel_rfl))
  f266 := Tryz.func226.trans (congrArg some (by kernel_rfl))
  t3 := Tryz.underlying3
  a3 := Tryz.isAgg3
  z3 := Tryz.sizeOf3
  v3 := Tryz.zeroValue3
  t5 := Tryz.underlying5
  a5 := Tryz.isAgg5
  z5 := Tryz.sizeOf5
  v5 := Tryz.zeroValue5
  t9 := Tryz.underlying9
  a9 := Tryz.isAgg9
  z9 := Tryz.sizeOf9
  v9 := Tryz.zeroValue9 }
open Go.RowKit in
/-- strings.IndexByte: "IndexByte returns the index of the first instance of c in s, or -1 if c is not present in s.": IT RETURNS 'Lib.indexByte s c'; the world is as it was. (LAID: no walk: one application.) -/
theorem Tryz.strings_IndexByte (s : ByteArray) (c : Int) (w : World) :
    Calls Tryz.prog 228 #[.string s, .int .u8 c] w fun e w' => e = .returned (.int .i64 (Lib.indexByte s.data.toList c.toNat.toUInt8)) ∧ w' = w := Any.strings_IndexByte Tryz.lays137 s c w
def Tryz.lays195_ren : Go.Shelf.Ren := ⟨fun | 195 => 168 | n => n, fun | 9 => 9 | 3 => 3 | 0 => 0 | 4 => 4 | n => n, fun | n => n⟩
theorem Tryz.lays195 : Go.Proofs.Lays.n195 Tryz.prog Tryz.lays195_ren := {
  mixed := by kernel_rfl
  f195 := Tryz.func168.trans (congrArg some (by kernel_rfl))
  t0 := Tryz.underlying0
  a0 := Tryz.isAgg0
  z0 := Tryz.sizeOf0
  v0 := Tryz.zeroValue0
  t3 := Tryz.underlying3
  a3 := Tryz.isAgg3
  z3 := Tryz.sizeOf3
  v3 := Tryz.zeroValue3
  t4 := Tryz.underlying4
  a4 := Tryz.isAgg4
  z4 := Tryz.sizeOf4
  v4 := Tryz.zeroValue4
  t9 := Tryz.underlying9
  a9 := Tryz.isAgg9
  z9 := Tryz.sizeOf9
  v9 := Tryz.zeroValue9 }
open Go.RowKit in
/-- unicode/utf8.RuneCountInString: "RuneCountInString is like RuneCount but its input is a string." ("RuneCount returns the number of runes in p. Erroneous and short encodings are treated as single runes of width 1 byte."): EVERY STRING, valid UTF-8 or not: 'Lib.runeCount s' (plain Lean over the model's own 'Utf8.decode'; 'Lib.runeCount_le': at most len(s); 'Lib.runeCount_ascii': on ASCII: len(s)). THE ONE CONDITION: len(s) below 2^63 - 1 (the counter does not wrap): the form's reach pays it. THE WORLD BEHIND THE CALL: ONE BLOCK MORE: the model's iterator over s, at its end: all else as it was. (LAID: no walk: one application.) -/
theorem Tryz.utf8_RuneCountInString (s : ByteArray) (w : World) (hs : s.size < 9223372036854775807) :
    Calls Tryz.prog 168 #[.string s] w fun e w' => e = .returned (.int .i64 (Lib.runeCount s)) ∧ ∃ pos, w' = w.iter s pos := Any.utf8_RuneCountInString Tryz.lays195 s w hs
def Tryz.lays152_ren : Go.Shelf.Ren := ⟨fun | 152 => 225 | 137 => 228 | 119 => 229 | 224 => 223 | 225 => 222 | 217 => 221 | 266 => 226 | n => n, fun | 9 => 9 | 21 => 21 | 3 => 3 | 4 => 4 | 5 => 5 | 0 => 0 | 46 => 150 | n => n, fun | n => n⟩
theorem Tryz.lays152 : Go.Proofs.Lays.n152 Tryz.prog Tryz.lays152_ren := {
  mixed := by kernel_rfl
  f119 := Tryz.func229.trans (congrArg some (by kernel_rfl))
  f137 := Tryz.func228.trans (congrArg some (by kernel_rfl))
  f152 := Tryz.func225.trans (congrArg some (by kernel_rfl))
  f217 := Tryz.func221.trans (congrArg some (by kernel_rfl))
  f224 := Tryz.func223.trans (congrArg some (by kernel_rfl))
  f225 := Tryz.func222.trans (congrArg some (by kernel_rfl))
  f266 := Tryz.func226.trans (congrArg some (by kernel_rfl))
  t0 := Tryz.underlying0
  a0 := Tryz.isAgg0
  z0 := Tryz.sizeOf0
  v0 := Tryz.zeroValue0
  t3 := Tryz.underlying3
  a3 := Tryz.isAgg3
  z3 := Tryz.sizeOf3
  v3 := Tryz.zeroValue3
  t4 := Tryz.underlying4
  a4 := Tryz.isAgg4
  z4 := Tryz.sizeOf4
  v4 := Tryz.zeroValue4
  t5 := Tryz.underlying5
  a5 := Tryz.isAgg5
  z5 := Tryz.sizeOf5
  v5 := Tryz.zeroValue5
  t9 := Tryz.underlying9
  a9 := Tryz.isAgg9
  z9 := Tryz.sizeOf9
  v9 := Tryz.zeroValue9
  t21 := Tryz.underlying21
  a21 := Tryz.isAgg21
  z21 := Tryz.sizeOf21
  v21 := Tryz.zeroValue21
  t46 := Tryz.underlying150
  a46 := Tryz.isAgg150
  z46 := Tryz.sizeOf150
  v46 := Tryz.zeroValue150 }
open Go.RowKit Go.Lib in
theorem Tryz.strings_IndexRune_ascii (s : ByteArray) (r : Int) (w : World) (h0 : 0 ≤ r) (h1 : r < 128) :
    Calls Tryz.prog 225 #[.string s, .int .i32 r] w fun e w' => e = .returned (.int .i64 (Lib.indexByte s.data.toList r.toNat.toUInt8)) ∧ w' = w := Any.strings_IndexRune_ascii Tryz.lays152 s r w h0 h1
def Tryz.lays151_ren : Go.Shelf.Ren := ⟨fun | 151 => 218 | 152 => 225 | 137 => 228 | 119 => 229 | 224 => 223 | 225 => 222 | 217 => 221 | 266 => 226 | n => n, fun | 9 => 9 | 21 => 21 | 4 => 4 | 3 => 3 | 5 => 5 | 0 => 0 | 46 => 150 | n => n, fun | n => n⟩
theorem Tryz.lays151 : Go.Proofs.Lays.n151 Tryz.prog Tryz.lays151_ren := {
  mixed := by kernel_rfl
  f119 := Tryz.func229.trans (congrArg some (by kernel_rfl))
  f137 := Tryz.func228.trans (congrArg some (by kernel_rfl))
  f151 := Tryz.func218.trans (congrArg some (by kernel_rfl))
  f152 := Tryz.func225.trans (congrArg some (by kernel_rfl))
  f217 := Tryz.func221.trans (congrArg some (by kernel_rfl))
  f224 := Tryz.func223.trans (congrArg some (by kernel_rfl))
  f225 := Tryz.func222.trans (congrArg some (by kernel_rfl))
  f266 := Tryz.func226.trans (congrArg some (by kernel_rfl))
  t0 := Tryz.underlying0
  a0 := Tryz.isAgg0
  z0 := Tryz.sizeOf0
  v0 := Tryz.zeroValue0
  t3 := Tryz.underlying3
  a3 := Tryz.isAgg3
  z3 := Tryz.sizeOf3
  v3 := Tryz.zeroValue3
  t4 := Tryz.underlying4
  a4 := Tryz.isAgg4
  z4 := Tryz.sizeOf4
  v4 := Tryz.zeroValue4
  t5 := Tryz.underlying5
  a5 := Tryz.isAgg5
  z5 := Tryz.sizeOf5
  v5 := Tryz.zeroValue5
  t9 := Tryz.underlying9
  a9 := Tryz.isAgg9
  z9 := Tryz.sizeOf9
  v9 := Tryz.zeroValue9
  t21 := Tryz.underlying21
  a21 := Tryz.isAgg21
  z21 := Tryz.sizeOf21
  v21 := Tryz.zeroValue21
  t46 := Tryz.underlying150
  a46 := Tryz.isAgg150
  z46 := Tryz.sizeOf150
  v46 := Tryz.zeroValue150 }
open Go.RowKit Go.Lib in
theorem Tryz.strings_ContainsRune_ascii (s : ByteArray) (r : Int) (w : World) (h0 : 0 ≤ r) (h1 : r < 128) :
    Calls Tryz.prog 218 #[.string s, .int .i32 r] w fun e w' => e = .returned (.bool (decide (0 ≤ Lib.indexByte s.data.toList r.toNat.toUInt8))) ∧ w' = w := Any.strings_ContainsRune_ascii Tryz.lays151 s r w h0 h1
end Go.Proofs.YtpbnmhnbkfnaeaaGreatDoor
/- The specification's symbols. -/
namespace Go.Proofs.YtpbnmhnbkfnaeaaGreatDoor
open Go.RowKit Nt

theorem numO_form (o : Option (Bool × Nat × Nat)) : ∃ b u d, numO o = .agg #[.bool b, .string u, .string d] := by
  cases o with
  | none => exact ⟨_, _, _, rfl⟩
  | some p => obtain ⟨a, b, c⟩ := p; exact ⟨_, _, _, rfl⟩

theorem B_ne (l m : List UInt8) (h : l ≠ m) : ((B l).toList == m) = false := by
  rw [B_tl, beq_eq_false_iff_ne]; exact h
theorem B_eqq (l : List UInt8) : ((B l).toList == l) = true := by
  rw [B_tl]; simp
theorem B_head (c : UInt8) (r : List UInt8) (h : 0 < (B (c :: r)).size) : (B (c :: r))[0]'h = c := by rw [B_get]; rfl

theorem all_bad {l : List UInt8} {k : Nat} (h : k < l.length) (hb : badN (l[k]'h).toNat = true) : (l.all fun c => !badN c.toNat) = false := by
  rw [List.all_eq_false]; exact ⟨l[k]'h, List.getElem_mem h, by simp [hb]⟩
theorem all_good {l : List UInt8} (h : ∀ i (hi : i < l.length), badN (l[i]'hi).toNat = false) : (l.all fun c => !badN c.toNat) = true := by
  rw [List.all_eq_true]
  intro c hc
  obtain ⟨i, hi, rfl⟩ := List.mem_iff_getElem.1 hc
  simp [h i hi]
theorem neI {a : Nat} {b : Nat} (h : a ≠ b) : ((a : Int) == (b : Int)) = false := by rw [beq_eq_false_iff_ne]; omega
theorem bad_cases {n : Nat} (h : badN n = true) : endN n = true ∨ (endN n = false ∧ n < 33) ∨ (endN n = false ∧ ¬ n < 33 ∧ (n = 127 ∨ n = 92 ∨ n = 124)) := by
  unfold badN at h
  cases he : endN n with
  | true => exact .inl rfl
  | false =>
    rw [he] at h
    simp only [Bool.false_or, Bool.or_eq_true, decide_eq_true_eq, beq_iff_eq] at h
    by_cases h3 : n < 33
    · exact .inr (.inl ⟨rfl, h3⟩)
    · exact .inr (.inr ⟨rfl, h3, by omega⟩)
theorem good_parts {n : Nat} (h : badN n = false) : endN n = false ∧ ¬ n < 33 ∧ n ≠ 127 ∧ n ≠ 92 ∧ n ≠ 124 := by
  unfold badN at h
  simp only [Bool.or_eq_false_iff, decide_eq_false_iff_not, beq_eq_false_iff_ne] at h
  obtain ⟨⟨⟨⟨a, b⟩, c⟩, d⟩, e⟩ := h
  exact ⟨a, b, c, d, e⟩

set_option maxHeartbeats 4000000 in
set_option maxRecDepth 100000 in
theorem l11SymbolOk_c (t : List UInt8) (w : World) (hs : t.length ≤ 1048576) :
    Calls Tryz.prog 65 #[.string (B t)] w fun e w' => e = .returned (.bool (symM t)) ∧ Below w.heap.size w w' := by
  obtain ⟨nb, nu, nd, hN⟩ := numO_form (parseM t 10)
  have h1 := specNumParse_c t 10 w (by omega)
  unfold numAns at h1
  rw [hN] at h1
  obtain ⟨K, hK⟩ : ∃ K, (parseM t 10).isSome = K := ⟨_, rfl⟩
  rw [hK] at h1
  have H1 := hide h1
  have hnone : (parseM t 10).isNone = !K := by rw [← hK]; cases parseM t 10 <;> rfl
  have HNO := hide hnone
  have HA := hide (fun (W : World) => step_a (Below.refl W.heap.size W) (.cells #[.bool nb, .string nu, .string nd] 79))
  clear h1 hN hK hnone
  by_cases hne : t = []
  · subst hne
    have HR : Hid (symM [] = false) := hide (by unfold symM wordM; simp)
    have e0 : ((B []).toList == []) = true := B_eqq []
    go_enter Tryz.func65, Tryz.ntmps65
    go_wp2_with fail
    refine (unhide H1).mono ?_
    rintro e w1 ⟨rfl, hb1⟩
    have HB := hide (hb1.trans ((unhide HA w1).mono hb1.size))
    clear hb1
    go_wp2_with fail
    go_ret
    exact ⟨by rw [unhide HR]; rfl, unhide HB⟩
  · obtain ⟨c, r, hcr⟩ : ∃ c r, t = c :: r := by cases t with | nil => exact absurd rfl hne | cons c r => exact ⟨c, r, rfl⟩
    have HW : Hid (wordM t = (!headN c.toNat && decide (t.length ≤ 200) && Lib.validD t && t.all fun c => !badN c.toNat)) := hide (by rw [hcr]; rfl)
    have hz : 0 < (B t).size := by rw [B_size, hcr]; simp
    have hc : (B t)[0]'hz = c := by subst hcr; exact B_head c r hz
    clear hcr
    have e0 : ((B t).toList == []) = false := B_ne _ _ hne
    clear hne
    by_cases h46 : t = [46]
    · have HR : Hid (symM t = false) := hide (by unfold symM; simp [h46])
      have e1 : ((B t).toList == [46]) = true := by rw [h46]; exact B_eqq _
      clear h46
      go_enter Tryz.func65, Tryz.ntmps65
      go_wp2_with fail
      refine (unhide H1).mono ?_
      rintro e w1 ⟨rfl, hb1⟩
      have HB := hide (hb1.trans ((unhide HA w1).mono hb1.size))
      clear hb1
      go_wp2_with fail
      go_ret
      exact ⟨by rw [unhide HR]; rfl, unhide HB⟩
    · have e1 : ((B t).toList == [46]) = false := B_ne _ _ h46
      cases K with
      | true =>
        have HR : Hid (symM t = false) := hide (by unfold symM; rw [unhide HNO]; rfl)
        clear h46
        go_enter Tryz.func65, Tryz.ntmps65
        go_wp2_with fail
        refine (unhide H1).mono ?_
        rintro e w1 ⟨rfl, hb1⟩
        have HB := hide (hb1.trans ((unhide HA w1).mono hb1.size))
        clear hb1
        go_wp2_with fail
        go_ret
        exact ⟨by rw [unhide HR]; rfl, unhide HB⟩
      | false =>
        have HS : Hid (symM t = wordM t) := hide (by unfold symM; rw [unhide HNO]; simp [h46])
        obtain ⟨n, hn⟩ : ∃ n, c.toNat = n := ⟨_, rfl⟩
        have hn256 : n < 256 := by rw [← hn]; exact c.toNat_lt
        have hw : wrap64 (n : Int) = n := by unfold wrap64; omega
        clear hn256
        have HHEAD : Hid (headN n = true → symM t = false) := hide (fun h => by rw [unhide HS, unhide HW, hn, h]; rfl)
        clear h46
        by_cases h3 : n = 35 ∨ n = 44 ∨ n = 96
        · have HR : Hid (symM t = false) := hide (unhide HHEAD (by rcases h3 with rfl | rfl | rfl <;> rfl))
          rcases h3 with rfl | rfl | rfl
          all_goals
            go_enter Tryz.func65, Tryz.ntmps65
            go_wp2_with fail
            refine (unhide H1).mono ?_
            rintro e w1 ⟨rfl, hb1⟩
            have HB := hide (hb1.trans ((unhide HA w1).mono hb1.size))
            clear hb1
            go_wp2_with fail
            go_ret
            exact ⟨by rw [unhide HR]; rfl, unhide HB⟩
        · have n1 : ((n : Int) == 35) = false := neI (b := 35) (by omega)
          have n2 : ((n : Int) == 44) = false := neI (b := 44) (by omega)
          have n3 : ((n : Int) == 96) = false := neI (b := 96) (by omega)
          by_cases hd : (decide ((48 : Int) ≤ n) && decide ((n : Int) ≤ 57)) = true
          · have HR : Hid (symM t = false) := hide (unhide HHEAD (by
              unfold headN
              simp only [Bool.and_eq_true, decide_eq_true_eq] at hd
              have : (decide (48 ≤ n) && decide (n ≤ 57)) = true := by simp only [Bool.and_eq_true, decide_eq_true_eq]; omega
              rw [this, Bool.or_true]))
            have HD := hide hd
            clear h3 hd
            go_enter Tryz.func65, Tryz.ntmps65
            go_wp2_with fail
            refine (unhide H1).mono ?_
            rintro e w1 ⟨rfl, hb1⟩
            have HB := hide (hb1.trans ((unhide HA w1).mono hb1.size))
            clear hb1
            go_wp2_with fail
            refine (l1In_g n 48 57 _).mono ?_
            rintro e w2 ⟨rfl, rfl⟩
            rw [unhide HD]
            go_wp2_with fail
            go_ret
            exact ⟨by rw [unhide HR]; rfl, unhide HB⟩
          · have hd : (decide ((48 : Int) ≤ n) && decide ((n : Int) ≤ 57)) = false := by simpa using hd
            have HH : Hid (headN n = false) := hide (by
              have : (decide (48 ≤ n) && decide (n ≤ 57)) = false := by
                simp only [Bool.and_eq_false_iff, decide_eq_false_iff_not] at hd ⊢; omega
              unfold headN
              rw [this, Bool.or_false]
              simp only [Bool.or_eq_false_iff, beq_eq_false_iff_ne]
              omega)
            have HD := hide hd
            clear h3 hd
            by_cases hl : t.length ≤ 200
            · have hl' : ¬ (200 : Int) < ((B t).size : Int) := by rw [B_size]; omega
              have HV := hide (l11Runes_c t)
              cases hv : Lib.validD t with
              | false =>
                have HR : Hid (symM t = false) := hide (by rw [unhide HS, unhide HW, hv, Bool.and_false]; rfl)
                rw [hv] at HV
                clear hl hv
                go_enter Tryz.func65, Tryz.ntmps65
                go_wp2_with fail
                refine (unhide H1).mono ?_
                rintro e w1 ⟨rfl, hb1⟩
                have HB := hide (hb1.trans ((unhide HA w1).mono hb1.size))
                clear hb1
                go_wp2_with fail
                refine (l1In_g n 48 57 _).mono ?_
                rintro e w2 ⟨rfl, rfl⟩
                rw [unhide HD]
                go_wp2_with fail
                refine (unhide HV _ hs).mono ?_
                rintro e w2 ⟨rfl, hb2⟩
                have HB2 := hide (step_b (unhide HB) hb2)
                clear hb2
                go_wp2_with fail
                go_ret
                exact ⟨by rw [unhide HR]; rfl, unhide HB2⟩
              | true =>
                have HALL : Hid (symM t = (t.all fun c => !badN c.toNat)) := hide (by rw [unhide HS, unhide HW, hv, hn, unhide HH, decide_eq_true hl]; rfl)
                rw [hv] at HV
                clear hl hv
                go_enter Tryz.func65, Tryz.ntmps65
                go_wp2_with fail
                refine (unhide H1).mono ?_
                rintro e w1 ⟨rfl, hb1⟩
                have HB := hide (hb1.trans ((unhide HA w1).mono hb1.size))
                clear hb1
                go_wp2_with fail
                refine (l1In_g n 48 57 _).mono ?_
                rintro e w2 ⟨rfl, rfl⟩
                rw [unhide HD]
                go_wp2_with fail
                refine (unhide HV _ hs).mono ?_
                rintro e w2 ⟨rfl, hb2⟩
                have HB2 := hide (step_b (unhide HB) hb2)
                clear hb2
                go_wp2_with fail
                clear e0 e1 hc hn hw n1 n2 n3 hl' HD HH HHEAD HB
                have HSZ := hide (B_size t)
                go_loopw [5] (fun i wr => ∃ k : Nat, k ≤ t.length ∧ i = .int .i64 k ∧ Hid (∀ j (hj : j < t.length), j < k → badN (t[j]'hj).toNat = false) ∧ Hid (Below w.heap.size w wr)) (fun i _ => t.length - (intOf i).toNat)
                case atStart => exact ⟨0, Nat.zero_le _, rfl, hide (fun j _ h => by omega), HB2⟩
                case round =>
                  clear HB2
                  obtain ⟨k, hk, rfl, HG, HB2⟩ := hrel
                  by_cases hlt : k < t.length
                  · have hlt' : k < (B t).size := by rw [unhide HSZ]; exact hlt
                    obtain ⟨d, hd⟩ : ∃ d, t[k]'hlt = d := ⟨_, rfl⟩
                    have hg : (B t)[k]'hlt' = d := (B_get t k hlt').trans hd
                    have HD := hide hd
                    clear hd
                    obtain ⟨n, hn⟩ : ∃ n, d.toNat = n := ⟨_, rfl⟩
                    have HE := hide (l11Ends_c n wr)
                    rcases Bool.eq_false_or_eq_true (badN n) with hb | hb
                    ·
                      have hbk : badN (t[k]'hlt).toNat = true := by rw [unhide HD, hn]; exact hb
                      have HR : Hid (symM t = false) := hide ((unhide HALL).trans (all_bad hlt hbk))
                      clear hbk
                      rcases bad_cases hb with he | ⟨he, h3⟩ | ⟨he, h3, h4⟩
                      · rw [he] at HE
                        clear hb he
                        go_wp2_with fail
                        refine (unhide HE).mono ?_
                        rintro e w3 ⟨rfl, rfl⟩
                        go_wp2_with fail
                        go_ret
                        exact ⟨by rw [unhide HR]; rfl, unhide HB2⟩
                      · rw [he] at HE
                        have h3' : (n : Int) < 33 := by omega
                        clear hb he h3
                        go_wp2_with fail
                        refine (unhide HE).mono ?_
                        rintro e w3 ⟨rfl, rfl⟩
                        go_wp2_with fail
                        go_ret
                        exact ⟨by rw [unhide HR]; rfl, unhide HB2⟩
                      · rw [he] at HE
                        clear hb he
                        rcases h4 with h4 | h4 | h4
                        all_goals
                          rw [h4] at HE hn
                          clear h4 h3
                          go_wp2_with fail
                          refine (unhide HE).mono ?_
                          rintro e w3 ⟨rfl, rfl⟩
                          go_wp2_with fail
                          go_ret
                          exact ⟨by rw [unhide HR]; rfl, unhide HB2⟩
                    ·
                      obtain ⟨he, h3, h127, h92, h124⟩ := good_parts hb
                      have HG2 : Hid (∀ j (hj : j < t.length), j < k + 1 → badN (t[j]'hj).toNat = false) := hide (fun j hj h => by
                        by_cases hjk : j = k
                        · subst hjk; rw [unhide HD, hn]; exact hb
                        · exact unhide HG j hj (by omega))
                      rw [he] at HE
                      have h3' : ¬ (n : Int) < 33 := by omega
                      have n1 : ((n : Int) == 127) = false := neI (b := 127) h127
                      have n2 : ((n : Int) == 92) = false := neI (b := 92) h92
                      have n3 : ((n : Int) == 124) = false := neI (b := 124) h124
                      clear hb he h3 h127 h92 h124
                      go_wp2_with fail
                      refine (unhide HE).mono ?_
                      rintro e w3 ⟨rfl, rfl⟩
                      go_wp2_with fail
                      go_roundw
                      case rel => exact ⟨k + 1, by omega, by go_num, HG2, HB2⟩
                      case measure => simp [intOf]; omega
                  · have hnl : ¬ (k : Int) < ((B t).size : Int) := by rw [unhide HSZ]; omega
                    obtain rfl : k = t.length := by omega
                    have HR : Hid (symM t = true) := hide (by rw [unhide HALL]; exact all_good (fun i hi => unhide HG i hi hi))
                    go_wp2_with fail
                    go_ret
                    exact ⟨by rw [unhide HR]; rfl, unhide HB2⟩
            · have hl' : (200 : Int) < ((B t).size : Int) := by rw [B_size]; omega
              have HR : Hid (symM t = false) := hide (by rw [unhide HS, unhide HW, decide_eq_false hl, Bool.and_false]; rfl)
              clear hl
              go_enter Tryz.func65, Tryz.ntmps65
              go_wp2_with fail
              refine (unhide H1).mono ?_
              rintro e w1 ⟨rfl, hb1⟩
              have HB := hide (hb1.trans ((unhide HA w1).mono hb1.size))
              clear hb1
              go_wp2_with fail
              refine (l1In_g n 48 57 _).mono ?_
              rintro e w2 ⟨rfl, rfl⟩
              rw [unhide HD]
              go_wp2_with fail
              go_ret
              exact ⟨by rw [unhide HR]; rfl, unhide HB⟩
end Go.Proofs.YtpbnmhnbkfnaeaaGreatDoor
/- cmp.Compare on ints; nodes held against each other by the program. -/
namespace Go.Proofs.YtpbnmhnbkfnaeaaGreatDoor
open Go.RowKit Nt

theorem isNaN_c (a : Int) (w : World) : Calls Tryz.prog 126 #[.int .i64 a] w fun e w' => e = .returned (.bool false) ∧ w' = w := by
  go_enter Tryz.func126, Tryz.ntmps126
  go_wp2_with fail
  go_ret
  exact ⟨rfl, rfl⟩
theorem cmpInt_c (a b : Int) (w : World) : Calls Tryz.prog 99 #[.int .i64 a, .int .i64 b] w fun e w' => e = .returned (.int .i64 (cmpI a b)) ∧ w' = w := by
  obtain ⟨c, hc⟩ : ∃ c, cmpI a b = c := ⟨_, rfl⟩
  rw [hc]
  unfold cmpI at hc
  have HC := hide hc
  clear hc
  go_enter Tryz.func99, Tryz.ntmps99
  go_wp2_with fail
  refine (isNaN_c a w).mono ?_
  rintro e w' ⟨rfl, rfl⟩
  go_wp2_with fail
  refine (isNaN_c b _).mono ?_
  rintro e w' ⟨rfl, rfl⟩
  by_cases h1 : a < b
  · have k1 : decide (a < b) = true := decide_eq_true h1
    obtain rfl : c = -1 := by have := unhide HC; rw [if_pos h1] at this; exact this.symm
    clear HC
    go_wp2_with fail
    go_ret
    exact ⟨rfl, rfl⟩
  · have k1 : decide (a < b) = false := decide_eq_false h1
    by_cases h2 : b < a
    · have k2 : decide (b < a) = true := decide_eq_true h2
      obtain rfl : c = 1 := by have := unhide HC; rw [if_neg h1, if_pos h2] at this; exact this.symm
      clear HC
      go_wp2_with fail
      go_ret
      exact ⟨rfl, rfl⟩
    · have k2 : decide (b < a) = false := decide_eq_false h2
      obtain rfl : c = 0 := by have := unhide HC; rw [if_neg h1, if_neg h2] at this; exact this.symm
      clear HC
      go_wp2_with fail
      go_ret
      exact ⟨rfl, rfl⟩

/-- what two texts of one sort say -/
def texC (k : Int) (t s : List UInt8) : Int := if k ≠ 1 ∨ t = s then Lib.compareBytes t s else cmpT (numTx t) (numTx s)
set_option maxRecDepth 100000 in
set_option maxHeartbeats 4000000 in
theorem textCmp_c (k m : Int) (t s : List UInt8) (p q : Option Addr) (l r c d : Nat) (w : World) (hsT : t.length ≤ 1000) (hsS : s.length ≤ 1000) (hT : Tens w) (h3 : 3 < w.heap.size) :
    Calls Tryz.prog 100 #[.agg #[.int .i64 k, .string (B t), .slice p l c], .agg #[.int .i64 m, .string (B s), .slice q r d]] w fun e w' => e = .returned (.int .i64 (texC k t s)) ∧ Below w.heap.size w w' := by
  have HB := hide (below_two w (.int .i64 k) (.string (B t)) (.slice p l c) (.int .i64 m) (.string (B s)) (.slice q r d) 56)
  have HA1 := hide ((AtC3.new w (.int .i64 k) (.string (B t)) (.slice p l c) 56).below (step_a (Below.refl _ _) (.cells #[.int .i64 m, .string (B s), .slice q r d] 56)))
  have HA2 := hide (AtC3.new (w.alloc (.cells #[.int .i64 k, .string (B t), .slice p l c] 56)) (.int .i64 m) (.string (B s)) (.slice q r d) 56)
  rw [World.size_alloc] at HA2
  have HT := hide (fun W h => hT.belowB (w' := W) h h3)
  have HP1 := hide (fun W h => implNumParse_c t 10 W (by omega) h)
  have HP2 := hide (fun W h => implNumParse_c s 10 W (by omega) h)
  by_cases hk : k = 1
  · subst hk
    by_cases hts : t = s
    · obtain rfl := hts
      have HR := hide (show texC 1 t t = _ from if_pos (Or.inr rfl))
      obtain ⟨R, hR⟩ : ∃ R, texC 1 t t = R := ⟨_, rfl⟩
      rw [hR] at HR ⊢
      clear hR hsT hsS hT h3
      -- 1 the first's sort, t the second's text
      go_enter Tryz.func100, Tryz.ntmps100
      go_wp2_with fail
      obtain ⟨W, hW⟩ : ∃ W, (w.alloc (.cells #[.int .i64 1, .string (B t), .slice p l c] 56)).alloc (.cells #[.int .i64 m, .string (B t), .slice q r d] 56) = W := ⟨_, rfl⟩
      rw [hW] at HB HA1 HA2 ⊢
      clear hW
      have a0 := (unhide HA1).n0
      have a1 := (unhide HA1).n1
      have a2 := (unhide HA1).n2
      have b0 := (unhide HA2).n0
      have b1 := (unhide HA2).n1
      have b2 := (unhide HA2).n2
      refine (Tryz.strings_Compare (B t) (B t) W).mono ?_
      rintro e w' ⟨rfl, rfl⟩
      obtain rfl := unhide HR
      go_wp2_with fail
      go_ret
      exact ⟨by simp [B], unhide HB⟩
    · have HR := hide (show texC 1 t s = _ from if_neg (by rintro (h | h); exact h rfl; exact hts h))
      obtain ⟨R, hR⟩ : ∃ R, texC 1 t s = R := ⟨_, rfl⟩
      rw [hR] at HR ⊢
      obtain ⟨n1, u1, d1, z1⟩ : ∃ n u d, numTx t = (n, u, d) := ⟨_, _, _, rfl⟩
      obtain ⟨n2, u2, d2, z2⟩ : ∃ n u d, numTx s = (n, u, d) := ⟨_, _, _, rfl⟩
      obtain ⟨v1, hv1⟩ : ∃ v, (parseM t 10).isSome = v := ⟨_, rfl⟩
      obtain ⟨v2, hv2⟩ : ∃ v, (parseM s 10).isSome = v := ⟨_, rfl⟩
      have HQ1 : Hid (∀ W, Tens W → Calls Tryz.prog 128 #[.string (B t), .int .i64 10] W fun e w' => e = .returned (.tuple #[.agg #[.bool n1, .string (B u1), .string (B d1)], .bool v1]) ∧ Below W.heap.size W w') := hide (fun W h => by
        have := unhide HP1 W h
        unfold numAns at this
        rw [numO_tx, z1, hv1] at this
        exact this)
      have HQ2 : Hid (∀ W, Tens W → Calls Tryz.prog 128 #[.string (B s), .int .i64 10] W fun e w' => e = .returned (.tuple #[.agg #[.bool n2, .string (B u2), .string (B d2)], .bool v2]) ∧ Below W.heap.size W w') := hide (fun W h => by
        have := unhide HP2 W h
        unfold numAns at this
        rw [numO_tx, z2, hv2] at this
        exact this)
      have HC : Hid (∀ W, Below w.heap.size w W → Calls Tryz.prog 129 #[.agg #[.bool n1, .string (B u1), .string (B d1)], .agg #[.bool n2, .string (B u2), .string (B d2)]] W fun e w' => e = .returned (.int .i64 R) ∧ Below W.heap.size W w') := hide (fun W h => by
        have := implNumCmp_c (numTx t) (numTx s) W (numTx_small t) (numTx_small s) (unhide HT W h) (Nat.lt_of_lt_of_le h3 h.size)
        rw [← unhide HR, z1, z2] at this
        exact this)
      have e1 : ((B t).toList == (B s).toList) = false := by rw [B_tl s]; exact B_ne _ _ hts
      clear hsT hsS hT h3 hts z1 z2 hv1 hv2 HP1 HP2 HR
      -- 1 the first's sort, s the second's text
      go_enter Tryz.func100, Tryz.ntmps100
      go_wp2_with fail
      obtain ⟨W, hW⟩ : ∃ W, (w.alloc (.cells #[.int .i64 1, .string (B t), .slice p l c] 56)).alloc (.cells #[.int .i64 m, .string (B s), .slice q r d] 56) = W := ⟨_, rfl⟩
      rw [hW] at HB HA1 HA2 ⊢
      clear hW
      have a0 := (unhide HA1).n0
      have a1 := (unhide HA1).n1
      have a2 := (unhide HA1).n2
      have b0 := (unhide HA2).n0
      have b1 := (unhide HA2).n1
      have b2 := (unhide HA2).n2
      refine (unhide HQ1 W (unhide HT W (unhide HB))).mono ?_
      rintro e w1 ⟨rfl, hb1⟩
      have HB1 := hide (step_b (unhide HB) hb1)
      have HD2 := hide ((unhide HA2).below hb1)
      have q1 := fun o => ((unhide HD2).below (step_a (Below.refl _ _) o)).n1
      have HN1 := hide (AtC3.new w1 (.bool n1) (.string (B u1)) (.string (B d1)) 79)
      have HB1' := hide (step_a (unhide HB1) (.cells #[.bool n1, .string (B u1), .string (B d1)] 79))
      clear hb1
      go_wp2_with fail
      refine (unhide HQ2 _ (unhide HT _ (unhide HB1'))).mono ?_
      rintro e w2 ⟨rfl, hb2⟩
      have HB2 := hide (step_b (unhide HB1') hb2)
      have HN2 := hide ((unhide HN1).below hb2)
      have HB3 := hide (step_a (unhide HB2) (.cells #[.bool n2, .string (B u2), .string (B d2)] 79))
      have HN3 := hide ((unhide HN2).below (step_a (Below.refl _ _) (.cells #[.bool n2, .string (B u2), .string (B d2)] 79)))
      have x0 := (unhide HN3).n0
      have x1 := (unhide HN3).n1
      have x2 := (unhide HN3).n2
      clear hb2 q1
      go_wp2_with fail
      refine (unhide HC _ (unhide HB3)).mono ?_
      rintro e w3 ⟨rfl, hb3⟩
      have HB4 := hide (step_b (unhide HB3) hb3)
      clear hb3
      go_wp2_with fail
      go_ret
      exact ⟨rfl, unhide HB4⟩
  · have HR := hide (show texC k t s = _ from if_pos (Or.inl hk))
    obtain ⟨R, hR⟩ : ∃ R, texC k t s = R := ⟨_, rfl⟩
    rw [hR] at HR ⊢
    have hk1 : (k == 1) = false := by simp [hk]
    have hk2 : (k != 1) = true := by simp [hk]
    clear hR hsT hsS hT h3
    -- k the first's sort, s the second's text
    go_enter Tryz.func100, Tryz.ntmps100
    go_wp2_with fail
    obtain ⟨W, hW⟩ : ∃ W, (w.alloc (.cells #[.int .i64 k, .string (B t), .slice p l c] 56)).alloc (.cells #[.int .i64 m, .string (B s), .slice q r d] 56) = W := ⟨_, rfl⟩
    rw [hW] at HB HA1 HA2 ⊢
    clear hW
    have a0 := (unhide HA1).n0
    have a1 := (unhide HA1).n1
    have a2 := (unhide HA1).n2
    have b0 := (unhide HA2).n0
    have b1 := (unhide HA2).n1
    have b2 := (unhide HA2).n2
    refine (Tryz.strings_Compare (B t) (B s) W).mono ?_
    rintro e w' ⟨rfl, rfl⟩
    obtain rfl := unhide HR
    go_wp2_with fail
    go_ret
    exact ⟨by simp [B], unhide HB⟩
end Go.Proofs.YtpbnmhnbkfnaeaaGreatDoor
/- Nodes held against each other by the program. -/
namespace Go.Proofs.YtpbnmhnbkfnaeaaGreatDoor
open Go.RowKit Nt

def KidOk (a : Nd) : Prop := a.1 = 1 → a.2.2 = []
theorem kidOk_of {n : Nat} {a : Nd} (h : ndOk n a = true) : KidOk a := by
  intro h1
  have c := ok_cnt h
  rw [h1] at c
  exact List.length_eq_zero_iff.1 (cnt_num c)
theorem nd_lab {a b : Nd} (ha : KidOk a) (hb : KidOk b) : labCmp a b = if cmpI a.1 b.1 ≠ 0 then cmpI a.1 b.1 else if texC a.1 a.2.1 b.2.1 ≠ 0 then texC a.1 a.2.1 b.2.1 else cmpI a.2.2.length b.2.2.length := by
  by_cases hs : a.1 = b.1
  · rw [if_neg (by simpa using cmpI_eq.2 hs)]
    by_cases h1 : a.1 = 1
    · have e : cmpI a.2.2.length b.2.2.length = 0 := by rw [ha h1, hb (hs ▸ h1)]; rfl
      rw [lab_num hs h1, e]
      by_cases ht : a.2.1 = b.2.1
      · rw [ht, cmpT_self]
        have : texC a.1 b.2.1 b.2.1 = 0 := by unfold texC; rw [if_pos (.inr rfl)]; exact (less_cmp _ _).2.2.1.2 rfl
        rw [this]; rfl
      · have : texC a.1 a.2.1 b.2.1 = cmpT (numTx a.2.1) (numTx b.2.1) := by unfold texC; rw [if_neg (by rintro (h | h); exact h h1; exact ht h)]
        rw [this]
        split
        · rfl
        · omega
    · have ht' : texC a.1 a.2.1 b.2.1 = Lib.compareBytes a.2.1 b.2.1 := by unfold texC; rw [if_pos (.inl h1)]
      rw [ht']
      by_cases ht : a.2.1 = b.2.1
      · rw [lab_len hs h1 ht, if_neg (by simpa using (less_cmp _ _).2.2.1.2 ht)]
      · rw [lab_text hs h1 ht, if_pos (fun e => ht ((less_cmp _ _).2.2.1.1 e))]
  · rw [lab_sort hs, if_pos (fun e => hs (cmpI_eq.1 e))]

set_option maxRecDepth 100000 in
set_option maxHeartbeats 4000000 in
theorem nodeCmp_c (a b : Nd) (a1 a2 : Option Addr) (c1 c2 : Nat) (w : World) (ha : KidOk a) (hb : KidOk b) (ht1 : a.2.1.length ≤ 1000) (ht2 : b.2.1.length ≤ 1000) (hT : Tens w) (h3 : 3 < w.heap.size) :
    Calls Tryz.prog 62 #[.agg #[.int .i64 a.1, .string (B a.2.1), .slice a1 a.2.2.length c1], .agg #[.int .i64 b.1, .string (B b.2.1), .slice a2 b.2.2.length c2]] w fun e w' => e = .returned (.int .i64 (labCmp a b)) ∧ Below w.heap.size w w' := by
  have HQ := hide (nd_lab ha hb)
  obtain ⟨R, hR⟩ : ∃ R, labCmp a b = R := ⟨_, rfl⟩
  rw [hR] at HQ ⊢
  clear hR ha hb
  -- $1 the function: two nodes in their boxes
  obtain ⟨s1, t1, k1⟩ := a
  obtain ⟨s2, t2, k2⟩ := b
  simp only at *
  have HB := hide (below_two w (.int .i64 s1) (.string (B t1)) (.slice a1 k1.length c1) (.int .i64 s2) (.string (B t2)) (.slice a2 k2.length c2) 56)
  have HA1 := hide ((AtC3.new w (.int .i64 s1) (.string (B t1)) (.slice a1 k1.length c1) 56).below (step_a (Below.refl _ _) (.cells #[.int .i64 s2, .string (B t2), .slice a2 k2.length c2] 56)))
  have HA2 := hide (AtC3.new (w.alloc (.cells #[.int .i64 s1, .string (B t1), .slice a1 k1.length c1] 56)) (.int .i64 s2) (.string (B t2)) (.slice a2 k2.length c2) 56)
  rw [World.size_alloc] at HA2
  have HT := hide (fun W h => (⟨hT.belowB (w' := W) h h3, Nat.lt_of_lt_of_le h3 h.size⟩ : Tens W ∧ 3 < W.heap.size))
  have HX := hide (fun W h => textCmp_c s1 s2 t1 t2 a1 a2 k1.length k2.length c1 c2 W ht1 ht2 (unhide HT W h).1 (unhide HT W h).2)
  have HI := hide (fun W => cmpInt_c s1 s2 W)
  have HL := hide (fun W => cmpInt_c k1.length k2.length W)
  obtain ⟨x, hx⟩ : ∃ x, cmpI s1 s2 = x := ⟨_, rfl⟩
  obtain ⟨y, hy⟩ : ∃ y, texC s1 t1 t2 = y := ⟨_, rfl⟩
  obtain ⟨z, hz⟩ : ∃ z, cmpI k1.length k2.length = z := ⟨_, rfl⟩
  rw [hx] at HI
  rw [hy] at HX
  rw [hz] at HL
  rw [hx, hy, hz] at HQ
  obtain ⟨m1, hm1⟩ : ∃ m, k1.length = m := ⟨_, rfl⟩
  obtain ⟨m2, hm2⟩ : ∃ m, k2.length = m := ⟨_, rfl⟩
  rw [hm1] at HB HA1 HA2 HX HL ⊢
  rw [hm2] at HB HA1 HA2 HX HL ⊢
  clear hx hy hz hm1 hm2 hT h3 ht1 ht2 HT
  go_enter Tryz.func62, Tryz.ntmps62
  go_wp2_with fail
  obtain ⟨W, hW⟩ : ∃ W, (w.alloc (.cells #[.int .i64 s1, .string (B t1), .slice a1 m1 c1] 56)).alloc (.cells #[.int .i64 s2, .string (B t2), .slice a2 m2 c2] 56) = W := ⟨_, rfl⟩
  rw [hW] at HB HA1 HA2 ⊢
  clear hW
  refine (unhide HI W).mono ?_
  rintro e w' ⟨rfl, rfl⟩
  by_cases hx0 : x = 0
  · subst hx0
    have p0 := (unhide HA1).n0
    have p1 := (unhide HA1).n1
    have p2 := (unhide HA1).n2
    have q0 := (unhide HA2).n0
    have q1 := (unhide HA2).n1
    have q2 := (unhide HA2).n2
    go_wp2_with fail
    refine (unhide HX w' (unhide HB)).mono ?_
    rintro e w2 ⟨rfl, hb2⟩
    have HB2 := hide (step_b (unhide HB) hb2)
    have r2 := ((unhide HA1).below hb2).n2
    have u2 := ((unhide HA2).below hb2).n2
    clear p0 p1 p2 q0 q1 q2 hb2
    by_cases hy0 : y = 0
    · subst hy0
      obtain rfl : R = z := by simpa using unhide HQ
      clear HQ
      go_wp2_with fail
      refine (unhide HL w2).mono ?_
      rintro e w3 ⟨rfl, rfl⟩
      go_wp2_with fail
      go_ret
      exact ⟨rfl, unhide HB2⟩
    · have k : (y != 0) = true := by simp [hy0]
      obtain rfl : R = y := by simpa [hy0] using unhide HQ
      clear HQ
      go_wp2_with fail
      go_ret
      exact ⟨rfl, unhide HB2⟩
  · have k : (x != 0) = true := by simp [hx0]
    obtain rfl : R = x := by simpa [hx0] using unhide HQ
    clear HQ
    go_wp2_with fail
    go_ret
    exact ⟨rfl, unhide HB⟩
end Go.Proofs.YtpbnmhnbkfnaeaaGreatDoor
