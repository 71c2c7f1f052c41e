/- PROVED: for every two byte slices, and whatever lies in memory besides the table of tens, which reads as the program's text lays it, laws.FnNumText returns true and leaves both slices and the table as they were. The only condition is the row's own: impl.natTens reads as listed; the card ties that to the program's text. -/
import Derived.Test.YtijgolgfcgkbiaaDoorM8
import Derived.Test.YtijgolgfcgkbiaaDoorCards
import Derived.Test.YtijgolgfcgkbiaaDoorTie
import Derived.ProofKit
import Derived.OpenShut
import Derived.ShutString
import Derived.ChangeOld
import Derived.ChangeVars
import Derived.Lay
import Derived.LaidOnce
import Derived.JoinedOf
import Derived.Handy
import Derived.Lib.LaidTab
import Derived.SevenTiedAt
namespace Go.Proofs.YtijgolgfcgkbiaaDoor
open Go.RowKit Nt

/-- what stands above and below a text that has no sign -/
def partsM (b : Nat) (l : List UInt8) : Nat × Nat × Bool :=
  match findB 47 l with
  | some k => (natV b (l.take k), natV b (l.drop (k + 1)), okN b (l.take k) && okN b (l.drop (k + 1)))
  | none => match findB 46 l with
    | some k => if b = 10 then (natV 10 (l.take k ++ l.drop (k + 1)), 10 ^ (l.drop (k + 1)).length, okN 10 (l.take k ++ l.drop (k + 1))) else (0, 0, false)
    | none => (natV b l, 1, okN b l)

theorem findB_get {c : UInt8} : ∀ {l : List UInt8} {k : Nat}, findB c l = some k → l[k]? = some c := by
  intro l
  induction l with
  | nil => intro k h; simp [findB] at h
  | cons d r ih =>
    intro k h
    simp only [findB] at h
    split at h
    · rename_i hd; simp at h; subst h; simp [hd]
    · cases hr : findB c r with
      | none => rw [hr] at h; simp at h
      | some j => rw [hr] at h; simp at h; subst h; simpa using ih hr

theorem lowest_none (neg : Bool) (u : Nat) : lowest neg u 0 = none := by simp [lowest]

theorem body_parts (neg : Bool) {b : Nat} (hb : b ≤ 16) (l : List UInt8) : bodyM neg b l = if (partsM b l).2.2 then lowest neg (partsM b l).1 (partsM b l).2.1 else none := by
  unfold bodyM partsM
  cases h47 : findB 47 l with
  | some k =>
    show overM neg b _ _ = if (okN b _ && okN b _) = true then lowest neg (natV b _) (natV b _) else none
    unfold overM
    by_cases h : (okN b (l.take k) && okN b (l.drop (k + 1))) = true
    · rw [if_pos h, if_pos h]
      simp only [Bool.and_eq_true] at h
      unfold natV
      rw [if_pos h.1, if_pos h.2]
    · rw [if_neg h, if_neg h]
  | none =>
    cases h46 : findB 46 l with
    | some k =>
      by_cases h10 : b = 10
      · simp only [h10, if_true]
        unfold pointM natV
        by_cases h : okN 10 (l.take k ++ l.drop (k + 1)) = true
        · rw [if_pos h, if_pos h, if_pos h]
        · rw [if_neg h, if_neg h]
      · simp only [h10, if_false]
        unfold plainM
        have hlt := findB_lt h46
        have hg := findB_get h46
        rw [List.getElem?_eq_getElem hlt] at hg
        have hc : l[k] = 46 := by simpa using hg
        rw [okN_bad k hlt (by rw [hc]; show b ≤ 99; omega)]
        rfl
    | none =>
      show plainM neg b l = if okN b l = true then lowest neg (natV b l) 1 else none
      unfold plainM natV
      by_cases h : okN b l = true
      · rw [if_pos h, if_pos h, if_pos h]
      · rw [if_neg h, if_neg h]

set_option maxRecDepth 100000 in
set_option maxHeartbeats 2000000 in
theorem readParts_c (l : List UInt8) (b : Nat) (w : World) (hb2 : 2 ≤ b) (hb16 : b ≤ 16) (hs : l.length ≤ 1000) (hT : Tens w) :
    Calls Tryd.prog 32 #[.int .i64 b, .string (B l)] w fun e w' => (∃ vu vd, e = .returned (.tuple #[vu, vd, .bool (partsM b l).2.2]) ∧ isNat w' vu (partsM b l).1 ∧ isNat w' vd (partsM b l).2.1) ∧ Below w.heap.size w w' := by
  have HT := hide hT
  clear hT
  have hc := fun w => cut_c l 47 w (by omega)
  unfold cutM at hc
  unfold partsM
  cases h47 : findB 47 l with
  | some k =>
    rw [h47] at hc
    dsimp only at hc
    have Hc := hide hc
    have hl1 : (l.take k).length ≤ 10000 := by rw [List.length_take]; omega
    have hl2 : (l.drop (k + 1)).length ≤ 10000 := by rw [List.length_drop]; omega
    dsimp only
    generalize l.take k = x at *
    generalize l.drop (k + 1) = y at *
    clear hc h47
    go_enter Tryd.func32, Tryd.ntmps32
    go_wp2_with fail
    refine (unhide Hc _).mono ?_
    rintro e w1 ⟨rfl, hb1⟩
    go_wp2_with fail
    have h := read_c x b w1 hb2 hb16 hl1
    refine h.mono ?_
    clear h
    rintro e w2 ⟨⟨v2, rfl, hv2⟩, hbb2⟩
    clear Hc
    have hb2w := hb1.trans (hbb2.mono hb1.size)
    have Hv2 := hide hv2
    clear hv2
    go_wp2_with fail
    have h := read_c y b w2 hb2 hb16 hl2
    refine h.mono ?_
    clear h
    rintro e w3 ⟨⟨v3, rfl, hv3⟩, hbb3⟩
    have hb3w := hb2w.trans (hbb3.mono hb2w.size)
    have Hv3 := hide hv3
    have Hv2' := hide (isNat_below (unhide Hv2) hbb3)
    clear hv3
    cases hx : okN b x with
    | true =>
      go_wp2
      go_ret3
      exact ⟨⟨v2, v3, by rw [hx]; rfl, unhide Hv2', unhide Hv3⟩, hb3w⟩
    | false =>
      go_wp2
      go_ret3
      exact ⟨⟨v2, v3, by rw [hx]; rfl, unhide Hv2', unhide Hv3⟩, hb3w⟩
  | none =>
    rw [h47] at hc
    have Hc := hide hc
    have hc2 := fun w => cut_c l 46 w (by omega)
    unfold cutM at hc2
    cases h46 : findB 46 l with
    | some k =>
      rw [h46] at hc2
      dsimp only at hc hc2
      have Hc2 := hide hc2
      by_cases h10 : b = 10
      · subst h10
        have hl1 : (l.take k ++ l.drop (k + 1)).length ≤ 10000 := by rw [List.length_append, List.length_take, List.length_drop]; omega
        have hly : (l.drop (k + 1)).length ≤ 1000 := by rw [List.length_drop]; omega
        have hlx : (l.take k).length ≤ 1000 := by rw [List.length_take]; omega
        dsimp only
        rw [if_pos rfl]
        generalize l.take k = x at *
        generalize l.drop (k + 1) = y at *
        have hap := B_append x y
        have hszx : ¬ 9223372036854775807 < (B x).size + (B y).size := by rw [B_size, B_size]; omega
        have hszy : ((B y).size : Int) = (y.length : Int) := by rw [B_size]
        clear hc hc2 h47 h46
        go_enter Tryd.func32, Tryd.ntmps32
        go_wp2_with fail
        refine (unhide Hc _).mono ?_
        rintro e w1 ⟨rfl, hb1⟩
        go_wp2_with fail
        refine (unhide Hc2 _).mono ?_
        rintro e w2 ⟨rfl, hbb2⟩
        have hb2w := hb1.trans (hbb2.mono hb1.size)
        clear Hc Hc2 hbb2
        go_wp2_with fail
        have h := read_c (x ++ y) 10 w2 (by omega) (by omega) hl1
        refine h.mono ?_
        clear h
        rintro e w3 ⟨⟨v3, rfl, hv3⟩, hbb3⟩
        have hb3w := hb2w.trans (hbb3.mono hb2w.size)
        have Hv3 := hide hv3
        clear hv3
        go_wp2_with fail
        have h := natTen_c y.length w3 (by omega) ((unhide HT).below hb3w)
        refine h.mono ?_
        clear h
        rintro e w4 ⟨⟨v4, rfl, hv4⟩, hbb4⟩
        have hb4w := hb3w.trans (hbb4.mono hb3w.size)
        have Hv4 := hide hv4
        have Hv3' := hide (isNat_below (unhide Hv3) hbb4)
        clear hv4
        go_wp2
        go_ret3
        exact ⟨⟨v3, v4, rfl, unhide Hv3', unhide Hv4⟩, hb4w⟩
      · have hnb : ((b : Int) == 10) = false := by rw [beq_eq_false_iff_ne]; omega
        dsimp only
        rw [if_neg h10]
        generalize l.take k = x at *
        generalize l.drop (k + 1) = y at *
        clear hc hc2 h47 h46
        go_enter Tryd.func32, Tryd.ntmps32
        go_wp2_with fail
        refine (unhide Hc _).mono ?_
        rintro e w1 ⟨rfl, hb1⟩
        go_wp2_with fail
        refine (unhide Hc2 _).mono ?_
        rintro e w2 ⟨rfl, hbb2⟩
        have hb2w := hb1.trans (hbb2.mono hb1.size)
        clear Hc Hc2 hbb2
        go_wp2
        go_ret3
        refine ⟨⟨.slice (some ⟨w2.heap.size, 0, none⟩) 0 0, .slice (some ⟨w2.heap.size + 1, 0, none⟩) 0 0, rfl, ?_, ?_⟩, ?_⟩
        · exact isNat_below (nat_made w2) ((Below.refl _ _).alloc (Nat.le_refl _) _)
        · have h := nat_made (w2.alloc (.cells #[] 68))
          simpa using h
        · exact (hb2w.alloc hb2w.size _).alloc (by have := hb2w.size; simp; omega) _
    | none =>
      rw [h46] at hc2
      dsimp only at hc hc2
      have Hc2 := hide hc2
      have hap : B l ++ B [] = B l := by rw [B_append, List.append_nil]
      have hszx : ¬ 9223372036854775807 < (B l).size + (B []).size := by rw [B_size, B_size]; simp; omega
      have hszy : ((B []).size : Int) = ((0 : Nat) : Int) := rfl
      clear hc hc2 h47 h46
      go_enter Tryd.func32, Tryd.ntmps32
      go_wp2_with fail
      refine (unhide Hc _).mono ?_
      rintro e w1 ⟨rfl, hb1⟩
      go_wp2_with fail
      refine (unhide Hc2 _).mono ?_
      rintro e w2 ⟨rfl, hbb2⟩
      have hb2w := hb1.trans (hbb2.mono hb1.size)
      clear Hc Hc2 hbb2
      go_wp2_with fail
      have h := read_c l b w2 (by omega) (by omega) (by omega)
      refine h.mono ?_
      clear h
      rintro e w3 ⟨⟨v3, rfl, hv3⟩, hbb3⟩
      have hb3w := hb2w.trans (hbb3.mono hb2w.size)
      have Hv3 := hide hv3
      clear hv3
      go_wp2_with fail
      have h := natTen_c 0 w3 (by omega) ((unhide HT).below hb3w)
      refine h.mono ?_
      clear h
      rintro e w4 ⟨⟨v4, rfl, hv4⟩, hbb4⟩
      have hb4w := hb3w.trans (hbb4.mono hb3w.size)
      have Hv4 := hide hv4
      have Hv3' := hide (isNat_below (unhide Hv3) hbb4)
      clear hv4
      go_wp2
      go_ret3
      exact ⟨⟨v3, v4, rfl, unhide Hv3', unhide Hv4⟩, hb4w⟩
end Go.Proofs.YtijgolgfcgkbiaaDoor
namespace Go.Proofs.YtijgolgfcgkbiaaDoor
open Go.RowKit Nt

theorem natV_gr {b : Nat} (hb : b ≤ 16) (l : List UInt8) : (gr (natV b l)).length ≤ 2 * l.length + 1 := by
  unfold natV
  by_cases h : okN b l = true
  · rw [if_pos h]; exact dec_gr (rdN_size hb h)
  · rw [if_neg h, gr_zero]; simp

theorem parts_gr {b : Nat} (hb : b ≤ 16) (l : List UInt8) (hl : l.length ≤ 240) : (gr (partsM b l).1).length ≤ 1000 ∧ (gr (partsM b l).2.1).length ≤ 1000 := by
  unfold partsM
  cases h47 : findB 47 l with
  | some k =>
    dsimp only
    refine ⟨Nat.le_trans (natV_gr hb _) ?_, Nat.le_trans (natV_gr hb _) ?_⟩
    · rw [List.length_take]; omega
    · rw [List.length_drop]; omega
  | none =>
    cases h46 : findB 46 l with
    | some k =>
      dsimp only
      by_cases h10 : b = 10
      · rw [if_pos h10]
        refine ⟨Nat.le_trans (natV_gr (by omega) _) ?_, ?_⟩
        · rw [List.length_append, List.length_take, List.length_drop]; omega
        · rw [gr_ten, List.length_set, List.length_replicate, List.length_drop]; omega
      · rw [if_neg h10, gr_zero]; simp
    | none =>
      dsimp only
      refine ⟨Nat.le_trans (natV_gr hb _) (by omega), ?_⟩
      have := gr_ten 0
      rw [Nat.pow_zero] at this
      rw [this, List.length_set, List.length_replicate]; omega


set_option maxRecDepth 100000 in
set_option maxHeartbeats 2000000 in
theorem implNumParse_bare (l : List UInt8) (b : Nat) (w : World) (hb4 : b = 2 ∨ b = 8 ∨ b = 10 ∨ b = 16) (hl : l.length ≤ 240) (h45 : (l.head? == some 45) = false) (h43 : (l.head? == some 43) = false) (hT : Tens w) :
    Calls Tryd.prog 6 #[.string (B l), .int .i64 b] w fun e w' => e = .returned (numAns (parseM l b)) ∧ Below w.heap.size w w' := by
  have hr : isRadix (b : Int) = true := by rcases hb4 with rfl | rfl | rfl | rfl <;> rfl
  have Hm : Hid (parseM l (b : Int) = bodyM false b l) := by
    show _ = _
    rw [parse_yes l b hb4 hl]
    cases l with
    | nil => rfl
    | cons c t =>
      show (if c = 45 then bodyM true b t else if c = 43 then bodyM false b t else bodyM false b (c :: t)) = _
      rw [if_neg (by simpa using h45), if_neg (by simpa using h43)]
  have hsz : ¬ (240 : Int) < ((B l).size : Int) := by rw [B_size]; omega
  have h1 := fun w => known_c (b : Int) w
  have h2 := fun w => prefix_c l 45 w
  have h3 := fun w => prefix_c l 43 w
  rw [hr] at h1
  rw [h45] at h2
  rw [h43] at h3
  have H1 := hide h1
  have H2 := hide h2
  have H3 := hide h3
  have HT := hide hT
  clear h1 h2 h3 hT hr h45 h43
  go_enter Tryd.func6, Tryd.ntmps6
  go_wp2_with fail
  refine (unhide H1 _).mono ?_
  rintro e w1 ⟨rfl, rfl⟩
  go_wp2_with fail
  refine (unhide H2 _).mono ?_
  rintro e w1 ⟨rfl, rfl⟩
  go_wp2_with fail
  refine (unhide H3 _).mono ?_
  rintro e w1 ⟨rfl, rfl⟩
  clear H1 H2 H3
  -- false: the sign as a Bool; l: the text behind it; wants hb4, htl : its length ≤ 240, Hm : Hid (parseM .. = bodyM false b l), HT
  have Hpb : Hid (parseM l (b : Int) = if (partsM b l).2.2 then lowest false (partsM b l).1 (partsM b l).2.1 else none) := hide ((unhide Hm).trans (body_parts false (by omega) l))
  have hgs := parts_gr (b := b) (by omega) l (by omega)
  clear Hm
  go_wp2_with fail
  have h := readParts_c l b (w.alloc (.cells #[.bool false, .string ⟨#[]⟩, .string ⟨#[]⟩] 26)) (by omega) (by omega) (by omega) ((unhide HT).below ((Below.refl _ _).alloc (Nat.le_refl _) _))
  refine h.mono ?_
  clear h
  rintro e w2 ⟨⟨vu, vd, rfl, hvu, hvd⟩, hb2⟩
  have hb0 := below_alloc_size hb2
  have hz0 : w.heap.size + 1 ≤ w2.heap.size := by have := hb2.size; simpa using this
  have HT2 := hide ((unhide HT).below (below_new hb0))
  generalize (partsM b l).1 = pu at *
  generalize (partsM b l).2.1 = pd at *
  generalize (partsM b l).2.2 = po at *
  obtain ⟨pp, cp, hvs⟩ := own_slice hvd
  subst hvs
  have Hvu := hide hvu
  have Hvd := hide hvd
  clear hvu hvd hb2
  cases po with
  | false =>
    have c0 := newcell hb0 0
    have c1 := newcell hb0 1
    have c2 := newcell hb0 2
    have f0 := newfree hb0 0
    have f1 := newfree hb0 1
    have f2 := newfree hb0 2
    have hbX := below_new hb0
    simp at c0 c1 c2
    clear hb0
    go_wp2
    refine bodyPost_ret (v := numAns none) (by simp [results, Tryd.results6, go_sem, numAns, numO, noNum, numV, c0, c1, c2]) rfl ⟨by rw [unhide Hpb]; rfl, ?_⟩
    exact below_three hbX _ (Nat.le_refl _) _ _ _
  | true =>
    by_cases hd : pd = 0
    · have hl0 : (((gr pd).length : Int) == 0) = true := by rw [hd, gr_zero]; rfl
      have Hf : Hid (parseM l (b : Int) = none) := by show _ = _; rw [unhide Hpb, hd, if_pos rfl, lowest_none]
      clear hd
      have c0 := newcell hb0 0
      have c1 := newcell hb0 1
      have c2 := newcell hb0 2
      have f0 := newfree hb0 0
      have f1 := newfree hb0 1
      have f2 := newfree hb0 2
      have hbX := below_new hb0
      simp at c0 c1 c2
      clear hb0
      go_wp2
      refine bodyPost_ret (v := numAns none) (by simp [results, Tryd.results6, go_sem, numAns, numO, noNum, numV, c0, c1, c2]) rfl ⟨by rw [unhide Hf], ?_⟩
      exact below_three hbX _ (Nat.le_refl _) _ _ _
    · have hl0 : (((gr pd).length : Int) == 0) = false := by rw [beq_eq_false_iff_ne]; have := mt gr_len0.1 hd; omega
      have Hov2 : Hid (parseM l (b : Int) = lowest false pu pd) := by show _ = _; rw [unhide Hpb, if_pos rfl]
      have hdp : 0 < pd := by omega
      clear hd
      go_wp2_with fail
      have h := numLowest_c false pu pd vu _ w2 (unhide Hvu) (unhide Hvd) hdp (by omega) (by omega) (unhide HT2)
      refine h.mono ?_
      clear h
      rintro e w3 ⟨rfl, hb3⟩
      have hn3 := below_next hb0 hz0 hb3
      have c0 := newcell hn3.1 0
      have c1 := newcell hn3.1 1
      have c2 := newcell hn3.1 2
      have f0 := newfree hn3.1 0
      have f1 := newfree hn3.1 1
      have f2 := newfree hn3.1 2
      have hbX := below_new hn3.1
      simp at c0 c1 c2
      clear hb3 hb0 hn3 hl0 hdp
      -- behind l2Make's contract: 6 the function; the struct is stored and told. Wants: Hov2 : Hid (M = lowest ..), c0 c1 c2 f0 f1 f2 hbX, the answer's option lowest false pu pd
      generalize lowest false pu pd = o at *
      unfold numAns
      obtain ⟨n3, u3, d3, ho⟩ : ∃ n3 u3 d3, numO o = numV n3 u3 d3 := by
        cases o with
        | none => exact ⟨_, _, _, rfl⟩
        | some p => exact ⟨_, _, _, rfl⟩
      have Ho := hide ho
      rw [ho]
      unfold numV
      clear ho
      go_wp2
      refine bodyPost_ret (v := numAns o) (by simp [results, Tryd.results6, go_sem, numAns, unhide Ho, numV, c0, c1, c2]) rfl ⟨by rw [unhide Hov2], ?_⟩
      exact below_three hbX _ (Nat.le_refl _) _ _ _
set_option maxRecDepth 100000 in
set_option maxHeartbeats 2000000 in
theorem implNumParse_minus (t : List UInt8) (b : Nat) (w : World) (hb4 : b = 2 ∨ b = 8 ∨ b = 10 ∨ b = 16) (hlen : (45 :: t).length ≤ 240) (hT : Tens w) :
    Calls Tryd.prog 6 #[.string (B (45 :: t)), .int .i64 b] w fun e w' => e = .returned (numAns (parseM (45 :: t) b)) ∧ Below w.heap.size w w' := by
  have hr : isRadix (b : Int) = true := by rcases hb4 with rfl | rfl | rfl | rfl <;> rfl
  obtain ⟨l, hl⟩ : ∃ l : List UInt8, l = 45 :: t := ⟨_, rfl⟩
  rw [← hl]
  rw [← hl] at hlen
  have Hm : Hid (parseM l (b : Int) = bodyM true b t) := by
    show _ = _
    rw [parse_yes l b hb4 hlen, hl]
    rfl
  have htl : t.length ≤ 240 := by rw [hl] at hlen; simp at hlen; omega
  have hsz : ¬ (240 : Int) < ((B l).size : Int) := by rw [B_size]; omega
  have hcut : (B l).extract 1 (B l).size = B t := by rw [B_extract, B_size, List.take_length, hl]; rfl
  have hszp : (1 : Int) ≤ ((B l).size : Int) := by rw [B_size, hl]; simp; omega
  have h1 := fun w => known_c (b : Int) w
  have h2 := fun w => prefix_c l 45 w
  rw [hr] at h1
  rw [show (l.head? == some 45) = true from by rw [hl]; rfl] at h2
  have H1 := hide h1
  have H2 := hide h2
  have HT := hide hT
  clear h1 h2  hT hr hl
  go_enter Tryd.func6, Tryd.ntmps6
  go_wp2_with fail
  refine (unhide H1 _).mono ?_
  rintro e w1 ⟨rfl, rfl⟩
  go_wp2_with fail
  refine (unhide H2 _).mono ?_
  rintro e w1 ⟨rfl, rfl⟩
  clear H1 H2 
  -- true: the sign as a Bool; t: the text behind it; wants hb4, htl : its length ≤ 240, Hm : Hid (parseM .. = bodyM true b t), HT
  have Hpb : Hid (parseM l (b : Int) = if (partsM b t).2.2 then lowest true (partsM b t).1 (partsM b t).2.1 else none) := hide ((unhide Hm).trans (body_parts true (by omega) t))
  have hgs := parts_gr (b := b) (by omega) t (by omega)
  clear Hm
  go_wp2_with fail
  have h := readParts_c t b (w.alloc (.cells #[.bool false, .string ⟨#[]⟩, .string ⟨#[]⟩] 26)) (by omega) (by omega) (by omega) ((unhide HT).below ((Below.refl _ _).alloc (Nat.le_refl _) _))
  refine h.mono ?_
  clear h
  rintro e w2 ⟨⟨vu, vd, rfl, hvu, hvd⟩, hb2⟩
  have hb0 := below_alloc_size hb2
  have hz0 : w.heap.size + 1 ≤ w2.heap.size := by have := hb2.size; simpa using this
  have HT2 := hide ((unhide HT).below (below_new hb0))
  generalize (partsM b t).1 = pu at *
  generalize (partsM b t).2.1 = pd at *
  generalize (partsM b t).2.2 = po at *
  obtain ⟨pp, cp, hvs⟩ := own_slice hvd
  subst hvs
  have Hvu := hide hvu
  have Hvd := hide hvd
  clear hvu hvd hb2
  cases po with
  | false =>
    have c0 := newcell hb0 0
    have c1 := newcell hb0 1
    have c2 := newcell hb0 2
    have f0 := newfree hb0 0
    have f1 := newfree hb0 1
    have f2 := newfree hb0 2
    have hbX := below_new hb0
    simp at c0 c1 c2
    clear hb0
    go_wp2
    refine bodyPost_ret (v := numAns none) (by simp [results, Tryd.results6, go_sem, numAns, numO, noNum, numV, c0, c1, c2]) rfl ⟨by rw [unhide Hpb]; rfl, ?_⟩
    exact below_three hbX _ (Nat.le_refl _) _ _ _
  | true =>
    by_cases hd : pd = 0
    · have hl0 : (((gr pd).length : Int) == 0) = true := by rw [hd, gr_zero]; rfl
      have Hf : Hid (parseM l (b : Int) = none) := by show _ = _; rw [unhide Hpb, hd, if_pos rfl, lowest_none]
      clear hd
      have c0 := newcell hb0 0
      have c1 := newcell hb0 1
      have c2 := newcell hb0 2
      have f0 := newfree hb0 0
      have f1 := newfree hb0 1
      have f2 := newfree hb0 2
      have hbX := below_new hb0
      simp at c0 c1 c2
      clear hb0
      go_wp2
      refine bodyPost_ret (v := numAns none) (by simp [results, Tryd.results6, go_sem, numAns, numO, noNum, numV, c0, c1, c2]) rfl ⟨by rw [unhide Hf], ?_⟩
      exact below_three hbX _ (Nat.le_refl _) _ _ _
    · have hl0 : (((gr pd).length : Int) == 0) = false := by rw [beq_eq_false_iff_ne]; have := mt gr_len0.1 hd; omega
      have Hov2 : Hid (parseM l (b : Int) = lowest true pu pd) := by show _ = _; rw [unhide Hpb, if_pos rfl]
      have hdp : 0 < pd := by omega
      clear hd
      go_wp2_with fail
      have h := numLowest_c true pu pd vu _ w2 (unhide Hvu) (unhide Hvd) hdp (by omega) (by omega) (unhide HT2)
      refine h.mono ?_
      clear h
      rintro e w3 ⟨rfl, hb3⟩
      have hn3 := below_next hb0 hz0 hb3
      have c0 := newcell hn3.1 0
      have c1 := newcell hn3.1 1
      have c2 := newcell hn3.1 2
      have f0 := newfree hn3.1 0
      have f1 := newfree hn3.1 1
      have f2 := newfree hn3.1 2
      have hbX := below_new hn3.1
      simp at c0 c1 c2
      clear hb3 hb0 hn3 hl0 hdp
      -- behind l2Make's contract: 6 the function; the struct is stored and told. Wants: Hov2 : Hid (M = lowest ..), c0 c1 c2 f0 f1 f2 hbX, the answer's option lowest true pu pd
      generalize lowest true pu pd = o at *
      unfold numAns
      obtain ⟨n3, u3, d3, ho⟩ : ∃ n3 u3 d3, numO o = numV n3 u3 d3 := by
        cases o with
        | none => exact ⟨_, _, _, rfl⟩
        | some p => exact ⟨_, _, _, rfl⟩
      have Ho := hide ho
      rw [ho]
      unfold numV
      clear ho
      go_wp2
      refine bodyPost_ret (v := numAns o) (by simp [results, Tryd.results6, go_sem, numAns, unhide Ho, numV, c0, c1, c2]) rfl ⟨by rw [unhide Hov2], ?_⟩
      exact below_three hbX _ (Nat.le_refl _) _ _ _

set_option maxRecDepth 100000 in
set_option maxHeartbeats 2000000 in
theorem implNumParse_plus (t : List UInt8) (b : Nat) (w : World) (hb4 : b = 2 ∨ b = 8 ∨ b = 10 ∨ b = 16) (hlen : (43 :: t).length ≤ 240) (hT : Tens w) :
    Calls Tryd.prog 6 #[.string (B (43 :: t)), .int .i64 b] w fun e w' => e = .returned (numAns (parseM (43 :: t) b)) ∧ Below w.heap.size w w' := by
  have hr : isRadix (b : Int) = true := by rcases hb4 with rfl | rfl | rfl | rfl <;> rfl
  obtain ⟨l, hl⟩ : ∃ l : List UInt8, l = 43 :: t := ⟨_, rfl⟩
  rw [← hl]
  rw [← hl] at hlen
  have Hm : Hid (parseM l (b : Int) = bodyM false b t) := by
    show _ = _
    rw [parse_yes l b hb4 hlen, hl]
    rfl
  have htl : t.length ≤ 240 := by rw [hl] at hlen; simp at hlen; omega
  have hsz : ¬ (240 : Int) < ((B l).size : Int) := by rw [B_size]; omega
  have hcut : (B l).extract 1 (B l).size = B t := by rw [B_extract, B_size, List.take_length, hl]; rfl
  have hszp : (1 : Int) ≤ ((B l).size : Int) := by rw [B_size, hl]; simp; omega
  have h1 := fun w => known_c (b : Int) w
  have h2 := fun w => prefix_c l 45 w
  have h3 := fun w => prefix_c l 43 w
  rw [hr] at h1
  rw [show (l.head? == some 45) = false from by rw [hl]; rfl] at h2
  rw [show (l.head? == some 43) = true from by rw [hl]; rfl] at h3
  have H1 := hide h1
  have H2 := hide h2
  have H3 := hide h3
  have HT := hide hT
  clear h1 h2 h3 hT hr hl
  go_enter Tryd.func6, Tryd.ntmps6
  go_wp2_with fail
  refine (unhide H1 _).mono ?_
  rintro e w1 ⟨rfl, rfl⟩
  go_wp2_with fail
  refine (unhide H2 _).mono ?_
  rintro e w1 ⟨rfl, rfl⟩
  go_wp2_with fail
  refine (unhide H3 _).mono ?_
  rintro e w1 ⟨rfl, rfl⟩
  clear H1 H2 H3
  -- false: the sign as a Bool; t: the text behind it; wants hb4, htl : its length ≤ 240, Hm : Hid (parseM .. = bodyM false b t), HT
  have Hpb : Hid (parseM l (b : Int) = if (partsM b t).2.2 then lowest false (partsM b t).1 (partsM b t).2.1 else none) := hide ((unhide Hm).trans (body_parts false (by omega) t))
  have hgs := parts_gr (b := b) (by omega) t (by omega)
  clear Hm
  go_wp2_with fail
  have h := readParts_c t b (w.alloc (.cells #[.bool false, .string ⟨#[]⟩, .string ⟨#[]⟩] 26)) (by omega) (by omega) (by omega) ((unhide HT).below ((Below.refl _ _).alloc (Nat.le_refl _) _))
  refine h.mono ?_
  clear h
  rintro e w2 ⟨⟨vu, vd, rfl, hvu, hvd⟩, hb2⟩
  have hb0 := below_alloc_size hb2
  have hz0 : w.heap.size + 1 ≤ w2.heap.size := by have := hb2.size; simpa using this
  have HT2 := hide ((unhide HT).below (below_new hb0))
  generalize (partsM b t).1 = pu at *
  generalize (partsM b t).2.1 = pd at *
  generalize (partsM b t).2.2 = po at *
  obtain ⟨pp, cp, hvs⟩ := own_slice hvd
  subst hvs
  have Hvu := hide hvu
  have Hvd := hide hvd
  clear hvu hvd hb2
  cases po with
  | false =>
    have c0 := newcell hb0 0
    have c1 := newcell hb0 1
    have c2 := newcell hb0 2
    have f0 := newfree hb0 0
    have f1 := newfree hb0 1
    have f2 := newfree hb0 2
    have hbX := below_new hb0
    simp at c0 c1 c2
    clear hb0
    go_wp2
    refine bodyPost_ret (v := numAns none) (by simp [results, Tryd.results6, go_sem, numAns, numO, noNum, numV, c0, c1, c2]) rfl ⟨by rw [unhide Hpb]; rfl, ?_⟩
    exact below_three hbX _ (Nat.le_refl _) _ _ _
  | true =>
    by_cases hd : pd = 0
    · have hl0 : (((gr pd).length : Int) == 0) = true := by rw [hd, gr_zero]; rfl
      have Hf : Hid (parseM l (b : Int) = none) := by show _ = _; rw [unhide Hpb, hd, if_pos rfl, lowest_none]
      clear hd
      have c0 := newcell hb0 0
      have c1 := newcell hb0 1
      have c2 := newcell hb0 2
      have f0 := newfree hb0 0
      have f1 := newfree hb0 1
      have f2 := newfree hb0 2
      have hbX := below_new hb0
      simp at c0 c1 c2
      clear hb0
      go_wp2
      refine bodyPost_ret (v := numAns none) (by simp [results, Tryd.results6, go_sem, numAns, numO, noNum, numV, c0, c1, c2]) rfl ⟨by rw [unhide Hf], ?_⟩
      exact below_three hbX _ (Nat.le_refl _) _ _ _
    · have hl0 : (((gr pd).length : Int) == 0) = false := by rw [beq_eq_false_iff_ne]; have := mt gr_len0.1 hd; omega
      have Hov2 : Hid (parseM l (b : Int) = lowest false pu pd) := by show _ = _; rw [unhide Hpb, if_pos rfl]
      have hdp : 0 < pd := by omega
      clear hd
      go_wp2_with fail
      have h := numLowest_c false pu pd vu _ w2 (unhide Hvu) (unhide Hvd) hdp (by omega) (by omega) (unhide HT2)
      refine h.mono ?_
      clear h
      rintro e w3 ⟨rfl, hb3⟩
      have hn3 := below_next hb0 hz0 hb3
      have c0 := newcell hn3.1 0
      have c1 := newcell hn3.1 1
      have c2 := newcell hn3.1 2
      have f0 := newfree hn3.1 0
      have f1 := newfree hn3.1 1
      have f2 := newfree hn3.1 2
      have hbX := below_new hn3.1
      simp at c0 c1 c2
      clear hb3 hb0 hn3 hl0 hdp
      -- behind l2Make's contract: 6 the function; the struct is stored and told. Wants: Hov2 : Hid (M = lowest ..), c0 c1 c2 f0 f1 f2 hbX, the answer's option lowest false pu pd
      generalize lowest false pu pd = o at *
      unfold numAns
      obtain ⟨n3, u3, d3, ho⟩ : ∃ n3 u3 d3, numO o = numV n3 u3 d3 := by
        cases o with
        | none => exact ⟨_, _, _, rfl⟩
        | some p => exact ⟨_, _, _, rfl⟩
      have Ho := hide ho
      rw [ho]
      unfold numV
      clear ho
      go_wp2
      refine bodyPost_ret (v := numAns o) (by simp [results, Tryd.results6, go_sem, numAns, unhide Ho, numV, c0, c1, c2]) rfl ⟨by rw [unhide Hov2], ?_⟩
      exact below_three hbX _ (Nat.le_refl _) _ _ _

set_option maxRecDepth 100000 in
set_option maxHeartbeats 1000000 in
theorem implNumParse_no (l : List UInt8) (r : Int) (w : World) (hs : l.length ≤ 1000000000) (h : isRadix r = false ∨ 240 < l.length) :
    Calls Tryd.prog 6 #[.string (B l), .int .i64 r] w fun e w' => e = .returned (numAns (parseM l r)) ∧ Below w.heap.size w w' := by
  rw [parse_bad l r h]
  have hsz : (B l).size ≤ 1000000000 := by rw [B_size]; exact hs
  by_cases hr : isRadix r = false
  · clear h
    go_enter Tryd.func6, Tryd.ntmps6
    go_wp2_with fail
    refine (known_c r _).mono ?_
    rintro e w1 ⟨rfl, rfl⟩
    rw [hr]
    go_wp2
    refine bodyPost_ret (v := numAns none) (by simp [results, Tryd.results6, go_sem, numAns, numO, noNum, numV]) rfl ⟨rfl, ?_⟩
    exact (Below.refl _ _).alloc (Nat.le_refl _) _
  · have hr' : isRadix r = true := by simpa using hr
    have hl : (240 : Int) < ((B l).size : Int) := by rw [B_size]; rcases h with h | h; exact absurd h hr; omega
    clear h hr
    go_enter Tryd.func6, Tryd.ntmps6
    go_wp2_with fail
    refine (known_c r _).mono ?_
    rintro e w1 ⟨rfl, rfl⟩
    rw [hr']
    go_wp2
    refine bodyPost_ret (v := numAns none) (by simp [results, Tryd.results6, go_sem, numAns, numO, noNum, numV]) rfl ⟨rfl, ?_⟩
    exact (Below.refl _ _).alloc (Nat.le_refl _) _

theorem implNumParse_c (l : List UInt8) (r : Int) (w : World) (hs : l.length ≤ 1000000000) (hT : Tens w) :
    Calls Tryd.prog 6 #[.string (B l), .int .i64 r] w fun e w' => e = .returned (numAns (parseM l r)) ∧ Below w.heap.size w w' := by
  by_cases h : isRadix r = false ∨ 240 < l.length
  · exact implNumParse_no l r w hs h
  · have hr : isRadix r = true := by
      cases hh : isRadix r with
      | true => rfl
      | false => exact absurd (.inl hh) h
    have hl : l.length ≤ 240 := by
      apply Decidable.byContradiction
      intro hh
      exact h (.inr (by omega))
    obtain ⟨b, rfl, hb4⟩ := isRadix_nat hr
    cases l with
    | nil => exact implNumParse_bare [] b w hb4 hl rfl rfl hT
    | cons c t =>
      by_cases h45 : c = 45
      · subst h45; exact implNumParse_minus t b w hb4 hl hT
      · by_cases h43 : c = 43
        · subst h43; exact implNumParse_plus t b w hb4 hl hT
        · exact implNumParse_bare (c :: t) b w hb4 hl (by simpa using h45) (by simpa using h43) hT
end Go.Proofs.YtijgolgfcgkbiaaDoor
namespace Go.Proofs.YtijgolgfcgkbiaaDoor
open Go.RowKit Nt

theorem hex_sg (d : Nat) (h : d < 16) : ((⟨#[48, 49, 50, 51, 52, 53, 54, 55, 56, 57, 97, 98, 99, 100, 101, 102]⟩ : ByteArray)[d]'h).toNat = (sg d).toNat := by
  rcases d with _ | _ | _ | _ | _ | _ | _ | _ | _ | _ | _ | _ | _ | _ | _ | _ | d
  all_goals first | rfl | omega

set_option maxRecDepth 100000 in
set_option maxHeartbeats 2000000 in
theorem write_c (x b : Nat) (v : Value) (w : World) (hx : isNat w v x) (hs : (gr x).length ≤ 100000) (hb2 : 2 ≤ b) (hb16 : b ≤ 16) (hsd : (dg b x).length ≤ 1000000) :
    Calls Tryd.prog 45 #[.int .i64 b, v] w fun e w' => e = .returned (.string (txt b x)) ∧ Below w.heap.size w w' := by
  obtain ⟨i0, hi, hz0, hz1, hz2⟩ := info_parts Tryd.infoByte
  obtain ⟨p, cap, hv⟩ := own_slice hx
  subst hv
  by_cases hz : x = 0
  · subst hz
    have h0 : txt b 0 = ⟨#[48]⟩ := by unfold txt; rw [txl_zero]; rfl
    rw [gr_zero, h0]
    clear hx hs
    go_enter Tryd.func45, Tryd.ntmps45
    go_wp2
    go_ret
    exact ⟨rfl, Below.refl _ _⟩
  · have hn0 : 0 < (gr x).length := by have := mt gr_len0.1 hz; omega
    have hnI : (((gr x).length : Int) == 0) = false := by rw [beq_eq_false_iff_ne]; omega
    have e1 := wu64 (b : Int) (by omega) (by omega)
    have Hx := hide hx
    have Hz := hide hz
    clear hx hz
    go_enter Tryd.func45, Tryd.ntmps45
    go_wp2
    go_loopw [1, 5, 6, 7] (fun n out _ _ wr => ∃ (k : Nat) (ls : List Nat), k ≤ x ∧ isNat wr n k ∧ wr.ownsRow w.heap.size 5 1 out ls.length ((ls.map sg).map u8v) ∧ Below w.heap.size w wr ∧ Hid (dg b x = ls ++ dg b k))
      (fun _ out _ _ _ => (dg b x).length - lenV out)
    case atStart =>
      exact ⟨x, [], Nat.le_refl _, own_below (unhide Hx) ((Below.refl _ _).alloc (Nat.le_refl _) _), World.ownsRow_made w #[] 0 (Nat.le_refl _) (by decide) (by simp), (Below.refl _ _).alloc (Nat.le_refl _) _, hide (by simp)⟩
    case round =>
      obtain ⟨k, ls, hk, hnat, hown, hb, hdg⟩ := hrel
      obtain ⟨pk, ck, hvk⟩ := own_slice hnat
      subst hvk
      obtain ⟨po, co, hvo⟩ := own_slice hown
      subst hvo
      by_cases hk0 : k = 0
      · have hl0 : ¬ (0 : Int) < ((gr k).length : Int) := by rw [hk0, gr_zero]; simp
        have hfin : ls = dg b x := by rw [unhide hdg, hk0, dg_zero, List.append_nil]
        have hls : 0 < ls.length := by
          rcases Nat.eq_zero_or_pos ls.length with h | h
          · have h' : ls = [] := List.eq_nil_of_length_eq_zero h
            rw [h'] at hfin
            exact absurd ((dg_eq_nil hb2).1 hfin.symm) (unhide Hz)
          · exact h
        have hsl : ls.length ≤ 1000000 := by rw [hfin]; exact hsd
        obtain ⟨g, cap', hvv, hcc, hbg, hgw⟩ := own_some hown hls
        simp only [Value.slice.injEq, true_and] at hvv
        obtain ⟨rfl, rfl⟩ := hvv
        have Hfin := hide hfin
        have hrv := reverse_c (ls.map sg) g co w.heap.size wr (by rw [List.length_map]; omega) (by rw [List.length_map]; exact hown)
        rw [List.length_map] at hrv
        have Hrv := hide hrv
        clear hrv hown hfin
        go_wp2_with fail
        refine (unhide Hrv).mono ?_
        rintro e w3 ⟨rfl, hown3, hg3⟩
        have hbX := hb.grown hg3 hb.size (fun k hk => by cases hk; omega)
        have hconv := run_conv_bytes (dst := 9) Tryd.underlying22 Tryd.underlying5 Tryd.underlying9 hown3
        have hfin2 : B (ls.map sg).reverse = txt b x := by unfold txt; rw [txl_pos (unhide Hz), ← unhide Hfin]
        rw [hfin2] at hconv
        clear hfin2 hown3 hg3 Hrv
        go_wp2
        go_ret
        exact ⟨rfl, hbX⟩
      · have hl0 : (0 : Int) < ((gr k).length : Int) := by have := mt gr_len0.1 hk0; omega
        have hgk := gr_len_le hk
        have hpos := dg_pos (b := b) hb2 (show 0 < k by omega)
        have hdl : k % b < 16 := Nat.lt_of_lt_of_le (Nat.mod_lt _ (by omega)) hb16
        have hqk : k / b ≤ x := Nat.le_trans (Nat.div_le_self _ _) hk
        have hdg2 : dg b x = (ls ++ [k % b]) ++ dg b (k / b) := by rw [unhide hdg, hpos]; simp
        have Hdg2 := hide hdg2
        have hll := congrArg List.length hdg2
        rw [List.length_append, List.length_append] at hll
        clear hpos hdg2
        go_wp2_with fail
        have h := overWordB_c k b _ wr hnat (by omega) (by omega) (by omega)
        refine h.mono ?_
        clear h
        rintro e w2 ⟨⟨v2, rfl, hv2⟩, hb2'⟩
        have hown2 := own_below hown hb2'
        have hbw := hb.trans (hb2'.mono hb.size)
        have hhex := hex_sg (k % b) hdl
        unfold isNatB at hv2
        have hne : v2.ownBlock = none ∨ v2.ownBlock ≠ (Value.slice po ls.length co).ownBlock := by
          by_cases hh : v2.ownBlock = none
          · exact .inl hh
          · refine .inr (fun he => ?_)
            obtain ⟨g, hg⟩ := Option.ne_none_iff_exists'.1 hh
            have h1 := (hv2.lt g hg).1
            have h2 := (hown.lt g (he ▸ hg)).2
            omega
        have Hne := hide hne
        clear hne
        have Hv2 := hide hv2
        generalize k % b = d at *
        have hw := hbw.size
        have e8 : (sg d).toNat < 256 := (sg d).toNat_lt
        clear hv2 hnat hown
        go_wp2_with (at_builtin; refine wpList_append_own _ rfl (.tmp 22) (.tmp 25) 22 rfl w.heap.size 5 i0 (.int .u8 0) 1 1 Tryd.underlying22 hi hz0 hz1 hz2 rfl (by decide) _ _ _ rfl (hown2.alloc _) ⟨w2.heap.size, 0, none⟩ 1 1 [.int .u8 ((sg d).toNat : Int)] rfl rfl (cell_one_new _ _ _) (by intro u hu; simp at hu; subst hu; rfl) (by unfold maxLen; omega) (by omega) (by simp; omega) ?_; intro v3 w3 hown3 hg3 _)
        have hbX := below_grown (hbw.alloc hw _) (hown2.alloc _) hg3 (by simp <;> omega)
        obtain ⟨p3, c3, hv3⟩ := own_slice hown3
        subst hv3
        go_roundw
        case rel =>
          refine ⟨k / b, ls ++ [d], hqk, ?_, ?_, hbX, Hdg2⟩
          · exact own_base (((unhide Hv2).alloc _).kept hg3 (unhide Hne)) (Nat.zero_le _)
          · rw [List.length_append, List.map_append, List.map_append]
            exact hown3
        case measure =>
          show (dg b x).length - (ls.length + 1) < (dg b x).length - ls.length
          simp at hll
          omega
end Go.Proofs.YtijgolgfcgkbiaaDoor
namespace Go.Proofs.YtijgolgfcgkbiaaDoor
open Go.RowKit Nt

theorem dg_txl (b x : Nat) : (dg b x).length ≤ (txl b x).length := by
  unfold txl
  by_cases h : x = 0
  · rw [if_pos h, h, dg_zero]; simp
  · rw [if_neg h]; simp

set_option maxRecDepth 100000 in
set_option maxHeartbeats 2000000 in
theorem implNumPrint_no (neg : Bool) (u d : List UInt8) (r : Int) (w : World) (hsu : u.length ≤ 1000000000) (hsd : d.length ≤ 1000000000) (h : (okM neg u d && isRadix r) = false) (hT : Tens w) :
    Calls Tryd.prog 10 #[numB neg u d, .int .i64 r] w fun e w' => e = .returned (.string (B (printM neg u d r))) ∧ Below w.heap.size w w' := by
  have Hf : Hid (B (printM neg u d r) = ⟨#[]⟩) := by show _ = _; unfold printM; rw [h]; rfl
  have h1 := fun w hT => implNumOk_c neg u d w hsu hsd hT
  have HT := hide hT
  unfold numB at *
  clear hT
  cases hr : isRadix r with
  | false =>
    clear h h1
    go_enter Tryd.func10, Tryd.ntmps10
    go_wp2_with fail
    refine (known_c r _).mono ?_
    rintro e w2 ⟨rfl, rfl⟩
    rw [hr]
    go_wp2
    go_ret
    exact ⟨ret_str (unhide Hf).symm, (Below.refl _ _).alloc (Nat.le_refl _) _⟩
  | true =>
    rw [hr, Bool.and_true] at h
    rw [h] at h1
    have H1 := hide h1
    clear h h1
    go_enter Tryd.func10, Tryd.ntmps10
    go_wp2_with fail
    refine (known_c r _).mono ?_
    rintro e w2 ⟨rfl, rfl⟩
    rw [hr]
    go_wp2_with fail
    refine (unhide H1 _ ((unhide HT).below ((Below.refl _ _).alloc (Nat.le_refl _) _))).mono ?_
    rintro e w1 ⟨rfl, hb1⟩
    have hb0 := below_alloc_size hb1
    go_wp2
    go_ret
    exact ⟨ret_str (unhide Hf).symm, below_new hb0⟩


set_option maxRecDepth 100000 in
set_option maxHeartbeats 4000000 in
theorem implNumPrint_yes (neg : Bool) (u d : List UInt8) (b : Nat) (w : World) (hok : okM neg u d = true) (hb4 : b = 2 ∨ b = 8 ∨ b = 10 ∨ b = 16) (hT : Tens w) :
    Calls Tryd.prog 10 #[numB neg u d, .int .i64 b] w fun e w' => e = .returned (.string (B (printM neg u d b))) ∧ Below w.heap.size w w' := by
  have hr : isRadix (b : Int) = true := by rcases hb4 with rfl | rfl | rfl | rfl <;> rfl
  obtain ⟨h3, h4, hu, hd, hd0, hn0, _⟩ := ok_parts hok
  have h1 := fun w hT => implNumOk_c neg u d w (by omega) (by omega) hT
  rw [hok] at h1
  have Hf : Hid (printM neg u d b = prM neg (valDec u) (valDec d) b) := by show _ = _; unfold printM; rw [hok, hr]; simp
  have Bu : B u = dec (valDec u) := by unfold dec txt; rw [← isDec_val h3]
  have Bd : B d = dec (valDec d) := by unfold dec txt; rw [← isDec_val h4]
  have hau := B_size u
  have had := B_size d
  unfold numB at *
  rw [Bu, Bd] at h1
  rw [Bu] at hau
  rw [Bd] at had
  rw [Bu, Bd]
  generalize valDec u = a at *
  generalize valDec d = q at *
  have hau60 : (dec a).size ≤ 60 := by omega
  have had60 : (dec q).size ≤ 60 := by omega
  have hq1 := dec_is1 q
  have hta := txt_size (b := b) (by omega) hau60
  have htq := txt_size (b := b) (by omega) had60
  have hta' : (txl b a).length ≤ 240 := by unfold txt at hta; rwa [B_size] at hta
  have htq' : (txl b q).length ≤ 240 := by unfold txt at htq; rwa [B_size] at htq
  have hda := dg_txl b a
  have hdq := dg_txl b q
  have hga := dec_gr hau60
  have hgq := dec_gr had60
  have H1 := hide h1
  have HT := hide hT
  clear h1 Bu Bd h3 h4 hok hau had hn0 hT
  go_enter Tryd.func10, Tryd.ntmps10
  go_wp2_with fail
  refine (known_c b _).mono ?_
  rintro e w2 ⟨rfl, rfl⟩
  rw [hr]
  go_wp2_with fail
  refine (unhide H1 _ ((unhide HT).below ((Below.refl _ _).alloc (Nat.le_refl _) _))).mono ?_
  rintro e w1 ⟨rfl, hb1⟩
  have hb0 := below_alloc_size hb1
  have hz0 : w.heap.size + 1 ≤ w1.heap.size := by have := hb1.size; simpa using this
  have c0 := newcell hb0 0
  have c1 := newcell hb0 1
  have c2 := newcell hb0 2
  simp at c0 c1 c2
  go_wp2_with fail
  have h := natRead_c a w1 (by omega) ((unhide HT).below (below_new hb0))
  refine h.mono ?_
  clear h
  rintro e w2 ⟨⟨v2, rfl, hv2⟩, hb2⟩
  have hn2 := below_next hb0 hz0 hb2
  have Hv2 := hide hv2
  clear hv2
  go_wp2_with fail
  have h := write_c a b v2 w2 (unhide Hv2) (by omega) (by omega) (by omega) (by omega)
  refine h.mono ?_
  clear h
  rintro e w3 ⟨rfl, hb3⟩
  have hn3 := below_next hn2.1 hn2.2 hb3
  clear c0 c1 c2 hb1 hb0 hz0 hb2 hn2 hb3
  have c0 := newcell hn3.1 0
  have c1 := newcell hn3.1 1
  have c2 := newcell hn3.1 2
  simp at c0 c1 c2
  have hs47 : (⟨#[47]⟩ ++ txt b q : ByteArray).size = 1 + (txt b q).size := by rw [ByteArray.size_append]; rfl
  by_cases hone : q = 1
  · rw [decide_eq_true hone] at hq1
    cases neg with
    | false =>
      have Hf2 : Hid (B (printM false u d b) = txt b a) := by show _ = _; rw [unhide Hf]; simp [prM, hone, txt]
      clear hone
      go_wp2
      go_ret
      exact ⟨ret_str (unhide Hf2).symm, below_new hn3.1⟩
    | true =>
      have Hf2 : Hid (B (printM true u d b) = ⟨#[45]⟩ ++ txt b a) := by
        show _ = _; rw [unhide Hf, show (⟨#[45]⟩ : ByteArray) = B [45] from rfl]; unfold txt; rw [B_append]; simp [prM, hone]
      have hns : ¬ 9223372036854775807 < 1 + (txt b a).size := by omega
      clear hone
      go_wp2
      go_ret
      exact ⟨ret_str (unhide Hf2).symm, below_new hn3.1⟩
  · rw [decide_eq_false hone] at hq1
    cases neg with
    | false =>
      have Hf2 : Hid (B (printM false u d b) = txt b a ++ (⟨#[47]⟩ ++ txt b q)) := by
        show _ = _; rw [unhide Hf, show (⟨#[47]⟩ : ByteArray) = B [47] from rfl]; unfold txt; rw [B_append, B_append]; simp [prM, hone]
      clear hone
      -- the second number: behind hn3 (the frame), c0 c1 c2
      go_wp2_with fail
      have h := natRead_c q w3 (by omega) ((unhide HT).below (below_new hn3.1))
      refine h.mono ?_
      clear h
      rintro e w4 ⟨⟨v4, rfl, hv4⟩, hb4'⟩
      have hn4 := below_next hn3.1 hn3.2 hb4'
      have Hv4 := hide hv4
      clear hv4
      go_wp2_with fail
      have h := write_c q b v4 w4 (unhide Hv4) (by omega) (by omega) (by omega) (by omega)
      refine h.mono ?_
      clear h
      rintro e w5 ⟨rfl, hb5⟩
      have hn5 := below_next hn4.1 hn4.2 hb5
      go_wp2
      go_ret
      exact ⟨ret_str (unhide Hf2).symm, below_new hn5.1⟩
    | true =>
      have Hf2 : Hid (B (printM true u d b) = (⟨#[45]⟩ ++ txt b a) ++ (⟨#[47]⟩ ++ txt b q)) := by
        show _ = _; rw [unhide Hf, show (⟨#[47]⟩ : ByteArray) = B [47] from rfl, show (⟨#[45]⟩ : ByteArray) = B [45] from rfl]; unfold txt; rw [B_append, B_append, B_append]; simp [prM, hone]
      have hns : ¬ 9223372036854775807 < 1 + (txt b a).size := by omega
      clear hone
      -- the second number: behind hn3 (the frame), c0 c1 c2
      go_wp2_with fail
      have h := natRead_c q w3 (by omega) ((unhide HT).below (below_new hn3.1))
      refine h.mono ?_
      clear h
      rintro e w4 ⟨⟨v4, rfl, hv4⟩, hb4'⟩
      have hn4 := below_next hn3.1 hn3.2 hb4'
      have Hv4 := hide hv4
      clear hv4
      go_wp2_with fail
      have h := write_c q b v4 w4 (unhide Hv4) (by omega) (by omega) (by omega) (by omega)
      refine h.mono ?_
      clear h
      rintro e w5 ⟨rfl, hb5⟩
      have hn5 := below_next hn4.1 hn4.2 hb5
      go_wp2
      go_ret
      exact ⟨ret_str (unhide Hf2).symm, below_new hn5.1⟩

theorem implNumPrint_c (neg : Bool) (u d : List UInt8) (r : Int) (w : World) (hsu : u.length ≤ 1000000000) (hsd : d.length ≤ 1000000000) (hT : Tens w) :
    Calls Tryd.prog 10 #[numB neg u d, .int .i64 r] w fun e w' => e = .returned (.string (B (printM neg u d r))) ∧ Below w.heap.size w w' := by
  cases h : okM neg u d && isRadix r with
  | false => exact implNumPrint_no neg u d r w hsu hsd h hT
  | true =>
    simp only [Bool.and_eq_true] at h
    obtain ⟨b, rfl, hb4⟩ := isRadix_nat h.2
    exact implNumPrint_yes neg u d b w h.1 hb4 hT
end Go.Proofs.YtijgolgfcgkbiaaDoor
namespace Go.Proofs.YtijgolgfcgkbiaaDoor
open Go.RowKit Nt


set_option maxRecDepth 100000 in
set_option maxHeartbeats 4000000 in
theorem lawText_main (a0 a1 : Option Addr) (n0 cap0 n1 cap1 : Nat) (w : World) (h0 : Bytes0 w a0 n0) (h1 : Bytes0 w a1 n1) (hc0 : n0 ≤ cap0) (hc1 : n1 ≤ cap1) (hm0 : cap0 ≤ maxLen) (hm1 : cap1 ≤ maxLen) (hT : Tens w) (hs0 : n0 ≤ 1048576) (hs1 : n1 ≤ 1048576) :
    Calls Tryd.prog 3 #[.slice a0 n0 cap0, .slice a1 n1 cap1] w fun e w' => e = .returned (.bool true) ∧ Below w.heap.size w w' := by
  have H0 := hide h0
  have H1 := hide h1
  have HT := hide hT
  clear h0 h1 hT
  have d0 : decide (1048576 < (n0 : Int)) = false := by rw [decide_eq_false_iff_not]; omega
  have d1 : decide (1048576 < (n1 : Int)) = false := by rw [decide_eq_false_iff_not]; omega
  go_enter Tryd.func3, Tryd.ntmps3
  go_wp2_with fail
  refine (DrawNumParse_c a0 n0 cap0 w (unhide H0) hc0 hm0).mono ?_
  rintro e w1 ⟨⟨s, r, rfl, hsz⟩, hb1⟩
  obtain ⟨l, rfl⟩ : ∃ l, s = B l := ⟨s.data.toList, (B_toList s).symm⟩
  rw [B_size] at hsz
  have HB1 := hide hb1
  clear hb1
  go_wp2_with fail
  have h := implNumParse_c l r w1 (by omega) ((unhide HT).below (unhide HB1))
  refine h.mono ?_
  clear h
  rintro e w2 ⟨rfl, hb2⟩
  unfold numAns
  rw [numO_B]
  have hok := okM_ans l r
  have hln := ans_len l r
  have hsp := fun w => specNumParse_c l r w (by omega)
  unfold numAns at hsp
  rw [numO_B] at hsp
  generalize ansN (parseM l r) = N at *
  generalize ansU (parseM l r) = U at *
  generalize ansD (parseM l r) = D at *
  generalize (parseM l r).isSome = k at *
  have Hok := hide hok
  have Hsp := hide hsp
  have HB2 := hide ((unhide HB1).trans (hb2.mono (unhide HB1).size))
  clear hok hsp hb2
  unfold numB
  go_wp2_with fail
  refine (unhide Hsp _).mono ?_
  rintro e w3 ⟨rfl, hb3⟩
  have hA := (At3.new w2 (.bool N) (.string (B U)) (.string (B D))).below hb3
  have HB3 := hide ((unhide HB2).trans ((((Below.refl _ _).alloc (Nat.le_refl _) _).trans (hb3.mono (by simp))).mono (unhide HB2).size))
  have HA := hide hA
  have c0 := hA.c0
  have c1 := hA.c1
  have c2 := hA.c2
  have hs3 := hA.lt
  clear hb3 hA
  unfold numB
  go_wp2_with fail
  have h := implNumOk_c N U D (w3.alloc (.cells #[.bool N, .string (B U), .string (B D)] 26)) (by omega) (by omega) ((unhide HT).below ((unhide HB3).alloc (unhide HB3).size _))
  unfold numB at h
  rw [unhide Hok] at h
  refine h.mono ?_
  clear h
  rintro e w4 ⟨rfl, hb4⟩
  have HB4 := hide (((unhide HB3).alloc (unhide HB3).size (.cells #[.bool N, .string (B U), .string (B D)] 26)).trans (hb4.mono ((unhide HB3).alloc (unhide HB3).size _).size))
  clear hb4 c0 c1 c2 hs3 HA HB1 HB2 HB3
  go_wp2_with fail
  refine (DrawNumPrint_c a1 n1 cap1 w4 ((unhide H1).below (unhide HB4)) hc1 hm1).mono ?_
  rintro e w5 ⟨⟨neg, us, ds, rr, rfl, hsm⟩, hb5⟩
  obtain ⟨u, rfl⟩ : ∃ l, us = B l := ⟨us.data.toList, (B_toList us).symm⟩
  obtain ⟨d, rfl⟩ : ∃ l, ds = B l := ⟨ds.data.toList, (B_toList ds).symm⟩
  have hul : u.length ≤ 1000 := by have := hsm.1; rwa [B_size] at this
  have hdl : d.length ≤ 1000 := by have := hsm.2; rwa [B_size] at this
  have HB5 := hide ((unhide HB4).trans (hb5.mono (unhide HB4).size))
  clear hb5 hsm HB4
  unfold numS
  go_wp2_with fail
  have h := implNumPrint_c neg u d rr (w5.alloc (.cells #[.bool neg, .string (B u), .string (B d)] 26)) (by omega) (by omega) ((unhide HT).below ((unhide HB5).alloc (unhide HB5).size _))
  unfold numB at h
  refine h.mono ?_
  clear h
  rintro e w6 ⟨rfl, hb6⟩
  have hA := (At3.new w5 (.bool neg) (.string (B u)) (.string (B d))).below hb6
  have HA := hide hA
  have c0 := hA.c0
  have c1 := hA.c1
  have c2 := hA.c2
  have hs6 := hA.lt
  have HB6 := hide (((unhide HB5).alloc (unhide HB5).size (.cells #[.bool neg, .string (B u), .string (B d)] 26)).trans (hb6.mono ((unhide HB5).alloc (unhide HB5).size _).size))
  clear hb6 hA
  go_wp2_with fail
  have h := specNumPrint_c neg u d rr w6 (by omega) (by omega)
  unfold numB at h
  refine h.mono ?_
  clear h
  rintro e w7 ⟨rfl, hb7⟩
  have hA := (unhide HA).below hb7
  clear HA c0 c1 c2 hs6
  have HA := hide hA
  have c0 := hA.c0
  have c1 := hA.c1
  have c2 := hA.c2
  have hs7 := hA.lt
  have HB7 := hide ((unhide HB6).trans (hb7.mono (unhide HB6).size))
  clear hb7 hA HB5 HB6
  obtain ⟨S, hS⟩ : ∃ S, printM neg u d rr = S := ⟨_, rfl⟩
  rw [hS]
  have HS := hide hS
  clear hS
  have hSb : ((B S).toList == ([] : List UInt8)) = decide (S = []) := by rw [B_tl]; by_cases h : S = [] <;> simp [h]
  by_cases hSe : S = []
  · rw [decide_eq_true hSe] at hSb
    have HSe := hide hSe
    clear hSe
    -- the last draw, of an int: w7 the world, HB7 what is kept below
    have HBt : Hid (Below w.heap.size w w7) := (by first | exact unhide HB7 | exact (unhide HB7).alloc (unhide HB7).size _)
    go_wp2_with fail
    refine (DrawNumInt_c a0 n0 cap0 w7 ((unhide H0).below (unhide HBt)) hc0 hm0).mono ?_
    rintro e wi ⟨⟨i, rfl, hi0, hi1⟩, hbi⟩
    have HBi := hide ((unhide HBt).trans (hbi.mono (unhide HBt).size))
    clear hbi HBt
    go_wp2_with fail
    have h := implNumInt_c i wi hi0 hi1 ((unhide HT).below (unhide HBi))
    refine h.mono ?_
    clear h
    rintro e wj ⟨rfl, hbj⟩
    have HBj := hide ((unhide HBi).trans (hbj.mono (unhide HBi).size))
    clear hbj
    rw [intV_B]
    have hspI := fun w => specNumInt_c i w hi0 hi1
    have hokI := int_ok hi0 hi1
    have hlen := ok_parts hokI
    have hlU := hlen.2.2.1
    have hlD := hlen.2.2.2.1
    clear hlen
    rw [intV_B] at hspI
    generalize txl 10 i.natAbs = IU at *
    generalize txl 10 1 = ID at *
    have HspI := hide hspI
    clear hspI
    unfold numB at *
    have hokC := fun W (h : Tens W) => implNumOk_c (decide (i < 0)) IU ID W (by omega) (by omega) h
    rw [hokI] at hokC
    unfold numB at hokC
    have HokC := hide hokC
    clear hokI hokC
    have HA0 := hide (At3.new wj (.bool (decide (i < 0))) (.string (B IU)) (.string (B ID)))
    have HW0 := hide ((unhide HBj).alloc (unhide HBj).size (.cells #[.bool (decide (i < 0)), .string (B IU), .string (B ID)] 26))
    have HT0 := hide ((unhide HT).below (unhide HW0))
    go_wp2
    go_region_with (first | (go_at_call 14; refine (unhide HspI _).mono ?_; rintro e wk ⟨rfl, hbk⟩; have hAk := (unhide HA0).drew.below hbk; have ck0 := hAk.c0; have ck1 := hAk.c1; have ck2 := hAk.c2; have HAk := hide hAk; have HTk := hide (Tens.below (show Tens (wj.alloc (.cells #[.bool (decide (i < 0)), .string (B IU), .string (B ID)] 26)).drew from unhide HT0) hbk); have HBk := hide hbk; clear hbk hAk) | (go_at_call 8; refine (unhide HokC _ (by exact unhide HTk)).mono ?_; rintro e wl ⟨rfl, hbl⟩; have hAl := (unhide HAk).below hbl; have cl0 := hAl.c0; have cl1 := hAl.c1; have cl2 := hAl.c2; have HBl := hide hbl; clear hbl hAl))
    all_goals
      go_wp2
      go_ret
      exact ⟨rfl, ((unhide HW0).drew.trans ((unhide HBk).mono (unhide HW0).drew.size)).trans ((unhide HBl).mono ((unhide HW0).drew.trans ((unhide HBk).mono (unhide HW0).drew.size)).size)⟩
  · rw [decide_eq_false hSe] at hSb
    have hfacts : okM neg u d = true ∧ isRadix rr = true := by
      have h := unhide HS
      unfold printM at h
      by_cases hh : (okM neg u d && isRadix rr) = true
      · simpa using hh
      · rw [if_neg hh] at h; exact absurd h.symm hSe
    obtain ⟨hok, hrad⟩ := hfacts
    obtain ⟨b, rfl, hb4⟩ := isRadix_nat hrad
    have hp := ok_parts hok
    have Bu : dec (valDec u) = B u := by unfold dec txt; rw [← isDec_val hp.1]
    have Bd : dec (valDec d) = B d := by unfold dec txt; rw [← isDec_val hp.2.1]
    have hSl : S.length ≤ 482 := by rw [← unhide HS]; exact print_len _ _ _ _
    have HSe := hide hSe
    clear hSe hp
    go_wp2_with fail
    have h := implNumParse_c S b w7 (by omega) ((unhide HT).below (unhide HB7))
    refine h.mono ?_
    clear h
    rintro e w8 ⟨rfl, hb8⟩
    have hA := (unhide HA).below hb8
    clear c0 c1 c2 hs7
    have c0 := hA.c0
    have c1 := hA.c1
    have c2 := hA.c2
    have hs8 := hA.lt
    have HB8 := hide ((unhide HB7).trans (hb8.mono (unhide HB7).size))
    clear hb8 hA HB7
    have hSz := B_size S
    by_cases hl : S.length ≤ 240
    · have hpp := parse_print hok hb4 (by rw [unhide HS]; exact hl)
      rw [unhide HS] at hpp
      have hans : numAns (some (neg, valDec u, valDec d)) = .tuple #[.agg #[.bool neg, .string (B u), .string (B d)], .bool true] := by
        show Value.tuple #[numV neg (dec (valDec u)) (dec (valDec d)), .bool true] = _
        rw [Bu, Bd]; rfl
      rw [hpp, hans]
      clear hans
      have HX := hide (And.intro hpp (And.intro hok (And.intro hrad (And.intro Bu Bd))))
      clear hpp hok hrad Bu Bd
      -- the last draw, of an int: (w8.alloc (.cells #[.bool neg, .string (B u), .string (B d)] 26)) the world, HB8 what is kept below
      have HBt : Hid (Below w.heap.size w (w8.alloc (.cells #[.bool neg, .string (B u), .string (B d)] 26))) := (by first | exact unhide HB8 | exact (unhide HB8).alloc (unhide HB8).size _)
      go_wp2_with fail
      refine (DrawNumInt_c a0 n0 cap0 (w8.alloc (.cells #[.bool neg, .string (B u), .string (B d)] 26)) ((unhide H0).below (unhide HBt)) hc0 hm0).mono ?_
      rintro e wi ⟨⟨i, rfl, hi0, hi1⟩, hbi⟩
      have HBi := hide ((unhide HBt).trans (hbi.mono (unhide HBt).size))
      clear hbi HBt
      go_wp2_with fail
      have h := implNumInt_c i wi hi0 hi1 ((unhide HT).below (unhide HBi))
      refine h.mono ?_
      clear h
      rintro e wj ⟨rfl, hbj⟩
      have HBj := hide ((unhide HBi).trans (hbj.mono (unhide HBi).size))
      clear hbj
      rw [intV_B]
      have hspI := fun w => specNumInt_c i w hi0 hi1
      have hokI := int_ok hi0 hi1
      have hlen := ok_parts hokI
      have hlU := hlen.2.2.1
      have hlD := hlen.2.2.2.1
      clear hlen
      rw [intV_B] at hspI
      generalize txl 10 i.natAbs = IU at *
      generalize txl 10 1 = ID at *
      have HspI := hide hspI
      clear hspI
      unfold numB at *
      have hokC := fun W (h : Tens W) => implNumOk_c (decide (i < 0)) IU ID W (by omega) (by omega) h
      rw [hokI] at hokC
      unfold numB at hokC
      have HokC := hide hokC
      clear hokI hokC
      have HA0 := hide (At3.new wj (.bool (decide (i < 0))) (.string (B IU)) (.string (B ID)))
      have HW0 := hide ((unhide HBj).alloc (unhide HBj).size (.cells #[.bool (decide (i < 0)), .string (B IU), .string (B ID)] 26))
      have HT0 := hide ((unhide HT).below (unhide HW0))
      go_wp2
      go_region_with (first | (go_at_call 14; refine (unhide HspI _).mono ?_; rintro e wk ⟨rfl, hbk⟩; have hAk := (unhide HA0).drew.below hbk; have ck0 := hAk.c0; have ck1 := hAk.c1; have ck2 := hAk.c2; have HAk := hide hAk; have HTk := hide (Tens.below (show Tens (wj.alloc (.cells #[.bool (decide (i < 0)), .string (B IU), .string (B ID)] 26)).drew from unhide HT0) hbk); have HBk := hide hbk; clear hbk hAk) | (go_at_call 8; refine (unhide HokC _ (by exact unhide HTk)).mono ?_; rintro e wl ⟨rfl, hbl⟩; have hAl := (unhide HAk).below hbl; have cl0 := hAl.c0; have cl1 := hAl.c1; have cl2 := hAl.c2; have HBl := hide hbl; clear hbl hAl))
      all_goals
        go_wp2
        go_ret
        exact ⟨rfl, ((unhide HW0).drew.trans ((unhide HBk).mono (unhide HW0).drew.size)).trans ((unhide HBl).mono ((unhide HW0).drew.trans ((unhide HBk).mono (unhide HW0).drew.size)).size)⟩
    · have hpp := parse_bad S b (.inr (by omega))
      rw [hpp, show numAns none = .tuple #[.agg #[.bool false, .string ⟨#[]⟩, .string ⟨#[]⟩], .bool false] from rfl]
      have HX := hide (And.intro hpp (And.intro hok (And.intro hrad (And.intro Bu Bd))))
      have hl2 : 240 < (B S).size := by omega
      clear hpp hok hrad Bu Bd
      -- the last draw, of an int: (w8.alloc (.cells #[.bool false, .string ⟨#[]⟩, .string ⟨#[]⟩] 26)) the world, HB8 what is kept below
      have HBt : Hid (Below w.heap.size w (w8.alloc (.cells #[.bool false, .string ⟨#[]⟩, .string ⟨#[]⟩] 26))) := (by first | exact unhide HB8 | exact (unhide HB8).alloc (unhide HB8).size _)
      go_wp2_with fail
      refine (DrawNumInt_c a0 n0 cap0 (w8.alloc (.cells #[.bool false, .string ⟨#[]⟩, .string ⟨#[]⟩] 26)) ((unhide H0).below (unhide HBt)) hc0 hm0).mono ?_
      rintro e wi ⟨⟨i, rfl, hi0, hi1⟩, hbi⟩
      have HBi := hide ((unhide HBt).trans (hbi.mono (unhide HBt).size))
      clear hbi HBt
      go_wp2_with fail
      have h := implNumInt_c i wi hi0 hi1 ((unhide HT).below (unhide HBi))
      refine h.mono ?_
      clear h
      rintro e wj ⟨rfl, hbj⟩
      have HBj := hide ((unhide HBi).trans (hbj.mono (unhide HBi).size))
      clear hbj
      rw [intV_B]
      have hspI := fun w => specNumInt_c i w hi0 hi1
      have hokI := int_ok hi0 hi1
      have hlen := ok_parts hokI
      have hlU := hlen.2.2.1
      have hlD := hlen.2.2.2.1
      clear hlen
      rw [intV_B] at hspI
      generalize txl 10 i.natAbs = IU at *
      generalize txl 10 1 = ID at *
      have HspI := hide hspI
      clear hspI
      unfold numB at *
      have hokC := fun W (h : Tens W) => implNumOk_c (decide (i < 0)) IU ID W (by omega) (by omega) h
      rw [hokI] at hokC
      unfold numB at hokC
      have HokC := hide hokC
      clear hokI hokC
      have HA0 := hide (At3.new wj (.bool (decide (i < 0))) (.string (B IU)) (.string (B ID)))
      have HW0 := hide ((unhide HBj).alloc (unhide HBj).size (.cells #[.bool (decide (i < 0)), .string (B IU), .string (B ID)] 26))
      have HT0 := hide ((unhide HT).below (unhide HW0))
      go_wp2
      go_region_with (first | (go_at_call 14; refine (unhide HspI _).mono ?_; rintro e wk ⟨rfl, hbk⟩; have hAk := (unhide HA0).drew.below hbk; have ck0 := hAk.c0; have ck1 := hAk.c1; have ck2 := hAk.c2; have HAk := hide hAk; have HTk := hide (Tens.below (show Tens (wj.alloc (.cells #[.bool (decide (i < 0)), .string (B IU), .string (B ID)] 26)).drew from unhide HT0) hbk); have HBk := hide hbk; clear hbk hAk) | (go_at_call 8; refine (unhide HokC _ (by exact unhide HTk)).mono ?_; rintro e wl ⟨rfl, hbl⟩; have hAl := (unhide HAk).below hbl; have cl0 := hAl.c0; have cl1 := hAl.c1; have cl2 := hAl.c2; have HBl := hide hbl; clear hbl hAl))
      all_goals
        go_wp2
        go_ret
        exact ⟨rfl, ((unhide HW0).drew.trans ((unhide HBk).mono (unhide HW0).drew.size)).trans ((unhide HBl).mono ((unhide HW0).drew.trans ((unhide HBk).mono (unhide HW0).drew.size)).size)⟩

set_option maxRecDepth 100000 in
set_option maxHeartbeats 1000000 in
theorem lawText_big (a0 a1 : Option Addr) (n0 cap0 n1 cap1 : Nat) (w : World) (h : 1048576 < n0 ∨ 1048576 < n1) :
    Calls Tryd.prog 3 #[.slice a0 n0 cap0, .slice a1 n1 cap1] w fun e w' => e = .returned (.bool true) ∧ Below w.heap.size w w' := by
  by_cases h0 : 1048576 < n0
  · have d0 : decide (1048576 < (n0 : Int)) = true := by rw [decide_eq_true_iff]; omega
    clear h
    go_enter Tryd.func3, Tryd.ntmps3
    go_wp2
    go_ret
    exact ⟨rfl, Below.refl _ _⟩
  · have h1 : 1048576 < n1 := by omega
    have d0 : decide (1048576 < (n0 : Int)) = false := by rw [decide_eq_false_iff_not]; omega
    have d1 : decide (1048576 < (n1 : Int)) = true := by rw [decide_eq_true_iff]; omega
    clear h
    go_enter Tryd.func3, Tryd.ntmps3
    go_wp2
    go_ret
    exact ⟨rfl, Below.refl _ _⟩

theorem lawText_c (a0 a1 : Option Addr) (n0 cap0 n1 cap1 : Nat) (w : World) (h0 : Bytes0 w a0 n0) (h1 : Bytes0 w a1 n1) (hc0 : n0 ≤ cap0) (hc1 : n1 ≤ cap1) (hm0 : cap0 ≤ maxLen) (hm1 : cap1 ≤ maxLen) (hT : Tens w) :
    Calls Tryd.prog 3 #[.slice a0 n0 cap0, .slice a1 n1 cap1] w fun e w' => e = .returned (.bool true) ∧ Below w.heap.size w w' := by
  by_cases h : 1048576 < n0 ∨ 1048576 < n1
  · exact lawText_big a0 a1 n0 cap0 n1 cap1 w h
  · exact lawText_main a0 a1 n0 cap0 n1 cap1 w h0 h1 hc0 hc1 hm0 hm1 hT (by omega) (by omega)
end Go.Proofs.YtijgolgfcgkbiaaDoor
namespace Go.Proofs.YtijgolgfcgkbiaaDoor
open Go.ChangeShapes Go.WideShapes Go.ChangeAt Go.RowKit Nt

theorem own : ownKnob Tryd.prog.godebug = none := by kernel_rfl
theorem laidOut : laidOutB Tryd.prog = true := by kernel_rfl
theorem gTens : Tryd.prog.globalNamed "loop.example/sistab/impl.natTens" = some 0 := by kernel_rfl
theorem gTensType : (Tryd.prog.globals[0]?).map (·.type) = some 90 := by kernel_rfl
theorem cellsWord : Tryd.prog.cellsOf 68 = 1 := by kernel_rfl
theorem cellsTens : Tryd.prog.cellsOf 90 = 9 := by kernel_rfl

theorem var_below {P : Program} {B g : Nat} {W W' : World} {n : String} {cs : Array Value} (h : Below B W W') (hg : P.globalNamed n = some g) (hgB : g < B) (hv : W.var? P n = some cs) : W'.var? P n = some cs := by
  unfold World.var? at hv ⊢
  simp only [hg, Option.bind_some] at hv ⊢
  rw [h.block g hgB]
  exact hv

/-- the table of tens, out of the row's condition -/
theorem tens_of_laid {W : World} (h : laidMet Tryd.prog Rows.fnNumTextRow.laid W) : Tens W := by
  have hT : Lib.TabIs Tryd.prog W "loop.example/sistab/impl.natTens" .u64 [1, 10, 100, 1000, 10000, 100000, 1000000, 10000000, 100000000] :=
    Lib.tabIs_of_head gTens gTensType Tryd.underlying90 Tryd.underlying68 cellsWord cellsTens h
  intro j hj
  have h0 := hT.cell gTens j (by simpa using hj)
  rw [h0]
  match j, hj with
  | 0, _ => rfl
  | 1, _ => rfl
  | 2, _ => rfl
  | 3, _ => rfl
  | 4, _ => rfl
  | 5, _ => rfl
  | 6, _ => rfl
  | 7, _ => rfl
  | 8, _ => rfl

/-- bytes that came in, nil or not -/
theorem bytes_in {H : Type} {enc : TypeId × Value → H} {W : World} {a0 : Option Addr} {len cap : Nat} {d : DataW H} {p : List MemPlace}
    (h : DataW.Trod enc Tryd.prog W 0 (fun _ => true) true 22 (.slice a0 len cap) d p) : Bytes0 W a0 len ∧ len ≤ cap ∧ cap ≤ maxLen := by
  obtain ⟨fuel, hf⟩ := h
  rcases open_ints Tryd.underlying22 Tryd.underlying5 (by kernel_rfl) hf with ⟨hcs, _⟩ | ⟨x, l, c, zs, hcs, _, hl, hm, hz, _, hcell, hwz⟩
  · simp [Value.cells] at hcs
    obtain ⟨rfl, rfl, rfl⟩ := hcs
    exact ⟨fun h => absurd h (by omega), Nat.le_refl _, by unfold maxLen; omega⟩
  · simp [Value.cells] at hcs
    obtain ⟨rfl, rfl, rfl⟩ := hcs
    refine ⟨fun h0 => ?_, hl, hm⟩
    have hz' : zs.length = cap := by simpa using hz
    obtain ⟨b, off, spot⟩ := x
    have hc := hcell 0 (by omega)
    have hspot : spot = none := by simpa [Addr.add] using World.cell?_spot hc
    subst hspot
    refine ⟨b, off, rfl, World.block_lt_of_cell? W _ hc, fun j hj => ?_⟩
    have hcj := hcell j (by omega)
    have hjz : j < zs.length := by omega
    have hw := hwz (zs.getD j 0) (by rw [List.getD_eq_getElem?_getD, List.getElem?_eq_getElem hjz]; exact List.getElem_mem hjz)
    have hw' : 0 ≤ zs.getD j 0 ∧ zs.getD j 0 ≤ 255 := by simpa [Lit.wf, IntKind.min, IntKind.max, IntKind.signed, IntKind.bits] using hw
    refine ⟨(zs.getD j 0).toNat, by omega, ?_⟩
    rw [show (((zs.getD j 0).toNat : Nat) : Int) = zs.getD j 0 from by omega]
    by_cases hj0 : j = 0
    · subst hj0; simpa [Addr.add] using hcj
    · simpa [Addr.add, hj0] using hcj

set_option maxRecDepth 100000 in
theorem text_lifted (os : Os) (started : os.Started) (H : Type) (enc : TypeId × Value → H) :
    ReturnsInHanded {} Tryd.checked os 3 .any (fun w args => (Rows.fnNumTextSpec.pre enc Tryd.prog Tryd.f3 [] false w args ∧ laidMetH Tryd.prog Rows.fnNumTextRow.laid w) ∧ sizedMet enc Tryd.prog Tryd.f3 (OpenSpec.ofChange Rows.fnNumTextSpec) false w args)
      (Rows.fnNumTextSpec.post enc Tryd.prog Tryd.f3 false true false false) := by
  refine returnsInHanded_of_change_and (C := Tryd.checked) (X := fun w _ => laidMetH Tryd.prog Rows.fnNumTextRow.laid w) (fun _ _ _ hh h => h.of_heap hh) own started (by kernel_rfl) Tryd.func3
    (ChangeSpec.witness_shaped (enc := enc) (C := Tryd.checked) (os := os) (X := fun w _ => laidMetH Tryd.prog Rows.fnNumTextRow.laid w) false (World.laidAll Tryd.prog os Rows.fnNumTextRow.laid) #[.slice none 0 0, .slice none 0 0] 8 (World.laidAll_os _ _ _)
      (World.shaped_of_ZipB (by kernel_rfl) (by kernel_rfl)) (by kernel_rfl) (by kernel_rfl) (by kernel_rfl)
      (by rw [MakeChecks.laidMetH_plain _ _ _ (by kernel_rfl)]; exact laidMet_laidAll _ (by kernel_rfl) (by kernel_rfl))) ?_
  intro W base args ds gs before hval0 hW _ _ hL _
  have hval : ∀ (j : Nat) t v, Tryd.f3.params[j]? = some t → args[j]? = some v → Value.okWide Tryd.prog W .any base t v := hval0
  have hW' := hW
  obtain ⟨p, q, hA0, hV0, rfl, _, _⟩ := hW
  have hA : DataW.TrodAll enc Tryd.prog W 0 (fun _ => true) true Tryd.f3.params.toList args.toList ds p := hA0
  have hV : DataW.TrodVars enc Tryd.prog W (fun _ => true) ["loop.example/sistab/impl.natTens"] gs q := hV0
  rw [Tryd.params3] at hA hval
  obtain ⟨v0, vs0, d0, ds0, p0, q0, hargs, rfl, rfl, h0, r0⟩ := trodAll_cons hA
  obtain ⟨v1, vs1, d1, ds1, p1, q1, rfl, rfl, rfl, h1, r1⟩ := trodAll_cons r0
  obtain ⟨rfl, rfl, rfl⟩ := trodAll_nil r1
  obtain rfl : args = #[v0, v1] := by cases args; simp_all
  obtain ⟨g, t, cs, fuel, d, p', rfl, hg, ht, hvar, hd, rfl⟩ := trodVars_one hV
  obtain rfl := Option.some.inj (gTens.symm.trans hg)
  obtain rfl := Option.some.inj (gTensType.symm.trans ht)
  obtain ⟨a0, len0, cap0, rfl⟩ := okWide_slice Tryd.underlying22 (hval 0 22 v0 rfl rfl)
  obtain ⟨a1, len1, cap1, rfl⟩ := okWide_slice Tryd.underlying22 (hval 1 22 v1 rfl rfl)
  have k0 := h0
  have k1 := h1
  have lt0 : ∀ x ∈ p0, x.block < W.heap.size := by obtain ⟨m, hm⟩ := k0; exact DataW.trod_lt m _ _ _ hm
  have lt1 : ∀ x ∈ p1, x.block < W.heap.size := by obtain ⟨m, hm⟩ := k1; exact DataW.trod_lt m _ _ _ hm
  have ltv : ∀ x ∈ p', x.block < W.heap.size := DataW.trod_lt fuel _ _ _ hd
  have b0 := bytes_in h0
  have b1 := bytes_in h1
  have hT := tens_of_laid (W := W) (by rw [MakeChecks.laidMetH_plain _ _ _ (by kernel_rfl)] at hL; exact hL)
  have hgl : 0 < W.heap.size := World.block_lt_of_cell? W _ (hT 0 (by omega))
  clear hA0 hval0 hV0
  refine (lawText_c a0 a1 len0 cap0 len1 cap1 W b0.1 b1.1 b0.2.1 b1.2.1 b0.2.2 b1.2.2 hT).mono fun e W' ⟨he, bel⟩ => ?_
  subst he
  obtain ⟨fuel', hd'⟩ := Below.trod laidOut (by kernel_rfl) (of_decide_eq_true (by kernel_rfl)) (v := .agg cs) (⟨fuel, by simpa [Value.cells] using hd⟩ : DataW.Trod enc Tryd.prog W 0 (fun _ => true) true 90 (.agg cs) d p') bel ltv
  have hv' := trodVars_mk1 (enc := enc) (spare := fun b => decide (b < W.heap.size)) hg ht (var_below bel hg hgl hvar) (by simpa [Value.cells] using hd')
  exact ⟨_, rfl, _, _, _, [], _, _, hW', trodAll_mk1 (shut_bool Tryd.underlying4 _), (trodAll_cons_mk (Below.trod laidOut (by kernel_rfl) (of_decide_eq_true (by kernel_rfl)) k0 bel lt0) (trodAll_cons_mk (Below.trod laidOut (by kernel_rfl) (of_decide_eq_true (by kernel_rfl)) k1 bel lt1) trodAll_mk0)), hv', bel.frame _, fun h => by cases h⟩

theorem text_holds : Rows.FnNumTextSaid :=
  OpenClaim.holds_of_wide 3 Tryd.f3 rfl rfl rfl rfl rfl rfl rfl ⟨rfl, rfl, rfl, rfl, rfl⟩ rfl rfl rfl rfl rfl (by kernel_rfl) Tryd.func3 (by kernel_rfl)
    (of_decide_eq_true (by kernel_rfl)) (by unfold Func.isWrapper; first | (rw [if_pos (by decide +kernel)]; kernel_rfl) | (rw [if_neg (by decide +kernel)]; exact ⟨rfl, rfl⟩))
    (fun os started H enc _ => text_lifted os started H enc)
theorem fnNumText_card : Rows.FnNumTextCardSaid :=
  Claim7.holds_tied_plain_at .later [] [.data] true Rows.fnNumTextCard.stood.harness false text_holds (fun _ h => by cases h) (by kernel_rfl) (fun _ h => by cases h) fnNumText_row_tie rfl ⟨rfl, rfl⟩ (by kernel_rfl) rfl
    (fun f fn hf hfn => by
      obtain rfl : f = 3 := Option.some.inj ((show Tryd.prog.funcNamed "loop.example/sistab/laws.FnNumText" = some 3 by kernel_rfl).symm.trans hf) |>.symm
      obtain rfl : fn = Tryd.f3 := (Option.some.inj (Tryd.func3.symm.trans hfn)).symm
      exact ⟨by kernel_rfl, fun j t ht => by
        rw [Tryd.params3] at ht
        have hm : t ∈ [22, 22] := by simpa using Array.mem_of_getElem? ht
        have hall : ([22, 22].all fun u => !Tryd.prog.wantsStandIn u) = true := by kernel_rfl
        exact (show Tryd.prog.wantsStandIn t = false by simpa using List.all_eq_true.1 hall t hm)⟩)
    (by kernel_rfl)
#print axioms fnNumText_card
end Go.Proofs.YtijgolgfcgkbiaaDoor
