/- A part of the proof, put together out of smaller texts: each piece says what it is for. -/
import Derived.Test.YtpbnmhnbkfnaeaaGreatDoorM6
import Derived.BigQuiet
import Derived.Laws.IdiomStrings
import Derived.Laws.Runes
import Derived.Lib.Strings
import Derived.Deep.RegionWith
import Derived.Deep.RegionHeld3
import Derived.Deep.Cut
import Derived.Deep.CutRange
namespace Go.Proofs.YtpbnmhnbkfnaeaaGreatDoor
open Go.RowKit Nt

theorem gr_ten (p : Nat) : gr (10 ^ p) = (List.replicate (p / 9 + 1) 0).set (p / 9) (10 ^ (p % 9)) := by
  have hpow : 10 ^ (p % 9) ≤ 100000000 := by
    have : (10 : Nat) ^ (p % 9) ≤ 10 ^ 8 := Nat.pow_le_pow_right (by omega) (by omega)
    exact this
  have hpos : 10 ^ (p % 9) ≠ 0 := by have := Nat.pow_pos (n := p % 9) (show 0 < 10 by omega); omega
  have hset : (List.replicate (p / 9 + 1) 0).set (p / 9) (10 ^ (p % 9)) = List.replicate (p / 9) 0 ++ [10 ^ (p % 9)] := by
    rw [List.replicate_succ', List.set_append_right _ _ (by simp)]
    simp
  rw [hset]
  have h1 := strip_snoc_pos (List.replicate (p / 9) 0) (10 ^ (p % 9)) hpos
  have h2 : ∀ d ∈ List.replicate (p / 9) 0 ++ [10 ^ (p % 9)], d < 1000000000 := by
    intro d hd
    rcases List.mem_append.1 hd with h | h
    · have := List.eq_of_mem_replicate h; omega
    · simp only [List.mem_singleton] at h; omega
  have h3 := gr_strip h2
  rw [h1, ofd_snoc, ofd_replicate_zero, List.length_replicate, pow_group, Nat.zero_add] at h3
  exact h3.symm

set_option maxRecDepth 100000 in
set_option maxHeartbeats 1000000 in
theorem natTen_c (p : Nat) (w : World) (hp : p ≤ 10000) (hT : Tens w) :
    Calls Tryz.prog 181 #[.int .i64 p] w fun e w' => (∃ v', e = .returned v' ∧ isNat w' v' (10 ^ p)) ∧ Below w.heap.size w w' := by
  obtain ⟨i0, hi, hz0, hz1, hz2⟩ := info_parts Tryz.infoU64
  obtain ⟨q, hq⟩ : ∃ q, p / 9 = q := ⟨_, rfl⟩
  obtain ⟨r, hr⟩ : ∃ r, p % 9 = r := ⟨_, rfl⟩
  have hG : (p : Int) / 9 + 1 = ((q + 1 : Nat) : Int) := by omega
  have e1 : (p : Int).tdiv 9 = q := by rw [Int.tdiv_eq_ediv_of_nonneg (by omega)]; omega
  have e2 : (p : Int).tmod 9 = r := by rw [Int.tmod_eq_emod_of_nonneg (by omega)]; omega
  have e3 := wi64 (q : Int) (by omega) (by omega)
  have hg := gr_ten p
  rw [hq, hr] at hg
  obtain ⟨t, ht⟩ : ∃ t, 10 ^ r = t := ⟨_, rfl⟩
  rw [ht] at hg
  have Hg := hide hg
  have HT := hide hT
  clear hg hT
  go_enter Tryz.func181, Tryz.ntmps181
  go_wp2_with (refine wpList_make_full _ rfl (.tmp 6) (.tmp 6) 178 rfl w.heap.size 173 i0 (.int .u64 0) 1 Tryz.underlying178 hi hz0 hz1 .i64 .i64 (q + 1) (q + 1) (q + 1) rfl rfl (by go_num) (by go_num) (by rw [hz2]; omega) (by unfold maxLen; omega) (Nat.le_refl _) ?_; intro w1 hown1 hg1; have hown0 : w1.ownsRow w.heap.size 173 1 (.slice (some ⟨w.heap.size, 0, none⟩) (q + 1) (q + 1)) (q + 1) (u64s (List.replicate (q + 1) 0)) := (by simpa [Value.cells, toList_madeCells_one, u64s_zero] using hown1); have hb1 : Below w.heap.size w w1 := (Below.refl _ _).grown hg1 (Nat.le_refl _) (fun _ h => by cases h); have hT2 := ((unhide HT).belowB hb1 (unhide HT).lt) r (by omega); rw [ht] at hT2; have hcx : w1.cell? ⟨w.heap.size, q, none⟩ = some (.int .u64 0) := (by have h := hown0.cellAt q (by omega); rw [u64s_get _ _ (by simp)] at h; simpa using h); have hfr := hown0.frozenAt q; have hst2 := hown0.stored q (.int .u64 (t : Int)); rw [u64s_set _ _ t _ rfl, ← unhide Hg] at hst2; have Hst2 := hide hst2; clear hst2 hown1 hg1)
  go_ret
  refine ⟨⟨_, rfl, ?_⟩, hb1.setCell (by simp) _⟩
  have h1 := (unhide Hst2).1
  unfold isNat
  have hl : (gr (10 ^ p)).length = q + 1 := by rw [unhide Hg]; simp
  rw [hl]
  exact own_base h1 (Nat.zero_le _)
end Go.Proofs.YtpbnmhnbkfnaeaaGreatDoor
namespace Go.Proofs.YtpbnmhnbkfnaeaaGreatDoor
open Go.RowKit Nt

/-- what stands above and below a text that has no sign -/
def partsM (b : Nat) (l : List UInt8) : Nat × Nat × Bool :=
  match findB 47 l with
  | some k => (natV b (l.take k), natV b (l.drop (k + 1)), okN b (l.take k) && okN b (l.drop (k + 1)))
  | none => match findB 46 l with
    | some k => if b = 10 then (natV 10 (l.take k ++ l.drop (k + 1)), 10 ^ (l.drop (k + 1)).length, okN 10 (l.take k ++ l.drop (k + 1))) else (0, 0, false)
    | none => (natV b l, 1, okN b l)

theorem findB_get {c : UInt8} : ∀ {l : List UInt8} {k : Nat}, findB c l = some k → l[k]? = some c := by
  intro l
  induction l with
  | nil => intro k h; simp [findB] at h
  | cons d r ih =>
    intro k h
    simp only [findB] at h
    split at h
    · rename_i hd; simp at h; subst h; simp [hd]
    · cases hr : findB c r with
      | none => rw [hr] at h; simp at h
      | some j => rw [hr] at h; simp at h; subst h; simpa using ih hr

theorem lowest_none (neg : Bool) (u : Nat) : lowest neg u 0 = none := by simp [lowest]

theorem body_parts (neg : Bool) {b : Nat} (hb : b ≤ 16) (l : List UInt8) : bodyM neg b l = if (partsM b l).2.2 then lowest neg (partsM b l).1 (partsM b l).2.1 else none := by
  unfold bodyM partsM
  cases h47 : findB 47 l with
  | some k =>
    show overM neg b _ _ = if (okN b _ && okN b _) = true then lowest neg (natV b _) (natV b _) else none
    unfold overM
    by_cases h : (okN b (l.take k) && okN b (l.drop (k + 1))) = true
    · rw [if_pos h, if_pos h]
      simp only [Bool.and_eq_true] at h
      unfold natV
      rw [if_pos h.1, if_pos h.2]
    · rw [if_neg h, if_neg h]
  | none =>
    cases h46 : findB 46 l with
    | some k =>
      by_cases h10 : b = 10
      · simp only [h10, if_true]
        unfold pointM natV
        by_cases h : okN 10 (l.take k ++ l.drop (k + 1)) = true
        · rw [if_pos h, if_pos h, if_pos h]
        · rw [if_neg h, if_neg h]
      · simp only [h10, if_false]
        unfold plainM
        have hlt := findB_lt h46
        have hg := findB_get h46
        rw [List.getElem?_eq_getElem hlt] at hg
        have hc : l[k] = 46 := by simpa using hg
        rw [okN_bad k hlt (by rw [hc]; show b ≤ 99; omega)]
        rfl
    | none =>
      show plainM neg b l = if okN b l = true then lowest neg (natV b l) 1 else none
      unfold plainM natV
      by_cases h : okN b l = true
      · rw [if_pos h, if_pos h, if_pos h]
      · rw [if_neg h, if_neg h]

set_option maxRecDepth 100000 in
set_option maxHeartbeats 2000000 in
theorem readParts_c (l : List UInt8) (b : Nat) (w : World) (hb2 : 2 ≤ b) (hb16 : b ≤ 16) (hs : l.length ≤ 1000) (hT : Tens w) :
    Calls Tryz.prog 157 #[.int .i64 b, .string (B l)] w fun e w' => (∃ vu vd, e = .returned (.tuple #[vu, vd, .bool (partsM b l).2.2]) ∧ isNat w' vu (partsM b l).1 ∧ isNat w' vd (partsM b l).2.1) ∧ Below w.heap.size w w' := by
  have HT := hide hT
  clear hT
  have hc := fun w => cut_c l 47 w (by omega)
  unfold cutM at hc
  unfold partsM
  cases h47 : findB 47 l with
  | some k =>
    rw [h47] at hc
    dsimp only at hc
    have Hc := hide hc
    have hl1 : (l.take k).length ≤ 10000 := by rw [List.length_take]; omega
    have hl2 : (l.drop (k + 1)).length ≤ 10000 := by rw [List.length_drop]; omega
    dsimp only
    generalize l.take k = x at *
    generalize l.drop (k + 1) = y at *
    clear hc h47
    go_enter Tryz.func157, Tryz.ntmps157
    go_wp2_with fail
    refine (unhide Hc _).mono ?_
    rintro e w1 ⟨rfl, hb1⟩
    go_wp2_with fail
    have h := read_c x b w1 hb2 hb16 hl1
    refine h.mono ?_
    clear h
    rintro e w2 ⟨⟨v2, rfl, hv2⟩, hbb2⟩
    clear Hc
    have hb2w := hb1.trans (hbb2.mono hb1.size)
    have Hv2 := hide hv2
    clear hv2
    go_wp2_with fail
    have h := read_c y b w2 hb2 hb16 hl2
    refine h.mono ?_
    clear h
    rintro e w3 ⟨⟨v3, rfl, hv3⟩, hbb3⟩
    have hb3w := hb2w.trans (hbb3.mono hb2w.size)
    have Hv3 := hide hv3
    have Hv2' := hide (isNat_below (unhide Hv2) hbb3)
    clear hv3
    cases hx : okN b x with
    | true =>
      go_wp2
      go_ret3
      exact ⟨⟨v2, v3, by rw [hx]; rfl, unhide Hv2', unhide Hv3⟩, hb3w⟩
    | false =>
      go_wp2
      go_ret3
      exact ⟨⟨v2, v3, by rw [hx]; rfl, unhide Hv2', unhide Hv3⟩, hb3w⟩
  | none =>
    rw [h47] at hc
    have Hc := hide hc
    have hc2 := fun w => cut_c l 46 w (by omega)
    unfold cutM at hc2
    cases h46 : findB 46 l with
    | some k =>
      rw [h46] at hc2
      dsimp only at hc hc2
      have Hc2 := hide hc2
      by_cases h10 : b = 10
      · subst h10
        have hl1 : (l.take k ++ l.drop (k + 1)).length ≤ 10000 := by rw [List.length_append, List.length_take, List.length_drop]; omega
        have hly : (l.drop (k + 1)).length ≤ 1000 := by rw [List.length_drop]; omega
        have hlx : (l.take k).length ≤ 1000 := by rw [List.length_take]; omega
        dsimp only
        rw [if_pos rfl]
        generalize l.take k = x at *
        generalize l.drop (k + 1) = y at *
        have hap := B_append x y
        have hszx : ¬ 9223372036854775807 < (B x).size + (B y).size := by rw [B_size, B_size]; omega
        have hszy : ((B y).size : Int) = (y.length : Int) := by rw [B_size]
        clear hc hc2 h47 h46
        go_enter Tryz.func157, Tryz.ntmps157
        go_wp2_with fail
        refine (unhide Hc _).mono ?_
        rintro e w1 ⟨rfl, hb1⟩
        go_wp2_with fail
        refine (unhide Hc2 _).mono ?_
        rintro e w2 ⟨rfl, hbb2⟩
        have hb2w := hb1.trans (hbb2.mono hb1.size)
        clear Hc Hc2 hbb2
        go_wp2_with fail
        have h := read_c (x ++ y) 10 w2 (by omega) (by omega) hl1
        refine h.mono ?_
        clear h
        rintro e w3 ⟨⟨v3, rfl, hv3⟩, hbb3⟩
        have hb3w := hb2w.trans (hbb3.mono hb2w.size)
        have Hv3 := hide hv3
        clear hv3
        go_wp2_with fail
        have h := natTen_c y.length w3 (by omega) ((unhide HT).below hb3w)
        refine h.mono ?_
        clear h
        rintro e w4 ⟨⟨v4, rfl, hv4⟩, hbb4⟩
        have hb4w := hb3w.trans (hbb4.mono hb3w.size)
        have Hv4 := hide hv4
        have Hv3' := hide (isNat_below (unhide Hv3) hbb4)
        clear hv4
        go_wp2
        go_ret3
        exact ⟨⟨v3, v4, rfl, unhide Hv3', unhide Hv4⟩, hb4w⟩
      · have hnb : ((b : Int) == 10) = false := by rw [beq_eq_false_iff_ne]; omega
        dsimp only
        rw [if_neg h10]
        generalize l.take k = x at *
        generalize l.drop (k + 1) = y at *
        clear hc hc2 h47 h46
        go_enter Tryz.func157, Tryz.ntmps157
        go_wp2_with fail
        refine (unhide Hc _).mono ?_
        rintro e w1 ⟨rfl, hb1⟩
        go_wp2_with fail
        refine (unhide Hc2 _).mono ?_
        rintro e w2 ⟨rfl, hbb2⟩
        have hb2w := hb1.trans (hbb2.mono hb1.size)
        clear Hc Hc2 hbb2
        go_wp2
        go_ret3
        refine ⟨⟨.slice (some ⟨w2.heap.size, 0, none⟩) 0 0, .slice (some ⟨w2.heap.size + 1, 0, none⟩) 0 0, rfl, ?_, ?_⟩, ?_⟩
        · exact isNat_below (nat_made w2) ((Below.refl _ _).alloc (Nat.le_refl _) _)
        · have h := nat_made (w2.alloc (.cells #[] 173))
          simpa using h
        · exact (hb2w.alloc hb2w.size _).alloc (by have := hb2w.size; simp; omega) _
    | none =>
      rw [h46] at hc2
      dsimp only at hc hc2
      have Hc2 := hide hc2
      have hap : B l ++ B [] = B l := by rw [B_append, List.append_nil]
      have hszx : ¬ 9223372036854775807 < (B l).size + (B []).size := by rw [B_size, B_size]; simp; omega
      have hszy : ((B []).size : Int) = ((0 : Nat) : Int) := rfl
      clear hc hc2 h47 h46
      go_enter Tryz.func157, Tryz.ntmps157
      go_wp2_with fail
      refine (unhide Hc _).mono ?_
      rintro e w1 ⟨rfl, hb1⟩
      go_wp2_with fail
      refine (unhide Hc2 _).mono ?_
      rintro e w2 ⟨rfl, hbb2⟩
      have hb2w := hb1.trans (hbb2.mono hb1.size)
      clear Hc Hc2 hbb2
      go_wp2_with fail
      have h := read_c l b w2 (by omega) (by omega) (by omega)
      refine h.mono ?_
      clear h
      rintro e w3 ⟨⟨v3, rfl, hv3⟩, hbb3⟩
      have hb3w := hb2w.trans (hbb3.mono hb2w.size)
      have Hv3 := hide hv3
      clear hv3
      go_wp2_with fail
      have h := natTen_c 0 w3 (by omega) ((unhide HT).below hb3w)
      refine h.mono ?_
      clear h
      rintro e w4 ⟨⟨v4, rfl, hv4⟩, hbb4⟩
      have hb4w := hb3w.trans (hbb4.mono hb3w.size)
      have Hv4 := hide hv4
      have Hv3' := hide (isNat_below (unhide Hv3) hbb4)
      clear hv4
      go_wp2
      go_ret3
      exact ⟨⟨v3, v4, rfl, unhide Hv3', unhide Hv4⟩, hb4w⟩
end Go.Proofs.YtpbnmhnbkfnaeaaGreatDoor
namespace Go.Proofs.YtpbnmhnbkfnaeaaGreatDoor
open Go.RowKit Nt

theorem natV_gr {b : Nat} (hb : b ≤ 16) (l : List UInt8) : (gr (natV b l)).length ≤ 2 * l.length + 1 := by
  unfold natV
  by_cases h : okN b l = true
  · rw [if_pos h]; exact dec_gr (rdN_size hb h)
  · rw [if_neg h, gr_zero]; simp

theorem parts_gr {b : Nat} (hb : b ≤ 16) (l : List UInt8) (hl : l.length ≤ 240) : (gr (partsM b l).1).length ≤ 1000 ∧ (gr (partsM b l).2.1).length ≤ 1000 := by
  unfold partsM
  cases h47 : findB 47 l with
  | some k =>
    dsimp only
    refine ⟨Nat.le_trans (natV_gr hb _) ?_, Nat.le_trans (natV_gr hb _) ?_⟩
    · rw [List.length_take]; omega
    · rw [List.length_drop]; omega
  | none =>
    cases h46 : findB 46 l with
    | some k =>
      dsimp only
      by_cases h10 : b = 10
      · rw [if_pos h10]
        refine ⟨Nat.le_trans (natV_gr (by omega) _) ?_, ?_⟩
        · rw [List.length_append, List.length_take, List.length_drop]; omega
        · rw [gr_ten, List.length_set, List.length_replicate, List.length_drop]; omega
      · rw [if_neg h10, gr_zero]; simp
    | none =>
      dsimp only
      refine ⟨Nat.le_trans (natV_gr hb _) (by omega), ?_⟩
      have := gr_ten 0
      rw [Nat.pow_zero] at this
      rw [this, List.length_set, List.length_replicate]; omega


set_option maxRecDepth 100000 in
set_option maxHeartbeats 2000000 in
theorem implNumParse_bare (l : List UInt8) (b : Nat) (w : World) (hb4 : b = 2 ∨ b = 8 ∨ b = 10 ∨ b = 16) (hl : l.length ≤ 240) (h45 : (l.head? == some 45) = false) (h43 : (l.head? == some 43) = false) (hT : Tens w) :
    Calls Tryz.prog 128 #[.string (B l), .int .i64 b] w fun e w' => e = .returned (numAns (parseM l b)) ∧ Below w.heap.size w w' := by
  have hr : isRadix (b : Int) = true := by rcases hb4 with rfl | rfl | rfl | rfl <;> rfl
  have Hm : Hid (parseM l (b : Int) = bodyM false b l) := by
    show _ = _
    rw [parse_yes l b hb4 hl]
    cases l with
    | nil => rfl
    | cons c t =>
      show (if c = 45 then bodyM true b t else if c = 43 then bodyM false b t else bodyM false b (c :: t)) = _
      rw [if_neg (by simpa using h45), if_neg (by simpa using h43)]
  have hsz : ¬ (240 : Int) < ((B l).size : Int) := by rw [B_size]; omega
  have h1 := fun w => known_c (b : Int) w
  have h2 := fun w => prefix_c l 45 w
  have h3 := fun w => prefix_c l 43 w
  rw [hr] at h1
  rw [h45] at h2
  rw [h43] at h3
  have H1 := hide h1
  have H2 := hide h2
  have H3 := hide h3
  have HT := hide hT
  clear h1 h2 h3 hT hr h45 h43
  go_enter Tryz.func128, Tryz.ntmps128
  go_wp2_with fail
  refine (unhide H1 _).mono ?_
  rintro e w1 ⟨rfl, rfl⟩
  go_wp2_with fail
  refine (unhide H2 _).mono ?_
  rintro e w1 ⟨rfl, rfl⟩
  go_wp2_with fail
  refine (unhide H3 _).mono ?_
  rintro e w1 ⟨rfl, rfl⟩
  clear H1 H2 H3
  -- false: the sign as a Bool; l: the text behind it; wants hb4, htl : its length ≤ 240, Hm : Hid (parseM .. = bodyM false b l), HT
  have Hpb : Hid (parseM l (b : Int) = if (partsM b l).2.2 then lowest false (partsM b l).1 (partsM b l).2.1 else none) := hide ((unhide Hm).trans (body_parts false (by omega) l))
  have hgs := parts_gr (b := b) (by omega) l (by omega)
  clear Hm
  go_wp2_with fail
  have h := readParts_c l b (w.alloc (.cells #[.bool false, .string ⟨#[]⟩, .string ⟨#[]⟩] 79)) (by omega) (by omega) (by omega) ((unhide HT).below ((Below.refl _ _).alloc (Nat.le_refl _) _))
  refine h.mono ?_
  clear h
  rintro e w2 ⟨⟨vu, vd, rfl, hvu, hvd⟩, hb2⟩
  have hb0 := below_alloc_size hb2
  have hz0 : w.heap.size + 1 ≤ w2.heap.size := by have := hb2.size; simpa using this
  have HT2 := hide ((unhide HT).below (below_new hb0))
  generalize (partsM b l).1 = pu at *
  generalize (partsM b l).2.1 = pd at *
  generalize (partsM b l).2.2 = po at *
  obtain ⟨pp, cp, hvs⟩ := own_slice hvd
  subst hvs
  have Hvu := hide hvu
  have Hvd := hide hvd
  clear hvu hvd hb2
  cases po with
  | false =>
    have c0 := newcell hb0 0
    have c1 := newcell hb0 1
    have c2 := newcell hb0 2
    have f0 := newfree hb0 0
    have f1 := newfree hb0 1
    have f2 := newfree hb0 2
    have hbX := below_new hb0
    simp at c0 c1 c2
    clear hb0
    go_wp2
    refine bodyPost_ret (v := numAns none) (by simp [results, Tryz.results128, go_sem, numAns, numO, noNum, numV, c0, c1, c2]) rfl ⟨by rw [unhide Hpb]; rfl, ?_⟩
    exact below_three hbX _ (Nat.le_refl _) _ _ _
  | true =>
    by_cases hd : pd = 0
    · have hl0 : (((gr pd).length : Int) == 0) = true := by rw [hd, gr_zero]; rfl
      have Hf : Hid (parseM l (b : Int) = none) := by show _ = _; rw [unhide Hpb, hd, if_pos rfl, lowest_none]
      clear hd
      have c0 := newcell hb0 0
      have c1 := newcell hb0 1
      have c2 := newcell hb0 2
      have f0 := newfree hb0 0
      have f1 := newfree hb0 1
      have f2 := newfree hb0 2
      have hbX := below_new hb0
      simp at c0 c1 c2
      clear hb0
      go_wp2
      refine bodyPost_ret (v := numAns none) (by simp [results, Tryz.results128, go_sem, numAns, numO, noNum, numV, c0, c1, c2]) rfl ⟨by rw [unhide Hf], ?_⟩
      exact below_three hbX _ (Nat.le_refl _) _ _ _
    · have hl0 : (((gr pd).length : Int) == 0) = false := by rw [beq_eq_false_iff_ne]; have := mt gr_len0.1 hd; omega
      have Hov2 : Hid (parseM l (b : Int) = lowest false pu pd) := by show _ = _; rw [unhide Hpb, if_pos rfl]
      have hdp : 0 < pd := by omega
      clear hd
      go_wp2_with fail
      have h := numLowest_c false pu pd vu _ w2 (unhide Hvu) (unhide Hvd) hdp (by omega) (by omega) (unhide HT2)
      refine h.mono ?_
      clear h
      rintro e w3 ⟨rfl, hb3⟩
      have hn3 := below_next hb0 hz0 hb3
      have c0 := newcell hn3.1 0
      have c1 := newcell hn3.1 1
      have c2 := newcell hn3.1 2
      have f0 := newfree hn3.1 0
      have f1 := newfree hn3.1 1
      have f2 := newfree hn3.1 2
      have hbX := below_new hn3.1
      simp at c0 c1 c2
      clear hb3 hb0 hn3 hl0 hdp
      -- behind l2Make's contract: 128 the function; the struct is stored and told. Wants: Hov2 : Hid (M = lowest ..), c0 c1 c2 f0 f1 f2 hbX, the answer's option lowest false pu pd
      generalize lowest false pu pd = o at *
      unfold numAns
      obtain ⟨n3, u3, d3, ho⟩ : ∃ n3 u3 d3, numO o = numV n3 u3 d3 := by
        cases o with
        | none => exact ⟨_, _, _, rfl⟩
        | some p => exact ⟨_, _, _, rfl⟩
      have Ho := hide ho
      rw [ho]
      unfold numV
      clear ho
      go_wp2
      refine bodyPost_ret (v := numAns o) (by simp [results, Tryz.results128, go_sem, numAns, unhide Ho, numV, c0, c1, c2]) rfl ⟨by rw [unhide Hov2], ?_⟩
      exact below_three hbX _ (Nat.le_refl _) _ _ _
set_option maxRecDepth 100000 in
set_option maxHeartbeats 2000000 in
theorem implNumParse_minus (t : List UInt8) (b : Nat) (w : World) (hb4 : b = 2 ∨ b = 8 ∨ b = 10 ∨ b = 16) (hlen : (45 :: t).length ≤ 240) (hT : Tens w) :
    Calls Tryz.prog 128 #[.string (B (45 :: t)), .int .i64 b] w fun e w' => e = .returned (numAns (parseM (45 :: t) b)) ∧ Below w.heap.size w w' := by
  have hr : isRadix (b : Int) = true := by rcases hb4 with rfl | rfl | rfl | rfl <;> rfl
  obtain ⟨l, hl⟩ : ∃ l : List UInt8, l = 45 :: t := ⟨_, rfl⟩
  rw [← hl]
  rw [← hl] at hlen
  have Hm : Hid (parseM l (b : Int) = bodyM true b t) := by
    show _ = _
    rw [parse_yes l b hb4 hlen, hl]
    rfl
  have htl : t.length ≤ 240 := by rw [hl] at hlen; simp at hlen; omega
  have hsz : ¬ (240 : Int) < ((B l).size : Int) := by rw [B_size]; omega
  have hcut : (B l).extract 1 (B l).size = B t := by rw [B_extract, B_size, List.take_length, hl]; rfl
  have hszp : (1 : Int) ≤ ((B l).size : Int) := by rw [B_size, hl]; simp; omega
  have h1 := fun w => known_c (b : Int) w
  have h2 := fun w => prefix_c l 45 w
  rw [hr] at h1
  rw [show (l.head? == some 45) = true from by rw [hl]; rfl] at h2
  have H1 := hide h1
  have H2 := hide h2
  have HT := hide hT
  clear h1 h2  hT hr hl
  go_enter Tryz.func128, Tryz.ntmps128
  go_wp2_with fail
  refine (unhide H1 _).mono ?_
  rintro e w1 ⟨rfl, rfl⟩
  go_wp2_with fail
  refine (unhide H2 _).mono ?_
  rintro e w1 ⟨rfl, rfl⟩
  clear H1 H2 
  -- true: the sign as a Bool; t: the text behind it; wants hb4, htl : its length ≤ 240, Hm : Hid (parseM .. = bodyM true b t), HT
  have Hpb : Hid (parseM l (b : Int) = if (partsM b t).2.2 then lowest true (partsM b t).1 (partsM b t).2.1 else none) := hide ((unhide Hm).trans (body_parts true (by omega) t))
  have hgs := parts_gr (b := b) (by omega) t (by omega)
  clear Hm
  go_wp2_with fail
  have h := readParts_c t b (w.alloc (.cells #[.bool false, .string ⟨#[]⟩, .string ⟨#[]⟩] 79)) (by omega) (by omega) (by omega) ((unhide HT).below ((Below.refl _ _).alloc (Nat.le_refl _) _))
  refine h.mono ?_
  clear h
  rintro e w2 ⟨⟨vu, vd, rfl, hvu, hvd⟩, hb2⟩
  have hb0 := below_alloc_size hb2
  have hz0 : w.heap.size + 1 ≤ w2.heap.size := by have := hb2.size; simpa using this
  have HT2 := hide ((unhide HT).below (below_new hb0))
  generalize (partsM b t).1 = pu at *
  generalize (partsM b t).2.1 = pd at *
  generalize (partsM b t).2.2 = po at *
  obtain ⟨pp, cp, hvs⟩ := own_slice hvd
  subst hvs
  have Hvu := hide hvu
  have Hvd := hide hvd
  clear hvu hvd hb2
  cases po with
  | false =>
    have c0 := newcell hb0 0
    have c1 := newcell hb0 1
    have c2 := newcell hb0 2
    have f0 := newfree hb0 0
    have f1 := newfree hb0 1
    have f2 := newfree hb0 2
    have hbX := below_new hb0
    simp at c0 c1 c2
    clear hb0
    go_wp2
    refine bodyPost_ret (v := numAns none) (by simp [results, Tryz.results128, go_sem, numAns, numO, noNum, numV, c0, c1, c2]) rfl ⟨by rw [unhide Hpb]; rfl, ?_⟩
    exact below_three hbX _ (Nat.le_refl _) _ _ _
  | true =>
    by_cases hd : pd = 0
    · have hl0 : (((gr pd).length : Int) == 0) = true := by rw [hd, gr_zero]; rfl
      have Hf : Hid (parseM l (b : Int) = none) := by show _ = _; rw [unhide Hpb, hd, if_pos rfl, lowest_none]
      clear hd
      have c0 := newcell hb0 0
      have c1 := newcell hb0 1
      have c2 := newcell hb0 2
      have f0 := newfree hb0 0
      have f1 := newfree hb0 1
      have f2 := newfree hb0 2
      have hbX := below_new hb0
      simp at c0 c1 c2
      clear hb0
      go_wp2
      refine bodyPost_ret (v := numAns none) (by simp [results, Tryz.results128, go_sem, numAns, numO, noNum, numV, c0, c1, c2]) rfl ⟨by rw [unhide Hf], ?_⟩
      exact below_three hbX _ (Nat.le_refl _) _ _ _
    · have hl0 : (((gr pd).length : Int) == 0) = false := by rw [beq_eq_false_iff_ne]; have := mt gr_len0.1 hd; omega
      have Hov2 : Hid (parseM l (b : Int) = lowest true pu pd) := by show _ = _; rw [unhide Hpb, if_pos rfl]
      have hdp : 0 < pd := by omega
      clear hd
      go_wp2_with fail
      have h := numLowest_c true pu pd vu _ w2 (unhide Hvu) (unhide Hvd) hdp (by omega) (by omega) (unhide HT2)
      refine h.mono ?_
      clear h
      rintro e w3 ⟨rfl, hb3⟩
      have hn3 := below_next hb0 hz0 hb3
      have c0 := newcell hn3.1 0
      have c1 := newcell hn3.1 1
      have c2 := newcell hn3.1 2
      have f0 := newfree hn3.1 0
      have f1 := newfree hn3.1 1
      have f2 := newfree hn3.1 2
      have hbX := below_new hn3.1
      simp at c0 c1 c2
      clear hb3 hb0 hn3 hl0 hdp
      -- behind l2Make's contract: 128 the function; the struct is stored and told. Wants: Hov2 : Hid (M = lowest ..), c0 c1 c2 f0 f1 f2 hbX, the answer's option lowest true pu pd
      generalize lowest true pu pd = o at *
      unfold numAns
      obtain ⟨n3, u3, d3, ho⟩ : ∃ n3 u3 d3, numO o = numV n3 u3 d3 := by
        cases o with
        | none => exact ⟨_, _, _, rfl⟩
        | some p => exact ⟨_, _, _, rfl⟩
      have Ho := hide ho
      rw [ho]
      unfold numV
      clear ho
      go_wp2
      refine bodyPost_ret (v := numAns o) (by simp [results, Tryz.results128, go_sem, numAns, unhide Ho, numV, c0, c1, c2]) rfl ⟨by rw [unhide Hov2], ?_⟩
      exact below_three hbX _ (Nat.le_refl _) _ _ _

set_option maxRecDepth 100000 in
set_option maxHeartbeats 2000000 in
theorem implNumParse_plus (t : List UInt8) (b : Nat) (w : World) (hb4 : b = 2 ∨ b = 8 ∨ b = 10 ∨ b = 16) (hlen : (43 :: t).length ≤ 240) (hT : Tens w) :
    Calls Tryz.prog 128 #[.string (B (43 :: t)), .int .i64 b] w fun e w' => e = .returned (numAns (parseM (43 :: t) b)) ∧ Below w.heap.size w w' := by
  have hr : isRadix (b : Int) = true := by rcases hb4 with rfl | rfl | rfl | rfl <;> rfl
  obtain ⟨l, hl⟩ : ∃ l : List UInt8, l = 43 :: t := ⟨_, rfl⟩
  rw [← hl]
  rw [← hl] at hlen
  have Hm : Hid (parseM l (b : Int) = bodyM false b t) := by
    show _ = _
    rw [parse_yes l b hb4 hlen, hl]
    rfl
  have htl : t.length ≤ 240 := by rw [hl] at hlen; simp at hlen; omega
  have hsz : ¬ (240 : Int) < ((B l).size : Int) := by rw [B_size]; omega
  have hcut : (B l).extract 1 (B l).size = B t := by rw [B_extract, B_size, List.take_length, hl]; rfl
  have hszp : (1 : Int) ≤ ((B l).size : Int) := by rw [B_size, hl]; simp; omega
  have h1 := fun w => known_c (b : Int) w
  have h2 := fun w => prefix_c l 45 w
  have h3 := fun w => prefix_c l 43 w
  rw [hr] at h1
  rw [show (l.head? == some 45) = false from by rw [hl]; rfl] at h2
  rw [show (l.head? == some 43) = true from by rw [hl]; rfl] at h3
  have H1 := hide h1
  have H2 := hide h2
  have H3 := hide h3
  have HT := hide hT
  clear h1 h2 h3 hT hr hl
  go_enter Tryz.func128, Tryz.ntmps128
  go_wp2_with fail
  refine (unhide H1 _).mono ?_
  rintro e w1 ⟨rfl, rfl⟩
  go_wp2_with fail
  refine (unhide H2 _).mono ?_
  rintro e w1 ⟨rfl, rfl⟩
  go_wp2_with fail
  refine (unhide H3 _).mono ?_
  rintro e w1 ⟨rfl, rfl⟩
  clear H1 H2 H3
  -- false: the sign as a Bool; t: the text behind it; wants hb4, htl : its length ≤ 240, Hm : Hid (parseM .. = bodyM false b t), HT
  have Hpb : Hid (parseM l (b : Int) = if (partsM b t).2.2 then lowest false (partsM b t).1 (partsM b t).2.1 else none) := hide ((unhide Hm).trans (body_parts false (by omega) t))
  have hgs := parts_gr (b := b) (by omega) t (by omega)
  clear Hm
  go_wp2_with fail
  have h := readParts_c t b (w.alloc (.cells #[.bool false, .string ⟨#[]⟩, .string ⟨#[]⟩] 79)) (by omega) (by omega) (by omega) ((unhide HT).below ((Below.refl _ _).alloc (Nat.le_refl _) _))
  refine h.mono ?_
  clear h
  rintro e w2 ⟨⟨vu, vd, rfl, hvu, hvd⟩, hb2⟩
  have hb0 := below_alloc_size hb2
  have hz0 : w.heap.size + 1 ≤ w2.heap.size := by have := hb2.size; simpa using this
  have HT2 := hide ((unhide HT).below (below_new hb0))
  generalize (partsM b t).1 = pu at *
  generalize (partsM b t).2.1 = pd at *
  generalize (partsM b t).2.2 = po at *
  obtain ⟨pp, cp, hvs⟩ := own_slice hvd
  subst hvs
  have Hvu := hide hvu
  have Hvd := hide hvd
  clear hvu hvd hb2
  cases po with
  | false =>
    have c0 := newcell hb0 0
    have c1 := newcell hb0 1
    have c2 := newcell hb0 2
    have f0 := newfree hb0 0
    have f1 := newfree hb0 1
    have f2 := newfree hb0 2
    have hbX := below_new hb0
    simp at c0 c1 c2
    clear hb0
    go_wp2
    refine bodyPost_ret (v := numAns none) (by simp [results, Tryz.results128, go_sem, numAns, numO, noNum, numV, c0, c1, c2]) rfl ⟨by rw [unhide Hpb]; rfl, ?_⟩
    exact below_three hbX _ (Nat.le_refl _) _ _ _
  | true =>
    by_cases hd : pd = 0
    · have hl0 : (((gr pd).length : Int) == 0) = true := by rw [hd, gr_zero]; rfl
      have Hf : Hid (parseM l (b : Int) = none) := by show _ = _; rw [unhide Hpb, hd, if_pos rfl, lowest_none]
      clear hd
      have c0 := newcell hb0 0
      have c1 := newcell hb0 1
      have c2 := newcell hb0 2
      have f0 := newfree hb0 0
      have f1 := newfree hb0 1
      have f2 := newfree hb0 2
      have hbX := below_new hb0
      simp at c0 c1 c2
      clear hb0
      go_wp2
      refine bodyPost_ret (v := numAns none) (by simp [results, Tryz.results128, go_sem, numAns, numO, noNum, numV, c0, c1, c2]) rfl ⟨by rw [unhide Hf], ?_⟩
      exact below_three hbX _ (Nat.le_refl _) _ _ _
    · have hl0 : (((gr pd).length : Int) == 0) = false := by rw [beq_eq_false_iff_ne]; have := mt gr_len0.1 hd; omega
      have Hov2 : Hid (parseM l (b : Int) = lowest false pu pd) := by show _ = _; rw [unhide Hpb, if_pos rfl]
      have hdp : 0 < pd := by omega
      clear hd
      go_wp2_with fail
      have h := numLowest_c false pu pd vu _ w2 (unhide Hvu) (unhide Hvd) hdp (by omega) (by omega) (unhide HT2)
      refine h.mono ?_
      clear h
      rintro e w3 ⟨rfl, hb3⟩
      have hn3 := below_next hb0 hz0 hb3
      have c0 := newcell hn3.1 0
      have c1 := newcell hn3.1 1
      have c2 := newcell hn3.1 2
      have f0 := newfree hn3.1 0
      have f1 := newfree hn3.1 1
      have f2 := newfree hn3.1 2
      have hbX := below_new hn3.1
      simp at c0 c1 c2
      clear hb3 hb0 hn3 hl0 hdp
      -- behind l2Make's contract: 128 the function; the struct is stored and told. Wants: Hov2 : Hid (M = lowest ..), c0 c1 c2 f0 f1 f2 hbX, the answer's option lowest false pu pd
      generalize lowest false pu pd = o at *
      unfold numAns
      obtain ⟨n3, u3, d3, ho⟩ : ∃ n3 u3 d3, numO o = numV n3 u3 d3 := by
        cases o with
        | none => exact ⟨_, _, _, rfl⟩
        | some p => exact ⟨_, _, _, rfl⟩
      have Ho := hide ho
      rw [ho]
      unfold numV
      clear ho
      go_wp2
      refine bodyPost_ret (v := numAns o) (by simp [results, Tryz.results128, go_sem, numAns, unhide Ho, numV, c0, c1, c2]) rfl ⟨by rw [unhide Hov2], ?_⟩
      exact below_three hbX _ (Nat.le_refl _) _ _ _

set_option maxRecDepth 100000 in
set_option maxHeartbeats 1000000 in
theorem implNumParse_no (l : List UInt8) (r : Int) (w : World) (hs : l.length ≤ 1000000000) (h : isRadix r = false ∨ 240 < l.length) :
    Calls Tryz.prog 128 #[.string (B l), .int .i64 r] w fun e w' => e = .returned (numAns (parseM l r)) ∧ Below w.heap.size w w' := by
  rw [parse_bad l r h]
  have hsz : (B l).size ≤ 1000000000 := by rw [B_size]; exact hs
  by_cases hr : isRadix r = false
  · clear h
    go_enter Tryz.func128, Tryz.ntmps128
    go_wp2_with fail
    refine (known_c r _).mono ?_
    rintro e w1 ⟨rfl, rfl⟩
    rw [hr]
    go_wp2
    refine bodyPost_ret (v := numAns none) (by simp [results, Tryz.results128, go_sem, numAns, numO, noNum, numV]) rfl ⟨rfl, ?_⟩
    exact (Below.refl _ _).alloc (Nat.le_refl _) _
  · have hr' : isRadix r = true := by simpa using hr
    have hl : (240 : Int) < ((B l).size : Int) := by rw [B_size]; rcases h with h | h; exact absurd h hr; omega
    clear h hr
    go_enter Tryz.func128, Tryz.ntmps128
    go_wp2_with fail
    refine (known_c r _).mono ?_
    rintro e w1 ⟨rfl, rfl⟩
    rw [hr']
    go_wp2
    refine bodyPost_ret (v := numAns none) (by simp [results, Tryz.results128, go_sem, numAns, numO, noNum, numV]) rfl ⟨rfl, ?_⟩
    exact (Below.refl _ _).alloc (Nat.le_refl _) _

theorem implNumParse_c (l : List UInt8) (r : Int) (w : World) (hs : l.length ≤ 1000000000) (hT : Tens w) :
    Calls Tryz.prog 128 #[.string (B l), .int .i64 r] w fun e w' => e = .returned (numAns (parseM l r)) ∧ Below w.heap.size w w' := by
  by_cases h : isRadix r = false ∨ 240 < l.length
  · exact implNumParse_no l r w hs h
  · have hr : isRadix r = true := by
      cases hh : isRadix r with
      | true => rfl
      | false => exact absurd (.inl hh) h
    have hl : l.length ≤ 240 := by
      apply Decidable.byContradiction
      intro hh
      exact h (.inr (by omega))
    obtain ⟨b, rfl, hb4⟩ := isRadix_nat hr
    cases l with
    | nil => exact implNumParse_bare [] b w hb4 hl rfl rfl hT
    | cons c t =>
      by_cases h45 : c = 45
      · subst h45; exact implNumParse_minus t b w hb4 hl hT
      · by_cases h43 : c = 43
        · subst h43; exact implNumParse_plus t b w hb4 hl hT
        · exact implNumParse_bare (c :: t) b w hb4 hl (by simpa using h45) (by simpa using h43) hT
end Go.Proofs.YtpbnmhnbkfnaeaaGreatDoor
namespace Go.Proofs.YtpbnmhnbkfnaeaaGreatDoor
open Go.RowKit Nt

theorem hex_sg (d : Nat) (h : d < 16) : ((⟨#[48, 49, 50, 51, 52, 53, 54, 55, 56, 57, 97, 98, 99, 100, 101, 102]⟩ : ByteArray)[d]'h).toNat = (sg d).toNat := by
  rcases d with _ | _ | _ | _ | _ | _ | _ | _ | _ | _ | _ | _ | _ | _ | _ | _ | d
  all_goals first | rfl | omega

set_option maxRecDepth 100000 in
set_option maxHeartbeats 2000000 in
theorem write_c (x b : Nat) (v : Value) (w : World) (hx : isNat w v x) (hs : (gr x).length ≤ 100000) (hb2 : 2 ≤ b) (hb16 : b ≤ 16) (hsd : (dg b x).length ≤ 1000000) :
    Calls Tryz.prog 251 #[.int .i64 b, v] w fun e w' => e = .returned (.string (txt b x)) ∧ Below w.heap.size w w' := by
  obtain ⟨i0, hi, hz0, hz1, hz2⟩ := info_parts Tryz.infoByte
  obtain ⟨p, cap, hv⟩ := own_slice hx
  subst hv
  by_cases hz : x = 0
  · subst hz
    have h0 : txt b 0 = ⟨#[48]⟩ := by unfold txt; rw [txl_zero]; rfl
    rw [gr_zero, h0]
    clear hx hs
    go_enter Tryz.func251, Tryz.ntmps251
    go_wp2
    go_ret
    exact ⟨rfl, Below.refl _ _⟩
  · have hn0 : 0 < (gr x).length := by have := mt gr_len0.1 hz; omega
    have hnI : (((gr x).length : Int) == 0) = false := by rw [beq_eq_false_iff_ne]; omega
    have e1 := wu64 (b : Int) (by omega) (by omega)
    have Hx := hide hx
    have Hz := hide hz
    clear hx hz
    go_enter Tryz.func251, Tryz.ntmps251
    go_wp2
    go_loopw [1, 5, 6, 7] (fun n out _ _ wr => ∃ (k : Nat) (ls : List Nat), k ≤ x ∧ isNat wr n k ∧ wr.ownsRow w.heap.size 5 1 out ls.length ((ls.map sg).map u8v) ∧ Below w.heap.size w wr ∧ Hid (dg b x = ls ++ dg b k))
      (fun _ out _ _ _ => (dg b x).length - lenV out)
    case atStart =>
      exact ⟨x, [], Nat.le_refl _, own_below (unhide Hx) ((Below.refl _ _).alloc (Nat.le_refl _) _), World.ownsRow_made w #[] 0 (Nat.le_refl _) (by decide) (by simp), (Below.refl _ _).alloc (Nat.le_refl _) _, hide (by simp)⟩
    case round =>
      obtain ⟨k, ls, hk, hnat, hown, hb, hdg⟩ := hrel
      obtain ⟨pk, ck, hvk⟩ := own_slice hnat
      subst hvk
      obtain ⟨po, co, hvo⟩ := own_slice hown
      subst hvo
      by_cases hk0 : k = 0
      · have hl0 : ¬ (0 : Int) < ((gr k).length : Int) := by rw [hk0, gr_zero]; simp
        have hfin : ls = dg b x := by rw [unhide hdg, hk0, dg_zero, List.append_nil]
        have hls : 0 < ls.length := by
          rcases Nat.eq_zero_or_pos ls.length with h | h
          · have h' : ls = [] := List.eq_nil_of_length_eq_zero h
            rw [h'] at hfin
            exact absurd ((dg_eq_nil hb2).1 hfin.symm) (unhide Hz)
          · exact h
        have hsl : ls.length ≤ 1000000 := by rw [hfin]; exact hsd
        obtain ⟨g, cap', hvv, hcc, hbg, hgw⟩ := own_some hown hls
        simp only [Value.slice.injEq, true_and] at hvv
        obtain ⟨rfl, rfl⟩ := hvv
        have Hfin := hide hfin
        have hrv := reverse_c (ls.map sg) g co w.heap.size wr (by rw [List.length_map]; omega) (by rw [List.length_map]; exact hown)
        rw [List.length_map] at hrv
        have Hrv := hide hrv
        clear hrv hown hfin
        go_wp2_with fail
        refine (unhide Hrv).mono ?_
        rintro e w3 ⟨rfl, hown3, hg3⟩
        have hbX := hb.grown hg3 hb.size (fun k hk => by cases hk; omega)
        have hconv := run_conv_bytes (dst := 9) Tryz.underlying22 Tryz.underlying5 Tryz.underlying9 hown3
        have hfin2 : B (ls.map sg).reverse = txt b x := by unfold txt; rw [txl_pos (unhide Hz), ← unhide Hfin]
        rw [hfin2] at hconv
        clear hfin2 hown3 hg3 Hrv
        go_wp2
        go_ret
        exact ⟨rfl, hbX⟩
      · have hl0 : (0 : Int) < ((gr k).length : Int) := by have := mt gr_len0.1 hk0; omega
        have hgk := gr_len_le hk
        have hpos := dg_pos (b := b) hb2 (show 0 < k by omega)
        have hdl : k % b < 16 := Nat.lt_of_lt_of_le (Nat.mod_lt _ (by omega)) hb16
        have hqk : k / b ≤ x := Nat.le_trans (Nat.div_le_self _ _) hk
        have hdg2 : dg b x = (ls ++ [k % b]) ++ dg b (k / b) := by rw [unhide hdg, hpos]; simp
        have Hdg2 := hide hdg2
        have hll := congrArg List.length hdg2
        rw [List.length_append, List.length_append] at hll
        clear hpos hdg2
        go_wp2_with fail
        have h := overWordB_c k b _ wr hnat (by omega) (by omega) (by omega)
        refine h.mono ?_
        clear h
        rintro e w2 ⟨⟨v2, rfl, hv2⟩, hb2'⟩
        have hown2 := own_below hown hb2'
        have hbw := hb.trans (hb2'.mono hb.size)
        have hhex := hex_sg (k % b) hdl
        unfold isNatB at hv2
        have hne : v2.ownBlock = none ∨ v2.ownBlock ≠ (Value.slice po ls.length co).ownBlock := by
          by_cases hh : v2.ownBlock = none
          · exact .inl hh
          · refine .inr (fun he => ?_)
            obtain ⟨g, hg⟩ := Option.ne_none_iff_exists'.1 hh
            have h1 := (hv2.lt g hg).1
            have h2 := (hown.lt g (he ▸ hg)).2
            omega
        have Hne := hide hne
        clear hne
        have Hv2 := hide hv2
        generalize k % b = d at *
        have hw := hbw.size
        have e8 : (sg d).toNat < 256 := (sg d).toNat_lt
        clear hv2 hnat hown
        go_wp2_with (at_builtin; refine wpList_append_own _ rfl (.tmp 22) (.tmp 25) 22 rfl w.heap.size 5 i0 (.int .u8 0) 1 1 Tryz.underlying22 hi hz0 hz1 hz2 rfl (by decide) _ _ _ rfl (hown2.alloc _) ⟨w2.heap.size, 0, none⟩ 1 1 [.int .u8 ((sg d).toNat : Int)] rfl rfl (cell_one_new _ _ _) (by intro u hu; simp at hu; subst hu; rfl) (by unfold maxLen; omega) (by omega) (by simp; omega) ?_; intro v3 w3 hown3 hg3 _)
        have hbX := below_grown (hbw.alloc hw _) (hown2.alloc _) hg3 (by simp <;> omega)
        obtain ⟨p3, c3, hv3⟩ := own_slice hown3
        subst hv3
        go_roundw
        case rel =>
          refine ⟨k / b, ls ++ [d], hqk, ?_, ?_, hbX, Hdg2⟩
          · exact own_base (((unhide Hv2).alloc _).kept hg3 (unhide Hne)) (Nat.zero_le _)
          · rw [List.length_append, List.map_append, List.map_append]
            exact hown3
        case measure =>
          show (dg b x).length - (ls.length + 1) < (dg b x).length - ls.length
          simp at hll
          omega
end Go.Proofs.YtpbnmhnbkfnaeaaGreatDoor
namespace Go.Proofs.YtpbnmhnbkfnaeaaGreatDoor
open Go.RowKit Nt

theorem dg_txl (b x : Nat) : (dg b x).length ≤ (txl b x).length := by
  unfold txl
  by_cases h : x = 0
  · rw [if_pos h, h, dg_zero]; simp
  · rw [if_neg h]; simp

set_option maxRecDepth 100000 in
set_option maxHeartbeats 2000000 in
theorem implNumPrint_no (neg : Bool) (u d : List UInt8) (r : Int) (w : World) (hsu : u.length ≤ 1000000000) (hsd : d.length ≤ 1000000000) (h : (okM neg u d && isRadix r) = false) (hT : Tens w) :
    Calls Tryz.prog 249 #[numB neg u d, .int .i64 r] w fun e w' => e = .returned (.string (B (printM neg u d r))) ∧ Below w.heap.size w w' := by
  have Hf : Hid (B (printM neg u d r) = ⟨#[]⟩) := by show _ = _; unfold printM; rw [h]; rfl
  have h1 := fun w hT => implNumOk_c neg u d w hsu hsd hT
  have HT := hide hT
  unfold numB at *
  clear hT
  cases hr : isRadix r with
  | false =>
    clear h h1
    go_enter Tryz.func249, Tryz.ntmps249
    go_wp2_with fail
    refine (known_c r _).mono ?_
    rintro e w2 ⟨rfl, rfl⟩
    rw [hr]
    go_wp2
    go_ret
    exact ⟨ret_str (unhide Hf).symm, (Below.refl _ _).alloc (Nat.le_refl _) _⟩
  | true =>
    rw [hr, Bool.and_true] at h
    rw [h] at h1
    have H1 := hide h1
    clear h h1
    go_enter Tryz.func249, Tryz.ntmps249
    go_wp2_with fail
    refine (known_c r _).mono ?_
    rintro e w2 ⟨rfl, rfl⟩
    rw [hr]
    go_wp2_with fail
    refine (unhide H1 _ ((unhide HT).below ((Below.refl _ _).alloc (Nat.le_refl _) _))).mono ?_
    rintro e w1 ⟨rfl, hb1⟩
    have hb0 := below_alloc_size hb1
    go_wp2
    go_ret
    exact ⟨ret_str (unhide Hf).symm, below_new hb0⟩


set_option maxRecDepth 100000 in
set_option maxHeartbeats 4000000 in
theorem implNumPrint_yes (neg : Bool) (u d : List UInt8) (b : Nat) (w : World) (hok : okM neg u d = true) (hb4 : b = 2 ∨ b = 8 ∨ b = 10 ∨ b = 16) (hT : Tens w) :
    Calls Tryz.prog 249 #[numB neg u d, .int .i64 b] w fun e w' => e = .returned (.string (B (printM neg u d b))) ∧ Below w.heap.size w w' := by
  have hr : isRadix (b : Int) = true := by rcases hb4 with rfl | rfl | rfl | rfl <;> rfl
  obtain ⟨h3, h4, hu, hd, hd0, hn0, _⟩ := ok_parts hok
  have h1 := fun w hT => implNumOk_c neg u d w (by omega) (by omega) hT
  rw [hok] at h1
  have Hf : Hid (printM neg u d b = prM neg (valDec u) (valDec d) b) := by show _ = _; unfold printM; rw [hok, hr]; simp
  have Bu : B u = dec (valDec u) := by unfold dec txt; rw [← isDec_val h3]
  have Bd : B d = dec (valDec d) := by unfold dec txt; rw [← isDec_val h4]
  have hau := B_size u
  have had := B_size d
  unfold numB at *
  rw [Bu, Bd] at h1
  rw [Bu] at hau
  rw [Bd] at had
  rw [Bu, Bd]
  generalize valDec u = a at *
  generalize valDec d = q at *
  have hau60 : (dec a).size ≤ 60 := by omega
  have had60 : (dec q).size ≤ 60 := by omega
  have hq1 := dec_is1 q
  have hta := txt_size (b := b) (by omega) hau60
  have htq := txt_size (b := b) (by omega) had60
  have hta' : (txl b a).length ≤ 240 := by unfold txt at hta; rwa [B_size] at hta
  have htq' : (txl b q).length ≤ 240 := by unfold txt at htq; rwa [B_size] at htq
  have hda := dg_txl b a
  have hdq := dg_txl b q
  have hga := dec_gr hau60
  have hgq := dec_gr had60
  have H1 := hide h1
  have HT := hide hT
  clear h1 Bu Bd h3 h4 hok hau had hn0 hT
  go_enter Tryz.func249, Tryz.ntmps249
  go_wp2_with fail
  refine (known_c b _).mono ?_
  rintro e w2 ⟨rfl, rfl⟩
  rw [hr]
  go_wp2_with fail
  refine (unhide H1 _ ((unhide HT).below ((Below.refl _ _).alloc (Nat.le_refl _) _))).mono ?_
  rintro e w1 ⟨rfl, hb1⟩
  have hb0 := below_alloc_size hb1
  have hz0 : w.heap.size + 1 ≤ w1.heap.size := by have := hb1.size; simpa using this
  have c0 := newcell hb0 0
  have c1 := newcell hb0 1
  have c2 := newcell hb0 2
  simp at c0 c1 c2
  go_wp2_with fail
  have h := natRead_c a w1 (by omega) ((unhide HT).below (below_new hb0))
  refine h.mono ?_
  clear h
  rintro e w2 ⟨⟨v2, rfl, hv2⟩, hb2⟩
  have hn2 := below_next hb0 hz0 hb2
  have Hv2 := hide hv2
  clear hv2
  go_wp2_with fail
  have h := write_c a b v2 w2 (unhide Hv2) (by omega) (by omega) (by omega) (by omega)
  refine h.mono ?_
  clear h
  rintro e w3 ⟨rfl, hb3⟩
  have hn3 := below_next hn2.1 hn2.2 hb3
  clear c0 c1 c2 hb1 hb0 hz0 hb2 hn2 hb3
  have c0 := newcell hn3.1 0
  have c1 := newcell hn3.1 1
  have c2 := newcell hn3.1 2
  simp at c0 c1 c2
  have hs47 : (⟨#[47]⟩ ++ txt b q : ByteArray).size = 1 + (txt b q).size := by rw [ByteArray.size_append]; rfl
  by_cases hone : q = 1
  · rw [decide_eq_true hone] at hq1
    cases neg with
    | false =>
      have Hf2 : Hid (B (printM false u d b) = txt b a) := by show _ = _; rw [unhide Hf]; simp [prM, hone, txt]
      clear hone
      go_wp2
      go_ret
      exact ⟨ret_str (unhide Hf2).symm, below_new hn3.1⟩
    | true =>
      have Hf2 : Hid (B (printM true u d b) = ⟨#[45]⟩ ++ txt b a) := by
        show _ = _; rw [unhide Hf, show (⟨#[45]⟩ : ByteArray) = B [45] from rfl]; unfold txt; rw [B_append]; simp [prM, hone]
      have hns : ¬ 9223372036854775807 < 1 + (txt b a).size := by omega
      clear hone
      go_wp2
      go_ret
      exact ⟨ret_str (unhide Hf2).symm, below_new hn3.1⟩
  · rw [decide_eq_false hone] at hq1
    cases neg with
    | false =>
      have Hf2 : Hid (B (printM false u d b) = txt b a ++ (⟨#[47]⟩ ++ txt b q)) := by
        show _ = _; rw [unhide Hf, show (⟨#[47]⟩ : ByteArray) = B [47] from rfl]; unfold txt; rw [B_append, B_append]; simp [prM, hone]
      clear hone
      -- the second number: behind hn3 (the frame), c0 c1 c2
      go_wp2_with fail
      have h := natRead_c q w3 (by omega) ((unhide HT).below (below_new hn3.1))
      refine h.mono ?_
      clear h
      rintro e w4 ⟨⟨v4, rfl, hv4⟩, hb4'⟩
      have hn4 := below_next hn3.1 hn3.2 hb4'
      have Hv4 := hide hv4
      clear hv4
      go_wp2_with fail
      have h := write_c q b v4 w4 (unhide Hv4) (by omega) (by omega) (by omega) (by omega)
      refine h.mono ?_
      clear h
      rintro e w5 ⟨rfl, hb5⟩
      have hn5 := below_next hn4.1 hn4.2 hb5
      go_wp2
      go_ret
      exact ⟨ret_str (unhide Hf2).symm, below_new hn5.1⟩
    | true =>
      have Hf2 : Hid (B (printM true u d b) = (⟨#[45]⟩ ++ txt b a) ++ (⟨#[47]⟩ ++ txt b q)) := by
        show _ = _; rw [unhide Hf, show (⟨#[47]⟩ : ByteArray) = B [47] from rfl, show (⟨#[45]⟩ : ByteArray) = B [45] from rfl]; unfold txt; rw [B_append, B_append, B_append]; simp [prM, hone]
      have hns : ¬ 9223372036854775807 < 1 + (txt b a).size := by omega
      clear hone
      -- the second number: behind hn3 (the frame), c0 c1 c2
      go_wp2_with fail
      have h := natRead_c q w3 (by omega) ((unhide HT).below (below_new hn3.1))
      refine h.mono ?_
      clear h
      rintro e w4 ⟨⟨v4, rfl, hv4⟩, hb4'⟩
      have hn4 := below_next hn3.1 hn3.2 hb4'
      have Hv4 := hide hv4
      clear hv4
      go_wp2_with fail
      have h := write_c q b v4 w4 (unhide Hv4) (by omega) (by omega) (by omega) (by omega)
      refine h.mono ?_
      clear h
      rintro e w5 ⟨rfl, hb5⟩
      have hn5 := below_next hn4.1 hn4.2 hb5
      go_wp2
      go_ret
      exact ⟨ret_str (unhide Hf2).symm, below_new hn5.1⟩

theorem implNumPrint_c (neg : Bool) (u d : List UInt8) (r : Int) (w : World) (hsu : u.length ≤ 1000000000) (hsd : d.length ≤ 1000000000) (hT : Tens w) :
    Calls Tryz.prog 249 #[numB neg u d, .int .i64 r] w fun e w' => e = .returned (.string (B (printM neg u d r))) ∧ Below w.heap.size w w' := by
  cases h : okM neg u d && isRadix r with
  | false => exact implNumPrint_no neg u d r w hsu hsd h hT
  | true =>
    simp only [Bool.and_eq_true] at h
    obtain ⟨b, rfl, hb4⟩ := isRadix_nat h.2
    exact implNumPrint_yes neg u d b w h.1 hb4 hT
end Go.Proofs.YtpbnmhnbkfnaeaaGreatDoor
/- The specification's width of a character. -/
namespace Go.Proofs.YtpbnmhnbkfnaeaaGreatDoor
open Go.RowKit Nt

theorem runes_keep (s : ByteArray) : ∀ (n i : Nat) (acc : Array Value) (j : Nat), j < acc.size → (Conv.runesFrom s n i acc)[j]? = acc[j]?
  | 0, _, acc, j, _ => rfl
  | n + 1, i, acc, j, h => by
    unfold Conv.runesFrom
    split
    · rw [runes_keep s n _ _ j (by simp; omega), Array.getElem?_push_lt h, Array.getElem?_eq_getElem h]
    · rfl
theorem runes_head (s : ByteArray) (h : 0 < s.size) : (Conv.runesFrom s s.size 0 #[])[0]? = some (.int .i32 ((Utf8.decode s 0).1 : Nat)) := by
  obtain ⟨n, hn⟩ : ∃ n, s.size = n + 1 := ⟨s.size - 1, by omega⟩
  rw [hn]
  unfold Conv.runesFrom
  rw [if_pos (by omega), runes_keep s n _ _ 0 (by simp)]
  rfl

set_option maxHeartbeats 2000000 in
set_option maxRecDepth 100000 in
theorem l11Size_c (s : ByteArray) (w : World) (hs : s.size ≤ 1048576) (h0 : 0 < s.size) :
    Calls Tryz.prog 67 #[.string s] w fun e w' => e = .returned (.int .i64 (sizeM s)) ∧ Below w.heap.size w w' := by
  have hz := size_runesFrom s s.size 0 #[]
  simp only [List.size_toArray, List.length_nil, Nat.zero_add] at hz
  have hcv := run_runes_of_string (P := Tryz.prog) w 9 139 21 s Tryz.underlying9 Tryz.underlying139 Tryz.underlying21 (by omega)
  have hh := runes_head s h0
  obtain ⟨R, hR⟩ : ∃ R, Conv.runesFrom s s.size 0 #[] = R := ⟨_, rfl⟩
  rw [hR] at hcv hz hh
  have hR0 : 0 < R.size := by
    rcases Nat.eq_zero_or_pos R.size with h | h
    · rw [Array.getElem?_eq_none (by omega)] at hh; cases hh
    · exact h
  obtain ⟨C, hC⟩ : ∃ C, R ++ Array.replicate (grownCap w R.size 0 21 - R.size) (Value.int .i32 0) = C := ⟨_, rfl⟩
  have hc0 : C[0]? = some (.int .i32 ((Utf8.decode s 0).1 : Nat)) := by rw [← hC, Array.getElem?_append_left hR0]; exact hh
  rw [hC] at hcv
  obtain ⟨rn, hrn⟩ : ∃ rn, (Utf8.decode s 0).1 = rn := ⟨_, rfl⟩
  rw [hrn] at hc0
  obtain ⟨cp, hcp⟩ : ∃ cp, grownCap w R.size 0 21 = cp := ⟨_, rfl⟩
  rw [hcp] at hcv
  have HB := hide (((Below.refl w.heap.size w).alloc (Nat.le_refl _) (.cells C 21)).drew)
  have hcell : (w.alloc (.cells C 21)).cell? ⟨w.heap.size, 0, none⟩ = some (.int .i32 rn) := by rw [World.cell?_alloc_mark]; exact hc0
  have h0' : ((s.size : Int) == 0) = false := by rw [beq_eq_false_iff_ne]; omega
  have h0'' : (0 : Int) < R.size := by omega
  clear hC hcp hR hz hh hc0
  by_cases hb : rn = 65533
  · subst hb
    by_cases h3 : s.size < 3
    · have h3' : (s.size : Int) < 3 := by omega
      have HE : Hid (sizeM s = 0) := hide (by unfold sizeM badC; rw [hrn, if_pos (.inr ⟨rfl, .inl h3⟩)])
      clear hrn h3
      go_enter Tryz.func67, Tryz.ntmps67
      go_wp2_with (simp only [hcv])
      go_ret
      exact ⟨ret_int (by rw [unhide HE]; rfl), unhide HB⟩
    · have h3' : ¬ (s.size : Int) < 3 := by omega
      by_cases he : s.extract 0 3 = ⟨#[239, 191, 189]⟩
      · have HE : Hid (sizeM s = (Utf8.encode (65533 : Int)).size) := hide (by
          unfold sizeM badC; rw [hrn, if_neg]; · rfl
          · rintro (h | ⟨_, h | h⟩)
            · omega
            · exact h3 h
            · exact h he)
        clear hrn h3
        go_enter Tryz.func67, Tryz.ntmps67
        go_wp2_with (simp only [hcv])
        go_ret
        exact ⟨ret_int (by rw [unhide HE]), unhide HB⟩
      · have HE : Hid (sizeM s = 0) := hide (by unfold sizeM badC; rw [hrn, if_pos (.inr ⟨rfl, .inr he⟩)])
        have hne : ((s.extract 0 3).toList == [239, 191, 189]) = false := by
          rw [beq_eq_false_iff_ne]
          intro e
          apply he
          rw [Lib.toList_data] at e
          exact ByteArray.ext (by apply Array.ext'; exact e)
        clear hrn h3 he
        go_enter Tryz.func67, Tryz.ntmps67
        go_wp2_with (simp only [hcv])
        go_ret
        exact ⟨ret_int (by rw [unhide HE]; rfl), unhide HB⟩
  · have hb' : ((rn : Int) == 65533) = false := by rw [beq_eq_false_iff_ne]; omega
    have HE : Hid (sizeM s = (Utf8.encode (rn : Int)).size) := hide (by unfold sizeM; rw [hrn, if_neg (by omega)])
    clear hb hrn
    go_enter Tryz.func67, Tryz.ntmps67
    go_wp2_with (simp only [hcv])
    go_ret
    exact ⟨ret_int (by rw [unhide HE]), unhide HB⟩
end Go.Proofs.YtpbnmhnbkfnaeaaGreatDoor
/- The specification's looks at a text: what ends a word, characters one by one. -/
namespace Go.Proofs.YtpbnmhnbkfnaeaaGreatDoor
open Go.RowKit Nt

theorem l1In_g (k a b : Int) (w : World) :
    Calls Tryz.prog 34 #[.int .i64 k, .int .i64 a, .int .i64 b] w fun e w' => e = .returned (.bool (decide (a ≤ k) && decide (k ≤ b))) ∧ w' = w := by
  by_cases h0 : a ≤ k
  · have d0 : decide (a ≤ k) = true := decide_eq_true h0
    have HR : Hid ((decide (a ≤ k) && decide (k ≤ b)) = decide (k ≤ b)) := hide (by rw [d0, Bool.true_and])
    clear d0
    go_enter Tryz.func34, Tryz.ntmps34
    go_wp2
    go_ret
    exact ⟨by rw [unhide HR]; rfl, rfl⟩
  · have HR : Hid ((decide (a ≤ k) && decide (k ≤ b)) = false) := hide (by rw [decide_eq_false h0, Bool.false_and])
    go_enter Tryz.func34, Tryz.ntmps34
    go_wp2
    go_ret
    exact ⟨by rw [unhide HR]; rfl, rfl⟩

def blankN (c : Nat) : Bool := c == 32 || c == 9 || c == 10 || c == 13
theorem l11Blank_c (c : Nat) (w : World) :
    Calls Tryz.prog 134 #[.int .u8 c] w fun e w' => e = .returned (.bool (blankN c)) ∧ w' = w := by
  by_cases h : c = 32 ∨ c = 9 ∨ c = 10 ∨ c = 13
  · rcases h with rfl | rfl | rfl | rfl
    all_goals
      go_enter Tryz.func134, Tryz.ntmps134
      go_wp2
      go_ret
      exact ⟨rfl, rfl⟩
  · have HR : Hid (blankN c = false) := hide (by unfold blankN; simp only [Bool.or_eq_false_iff, beq_eq_false_iff_ne]; omega)
    have h1 : ((c : Int) == 32) = false := by rw [beq_eq_false_iff_ne]; omega
    have h2 : ((c : Int) == 9) = false := by rw [beq_eq_false_iff_ne]; omega
    have h3 : ((c : Int) == 10) = false := by rw [beq_eq_false_iff_ne]; omega
    have h4 : ((c : Int) == 13) = false := by rw [beq_eq_false_iff_ne]; omega
    clear h
    go_enter Tryz.func134, Tryz.ntmps134
    go_wp2
    go_ret
    exact ⟨by rw [unhide HR]; rfl, rfl⟩
theorem l11Ends_c (c : Nat) (w : World) :
    Calls Tryz.prog 108 #[.int .u8 c] w fun e w' => e = .returned (.bool (endN c)) ∧ w' = w := by
  have HB := hide (l11Blank_c c w)
  by_cases h : blankN c = true
  · have HR : Hid (endN c = true) := hide (by unfold endN blankN at *; simp only [Bool.or_eq_true, beq_iff_eq] at *; omega)
    rw [h] at HB
    clear h
    go_enter Tryz.func108, Tryz.ntmps108
    go_wp2_with fail
    refine (unhide HB).mono ?_
    rintro e w1 ⟨rfl, rfl⟩
    go_wp2
    go_ret
    exact ⟨by rw [unhide HR]; rfl, rfl⟩
  · have h : blankN c = false := by simpa using h
    have hE : endN c = (c == 40 || c == 41 || c == 34 || c == 59 || c == 39) := by
      have : endN c = (blankN c || c == 40 || c == 41 || c == 34 || c == 59 || c == 39) := rfl
      rw [this, h]; rfl
    by_cases h' : c = 40 ∨ c = 41 ∨ c = 34 ∨ c = 59 ∨ c = 39
    · rcases h' with rfl | rfl | rfl | rfl | rfl
      all_goals
        rw [h] at HB
        go_enter Tryz.func108, Tryz.ntmps108
        go_wp2_with fail
        refine (unhide HB).mono ?_
        rintro e w1 ⟨rfl, rfl⟩
        go_wp2
        go_ret
        exact ⟨rfl, rfl⟩
    · have HR : Hid (endN c = false) := hide (by rw [hE]; simp only [Bool.or_eq_false_iff, beq_eq_false_iff_ne]; omega)
      rw [h] at HB
      have h1 : ((c : Int) == 40) = false := by rw [beq_eq_false_iff_ne]; omega
      have h2 : ((c : Int) == 41) = false := by rw [beq_eq_false_iff_ne]; omega
      have h3 : ((c : Int) == 34) = false := by rw [beq_eq_false_iff_ne]; omega
      have h4 : ((c : Int) == 59) = false := by rw [beq_eq_false_iff_ne]; omega
      have h5 : ((c : Int) == 39) = false := by rw [beq_eq_false_iff_ne]; omega
      clear h h' hE
      go_enter Tryz.func108, Tryz.ntmps108
      go_wp2_with fail
      refine (unhide HB).mono ?_
      rintro e w1 ⟨rfl, rfl⟩
      go_wp2
      go_ret
      exact ⟨by rw [unhide HR]; rfl, rfl⟩

set_option maxHeartbeats 2000000 in
set_option maxRecDepth 100000 in
theorem l11Size_nil (w : World) :
    Calls Tryz.prog 67 #[.string ⟨#[]⟩] w fun e w' => e = .returned (.int .i64 0) ∧ Below w.heap.size w w' := by
  have hcv := run_runes_of_string (P := Tryz.prog) w 9 139 21 ⟨#[]⟩ Tryz.underlying9 Tryz.underlying139 Tryz.underlying21 (by first | decide | exact Nat.zero_le _)
  obtain ⟨X, hX⟩ : ∃ X, Conv.runesFrom ⟨#[]⟩ (⟨#[]⟩ : ByteArray).size 0 #[] = X := ⟨_, rfl⟩
  rw [hX] at hcv
  obtain ⟨C, hC⟩ : ∃ C, X ++ Array.replicate (grownCap w X.size 0 21 - X.size) (Value.int .i32 0) = C := ⟨_, rfl⟩
  rw [hC] at hcv
  have HB := hide (((Below.refl w.heap.size w).alloc (Nat.le_refl _) (.cells C 21)).drew)
  clear hX hC
  go_enter Tryz.func67, Tryz.ntmps67
  go_wp2_with (simp only [hcv])
  go_ret
  exact ⟨rfl, unhide HB⟩
theorem specSize_c (l : List UInt8) (w : World) (hs : l.length ≤ 1048576) :
    Calls Tryz.prog 67 #[.string (B l)] w fun e w' => e = .returned (.int .i64 (sizeM (B l))) ∧ Below w.heap.size w w' := by
  by_cases h : l = []
  · subst h
    have : sizeM (B []) = 0 := sizeM_nil
    rw [this]
    exact l11Size_nil w
  · exact l11Size_c (B l) w (by rw [B_size]; exact hs) (by rw [B_size]; exact List.length_pos_iff.2 h)

theorem sizeM_le (l : List UInt8) (hne : l ≠ []) : sizeM (B l) ≤ l.length := by
  have hs : 0 < (B l).size := by rw [B_size]; exact List.length_pos_iff.2 hne
  by_cases h0 : sizeM (B l) = 0
  · omega
  · have := dec_asc (B l) 0 hs
    rw [← sizeM_size _ hs h0, B_size] at this
    omega
/-- how long the rest of a text is -/
def lenS : Value → Nat
  | .string s => s.size
  | _ => 0
set_option maxHeartbeats 1000000 in
theorem l11Runes_c (l : List UInt8) (w : World) (hs : l.length ≤ 1048576) :
    Calls Tryz.prog 66 #[.string (B l)] w fun e w' => e = .returned (.bool (Lib.validD l)) ∧ Below w.heap.size w w' := by
  obtain ⟨V, hV⟩ : ∃ V, Lib.validD l = V := ⟨_, rfl⟩
  rw [hV]
  have HC := hide (fun (m : List UInt8) W h => specSize_c m W h)
  go_enter Tryz.func66, Tryz.ntmps66
  go_wp2_with fail
  go_loopw [0] (fun s wr => ∃ m : List UInt8, s = .string (B m) ∧ m.length ≤ l.length ∧ Hid (Lib.validD m = V) ∧ Below w.heap.size w wr) (fun s _ => lenS s)
  case atStart => exact ⟨l, rfl, Nat.le_refl _, hide hV, Below.refl _ _⟩
  case round =>
    obtain ⟨m, rfl, hm, HV, hb⟩ := hrel
    have HB := hide hb
    have HL := hide (B_size m)
    clear hb hV
    by_cases hne : m = []
    · subst hne
      have HR : Hid (V = true) := hide (by rw [← unhide HV]; rfl)
      have hz : ¬ (0 : Int) < ((B []).size : Int) := by simp [B_size]
      go_wp2_with fail
      go_ret
      exact ⟨by rw [unhide HR]; rfl, unhide HB⟩
    · have hz : (0 : Int) < ((B m).size : Int) := by rw [B_size]; have := List.length_pos_iff.2 hne; omega
      have HST := hide (valid_step m hne)
      have hle := sizeM_le m hne
      obtain ⟨k, hk⟩ : ∃ k, sizeM (B m) = k := ⟨_, rfl⟩
      have HM : Hid ((B m).extract k (B m).size = B (m.drop k)) := hide (by rw [B_size, B_extract, List.take_length])
      have hpos := List.length_pos_iff.2 hne
      have HS : Hid (∀ W, Calls Tryz.prog 67 #[.string (B m)] W fun e w' => e = .returned (.int .i64 k) ∧ Below W.heap.size W w') := hide (fun W => by rw [← hk]; exact unhide HC m W (by omega))
      rw [hk] at HST hle
      clear hk
      go_wp2_with fail
      refine (unhide HS _).mono ?_
      rintro e w1 ⟨rfl, hb1⟩
      have HB1 := hide (step_b (unhide HB) hb1)
      clear hb1
      by_cases h0 : k = 0
      · subst h0
        have HR : Hid (V = false) := hide (by rw [← unhide HV, unhide HST, if_pos rfl])
        go_wp2_with fail
        go_ret
        exact ⟨by rw [unhide HR]; rfl, unhide HB1⟩
      · have h0' : ((k : Int) == 0) = false := by rw [beq_eq_false_iff_ne]; omega
        have hk2 : ¬ ((B m).size : Int) < (k : Int) := by rw [B_size]; omega
        have HV2 : Hid (Lib.validD (m.drop k) = V) := hide (by rw [← unhide HV, unhide HST, if_neg h0])
        go_wp2_with fail
        go_roundw
        case rel => exact ⟨m.drop k, by rw [unhide HM], by simp; omega, HV2, unhide HB1⟩
        case measure => rw [unhide HM]; simp [lenS, B_size]; omega
end Go.Proofs.YtpbnmhnbkfnaeaaGreatDoor
/- The specification's NumCmp, l21Ints, l21Texts. -/
namespace Go.Proofs.YtpbnmhnbkfnaeaaGreatDoor
open Go.RowKit Nt

theorem l21Ints_c (a b : Int) (w : World) :
    Calls Tryz.prog 101 #[.int .i64 a, .int .i64 b] w fun e w' => e = .returned (.int .i64 (cmpI a b)) ∧ w' = w := by
  by_cases h1 : a < b
  · have HR : Hid (cmpI a b = -1) := hide (by unfold cmpI; rw [if_pos h1])
    go_enter Tryz.func101, Tryz.ntmps101
    go_wp2
    go_ret
    exact ⟨ret_int (unhide HR).symm, rfl⟩
  · by_cases h2 : b < a
    · have HR : Hid (cmpI a b = 1) := hide (by unfold cmpI; rw [if_neg h1, if_pos h2])
      go_enter Tryz.func101, Tryz.ntmps101
      go_wp2
      go_ret
      exact ⟨ret_int (unhide HR).symm, rfl⟩
    · have HR : Hid (cmpI a b = 0) := hide (by unfold cmpI; rw [if_neg h1, if_neg h2])
      go_enter Tryz.func101, Tryz.ntmps101
      go_wp2
      go_ret
      exact ⟨ret_int (unhide HR).symm, rfl⟩
theorem l21Texts_c (a b : List UInt8) (w : World) :
    Calls Tryz.prog 103 #[.string (B a), .string (B b)] w fun e w' => e = .returned (.int .i64 (Lib.compareBytes a b)) ∧ w' = w := by
  obtain ⟨h1, h2, h3, h4⟩ := less_cmp a b
  obtain ⟨c, hc⟩ : ∃ c, Lib.compareBytes a b = c := ⟨_, rfl⟩
  have h5 : ((B a).toList == (B b).toList) = decide (c = 0) := by
    rw [B_tl, B_tl, Bool.eq_iff_iff]
    simp only [beq_iff_eq, decide_eq_true_eq]
    rw [← hc]; exact h3.symm
  rw [hc] at h1 h4 ⊢
  rw [← B_tl a, ← B_tl b] at h1
  clear h2 h3 hc
  rcases h4 with rfl | rfl | rfl
  · have k1 : Op.bytesLess (B a).toList (B b).toList = true := h1
    clear h1 h5
    go_enter Tryz.func103, Tryz.ntmps103
    go_wp2
    go_ret
    exact ⟨rfl, rfl⟩
  · have k1 : Op.bytesLess (B a).toList (B b).toList = false := h1
    have k2 : ((B a).toList == (B b).toList) = true := h5
    clear h1 h5
    go_enter Tryz.func103, Tryz.ntmps103
    go_wp2
    go_ret
    exact ⟨rfl, rfl⟩
  · have k1 : Op.bytesLess (B a).toList (B b).toList = false := h1
    have k2 : ((B a).toList == (B b).toList) = false := h5
    clear h1 h5
    go_enter Tryz.func103, Tryz.ntmps103
    go_wp2
    go_ret
    exact ⟨rfl, rfl⟩

theorem sgn_lt (x y : Nat) : sgI ((x : Int) - y) = cmpN x y := by
  unfold sgI cmpN; split <;> split <;> (try split) <;> (try split) <;> omega
/-- products held against each other -/
theorem cmpRt_across (n1 n2 : Bool) (x1 y1 x2 y2 : Nat) (hy1 : 0 < y1) (hy2 : 0 < y2) (h1 : n1 = true → x1 ≠ 0) (h2 : n2 = true → x2 ≠ 0) :
    cmpRt (n1, x1, y1) (n2, x2, y2) = if n1 ≠ n2 then (if n1 then -1 else 1) else if n1 then - cmpN (x1 * y2) (x2 * y1) else cmpN (x1 * y2) (x2 * y1) := by
  unfold cmpRt zP
  simp only
  have e : ∀ (a b : Nat), ((a * b : Nat) : Int) = (a : Int) * (b : Int) := fun a b => by simp
  cases n1 <;> cases n2
  · simp only [sgn, ne_eq, not_true_eq_false, if_false, Bool.false_eq_true]
    rw [← e, ← e, sgn_lt]
  · simp only [sgn, ne_eq, Bool.false_eq_true, if_false, if_true, not_false_eq_true]
    rw [Int.neg_mul, ← e, ← e]
    have : 0 < x2 * y1 := Nat.mul_pos (by have := h2 rfl; omega) hy1
    unfold sgI
    rw [if_neg (by omega), if_pos (by omega)]
  · simp only [sgn, ne_eq, Bool.false_eq_true, if_false, if_true, not_false_eq_true, reduceCtorEq]
    rw [Int.neg_mul, ← e, ← e]
    have : 0 < x1 * y2 := Nat.mul_pos (by have := h1 rfl; omega) hy2
    unfold sgI
    rw [if_pos (by omega)]
  · simp only [sgn, ne_eq, not_true_eq_false, if_false, if_true]
    rw [Int.neg_mul, Int.neg_mul, ← e, ← e, ← sgn_lt, ← sgI_neg]
    congr 1; omega

theorem below_two (w : World) (x y z x' y' z' : Value) (T : TypeId) : Below w.heap.size w ((w.alloc (.cells #[x, y, z] T)).alloc (.cells #[x', y', z'] T)) := step_a (step_a (Below.refl _ _) _) _
set_option maxRecDepth 100000 in
set_option maxHeartbeats 4000000 in
theorem l3Cmp_c (n1 n2 : Bool) (x1 y1 x2 y2 : Nat) (w : World) (sx1 : (dec x1).size ≤ 60) (sy1 : (dec y1).size ≤ 60) (sx2 : (dec x2).size ≤ 60) (sy2 : (dec y2).size ≤ 60) (hy1 : 0 < y1) (hy2 : 0 < y2) (h1 : n1 = true → x1 ≠ 0) (h2 : n2 = true → x2 ≠ 0) :
    Calls Tryz.prog 130 #[.agg #[.bool n1, .string (dec x1), .string (dec y1)], .agg #[.bool n2, .string (dec x2), .string (dec y2)]] w fun e w' => e = .returned (.int .i64 (cmpRt (n1, x1, y1) (n2, x2, y2))) ∧ Below w.heap.size w w' := by
  have HE := hide (cmpRt_across n1 n2 x1 y1 x2 y2 hy1 hy2 h1 h2)
  obtain ⟨R, hR⟩ : ∃ R, cmpRt (n1, x1, y1) (n2, x2, y2) = R := ⟨_, rfl⟩
  rw [hR] at HE ⊢
  have HB := hide (below_two w (.bool n1) (.string (dec x1)) (.string (dec y1)) (.bool n2) (.string (dec x2)) (.string (dec y2)) 79)
  have HA1 := hide ((AtC3.new w (.bool n1) (.string (dec x1)) (.string (dec y1)) 79).below (step_a (Below.refl _ _) (.cells #[.bool n2, .string (dec x2), .string (dec y2)] 79)))
  have HA2 := hide (AtC3.new (w.alloc (.cells #[.bool n1, .string (dec x1), .string (dec y1)] 79)) (.bool n2) (.string (dec x2)) (.string (dec y2)) 79)
  rw [World.size_alloc] at HA2
  clear hR h1 h2 hy1 hy2
  by_cases hn : n1 = n2
  · subst hn
    have hb : (n1 == n1) = true := by simp
    have d1 := dec_prod sx1 sy2
    have d2 := dec_prod sx2 sy1
    have HM1 := hide (fun W => l1Mul_c x1 y2 W (by omega) (by omega))
    have HM2 := hide (fun W => l1Mul_c x2 y1 W (by omega) (by omega))
    have HM3 := hide (fun W => l1Cmp_c (x1 * y2) (x2 * y1) W (by omega) (by omega))
    obtain ⟨c, hc⟩ : ∃ c, cmpN (x1 * y2) (x2 * y1) = c := ⟨_, rfl⟩
    have hcr : -1 ≤ c ∧ c ≤ 1 := by rw [← hc]; unfold cmpN; split <;> (try split) <;> omega
    rw [hc] at HE HM3
    rw [if_neg (by simp)] at HE
    clear sx1 sx2 sy1 sy2 d1 d2 hc
    go_enter Tryz.func130, Tryz.ntmps130
    go_wp2_with fail
    obtain ⟨W, hW⟩ : ∃ W, (w.alloc (.cells #[.bool n1, .string (dec x1), .string (dec y1)] 79)).alloc (.cells #[.bool n1, .string (dec x2), .string (dec y2)] 79) = W := ⟨_, rfl⟩
    rw [hW] at HB HA1 HA2 ⊢
    clear hW
    have a1 := (unhide HA1).n1
    have a2 := (unhide HA1).n2
    have b1 := (unhide HA2).n1
    have b2 := (unhide HA2).n2
    go_cut [5] from 13 to 23 (fun s wx => s = .int .i64 c ∧ Below W.heap.size W wx)
    case first =>
      go_region_held3 (fun w' => w'.cell? ⟨w.heap.size, 1, none⟩ = some (.string (dec x1)) ∧ w'.cell? ⟨w.heap.size, 2, none⟩ = some (.string (dec y1)) ∧ w'.cell? ⟨w.heap.size + 1, 1, none⟩ = some (.string (dec x2)) ∧ w'.cell? ⟨w.heap.size + 1, 2, none⟩ = some (.string (dec y2))) (((try dsimp only); (repeat' apply And.intro) <;> (first | with_reducible assumption | exact a1 | exact a2 | exact b1 | exact b2))) (first | (go_at_call_of 133 (dec x1); refine (unhide HM1 W.drew).mono ?_; rintro e w1 ⟨rfl, hb1⟩; have HB1 : Hid (Below W.heap.size W w1) := (Below.refl _ _).drew.trans hb1; have HC1 := hide ((unhide HA1).below (unhide HB1)); have HC2 := hide ((unhide HA2).below (unhide HB1)); have p1 := (unhide HC1).n1; have p2 := (unhide HC1).n2; have p3 := (unhide HC2).n1; have p4 := (unhide HC2).n2; clear hb1) | (go_at_call_of 133 (dec x2); refine (unhide HM2 w1).mono ?_; rintro e w2 ⟨rfl, hb2⟩; have HB2 := hide (step_b (unhide HB1) hb2); have q1 := ((unhide HC1).below hb2).n1; have q2 := ((unhide HC1).below hb2).n2; have q3 := ((unhide HC2).below hb2).n1; have q4 := ((unhide HC2).below hb2).n2; clear hb2) | (go_at_call 152; refine (unhide HM3 w2).mono ?_; rintro e w3 ⟨rfl, rfl⟩))
      all_goals
        go_wp2_with fail
        go_meet
        exact ⟨rfl, unhide HB2⟩
    case rest =>
    obtain ⟨rfl, hbc⟩ := hcut
    rename World => w4
    have HB4 := hide (step_b (unhide HB) hbc)
    have p0 := ((unhide HA1).below hbc).n0
    clear hbc a1 a2 b1 b2
    cases n1 with
    | true =>
      have HQ : Hid (-c = R) := hide (by rw [unhide HE]; rfl)
      go_wp2_with fail
      go_ret
      exact ⟨ret_int (unhide HQ), unhide HB4⟩
    | false =>
      go_wp2_with fail
      go_ret
      exact ⟨ret_int (by rw [unhide HE]; rfl), unhide HB4⟩
  · have hb : (n1 == n2) = false := by simpa using hn
    rw [if_pos hn] at HE
    clear hn
    cases n1 with
    | true =>
      go_enter Tryz.func130, Tryz.ntmps130
      go_wp2_with fail
      go_ret
      exact ⟨ret_int (unhide HE).symm, unhide HB⟩
    | false =>
      go_enter Tryz.func130, Tryz.ntmps130
      go_wp2_with fail
      go_ret
      exact ⟨ret_int (unhide HE).symm, unhide HB⟩
end Go.Proofs.YtpbnmhnbkfnaeaaGreatDoor
/- The program's NumCmp: what is left of two whole numbers, its sign. -/
namespace Go.Proofs.YtpbnmhnbkfnaeaaGreatDoor
open Go.RowKit Nt

theorem cell_kept2 {w w' : World} (k : Below w.heap.size w w') {a : Addr} {v : Value} (h : w.cell? a = some v) : w'.cell? a = some v := (k.cell (World.block_lt_of_cell? _ _ h)).trans h
def wlV (n : Bool) (p : Option Addr) (l c : Nat) : Value := .agg #[.bool n, .slice p l c]
theorem wNeg_s (n : Bool) (v : Value) (x : Nat) (w : World) (hx : isNat w v x) :
    Calls Tryz.prog 190 #[wholeV n v] w fun e w' => (∃ p c, e = .returned (.agg #[.bool (!n), .slice p (gr x).length c]) ∧ isNat w' (.slice p (gr x).length c) x) ∧ Below w.heap.size w w' := by
  refine (wNeg_c n v x w hx).mono ?_
  rintro e w' ⟨⟨_, rfl, v1, rfl, hv⟩, hb⟩
  obtain ⟨p, c, rfl⟩ := own_slice hv
  exact ⟨⟨p, c, rfl, hv⟩, hb⟩
theorem wPlus_s (n m : Bool) (v u : Value) (x y : Nat) (R : Bool × Nat) (hR : plusW (n, x) (m, y) = R) (w : World) (hx : isNat w v x) (hy : isNat w u y) (hsx : (gr x).length ≤ 1000000) (hsy : (gr y).length ≤ 1000000) :
    Calls Tryz.prog 189 #[wholeV n v, wholeV m u] w fun e w' => (∃ p c, e = .returned (.agg #[.bool R.1, .slice p (gr R.2).length c])) ∧ Below w.heap.size w w' := by
  refine (wPlus_c n m v u x y w hx hy hsx hsy).mono ?_
  rintro e w' ⟨⟨_, rfl, v1, rfl, hv⟩, hb⟩
  obtain ⟨p, c, rfl⟩ := own_slice hv
  rw [hR]
  exact ⟨⟨p, c, rfl⟩, hb⟩
theorem wTimes_s (n m : Bool) (v u : Value) (x y : Nat) (w : World) (hx : isNat w v x) (hy : isNat w u y) (hsx : (gr x).length ≤ 1000000) (hsy : (gr y).length ≤ 1000000) :
    Calls Tryz.prog 161 #[wholeV n v, wholeV m u] w fun e w' => (∃ p c, e = .returned (.agg #[.bool (n != m), .slice p (gr (x * y)).length c]) ∧ isNat w' (.slice p (gr (x * y)).length c) (x * y)) ∧ Below w.heap.size w w' := by
  refine (wTimes_c n m v u x y w hx hy hsx hsy).mono ?_
  rintro e w' ⟨⟨_, rfl, v1, rfl, hv⟩, hb⟩
  obtain ⟨p, c, rfl⟩ := own_slice hv
  exact ⟨⟨p, c, rfl, isNatB.nat hv⟩, hb⟩
def sgW (R : Bool × Nat) : Int := if R.2 = 0 then 0 else if R.1 then -1 else 1
theorem sgW_sgn (R : Bool × Nat) : sgW R = sgI (sgn R) := by
  obtain ⟨n, x⟩ := R
  unfold sgW sgI sgn
  by_cases hx : x = 0
  · subst hx; cases n <;> simp
  · cases n
    · simp [hx]
      try omega
    · simp [hx]
      try omega
/-- behind cmp's region: what is left lies in a box of its own -/
def MadeW (W : World) (R : Bool × Nat) (s : Value) (wx : World) : Prop :=
  ∃ g p c, s = .pointer (some ⟨g, 0, none⟩) ∧ AtC2 wx g (.bool R.1) (.slice p (gr R.2).length c) 183 ∧ Below W.heap.size W wx
abbrev noWh : Obj := .cells #[.bool false, .slice none 0 0] 183
theorem madeW_new {W w2 : World} {R : Bool × Nat} {p : Option Addr} {c : Nat} (hK : Below W.heap.size W w2) : MadeW W R (.pointer (some ⟨w2.heap.size, 0, none⟩)) (w2.alloc (.cells #[.bool R.1, .slice p (gr R.2).length c] 183)) :=
  ⟨_, p, c, rfl, AtC2.new _ _ _ _, step_a hK _⟩
theorem madeW_old {W w2 : World} {R : Bool × Nat} {b : Nat} {p : Option Addr} {c : Nat} {x y : Value} (hM : AtC2 w2 b x y 183) (hb : W.heap.size ≤ b) (hK : Below W.heap.size W w2) :
    MadeW W R (.pointer (some ⟨b, 0, none⟩)) ((w2.setCell ⟨b, 0, none⟩ (.bool R.1)).setCell ⟨b, 1, none⟩ (.slice p (gr R.2).length c)) :=
  ⟨b, p, c, rfl, (hM.st0 _).st1 _, (hK.setCell (p := ⟨b, 0, none⟩) hb _).setCell (p := ⟨b, 1, none⟩) hb _⟩

set_option maxRecDepth 100000 in
set_option maxHeartbeats 4000000 in
theorem wCmp_c (n m : Bool) (v u : Value) (x y : Nat) (w : World) (hx : isNat w v x) (hy : isNat w u y) (hsx : (gr x).length ≤ 1000000) (hsy : (gr y).length ≤ 1000000) :
    Calls Tryz.prog 162 #[wholeV n v, wholeV m u] w fun e w' => e = .returned (.int .i64 (sgW (plusW (n, x) (!m, y)))) ∧ Below w.heap.size w w' := by
  obtain ⟨p, cap, rfl⟩ := own_slice hx
  obtain ⟨q, cap2, rfl⟩ := own_slice hy
  obtain ⟨R, hR⟩ : ∃ R, plusW (n, x) (!m, y) = R := ⟨_, rfl⟩
  rw [hR]
  obtain ⟨lx, hlx⟩ : ∃ l, (gr x).length = l := ⟨_, rfl⟩
  obtain ⟨ly, hly⟩ : ∃ l, (gr y).length = l := ⟨_, rfl⟩
  have HNS := hide (fun W h => wNeg_s m (.slice q ly cap2) y W h)
  have HPS := hide (fun W p1 c1 h1 h2 => wPlus_s n (!m) (.slice p lx cap) (.slice p1 ly c1) x y R hR W h1 h2 hsx hsy)
  rw [hly] at HNS hy
  rw [hlx] at hx
  unfold wholeV at HNS HPS ⊢
  rw [hlx, hly]
  have HX := hide hx
  have HY := hide hy
  have HB := hide (step_a (step_a (Below.refl w.heap.size w) (.cells #[.bool n, .slice p lx cap] 183)) (.cells #[.bool m, .slice q ly cap2] 183))
  have HA1 := hide ((AtC2.new w (.bool n) (.slice p lx cap) 183).alloc (.cells #[.bool m, .slice q ly cap2] 183))
  have HA2 := hide (AtC2.new (w.alloc (.cells #[.bool n, .slice p lx cap] 183)) (.bool m) (.slice q ly cap2) 183)
  rw [World.size_alloc] at HA2
  clear hx hy hR hlx hly hsx hsy
  go_enter Tryz.func162, Tryz.ntmps162
  go_wp2_with fail
  obtain ⟨W, hW⟩ : ∃ W, (w.alloc (.cells #[.bool n, .slice p lx cap] 183)).alloc (.cells #[.bool m, .slice q ly cap2] 183) = W := ⟨_, rfl⟩
  rw [hW] at HB HA1 HA2 ⊢
  clear hW
  have HX := hide (isNat_below (unhide HX) (unhide HB))
  have HY := hide (isNat_below (unhide HY) (unhide HB))
  have a0 := (unhide HA1).n0
  have a1 := (unhide HA1).n1
  have b0 := (unhide HA2).n0
  have b1 := (unhide HA2).n1
  have hWk := step_a (Below.refl W.heap.size W) noWh
  have a0' := cell_kept2 hWk a0
  have a1' := cell_kept2 hWk a1
  have b0' := cell_kept2 hWk b0
  have b1' := cell_kept2 hWk b1
  have HWK := hide hWk
  have HM0 := hide (AtC2.new W (.bool false) (.slice none 0 0) 183)
  clear hWk
  go_cut [5] from 6 to 9 (fun s wx => MadeW W R s wx)
  case first =>
    go_region_with (first
      | (go_at_call 190; refine (unhide HNS (W.alloc noWh).drew (isNat_below (unhide HY) (unhide HWK).drew)).mono ?_; rintro e w1 ⟨⟨p1, c1, rfl, hv1⟩, hb1⟩; have HK1 : Hid (Below W.heap.size W w1) := hide ((unhide HWK).drew.trans (hb1.mono (unhide HWK).size)); have HM1 := hide ((unhide HM0).below ((Below.refl _ _).drew.trans hb1)); have HV1 := hide hv1; have k0 := cell_kept2 (unhide HK1) a0; have k1 := cell_kept2 (unhide HK1) a1; have k2 := cell_kept2 (unhide HK1) b0; have k3 := cell_kept2 (unhide HK1) b1; clear hb1 hv1)
      | (go_at_call 190; refine (unhide HNS W.drew (isNat_below (unhide HY) (Below.refl _ _).drew)).mono ?_; rintro e w1 ⟨⟨p1, c1, rfl, hv1⟩, hb1⟩; have HK1 : Hid (Below W.heap.size W w1) := (Below.refl _ _).drew.trans hb1; have HV1 := hide hv1; have k0 := cell_kept2 (unhide HK1) a0; have k1 := cell_kept2 (unhide HK1) a1; have k2 := cell_kept2 (unhide HK1) b0; have k3 := cell_kept2 (unhide HK1) b1; have hal := step_a (Below.refl w1.heap.size w1) noWh; have k0' := cell_kept2 hal k0; have k1' := cell_kept2 hal k1; have k2' := cell_kept2 hal k2; have k3' := cell_kept2 hal k3; have HAL := hide hal; clear hb1 hv1 hal)
      | (go_at_call 189; refine (unhide HPS w1 p1 c1 (isNat_below (unhide HX) (unhide HK1)) (unhide HV1)).mono ?_; rintro e w2 ⟨⟨p2, c2, rfl⟩, hb2⟩; have HK2 := hide (step_b (unhide HK1) hb2); have HM2 := hide ((unhide HM1).below hb2); have m0 := (unhide HM2).n0; have m1 := (unhide HM2).n1; have mf := (unhide HM2).f; clear hb2)
      | (go_at_call 189; refine (unhide HPS w1 p1 c1 (isNat_below (unhide HX) (unhide HK1)) (unhide HV1)).mono ?_; rintro e w2 ⟨⟨p2, c2, rfl⟩, hb2⟩; have HK2 := hide (step_b (unhide HK1) hb2); clear hb2)
      | (go_at_call 189; refine (unhide HPS (w1.alloc noWh) p1 c1 (isNat_below (unhide HX) (step_b (unhide HK1) (unhide HAL))) (isNat_below (unhide HV1) (unhide HAL))).mono ?_; rintro e w2 ⟨⟨p2, c2, rfl⟩, hb2⟩; have HK2 := hide (step_b (step_b (unhide HK1) (unhide HAL)) hb2); have HM2 := hide ((AtC2.new w1 (.bool false) (.slice none 0 0) 183).below hb2); have m0 := (unhide HM2).n0; have m1 := (unhide HM2).n1; have mf := (unhide HM2).f; clear hb2))
    all_goals
      go_wp2_with fail
      go_meet
      first
        | exact madeW_new (unhide HK2)
        | exact madeW_old (unhide HM2) (Nat.le_refl _) (unhide HK2)
        | exact madeW_old (unhide HM2) (unhide HK1).size (unhide HK2)
  case rest =>
  obtain ⟨g, p3, c3, rfl, hM, hb⟩ := hcut
  rename World => w4
  have HB4 := hide (step_b (unhide HB) hb)
  have m0 := hM.n0
  have m1 := hM.n1
  obtain ⟨n3, x3⟩ := R
  simp only at m0 m1
  clear hM hb a0 a1 b0 b1 a0' a1' b0' b1'
  by_cases hx0 : x3 = 0
  · have hl : (((gr x3).length : Int) == 0) = true := by rw [hx0, gr_zero]; rfl
    have HQ : Hid (sgW (n3, x3) = 0) := hide (by unfold sgW; rw [if_pos hx0])
    clear hx0
    go_wp2_with fail
    go_ret
    exact ⟨ret_int (unhide HQ).symm, unhide HB4⟩
  · have hl : (((gr x3).length : Int) == 0) = false := by
      rw [beq_eq_false_iff_ne]
      intro e
      have h1 : gr x3 = [] := List.eq_nil_of_length_eq_zero (by omega)
      have h2 := ofd_dg (b := 1000000000) (by omega) x3
      unfold gr at h1
      rw [h1] at h2
      exact hx0 h2.symm
    cases n3 with
    | true =>
      have HQ : Hid (sgW (true, x3) = -1) := hide (by unfold sgW; rw [if_neg hx0, if_pos rfl])
      clear hx0
      go_wp2_with fail
      go_ret
      exact ⟨ret_int (unhide HQ).symm, unhide HB4⟩
    | false =>
      have HQ : Hid (sgW (false, x3) = 1) := hide (by unfold sgW; rw [if_neg hx0, if_neg (by simp)])
      clear hx0
      go_wp2_with fail
      go_ret
      exact ⟨ret_int (unhide HQ).symm, unhide HB4⟩
end Go.Proofs.YtpbnmhnbkfnaeaaGreatDoor
/- The program's NumCmp. -/
namespace Go.Proofs.YtpbnmhnbkfnaeaaGreatDoor
open Go.RowKit Nt

abbrev zeroFr : Array Value := #[.bool false, .slice none 0 0, .bool false, .slice none 0 0]
abbrev noFr : Obj := .cells #[.bool false, .slice none 0 0, .bool false, .slice none 0 0] 185
abbrev st4 (w : World) (b : Nat) (u0 u1 u2 u3 : Value) : World := (((w.setCell ⟨b, 0, none⟩ u0).setCell ⟨b, 1, none⟩ u1).setCell ⟨b, 2, none⟩ u2).setCell ⟨b, 3, none⟩ u3
theorem AtC.m0 {w : World} {b : Nat} {x y z s : Value} {T : TypeId} (h : AtC w b #[x, y, z, s] T) : w.cell? ⟨b, 0, none⟩ = some x := h.c 0
theorem AtC.m1 {w : World} {b : Nat} {x y z s : Value} {T : TypeId} (h : AtC w b #[x, y, z, s] T) : w.cell? ⟨b, 1, none⟩ = some y := h.c 1
theorem AtC.m2 {w : World} {b : Nat} {x y z s : Value} {T : TypeId} (h : AtC w b #[x, y, z, s] T) : w.cell? ⟨b, 2, none⟩ = some z := h.c 2
theorem AtC.m3 {w : World} {b : Nat} {x y z s : Value} {T : TypeId} (h : AtC w b #[x, y, z, s] T) : w.cell? ⟨b, 3, none⟩ = some s := h.c 3
theorem AtC.set4 {w : World} {b : Nat} {x y z s : Value} {T : TypeId} (h : AtC w b #[x, y, z, s] T) (u v t r : Value) : AtC (st4 w b u v t r) b #[u, v, t, r] T := by
  have e : ∀ (w : World) (i : Nat) (cs : Array Value) (u : Value), AtC w b cs T → AtC (w.setCell ⟨b, i, none⟩ u) b (cs.setIfInBounds i u) T := by
    intro w i cs u h
    show (w.heap.modify b _)[b]? = _
    rw [Array.getElem?_modify, if_pos rfl, show w.heap[b]? = _ from h]; rfl
  exact e _ 3 _ _ (e _ 2 _ _ (e _ 1 _ _ (e _ 0 _ _ h)))
theorem AtC.far1 {w : World} {b g i : Nat} {cs : Array Value} {T : TypeId} (h : AtC w g cs T) (hne : g ≠ b) (u : Value) : AtC (w.setCell ⟨b, i, none⟩ u) g cs T := by
  unfold AtC
  rw [Below.heap_setCell _ _ _ _ hne]
  exact h
theorem AtC.far4' {w : World} {b g : Nat} {cs : Array Value} {T : TypeId} (h : AtC w g cs T) (hne : g ≠ b) (u v t r : Value) : AtC (st4 w b u v t r) g cs T :=
  (((h.far1 hne u).far1 hne v).far1 hne t).far1 hne r
theorem nat_ne {w : World} {b x : Nat} {v : Value} {cs : Array Value} {T : TypeId} (h : isNat w v x) (hM : AtC w b cs T) (hT : T ≠ 173) : v.ownBlock ≠ some b := by
  unfold AtC at hM
  rcases h.2 with ⟨rfl, _⟩ | ⟨g1, c1, k1, rfl, _, hg1, _⟩
  · intro e; simp [Value.ownBlock] at e
  · intro e
    simp [Value.ownBlock] at e
    subst e
    rw [hg1] at hM
    simp at hM
    exact hT hM.2.symm
theorem nat_set1 {w : World} {b i x : Nat} {v : Value} (h : isNat w v x) (hne : v.ownBlock ≠ some b) (u : Value) : isNat (w.setCell ⟨b, i, none⟩ u) v x := by
  rcases h.2 with ⟨rfl, h0⟩ | ⟨g1, c1, k1, rfl, hb, hg1, r⟩
  · exact ⟨h.1, .inl ⟨rfl, h0⟩⟩
  · refine ⟨h.1, .inr ⟨g1, c1, k1, rfl, hb, ?_, r⟩⟩
    have : g1 ≠ b := fun e => hne (by rw [e]; rfl)
    rw [Below.heap_setCell _ _ _ _ this]
    exact hg1
theorem nat_set4 {w : World} {b x : Nat} {v : Value} (h : isNat w v x) (hne : v.ownBlock ≠ some b) (u0 u1 u2 u3 : Value) : isNat (st4 w b u0 u1 u2 u3) v x :=
  nat_set1 (nat_set1 (nat_set1 (nat_set1 h hne u0) hne u1) hne u2) hne u3
theorem below_st4 {B : Nat} {a w : World} (h : Below B a w) {b : Nat} (hb : B ≤ b) (u v t r : Value) : Below B a (st4 w b u v t r) :=
  (((h.setCell (p := ⟨b, 0, none⟩) hb u).setCell (p := ⟨b, 1, none⟩) hb v).setCell (p := ⟨b, 2, none⟩) hb t).setCell (p := ⟨b, 3, none⟩) hb r
abbrev FT : TypeId := 185
/-- a fraction in its box -/
def Fin' (w : World) (g : Nat) (n : Bool) (x q : Nat) : Prop := ∃ p c p' c', AtC w g #[.bool n, .slice p (gr x).length c, .bool false, .slice p' (gr q).length c'] FT ∧ isNat w (.slice p (gr x).length c) x ∧ isNat w (.slice p' (gr q).length c') q
section
variable {w : World} {n m : Bool} {x q y r : Nat} {p p' p2 p3 : Option Addr} {c c' c2 c3 : Nat}
theorem fin_alloc {g : Nat} (h : Fin' w g n x q) (o : Obj) : Fin' (w.alloc o) g n x q := by
  obtain ⟨p, c, p', c', h1, h2, h3⟩ := h
  exact ⟨p, c, p', c', h1.alloc o, isNat_below h2 (step_a (Below.refl _ _) o), isNat_below h3 (step_a (Below.refl _ _) o)⟩
theorem fin_new (h1 : isNat w (.slice p (gr x).length c) x) (h2 : isNat w (.slice p' (gr q).length c') q) : Fin' (w.alloc (.cells #[.bool n, .slice p (gr x).length c, .bool false, .slice p' (gr q).length c'] FT)) w.heap.size n x q :=
  ⟨p, c, p', c', AtC.new _ _ _, isNat_below h1 (step_a (Below.refl _ _) _), isNat_below h2 (step_a (Below.refl _ _) _)⟩
theorem fin_put {b : Nat} (hM : AtC w b zeroFr FT) (h1 : isNat w (.slice p (gr x).length c) x) (h2 : isNat w (.slice p' (gr q).length c') q) : Fin' (st4 w b (.bool n) (.slice p (gr x).length c) (.bool false) (.slice p' (gr q).length c')) b n x q :=
  ⟨p, c, p', c', hM.set4 _ _ _ _, nat_set4 h1 (nat_ne h1 hM (by decide)) _ _ _ _, nat_set4 h2 (nat_ne h2 hM (by decide)) _ _ _ _⟩
theorem fin_far {g b : Nat} (h : Fin' w g n x q) (hM : AtC w b zeroFr FT) (hne : g ≠ b) (u0 u1 u2 u3 : Value) : Fin' (st4 w b u0 u1 u2 u3) g n x q := by
  obtain ⟨p, c, p', c', h1, h2, h3⟩ := h
  exact ⟨p, c, p', c', h1.far4' hne _ _ _ _, nat_set4 h2 (nat_ne h2 hM (by decide)) _ _ _ _, nat_set4 h3 (nat_ne h3 hM (by decide)) _ _ _ _⟩
/-- behind the region: both fractions lie in boxes of their own -/
def MadeF (W : World) (n m : Bool) (x q y r : Nat) (s5 s6 : Value) (wx : World) : Prop :=
  ∃ g h, s5 = .pointer (some ⟨g, 0, none⟩) ∧ s6 = .pointer (some ⟨h, 0, none⟩) ∧ Fin' wx g n x q ∧ Fin' wx h m y r ∧ Below W.heap.size W wx
end
end Go.Proofs.YtpbnmhnbkfnaeaaGreatDoor
/- The program's NumCmp: the region that makes both fractions, by what holds whichever of its operations have been carried out. -/
namespace Go.Proofs.YtpbnmhnbkfnaeaaGreatDoor
open Go.RowKit Nt

/-- a fraction as a value -/
def FrV (w : World) (n : Bool) (x q : Nat) (v : Value) : Prop := ∃ p c p' c', v = .agg #[.bool n, .slice p (gr x).length c, .bool false, .slice p' (gr q).length c'] ∧ isNat w (.slice p (gr x).length c) x ∧ isNat w (.slice p' (gr q).length c') q
theorem FrV.below {w w' : World} {n : Bool} {x q : Nat} {v : Value} (h : FrV w n x q v) (hb : Below w.heap.size w w') : FrV w' n x q v := by
  obtain ⟨p, c, p', c', e, h1, h2⟩ := h
  exact ⟨p, c, p', c', e, isNat_below h1 hb, isNat_below h2 hb⟩
theorem FrV.st4 {w : World} {b : Nat} {n : Bool} {x q : Nat} {v : Value} (h : FrV w n x q v) (hM : AtC w b zeroFr FT) (u0 u1 u2 u3 : Value) : FrV (st4 w b u0 u1 u2 u3) n x q v := by
  obtain ⟨p, c, p', c', e, h1, h2⟩ := h
  exact ⟨p, c, p', c', e, nat_set4 h1 (nat_ne h1 hM (by decide)) _ _ _ _, nat_set4 h2 (nat_ne h2 hM (by decide)) _ _ _ _⟩
theorem fin_below {w w' : World} {g : Nat} {n : Bool} {x q : Nat} (h : Fin' w g n x q) (hb : Below w.heap.size w w') : Fin' w' g n x q := by
  obtain ⟨p, c, p', c', h1, h2, h3⟩ := h
  exact ⟨p, c, p', c', h1.below hb, isNat_below h2 hb, isNat_below h3 hb⟩
/-- a box: empty, or with its fraction -/
def Box (l : Array Bool) (k : Nat) (w : World) (g : Nat) (n : Bool) (x q : Nat) : Prop := (¬ LL l k ∧ AtC w g zeroFr FT) ∨ (LL l k ∧ Fin' w g n x q)
theorem Box.lt {l : Array Bool} {k g : Nat} {w : World} {n : Bool} {x q : Nat} (h : Box l k w g n x q) : g < w.heap.size := by
  rcases h with ⟨_, h⟩ | ⟨_, _, _, _, _, h, _⟩ <;> exact h.lt
theorem Box.below {l : Array Bool} {k g : Nat} {w w' : World} {n : Bool} {x q : Nat} (h : Box l k w g n x q) (hb : Below w.heap.size w w') : Box l k w' g n x q := by
  rcases h with ⟨e, h⟩ | ⟨e, h⟩
  · exact .inl ⟨e, h.below hb⟩
  · exact .inr ⟨e, fin_below h hb⟩
theorem Box.far {l : Array Bool} {k g b : Nat} {w : World} {n : Bool} {x q : Nat} (h : Box l k w g n x q) (hM : AtC w b zeroFr FT) (hne : g ≠ b) (u0 u1 u2 u3 : Value) : Box l k (st4 w b u0 u1 u2 u3) g n x q := by
  rcases h with ⟨e, h⟩ | ⟨e, h⟩
  · exact .inl ⟨e, h.far4' hne _ _ _ _⟩
  · exact .inr ⟨e, fin_far h hM hne _ _ _ _⟩
theorem Box.step {l l' : Array Bool} {k g : Nat} {w : World} {n : Bool} {x q : Nat} (h : Box l k w g n x q) (hk : LL l' k ↔ LL l k) : Box l' k w g n x q := by
  unfold Box at h ⊢
  rw [hk]; exact h
/-- the region's operations: 0 and 2 read the numbers, 1 and 3 make the fractions, 4 and 5 make the boxes, 6 and 7 fill them -/
structure NStep (W : World) (n1 n2 : Bool) (x1 y1 x2 y2 : Nat) (t0 t2 : Value) (l : Array Bool) (x : Nat → Value) (w : World) : Prop where
  sz : l.size = 8
  bl : Below W.heap.size W w
  v0 : LL l 0 → x 0 = t0
  v2 : LL l 2 → x 2 = t2
  f1 : LL l 1 → FrV w n1 x1 y1 (x 1)
  f3 : LL l 3 → FrV w n2 x2 y2 (x 3)
  c6 : LL l 6 → LL l 4
  c7 : LL l 7 → LL l 5
  b4 : LL l 4 → ∃ g, x 4 = .pointer (some ⟨g, 0, none⟩) ∧ W.heap.size ≤ g ∧ Box l 6 w g n1 x1 y1
  b5 : LL l 5 → ∃ g, x 5 = .pointer (some ⟨g, 0, none⟩) ∧ W.heap.size ≤ g ∧ Box l 7 w g n2 x2 y2
  ne : LL l 4 → LL l 5 → x 4 ≠ x 5
section
variable {W w w' : World} {n1 n2 : Bool} {x1 y1 x2 y2 : Nat} {t0 t2 u : Value} {l : Array Bool} {x : Nat → Value}
theorem NStep.start (n : l = Array.replicate 8 false) (h : Below W.heap.size W w) : NStep W n1 n2 x1 y1 x2 y2 t0 t2 l x w := by
  subst n
  have hn : ∀ j, ¬ LL (Array.replicate 8 false) j := fun j h => by unfold LL at h; simp [Array.getElem?_replicate] at h
  exact ⟨by simp, h, fun h => absurd h (hn _), fun h => absurd h (hn _), fun h => absurd h (hn _), fun h => absurd h (hn _), fun h => absurd h (hn _), fun h => absurd h (hn _), fun h => absurd h (hn _), fun h => absurd h (hn _), fun h => absurd h (hn _)⟩
/-- an operation but a store -/
theorem NStep.next (h : NStep W n1 n2 x1 y1 x2 y2 t0 t2 l x w) (i : Nat) (hi : i < 6) (hl : ¬ LL l i) (u : Value) (hb : Below w.heap.size w w')
    (h0 : i = 0 → u = t0) (h2 : i = 2 → u = t2) (h1 : i = 1 → FrV w' n1 x1 y1 u) (h3 : i = 3 → FrV w' n2 x2 y2 u)
    (h4 : (i = 4 ∨ i = 5) → u = .pointer (some ⟨w.heap.size, 0, none⟩) ∧ AtC w' w.heap.size zeroFr FT) :
    NStep W n1 n2 x1 y1 x2 y2 t0 t2 (l.setIfInBounds i true) (fun j => if j = i then u else x j) w' := by
  have hs := fun j => LL_set (l := l) (i := i) (by rw [h.sz]; omega) j
  have hk : ∀ {j}, j ≠ i → (LL (l.setIfInBounds i true) j ↔ LL l j) := fun {j} e => by rw [hs]; simp [e]
  have hx : ∀ {j}, j ≠ i → (if j = i then u else x j) = x j := fun {j} e => if_neg e
  have hB : Below W.heap.size W w' := step_b h.bl hb
  refine ⟨by simp [h.sz], hB, fun e => ?_, fun e => ?_, fun e => ?_, fun e => ?_, fun e => ?_, fun e => ?_, fun e => ?_, fun e => ?_, fun e e' => ?_⟩
  · by_cases c : i = 0
    · subst c; exact h0 rfl
    · rw [hx (Ne.symm c)]; exact h.v0 ((hk (Ne.symm c)).1 e)
  · by_cases c : i = 2
    · subst c; exact h2 rfl
    · rw [hx (Ne.symm c)]; exact h.v2 ((hk (Ne.symm c)).1 e)
  · by_cases c : i = 1
    · subst c; exact h1 rfl
    · rw [hx (Ne.symm c)]; exact (h.f1 ((hk (Ne.symm c)).1 e)).below hb
  · by_cases c : i = 3
    · subst c; exact h3 rfl
    · rw [hx (Ne.symm c)]; exact (h.f3 ((hk (Ne.symm c)).1 e)).below hb
  · exact (hs 4).2 (.inr (h.c6 ((hk (by omega)).1 e)))
  · exact (hs 5).2 (.inr (h.c7 ((hk (by omega)).1 e)))
  · by_cases c : i = 4
    · subst c
      obtain ⟨e1, e2⟩ := h4 (.inl rfl)
      exact ⟨w.heap.size, e1, h.bl.size, .inl ⟨fun q => hl (h.c6 ((hk (by omega)).1 q)), e2⟩⟩
    · rw [hx (Ne.symm c)]
      obtain ⟨g, e1, e2, e3⟩ := h.b4 ((hk (Ne.symm c)).1 e)
      exact ⟨g, e1, e2, (e3.below hb).step (hk (by omega))⟩
  · by_cases c : i = 5
    · subst c
      obtain ⟨e1, e2⟩ := h4 (.inr rfl)
      exact ⟨w.heap.size, e1, h.bl.size, .inl ⟨fun q => hl (h.c7 ((hk (by omega)).1 q)), e2⟩⟩
    · rw [hx (Ne.symm c)]
      obtain ⟨g, e1, e2, e3⟩ := h.b5 ((hk (Ne.symm c)).1 e)
      exact ⟨g, e1, e2, (e3.below hb).step (hk (by omega))⟩
  · by_cases c : i = 4
    · subst c
      obtain ⟨e1, _⟩ := h4 (.inl rfl)
      rw [hx (j := 5) (by omega)]
      obtain ⟨g, q1, _, q3⟩ := h.b5 ((hk (by omega)).1 e')
      rw [q1, if_pos rfl, e1]
      intro q; simp at q; have := q3.lt; omega
    · by_cases c' : i = 5
      · subst c'
        obtain ⟨e1, _⟩ := h4 (.inr rfl)
        rw [hx (j := 4) (by omega)]
        obtain ⟨g, q1, _, q3⟩ := h.b4 ((hk (by omega)).1 e)
        rw [q1, if_pos rfl, e1]
        intro q; simp at q; have := q3.lt; omega
      · rw [hx (Ne.symm c), hx (Ne.symm c')]
        exact h.ne ((hk (Ne.symm c)).1 e) ((hk (Ne.symm c')).1 e')
/-- what the first store finds, and what it leaves -/
theorem NStep.do6 (h : NStep W n1 n2 x1 y1 x2 y2 t0 t2 l x w) (hl : ¬ LL l 6) (h1 : LL l 1) (h4 : LL l 4) : ∃ g p c p' c', x 4 = .pointer (some ⟨g, 0, none⟩) ∧ AtC w g zeroFr FT ∧ x 1 = .agg #[.bool n1, .slice p (gr x1).length c, .bool false, .slice p' (gr y1).length c'] ∧
    NStep W n1 n2 x1 y1 x2 y2 t0 t2 (l.setIfInBounds 6 true) x (st4 w g (.bool n1) (.slice p (gr x1).length c) (.bool false) (.slice p' (gr y1).length c')) := by
  obtain ⟨g, e1, e2, e3⟩ := h.b4 h4
  obtain ⟨p, c, p', c', q1, q2, q3⟩ := h.f1 h1
  rcases e3 with ⟨_, e3⟩ | ⟨e, _⟩
  · have hs := fun j => LL_set (l := l) (i := 6) (by rw [h.sz]; omega) j
    have hk : ∀ {j}, j ≠ 6 → (LL (l.setIfInBounds 6 true) j ↔ LL l j) := fun {j} e => by rw [hs]; simp [e]
    refine ⟨g, p, c, p', c', e1, e3, q1, by simp [h.sz], below_st4 h.bl e2 _ _ _ _, fun e => h.v0 ((hk (by omega)).1 e), fun e => h.v2 ((hk (by omega)).1 e), fun e => (h.f1 ((hk (by omega)).1 e)).st4 e3 _ _ _ _, fun e => (h.f3 ((hk (by omega)).1 e)).st4 e3 _ _ _ _, fun _ => (hk (by omega)).2 h4, fun e => (hk (by omega)).2 (h.c7 ((hk (by omega)).1 e)), fun _ => ⟨g, e1, e2, .inr ⟨(hs 6).2 (.inl rfl), fin_put e3 q2 q3⟩⟩, fun e => ?_, fun e e' => h.ne ((hk (by omega)).1 e) ((hk (by omega)).1 e')⟩
    obtain ⟨g', r1, r2, r3⟩ := h.b5 ((hk (by omega)).1 e)
    exact ⟨g', r1, r2, (r3.far e3 (fun q => h.ne h4 ((hk (by omega)).1 e) (by rw [e1, r1, q])) _ _ _ _).step (hk (by omega))⟩
  · exact absurd e hl
theorem NStep.do7 (h : NStep W n1 n2 x1 y1 x2 y2 t0 t2 l x w) (hl : ¬ LL l 7) (h3 : LL l 3) (h5 : LL l 5) : ∃ g p c p' c', x 5 = .pointer (some ⟨g, 0, none⟩) ∧ AtC w g zeroFr FT ∧ x 3 = .agg #[.bool n2, .slice p (gr x2).length c, .bool false, .slice p' (gr y2).length c'] ∧
    NStep W n1 n2 x1 y1 x2 y2 t0 t2 (l.setIfInBounds 7 true) x (st4 w g (.bool n2) (.slice p (gr x2).length c) (.bool false) (.slice p' (gr y2).length c')) := by
  obtain ⟨g, e1, e2, e3⟩ := h.b5 h5
  obtain ⟨p, c, p', c', q1, q2, q3⟩ := h.f3 h3
  rcases e3 with ⟨_, e3⟩ | ⟨e, _⟩
  · have hs := fun j => LL_set (l := l) (i := 7) (by rw [h.sz]; omega) j
    have hk : ∀ {j}, j ≠ 7 → (LL (l.setIfInBounds 7 true) j ↔ LL l j) := fun {j} e => by rw [hs]; simp [e]
    refine ⟨g, p, c, p', c', e1, e3, q1, by simp [h.sz], below_st4 h.bl e2 _ _ _ _, fun e => h.v0 ((hk (by omega)).1 e), fun e => h.v2 ((hk (by omega)).1 e), fun e => (h.f1 ((hk (by omega)).1 e)).st4 e3 _ _ _ _, fun e => (h.f3 ((hk (by omega)).1 e)).st4 e3 _ _ _ _, fun e => (hk (by omega)).2 (h.c6 ((hk (by omega)).1 e)), fun _ => (hk (by omega)).2 h5, fun e => ?_, fun _ => ⟨g, e1, e2, .inr ⟨(hs 7).2 (.inl rfl), fin_put e3 q2 q3⟩⟩, fun e e' => h.ne ((hk (by omega)).1 e) ((hk (by omega)).1 e')⟩
    obtain ⟨g', r1, r2, r3⟩ := h.b4 ((hk (by omega)).1 e)
    exact ⟨g', r1, r2, (r3.far e3 (fun q => h.ne ((hk (by omega)).1 e) h5 (by rw [e1, r1, q])) _ _ _ _).step (hk (by omega))⟩
  · exact absurd e hl
/-- behind the region -/
theorem NStep.done (h : NStep W n1 n2 x1 y1 x2 y2 t0 t2 l x w) (h6 : LL l 6) (h7 : LL l 7) : MadeF W n1 n2 x1 y1 x2 y2 (x 4) (x 5) w := by
  obtain ⟨g, e1, _, e3⟩ := h.b4 (h.c6 h6)
  obtain ⟨g', r1, _, r3⟩ := h.b5 (h.c7 h7)
  rcases e3 with ⟨e, _⟩ | ⟨_, e3⟩
  · exact absurd h6 e
  rcases r3 with ⟨e, _⟩ | ⟨_, r3⟩
  · exact absurd h7 e
  exact ⟨g, g', e1, r1, e3, r3, h.bl⟩
end
end Go.Proofs.YtpbnmhnbkfnaeaaGreatDoor
/- The specification's NumCmp; nodes held against each other. -/
namespace Go.Proofs.YtpbnmhnbkfnaeaaGreatDoor
open Go.RowKit Nt

def smallT (t : T3) : Prop := t.2.1.length ≤ 1000 ∧ t.2.2.length ≤ 1000
theorem cmpT_no {a b : T3} (h : (okT a && okT b) = false) : cmpT a b = 0 := by unfold cmpT; rw [h]; rfl
theorem cmpT_yes {a b : T3} (ha : okT a = true) (hb : okT b = true) : cmpT a b = cmpRt (valT a) (valT b) := by unfold cmpT; rw [ha, hb]; rfl
theorem ok_T {t : T3} (h : okT t = true) : ∃ n x y, t = putT (n, x, y) ∧ valT t = (n, x, y) ∧ (dec x).size ≤ 60 ∧ (dec y).size ≤ 60 ∧ 0 < y ∧ (n = true → x ≠ 0) := by
  have h1 := putT_val h
  obtain ⟨n, x, y, hv⟩ : ∃ n x y, valT t = (n, x, y) := ⟨_, _, _, rfl⟩
  rw [hv] at h1
  obtain ⟨p1, p2, p3, p4, p5, p6, _⟩ := ok_parts h
  rw [← h1] at p3 p4 p5 p6
  simp only [putT, valDec_txl] at p3 p4 p5 p6
  exact ⟨n, x, y, h1.symm, hv, by rw [dec_len]; exact p3, by rw [dec_len]; exact p4, by omega, p6⟩

set_option maxRecDepth 100000 in
set_option maxHeartbeats 4000000 in
theorem specNumCmp_c (a b : T3) (w : World) (ha : smallT a) (hb : smallT b) :
    Calls Tryz.prog 102 #[numT a, numT b] w fun e w' => e = .returned (.int .i64 (cmpT a b)) ∧ Below w.heap.size w w' := by
  obtain ⟨n1, u1, d1⟩ := a
  obtain ⟨n2, u2, d2⟩ := b
  obtain ⟨ha1, ha2⟩ := ha
  obtain ⟨hb1, hb2⟩ := hb
  simp only at ha1 ha2 hb1 hb2
  have HB := hide (below_two w (.bool n1) (.string (B u1)) (.string (B d1)) (.bool n2) (.string (B u2)) (.string (B d2)) 79)
  have HA1 := hide ((AtC3.new w (.bool n1) (.string (B u1)) (.string (B d1)) 79).below (step_a (Below.refl _ _) (.cells #[.bool n2, .string (B u2), .string (B d2)] 79)))
  have HA2 := hide (AtC3.new (w.alloc (.cells #[.bool n1, .string (B u1), .string (B d1)] 79)) (.bool n2) (.string (B u2)) (.string (B d2)) 79)
  rw [World.size_alloc] at HA2
  have H1 := hide (fun W => specNumOk_c n1 u1 d1 W (by omega) (by omega))
  have H2 := hide (fun W => specNumOk_c n2 u2 d2 W (by omega) (by omega))
  have HR := hide (fun (h : (okM n1 u1 d1 && okM n2 u2 d2) = false) => cmpT_no (a := (n1, u1, d1)) (b := (n2, u2, d2)) h)
  have HY := hide (fun (h : okM n1 u1 d1 = true) (h' : okM n2 u2 d2 = true) => cmpT_yes (a := (n1, u1, d1)) (b := (n2, u2, d2)) h h')
  have HT1 := hide (fun (h : okM n1 u1 d1 = true) => ok_T (t := (n1, u1, d1)) h)
  have HT2 := hide (fun (h : okM n2 u2 d2 = true) => ok_T (t := (n2, u2, d2)) h)
  unfold numB at H1 H2
  show Calls Tryz.prog 102 #[.agg #[.bool n1, .string (B u1), .string (B d1)], .agg #[.bool n2, .string (B u2), .string (B d2)]] w _
  clear ha1 ha2 hb1 hb2
  go_enter Tryz.func102, Tryz.ntmps102
  go_wp2_with fail
  obtain ⟨W, hW⟩ : ∃ W, (w.alloc (.cells #[.bool n1, .string (B u1), .string (B d1)] 79)).alloc (.cells #[.bool n2, .string (B u2), .string (B d2)] 79) = W := ⟨_, rfl⟩
  rw [hW] at HB HA1 HA2 ⊢
  clear hW
  refine (unhide H1 W).mono ?_
  rintro e w1 ⟨rfl, hb1⟩
  have HB1 := hide (step_b (unhide HB) hb1)
  have HC1 := hide ((unhide HA1).below hb1)
  have HC2 := hide ((unhide HA2).below hb1)
  clear hb1 HB HA1 HA2
  cases ho1 : okM n1 u1 d1 with
  | false =>
    have HQ := hide (unhide HR (by rw [ho1]; rfl))
    clear ho1
    go_wp2_with fail
    go_ret
    exact ⟨ret_int (unhide HQ).symm, unhide HB1⟩
  | true =>
    have q0 := (unhide HC2).n0
    have q1 := (unhide HC2).n1
    have q2 := (unhide HC2).n2
    go_wp2_with fail
    refine (unhide H2 w1).mono ?_
    rintro e w2 ⟨rfl, hb2⟩
    have HB2 := hide (step_b (unhide HB1) hb2)
    have HD1 := hide ((unhide HC1).below hb2)
    have HD2 := hide ((unhide HC2).below hb2)
    clear hb2 HB1 HC1 HC2 q0 q1 q2
    cases ho2 : okM n2 u2 d2 with
    | false =>
      have HQ := hide (unhide HR (by rw [ho1, ho2]; rfl))
      clear ho1 ho2
      go_wp2_with fail
      go_ret
      exact ⟨ret_int (unhide HQ).symm, unhide HB2⟩
    | true =>
      have HQ := unhide HY ho1 ho2
      obtain ⟨m1, x1, y1, e1, v1, s1, s2, s3, s4⟩ := unhide HT1 ho1
      obtain ⟨m2, x2, y2, e2, v2, s5, s6, s7, s8⟩ := unhide HT2 ho2
      rw [v1, v2] at HQ
      have HQ := hide HQ
      unfold putT at e1 e2
      simp only [Prod.mk.injEq] at e1 e2
      obtain ⟨rfl, rfl, rfl⟩ := e1
      obtain ⟨rfl, rfl, rfl⟩ := e2
      have q0 := (unhide HD2).n0
      have q1 := (unhide HD2).n1
      have q2 := (unhide HD2).n2
      have p0 := (unhide HD1).n0
      have p1 := (unhide HD1).n1
      have p2 := (unhide HD1).n2
      clear ho1 ho2 v1 v2 HY HR HT1 HT2
      go_wp2_with fail
      refine (l3Cmp_c n1 n2 x1 y1 x2 y2 w2 s1 s2 s5 s6 s3 s7 s4 s8).mono ?_
      rintro e w3 ⟨rfl, hb3⟩
      have HB3 := hide (step_b (unhide HB2) hb3)
      clear hb3
      go_wp2_with fail
      go_ret
      exact ⟨ret_int (unhide HQ).symm, unhide HB3⟩
end Go.Proofs.YtpbnmhnbkfnaeaaGreatDoor
/- The program's NumCmp. -/
namespace Go.Proofs.YtpbnmhnbkfnaeaaGreatDoor
open Go.RowKit Nt

theorem cell_drew (w : World) (a : Addr) : w.drew.cell? a = w.cell? a := rfl
theorem frac_s (neg : Bool) (a q : Nat) (w : World) (ha : (dec a).size ≤ 60) (hq : (dec q).size ≤ 60) (hT : Tens w) :
    Calls Tryz.prog 160 #[.agg #[.bool neg, .string (dec a), .string (dec q)]] w fun e w' => (∃ p c p' c', e = .returned (.agg #[.bool neg, .slice p (gr a).length c, .bool false, .slice p' (gr q).length c']) ∧ isNat w' (.slice p (gr a).length c) a ∧ isNat w' (.slice p' (gr q).length c') q) ∧ Below w.heap.size w w' := by
  refine (fractionOf_c neg a q w ha hq hT).mono ?_
  rintro e w' ⟨⟨v, u, rfl, hv, hu⟩, hb⟩
  obtain ⟨p, c, rfl⟩ := own_slice hv
  obtain ⟨p', c', rfl⟩ := own_slice hu
  exact ⟨⟨p, c, p', c', rfl, hv.nat, hu.nat⟩, hb⟩

theorem cmpRt_sgW (n1 n2 : Bool) (x1 y1 x2 y2 : Nat) : sgW (plusW (n1, x1 * y2) (!n2, x2 * y1)) = cmpRt (n1, x1, y1) (n2, x2, y2) := by
  rw [sgW_sgn, plusW_sgn, sgn_mul, sgn_mul, sgn_not, Int.neg_mul]
  rfl
set_option maxRecDepth 100000 in
set_option maxHeartbeats 16000000 in
theorem numCmp_yes (n1 n2 : Bool) (x1 y1 x2 y2 : Nat) (w : World) (sx1 : (dec x1).size ≤ 60) (sy1 : (dec y1).size ≤ 60) (sx2 : (dec x2).size ≤ 60) (sy2 : (dec y2).size ≤ 60) (hT : Tens w) (h3 : 3 < w.heap.size)
    (ho1 : okM n1 (txl 10 x1) (txl 10 y1) = true) (ho2 : okM n2 (txl 10 x2) (txl 10 y2) = true) :
    Calls Tryz.prog 129 #[.agg #[.bool n1, .string (dec x1), .string (dec y1)], .agg #[.bool n2, .string (dec x2), .string (dec y2)]] w fun e w' => e = .returned (.int .i64 (cmpRt (n1, x1, y1) (n2, x2, y2))) ∧ Below w.heap.size w w' := by
  obtain ⟨R, hR⟩ : ∃ R, cmpRt (n1, x1, y1) (n2, x2, y2) = R := ⟨_, rfl⟩
  rw [hR]
  have HCR := hide hR
  clear hR
  have HO1 := hide (fun W h => (by have := implNumOk_c n1 (txl 10 x1) (txl 10 y1) W (by rw [← dec_len]; omega) (by rw [← dec_len]; omega) h; rw [ho1] at this; exact this : Calls Tryz.prog 159 #[.agg #[.bool n1, .string (dec x1), .string (dec y1)]] W fun e w' => e = .returned (.bool true) ∧ Below W.heap.size W w'))
  have HO2 := hide (fun W h => (by have := implNumOk_c n2 (txl 10 x2) (txl 10 y2) W (by rw [← dec_len]; omega) (by rw [← dec_len]; omega) h; rw [ho2] at this; exact this : Calls Tryz.prog 159 #[.agg #[.bool n2, .string (dec x2), .string (dec y2)]] W fun e w' => e = .returned (.bool true) ∧ Below W.heap.size W w'))
  have HF1 := hide (fun W h => frac_s n1 x1 y1 W sx1 sy1 h)
  have HF2 := hide (fun W h => frac_s n2 x2 y2 W sx2 sy2 h)
  have HSX := hide (And.intro sx1 (And.intro sy1 (And.intro sx2 sy2)))
  have HTL := hide h3
  have hb00 := below_two w (.bool n1) (.string (dec x1)) (.string (dec y1)) (.bool n2) (.string (dec x2)) (.string (dec y2)) 79
  have HB0 := hide hb00
  have HA10 := hide ((AtC3.new w (.bool n1) (.string (dec x1)) (.string (dec y1)) 79).below (step_a (Below.refl _ _) (.cells #[.bool n2, .string (dec x2), .string (dec y2)] 79)))
  have HA20 := hide (AtC3.new (w.alloc (.cells #[.bool n1, .string (dec x1), .string (dec y1)] 79)) (.bool n2) (.string (dec x2)) (.string (dec y2)) 79)
  rw [World.size_alloc] at HA20
  clear ho1 ho2 sx1 sy1 sx2 sy2 hb00
  go_enter Tryz.func129, Tryz.ntmps129
  go_wp2_with fail
  obtain ⟨W0, hW⟩ : ∃ W, (w.alloc (.cells #[.bool n1, .string (dec x1), .string (dec y1)] 79)).alloc (.cells #[.bool n2, .string (dec x2), .string (dec y2)] 79) = W := ⟨_, rfl⟩
  rw [hW] at HB0 HA10 HA20 ⊢
  clear hW
  refine (unhide HO1 W0 (hT.belowB (unhide HB0) h3)).mono ?_
  rintro e Wa ⟨rfl, hba⟩
  have HBa := hide (step_b (unhide HB0) hba)
  have HA1a := hide ((unhide HA10).below hba)
  have HA2a := hide ((unhide HA20).below hba)
  have r0 := (unhide HA2a).n0
  have r1 := (unhide HA2a).n1
  have r2 := (unhide HA2a).n2
  clear hba
  go_wp2_with fail
  refine (unhide HO2 Wa (hT.belowB (unhide HBa) h3)).mono ?_
  rintro e W ⟨rfl, hbb⟩
  have HB := hide (step_b (unhide HBa) hbb)
  have HA1 := hide ((unhide HA1a).below hbb)
  have HA2 := hide ((unhide HA2a).below hbb)
  have HT := hide (hT.belowB (unhide HB) h3)
  have HTL2 : Hid (3 < W.heap.size) := hide (by have := (unhide HB).size; omega)
  clear hbb r0 r1 r2 HTL hT h3 HBa HA1a HA2a HB0 HA10 HA20
  have HTL := HTL2
  have a0 := (unhide HA1).n0
  have a1 := (unhide HA1).n1
  have a2 := (unhide HA1).n2
  have a3 := (unhide HA2).n0
  have a4 := (unhide HA2).n1
  have a5 := (unhide HA2).n2
  have HSIX : Hid (∀ w', Below W.heap.size W w' → w'.cell? ⟨w.heap.size, 0, none⟩ = some (.bool n1) ∧ w'.cell? ⟨w.heap.size, 1, none⟩ = some (.string (dec x1)) ∧ w'.cell? ⟨w.heap.size, 2, none⟩ = some (.string (dec y1)) ∧ w'.cell? ⟨w.heap.size + 1, 0, none⟩ = some (.bool n2) ∧ w'.cell? ⟨w.heap.size + 1, 1, none⟩ = some (.string (dec x2)) ∧ w'.cell? ⟨w.heap.size + 1, 2, none⟩ = some (.string (dec y2))) := hide (fun w' h => ⟨((unhide HA1).below h).n0, ((unhide HA1).below h).n1, ((unhide HA1).below h).n2, ((unhide HA2).below h).n0, ((unhide HA2).below h).n1, ((unhide HA2).below h).n2⟩)
  go_wp2_with fail
  go_cut [5, 6] from 15 to 18 (fun s5 s6 wx => MadeF W n1 n2 x1 y1 x2 y2 s5 s6 wx)
  case first =>
    refine wp_region_any (by kernel_rfl) ?_
    change wpAny _ _ _ _ _ _ _ (World.drew _)
    refine wpAny_inv (fun l a w' => ∃ x : Nat → Value, a = ⟨#[.agg #[.bool n1, .string (dec x1), .string (dec y1)], .agg #[.bool n2, .string (dec x2), .string (dec y2)], .pointer (some ⟨w.heap.size, 0, none⟩), .pointer (some ⟨w.heap.size + 1, 0, none⟩), .int .i64 0, x 4, x 5, .agg #[.bool n1, .string (dec x1), .string (dec y1)], .bool true, .bool false, .bool false, .agg #[.bool n2, .string (dec x2), .string (dec y2)], .bool true, .bool false, .bool false, x 0, x 1, x 2, x 3, undef, undef, undef, undef, undef, undef, undef, undef, undef, undef, undef], []⟩ ∧ NStep W n1 n2 x1 y1 x2 y2 (.agg #[.bool n1, .string (dec x1), .string (dec y1)]) (.agg #[.bool n2, .string (dec x2), .string (dec y2)]) l x w') ?hsz ?hend ?hstep ?hgo _ _ _ _ ?h0 ?hc
    case hsz =>
      rintro l a w' ⟨x, _, h⟩
      exact h.sz
    case h0 => exact ⟨fun _ => undef, rfl, NStep.start rfl (Below.refl _ _).drew⟩
    case hc => exact Nat.le_of_eq rfl
    case hgo =>
      rintro l a w' ⟨x, rfl, h⟩ hr j hj
      have k0 : l[0]? = some true := LL_ready hr 0 (by simp) (by rw [h.sz]; rfl) (by simp [Region.binds, Array.getD_eq_getD_getElem?])
      have k2 : l[2]? = some true := LL_ready hr 2 (by simp) (by rw [h.sz]; rfl) (by simp [Region.binds, Array.getD_eq_getD_getElem?])
      have k4 : l[4]? = some true := LL_ready hr 4 (by simp) (by rw [h.sz]; rfl) (by simp [Region.binds, Array.getD_eq_getD_getElem?])
      have k5 : l[5]? = some true := LL_ready hr 5 (by simp) (by rw [h.sz]; rfl) (by simp [Region.binds, Array.getD_eq_getD_getElem?])
      have k1 : l[1]? = some true := LL_ready hr 1 (by simp) (by rw [h.sz]; rfl) (by simp [Region.binds, Array.getD_eq_getD_getElem?, k0])
      have k3 : l[3]? = some true := LL_ready hr 3 (by simp) (by rw [h.sz]; rfl) (by simp [Region.binds, Array.getD_eq_getD_getElem?, k2, k1])
      have k6 : l[6]? = some true := LL_ready hr 6 (by simp) (by rw [h.sz]; rfl) (by simp [Region.binds, Array.getD_eq_getD_getElem?, k0, k2, k4, k5, k1, k3])
      have k7 : l[7]? = some true := LL_ready hr 7 (by simp) (by rw [h.sz]; rfl) (by simp [Region.binds, Array.getD_eq_getD_getElem?, k0, k2, k4, k5, k1, k3, k6])
      have hj : j < 8 := by simpa using hj
      rcases (by omega : j = 0 ∨ j = 1 ∨ j = 2 ∨ j = 3 ∨ j = 4 ∨ j = 5 ∨ j = 6 ∨ j = 7) with rfl | rfl | rfl | rfl | rfl | rfl | rfl | rfl
      all_goals assumption
    case hstep =>
      rintro l a w' j ⟨x, rfl, h⟩ hi
      have hi2 := hi
      unfold Region.ready at hi2
      rw [List.mem_filter] at hi2
      obtain ⟨hjj, hi3⟩ := hi2
      have hjj : j < 8 := by simpa using hjj
      have hjl : ¬ LL l j := fun e => by
        unfold LL at e
        simp [Array.getD_eq_getD_getElem?, e] at hi3
      clear hi
      rcases (by omega : j = 0 ∨ j = 1 ∨ j = 2 ∨ j = 3 ∨ j = 4 ∨ j = 5 ∨ j = 6 ∨ j = 7) with rfl | rfl | rfl | rfl | rfl | rfl | rfl | rfl
      · clear hi3
        obtain ⟨y0, y1', y2', z0, z1, z2⟩ := (unhide HSIX) w' h.bl
        refine wpOp_step rfl (fun K hK => ?_)
        go_simp
        exact hK _ _ ⟨_, by simp, h.next 0 (by omega) hjl (.agg #[.bool n1, .string (dec x1), .string (dec y1)]) (Below.refl _ _) (fun _ => rfl) (fun e => by omega) (fun e => by omega) (fun e => by omega) (fun e => by omega)⟩
      · have l0 : LL l 0 := LL_of (by simp [Region.binds, Array.getD_eq_getD_getElem?] at hi3; simp [hi3])
        clear hi3
        have x0' := h.v0 l0
        refine wpOp_step rfl (fun K hK => ?_)
        go_simp
        go_at_call 160
        refine (unhide HF1 w' ((unhide HT).belowB h.bl (unhide HTL))).mono ?_
        rintro e w1 ⟨⟨p, c, p', c', rfl, hv, hu⟩, hb⟩
        (try dsimp only)
        exact hK _ _ ⟨_, by simp [x0'], h.next 1 (by omega) hjl _ hb (fun e => by omega) (fun e => by omega) (fun _ => ⟨p, c, p', c', rfl, hv, hu⟩) (fun e => by omega) (fun e => by omega)⟩
      · clear hi3
        obtain ⟨y0, y1', y2', z0, z1, z2⟩ := (unhide HSIX) w' h.bl
        refine wpOp_step rfl (fun K hK => ?_)
        go_simp
        exact hK _ _ ⟨_, by simp, h.next 2 (by omega) hjl (.agg #[.bool n2, .string (dec x2), .string (dec y2)]) (Below.refl _ _) (fun e => by omega) (fun _ => rfl) (fun e => by omega) (fun e => by omega) (fun e => by omega)⟩
      · have l2 : LL l 2 := LL_of (by simp [Region.binds, Array.getD_eq_getD_getElem?] at hi3; simp [hi3])
        clear hi3
        have x2' := h.v2 l2
        refine wpOp_step rfl (fun K hK => ?_)
        go_simp
        go_at_call 160
        refine (unhide HF2 w' ((unhide HT).belowB h.bl (unhide HTL))).mono ?_
        rintro e w1 ⟨⟨p, c, p', c', rfl, hv, hu⟩, hb⟩
        (try dsimp only)
        exact hK _ _ ⟨_, by simp [x2'], h.next 3 (by omega) hjl _ hb (fun e => by omega) (fun e => by omega) (fun e => by omega) (fun _ => ⟨p, c, p', c', rfl, hv, hu⟩) (fun e => by omega)⟩
      · clear hi3
        refine wpOp_step rfl (fun K hK => ?_)
        go_simp
        exact hK _ _ ⟨_, by simp, h.next 4 (by omega) hjl (.pointer (some ⟨w'.heap.size, 0, none⟩)) (step_a (Below.refl _ _) noFr) (fun e => by omega) (fun e => by omega) (fun e => by omega) (fun e => by omega) (fun _ => ⟨rfl, AtC.new _ _ _⟩)⟩
      · clear hi3
        refine wpOp_step rfl (fun K hK => ?_)
        go_simp
        exact hK _ _ ⟨_, by simp, h.next 5 (by omega) hjl (.pointer (some ⟨w'.heap.size, 0, none⟩)) (step_a (Below.refl _ _) noFr) (fun e => by omega) (fun e => by omega) (fun e => by omega) (fun e => by omega) (fun _ => ⟨rfl, AtC.new _ _ _⟩)⟩
      · have l1 : LL l 1 := LL_of (by simp [Region.binds, Array.getD_eq_getD_getElem?] at hi3; simp [hi3])
        have l4 : LL l 4 := LL_of (by simp [Region.binds, Array.getD_eq_getD_getElem?] at hi3; simp [hi3])
        clear hi3
        obtain ⟨g, p, c, p', c', e5, hM, e1, hn⟩ := h.do6 hjl l1 l4
        have m0 := hM.m0
        have m1 := hM.m1
        have m2 := hM.m2
        have m3 := hM.m3
        have mf := hM.f
        have HN := hide hn
        clear hM hn
        refine wpOp_step rfl (fun K hK => ?_)
        go_simp
        exact hK _ _ ⟨_, by simp [e1, e5], unhide HN⟩
      · have l3 : LL l 3 := LL_of (by simp [Region.binds, Array.getD_eq_getD_getElem?] at hi3; simp [hi3])
        have l5 : LL l 5 := LL_of (by simp [Region.binds, Array.getD_eq_getD_getElem?] at hi3; simp [hi3])
        clear hi3
        obtain ⟨g, p, c, p', c', e5, hM, e1, hn⟩ := h.do7 hjl l3 l5
        have m0 := hM.m0
        have m1 := hM.m1
        have m2 := hM.m2
        have m3 := hM.m3
        have mf := hM.f
        have HN := hide hn
        clear hM hn
        refine wpOp_step rfl (fun K hK => ?_)
        go_simp
        exact hK _ _ ⟨_, by simp [e1, e5], unhide HN⟩
    case hend =>
      rintro l a w' ⟨x, rfl, h⟩ hall
      have HD := hide (h.done (hall 6 (by simp)) (hall 7 (by simp)))
      clear h hall
      go_wp2_with fail
      go_meet
      exact unhide HD
  case rest =>
  obtain ⟨g, h, rfl, rfl, ⟨p1, c1, q1, e1, hM1, v1, u1⟩, ⟨p2, c2, q2, e2, hM2, v2, u2⟩, hb⟩ := hcut
  rename World => w3
  have HB3 := hide (step_b (unhide HB) hb)
  have HG := hide hM1
  have HH := hide hM2
  have HV1 := hide v1
  have HU1 := hide u1
  have HV2 := hide v2
  have HU2 := hide u2
  have a0 := hM1.m0
  have a1 := hM1.m1
  have a2 := hM1.m2
  have a3 := hM1.m3
  have b0 := hM2.m0
  have b1 := hM2.m1
  have b2 := hM2.m2
  have b3 := hM2.m3
  have HE8 : Hid (∀ w', Below w3.heap.size w3 w' → w'.cell? ⟨g, 0, none⟩ = some (.bool n1) ∧ w'.cell? ⟨g, 1, none⟩ = some (.slice p1 (gr x1).length c1) ∧ w'.cell? ⟨g, 2, none⟩ = some (.bool false) ∧ w'.cell? ⟨g, 3, none⟩ = some (.slice q1 (gr y1).length e1) ∧ w'.cell? ⟨h, 0, none⟩ = some (.bool n2) ∧ w'.cell? ⟨h, 1, none⟩ = some (.slice p2 (gr x2).length c2) ∧ w'.cell? ⟨h, 2, none⟩ = some (.bool false) ∧ w'.cell? ⟨h, 3, none⟩ = some (.slice q2 (gr y2).length e2)) := hide (fun w' hb => ⟨(hM1.below hb).m0, (hM1.below hb).m1, (hM1.below hb).m2, (hM1.below hb).m3, (hM2.below hb).m0, (hM2.below hb).m1, (hM2.below hb).m2, (hM2.below hb).m3⟩)
  obtain ⟨sx1, sy1, sx2, sy2⟩ := unhide HSX
  have d1 := dec_gr (dec_prod sx1 sy2)
  have d2 := dec_gr (dec_prod sx2 sy1)
  have g1 := dec_gr sx1
  have g2 := dec_gr sy1
  have g3 := dec_gr sx2
  have g4 := dec_gr sy2
  have HT1 : Hid (∀ W, Below w3.heap.size w3 W → Calls Tryz.prog 161 #[wholeV n1 (.slice p1 (gr x1).length c1), wholeV false (.slice q2 (gr y2).length e2)] W fun e w' => (∃ p c, e = .returned (.agg #[.bool n1, .slice p (gr (x1 * y2)).length c]) ∧ isNat w' (.slice p (gr (x1 * y2)).length c) (x1 * y2)) ∧ Below W.heap.size W w') := hide (fun W hb => by have := wTimes_s n1 false _ _ x1 y2 W (isNat_below v1 hb) (isNat_below u2 hb) (by omega) (by omega); simpa only [Bool.bne_false] using this)
  have HT2 : Hid (∀ W, Below w3.heap.size w3 W → Calls Tryz.prog 161 #[wholeV n2 (.slice p2 (gr x2).length c2), wholeV false (.slice q1 (gr y1).length e1)] W fun e w' => (∃ p c, e = .returned (.agg #[.bool n2, .slice p (gr (x2 * y1)).length c]) ∧ isNat w' (.slice p (gr (x2 * y1)).length c) (x2 * y1)) ∧ Below W.heap.size W w') := hide (fun W hb => by have := wTimes_s n2 false _ _ x2 y1 W (isNat_below v2 hb) (isNat_below u1 hb) (by omega) (by omega); simpa only [Bool.bne_false] using this)
  have HWC : Hid (∀ W v u, isNat W v (x1 * y2) → isNat W u (x2 * y1) → Calls Tryz.prog 162 #[wholeV n1 v, wholeV n2 u] W fun e w' => e = .returned (.int .i64 R) ∧ Below W.heap.size W w') := hide (fun W v u hv hu => by rw [← unhide HCR, ← cmpRt_sgW]; exact wCmp_c n1 n2 v u (x1 * y2) (x2 * y1) W hv hu (by omega) (by omega))
  clear hb hM1 hM2 v1 u1 v2 u2 sx1 sy1 sx2 sy2 d1 d2 g1 g2 g3 g4 HSX HSIX HCR
  obtain ⟨lx1, hl1⟩ : ∃ l, (gr x1).length = l := ⟨_, rfl⟩
  obtain ⟨ly1, hl2⟩ : ∃ l, (gr y1).length = l := ⟨_, rfl⟩
  obtain ⟨lx2, hl3⟩ : ∃ l, (gr x2).length = l := ⟨_, rfl⟩
  obtain ⟨ly2, hl4⟩ : ∃ l, (gr y2).length = l := ⟨_, rfl⟩
  obtain ⟨lm1, hl5⟩ : ∃ l, (gr (x1 * y2)).length = l := ⟨_, rfl⟩
  obtain ⟨lm2, hl6⟩ : ∃ l, (gr (x2 * y1)).length = l := ⟨_, rfl⟩
  rw [hl1] at HE8 HT1 a1
  rw [hl2] at HE8 HT2 a3
  rw [hl3] at HE8 HT2 b1
  rw [hl4] at HE8 HT1 b3
  rw [hl5] at HT1
  rw [hl6] at HT2
  clear hl1 hl2 hl3 hl4 hl5 hl6 HG HH HV1 HU1 HV2 HU2
  go_wp2_with fail
  go_region_held3 (fun w' => w'.cell? ⟨g, 0, none⟩ = some (.bool n1) ∧ w'.cell? ⟨g, 1, none⟩ = some (.slice p1 lx1 c1) ∧ w'.cell? ⟨g, 2, none⟩ = some (.bool false) ∧ w'.cell? ⟨g, 3, none⟩ = some (.slice q1 ly1 e1) ∧ w'.cell? ⟨h, 0, none⟩ = some (.bool n2) ∧ w'.cell? ⟨h, 1, none⟩ = some (.slice p2 lx2 c2) ∧ w'.cell? ⟨h, 2, none⟩ = some (.bool false) ∧ w'.cell? ⟨h, 3, none⟩ = some (.slice q2 ly2 e2)) ((refine unhide HE8 _ ?_; first | with_reducible exact unhide HK3 | with_reducible exact unhide HK2 | with_reducible exact unhide HK1 | exact (Below.refl _ _).drew | exact Below.refl _ _)) (first
    | (go_at_call_of 161 (Value.slice p1 lx1 c1); refine (unhide HT1 w3.drew (Below.refl _ _).drew).mono ?_; rintro e w4 ⟨⟨r1, k1, rfl, hv1⟩, hb1⟩; have HK1 : Hid (Below w3.heap.size w3 w4) := hide ((Below.refl _ _).drew.trans hb1); have HV1 := hide hv1; clear hb1 hv1)
    | (go_at_call_of 161 (Value.slice p2 lx2 c2); refine (unhide HT2 w4 (unhide HK1)).mono ?_; rintro e w5 ⟨⟨r2, k2, rfl, hv2⟩, hb2⟩; have HK2 : Hid (Below w3.heap.size w3 w5) := hide (step_b (unhide HK1) hb2); have HV2 := hide hv2; have HV1' := hide (isNat_below (unhide HV1) hb2); clear hb2 hv2)
    | (go_at_call 162; refine (unhide HWC w5 _ _ (unhide HV1') (unhide HV2)).mono ?_; rintro e w6 ⟨rfl, hb3⟩; have HK3 : Hid (Below w3.heap.size w3 w6) := hide (step_b (unhide HK2) hb3); clear hb3))
  all_goals
    go_wp2_with fail
    go_ret
    exact ⟨rfl, step_b (unhide HB3) (unhide HK3)⟩
end Go.Proofs.YtpbnmhnbkfnaeaaGreatDoor
/- The program's NumCmp. -/
namespace Go.Proofs.YtpbnmhnbkfnaeaaGreatDoor
open Go.RowKit Nt

set_option maxRecDepth 100000 in
set_option maxHeartbeats 4000000 in
theorem implNumCmp_c (a b : T3) (w : World) (ha : smallT a) (hb : smallT b) (hT : Tens w) (h3 : 3 < w.heap.size) :
    Calls Tryz.prog 129 #[numT a, numT b] w fun e w' => e = .returned (.int .i64 (cmpT a b)) ∧ Below w.heap.size w w' := by
  obtain ⟨n1, u1, d1⟩ := a
  obtain ⟨n2, u2, d2⟩ := b
  obtain ⟨ha1, ha2⟩ := ha
  obtain ⟨hb1, hb2⟩ := hb
  simp only at ha1 ha2 hb1 hb2
  by_cases hoo : okM n1 u1 d1 = true ∧ okM n2 u2 d2 = true
  · obtain ⟨ho1, ho2⟩ := hoo
    obtain ⟨m1, x1, y1, e1, v1, s1, s2, s3, s4⟩ := ok_T (t := (n1, u1, d1)) ho1
    obtain ⟨m2, x2, y2, e2, v2, s5, s6, s7, s8⟩ := ok_T (t := (n2, u2, d2)) ho2
    rw [cmpT_yes (a := (n1, u1, d1)) (b := (n2, u2, d2)) ho1 ho2, v1, v2]
    unfold putT at e1 e2
    simp only [Prod.mk.injEq] at e1 e2
    obtain ⟨rfl, rfl, rfl⟩ := e1
    obtain ⟨rfl, rfl, rfl⟩ := e2
    exact numCmp_yes n1 n2 x1 y1 x2 y2 w s1 s2 s5 s6 hT h3 ho1 ho2
  have HQ := hide (cmpT_no (a := (n1, u1, d1)) (b := (n2, u2, d2)) (by
    show (okM n1 u1 d1 && okM n2 u2 d2) = false
    cases h1 : okM n1 u1 d1
    · rfl
    · cases h2 : okM n2 u2 d2
      · rfl
      · exact absurd ⟨h1, h2⟩ hoo))
  have HN := hide (fun (h : okM n1 u1 d1 = true) => Bool.eq_false_iff.2 (fun h' => hoo ⟨h, h'⟩))
  have HB := hide (below_two w (.bool n1) (.string (B u1)) (.string (B d1)) (.bool n2) (.string (B u2)) (.string (B d2)) 79)
  have HA1 := hide ((AtC3.new w (.bool n1) (.string (B u1)) (.string (B d1)) 79).below (step_a (Below.refl _ _) (.cells #[.bool n2, .string (B u2), .string (B d2)] 79)))
  have HA2 := hide (AtC3.new (w.alloc (.cells #[.bool n1, .string (B u1), .string (B d1)] 79)) (.bool n2) (.string (B u2)) (.string (B d2)) 79)
  rw [World.size_alloc] at HA2
  have HT := hide (fun W h => hT.belowB (w' := W) h h3)
  have H1 := hide (fun W h => implNumOk_c n1 u1 d1 W (by omega) (by omega) h)
  have H2 := hide (fun W h => implNumOk_c n2 u2 d2 W (by omega) (by omega) h)
  unfold numB at H1 H2
  show Calls Tryz.prog 129 #[.agg #[.bool n1, .string (B u1), .string (B d1)], .agg #[.bool n2, .string (B u2), .string (B d2)]] w _
  clear ha1 ha2 hb1 hb2 hoo hT h3
  go_enter Tryz.func129, Tryz.ntmps129
  go_wp2_with fail
  obtain ⟨W, hW⟩ : ∃ W, (w.alloc (.cells #[.bool n1, .string (B u1), .string (B d1)] 79)).alloc (.cells #[.bool n2, .string (B u2), .string (B d2)] 79) = W := ⟨_, rfl⟩
  rw [hW] at HB HA1 HA2 ⊢
  clear hW
  refine (unhide H1 W (unhide HT W (unhide HB))).mono ?_
  rintro e w1 ⟨rfl, hb1⟩
  have HB1 := hide (step_b (unhide HB) hb1)
  have HC2 := hide ((unhide HA2).below hb1)
  clear hb1 HB HA1 HA2
  cases ho1 : okM n1 u1 d1 with
  | false =>
    clear ho1
    go_wp2_with fail
    go_ret
    exact ⟨ret_int (unhide HQ).symm, unhide HB1⟩
  | true =>
    have HNO := hide (unhide HN ho1)
    have q0 := (unhide HC2).n0
    have q1 := (unhide HC2).n1
    have q2 := (unhide HC2).n2
    clear ho1
    go_wp2_with fail
    refine (unhide H2 w1 (unhide HT w1 (unhide HB1))).mono ?_
    rintro e w2 ⟨rfl, hb2⟩
    have HB2 := hide (step_b (unhide HB1) hb2)
    rw [unhide HNO]
    clear hb2 HB1 HC2 q0 q1 q2
    go_wp2_with fail
    go_ret
    exact ⟨ret_int (unhide HQ).symm, unhide HB2⟩
end Go.Proofs.YtpbnmhnbkfnaeaaGreatDoor
