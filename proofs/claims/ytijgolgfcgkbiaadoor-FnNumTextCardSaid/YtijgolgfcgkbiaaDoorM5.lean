/- A part of the proof, put together out of smaller texts: each piece says what it is for. -/
import Derived.Test.YtijgolgfcgkbiaaDoorM4
import Derived.Deep.RegionWith
namespace Go.Proofs.YtijgolgfcgkbiaaDoor
open Go.RowKit Nt

theorem digN_sg {d : Nat} (h : d < 16) : digN (sg d) = d := by
  unfold digN
  rw [sg_toNat h]
  by_cases h10 : d < 10
  · rw [if_pos h10, if_pos (by omega)]; omega
  · rw [if_neg h10, if_neg (by omega), if_pos (by omega)]; omega

theorem rdN_txl {b : Nat} (hb2 : 2 ≤ b) (hb16 : b ≤ 16) (n : Nat) : rdN b (txl b n) = n := by
  induction n using Nat.strongRecOn with
  | _ n ih =>
    by_cases h : n < b
    · rw [txl_one b hb2 n h]; show 0 * b + digN (sg n) = n; rw [digN_sg (by omega)]; omega
    · have hm : n % b < b := Nat.mod_lt _ (by omega)
      rw [txl_step b hb2 n (by omega), rdN_snoc, ih (n / b) (Nat.div_lt_self (by omega) (by omega)), digN_sg (by omega)]
      exact Nat.div_add_mod' n b

theorem txl_digits {b : Nat} (hb2 : 2 ≤ b) (n : Nat) : ∀ c ∈ txl b n, ∃ d, d < b ∧ c = sg d := by
  intro c hc
  unfold txl at hc
  split at hc
  · simp at hc; exact ⟨0, by omega, by rw [hc]; rfl⟩
  · simp at hc
    obtain ⟨d, hd, rfl⟩ := hc
    exact ⟨d, dg_lt hb2 n d hd, rfl⟩

theorem okN_txl {b : Nat} (hb2 : 2 ≤ b) (hb16 : b ≤ 16) (n : Nat) : okN b (txl b n) = true := by
  apply okN_good (txl_length_pos hb2 n)
  intro c hc
  obtain ⟨d, hd, rfl⟩ := txl_digits hb2 n c hc
  rw [digN_sg (by omega)]; exact hd

theorem sg_ge {d : Nat} (h : d < 16) : 48 ≤ (sg d).toNat := by rw [sg_toNat h]; split <;> omega

theorem txl_ne {b : Nat} (hb2 : 2 ≤ b) (hb16 : b ≤ 16) (n : Nat) {c : UInt8} (hc : c.toNat < 48) : ∀ x ∈ txl b n, x ≠ c := by
  intro x hx
  obtain ⟨d, hd, rfl⟩ := txl_digits hb2 n x hx
  intro h
  have := sg_ge (d := d) (by omega)
  rw [h] at this; omega

theorem find_txl {b : Nat} (hb2 : 2 ≤ b) (hb16 : b ≤ 16) (n : Nat) {c : UInt8} (hc : c.toNat < 48) : findB c (txl b n) = none :=
  findB_none fun _ hj => txl_ne hb2 hb16 n hc _ (List.getElem_mem hj)

theorem find_over {b : Nat} (hb2 : 2 ≤ b) (hb16 : b ≤ 16) (n : Nat) (r : List UInt8) : findB 47 (txl b n ++ 47 :: r) = some (txl b n).length := by
  apply findB_some (by simp)
  · simp
  · intro j hj hlt
    rw [List.getElem_append_left hlt]
    exact txl_ne hb2 hb16 n (by decide) _ (List.getElem_mem hlt)

theorem lowest_co {neg : Bool} {a q : Nat} (hq : q ≠ 0) (hg : Nat.gcd a q = 1) (ha : (dec a).size ≤ 60) (hqs : (dec q).size ≤ 60) (hn : neg = true → a ≠ 0) : lowest neg a q = some (neg, a, q) := by
  unfold lowest
  rw [hg, Nat.div_one, Nat.div_one, if_neg (by omega)]
  cases neg with
  | false => rfl
  | true => simp [hn rfl]

theorem body_print {neg : Bool} {a q b : Nat} (hb2 : 2 ≤ b) (hb16 : b ≤ 16) (hq : q ≠ 0) (hg : Nat.gcd a q = 1) (ha : (dec a).size ≤ 60) (hqs : (dec q).size ≤ 60) (hn : neg = true → a ≠ 0) :
    bodyM neg b (txl b a ++ (if q = 1 then [] else 47 :: txl b q)) = some (neg, a, q) := by
  by_cases h1 : q = 1
  · subst h1
    rw [if_pos rfl, List.append_nil]
    unfold bodyM
    rw [find_txl hb2 hb16 a (by decide), find_txl hb2 hb16 a (by decide)]
    show plainM neg b (txl b a) = _
    unfold plainM
    rw [okN_txl hb2 hb16, rdN_txl hb2 hb16]
    exact lowest_co hq hg ha hqs hn
  · rw [if_neg h1]
    unfold bodyM
    rw [find_over hb2 hb16 a]
    show overM neg b _ _ = _
    rw [List.take_left' rfl, show (txl b a ++ 47 :: txl b q).drop ((txl b a).length + 1) = txl b q from by simp [List.drop_append, List.drop_eq_nil_of_le]]
    unfold overM
    rw [okN_txl hb2 hb16, okN_txl hb2 hb16, rdN_txl hb2 hb16, rdN_txl hb2 hb16]
    exact lowest_co hq hg ha hqs hn

theorem sign_print {neg : Bool} {a q b : Nat} (hb2 : 2 ≤ b) (hb16 : b ≤ 16) (hq : q ≠ 0) (hg : Nat.gcd a q = 1) (ha : (dec a).size ≤ 60) (hqs : (dec q).size ≤ 60) (hn : neg = true → a ≠ 0) :
    signB b (prM neg a q b) = some (neg, a, q) := by
  have hb := body_print hb2 hb16 hq hg ha hqs hn
  unfold prM
  cases neg with
  | true => simpa [signB] using hb
  | false =>
    rw [if_neg (by simp), List.nil_append]
    have hne : 0 < (txl b a).length := txl_length_pos hb2 a
    have h45 := txl_ne hb2 hb16 a (c := 45) (by decide)
    have h43 := txl_ne hb2 hb16 a (c := 43) (by decide)
    revert hb hne h45 h43
    cases txl b a with
    | nil => intro _ h; simp at h
    | cons c t =>
      intro hb _ h45 h43
      rw [List.cons_append] at hb ⊢
      show (if c = 45 then _ else if c = 43 then _ else _) = _
      rw [if_neg (h45 c (by simp)), if_neg (h43 c (by simp))]
      exact hb

theorem parse_print {neg : Bool} {u d : List UInt8} {b : Nat} (hok : okM neg u d = true) (hb4 : b = 2 ∨ b = 8 ∨ b = 10 ∨ b = 16) (hl : (printM neg u d b).length ≤ 240) :
    parseM (printM neg u d b) b = some (neg, valDec u, valDec d) := by
  have hr : isRadix (b : Int) = true := by rcases hb4 with rfl | rfl | rfl | rfl <;> rfl
  obtain ⟨h3, h4, hu, hd, hd0, hn0, hg⟩ := ok_parts hok
  have e : printM neg u d b = prM neg (valDec u) (valDec d) b := by unfold printM; rw [hok, hr]; simp
  rw [parse_yes _ b hb4 hl, e]
  exact sign_print (by omega) (by omega) hd0 hg (by rw [dec_len, ← isDec_val h3]; exact hu) (by rw [dec_len, ← isDec_val h4]; exact hd) hn0

theorem okM_mk {neg : Bool} {u d : List UInt8} (h1 : u.length ≤ 60) (h2 : d.length ≤ 60) (h3 : isDec u = true) (h4 : isDec d = true) (h5 : valDec d ≠ 0) (h6 : neg = true → valDec u ≠ 0) (h7 : Nat.gcd (valDec u) (valDec d) = 1) : okM neg u d = true := by
  unfold okM
  simp only [Bool.and_eq_true, decide_eq_true_eq, Bool.not_eq_true', Bool.and_eq_false_iff, decide_eq_false_iff_not]
  refine ⟨⟨⟨⟨⟨⟨h1, h2⟩, h3⟩, h4⟩, h5⟩, ?_⟩, h7⟩
  cases neg with
  | false => exact .inl rfl
  | true => exact .inr (h6 rfl)

theorem lowest_ok {neg n : Bool} {u d x y : Nat} (h : lowest neg u d = some (n, x, y)) : okM n (txl 10 x) (txl 10 y) = true := by
  unfold lowest at h
  split at h
  · cases h
  · rename_i hh
    simp only [Option.some.injEq, Prod.mk.injEq] at h
    obtain ⟨rfl, rfl, rfl⟩ := h
    have hd : d ≠ 0 := fun hd => hh (.inl hd)
    have h1 : ¬ 60 < (dec (u / Nat.gcd u d)).size := fun k => hh (.inr (.inl k))
    have h2 : ¬ 60 < (dec (d / Nat.gcd u d)).size := fun k => hh (.inr (.inr k))
    rw [dec_len] at h1 h2
    have hgp : 0 < Nat.gcd u d := Nat.gcd_pos_of_pos_right _ (by omega)
    have hdd : d / Nat.gcd u d ≠ 0 := by
      have := Nat.div_pos (Nat.le_of_dvd (by omega) (Nat.gcd_dvd_right u d)) hgp
      omega
    have hco : Nat.gcd (u / Nat.gcd u d) (d / Nat.gcd u d) = 1 := Nat.coprime_div_gcd_div_gcd hgp
    refine okM_mk (by omega) (by omega) (isDec_txl _) (isDec_txl _) (by rw [valDec_txl]; exact hdd) ?_ (by rw [valDec_txl, valDec_txl]; exact hco)
    intro hh
    rw [valDec_txl]
    intro h0
    rw [h0] at hh
    simp at hh

theorem body_lowest {neg : Bool} {b : Nat} {l : List UInt8} {p : Bool × Nat × Nat} (h : bodyM neg b l = some p) : ∃ u d, lowest neg u d = some p := by
  unfold bodyM overM pointM plainM at h
  split at h
  · split at h
    · exact ⟨_, _, h⟩
    · cases h
  · split at h
    · split at h
      · split at h
        · exact ⟨_, _, h⟩
        · cases h
      · split at h
        · exact ⟨_, _, h⟩
        · cases h
    · split at h
      · exact ⟨_, _, h⟩
      · cases h

theorem parse_ok {l : List UInt8} {r : Int} {n : Bool} {x y : Nat} (h : parseM l r = some (n, x, y)) : okM n (txl 10 x) (txl 10 y) = true := by
  have key : ∀ neg b l, bodyM neg b l = some (n, x, y) → okM n (txl 10 x) (txl 10 y) = true := by
    intro neg b l h
    obtain ⟨u, d, h⟩ := body_lowest h
    exact lowest_ok h
  unfold parseM at h
  split at h
  · unfold signB at h
    split at h
    · exact key _ _ _ h
    · split at h
      · exact key _ _ _ h
      · split at h
        · exact key _ _ _ h
        · exact key _ _ _ h
  · cases h

theorem noNum_B : noNum = numB false [] [] := rfl
theorem numV_B (n : Bool) (x y : Nat) : numV n (dec x) (dec y) = numB n (txl 10 x) (txl 10 y) := rfl

/-- an answer as fields -/
def ansN (o : Option (Bool × Nat × Nat)) : Bool := match o with | some (n, _, _) => n | none => false
def ansU (o : Option (Bool × Nat × Nat)) : List UInt8 := match o with | some (_, u, _) => txl 10 u | none => []
def ansD (o : Option (Bool × Nat × Nat)) : List UInt8 := match o with | some (_, _, d) => txl 10 d | none => []
theorem numO_B (o : Option (Bool × Nat × Nat)) : numO o = numB (ansN o) (ansU o) (ansD o) := by
  cases o with
  | none => rfl
  | some p => rfl
theorem okM_ans (l : List UInt8) (r : Int) : okM (ansN (parseM l r)) (ansU (parseM l r)) (ansD (parseM l r)) = (parseM l r).isSome := by
  cases h : parseM l r with
  | none => rfl
  | some p => obtain ⟨n, x, y⟩ := p; exact parse_ok h
theorem ans_len (l : List UInt8) (r : Int) : (ansU (parseM l r)).length ≤ 60 ∧ (ansD (parseM l r)).length ≤ 60 := by
  cases h : parseM l r with
  | none => exact ⟨by simp [ansU], by simp [ansD]⟩
  | some p =>
    obtain ⟨n, x, y⟩ := p
    have := ok_parts (parse_ok h)
    exact ⟨this.2.2.1, this.2.2.2.1⟩

theorem intV_B (i : Int) : intV i = numB (decide (i < 0)) (txl 10 i.natAbs) (txl 10 1) := rfl
theorem int_ok {i : Int} (h0 : -9223372036854775808 ≤ i) (h1 : i ≤ 9223372036854775807) : okM (decide (i < 0)) (txl 10 i.natAbs) (txl 10 1) = true := by
  have hl : (txl 10 i.natAbs).length ≤ 60 := txl_len_le (by omega) (by omega) (Nat.lt_of_le_of_lt (show i.natAbs ≤ 9223372036854775808 by omega) (by decide))
  refine okM_mk hl (by decide) (isDec_txl _) (isDec_txl _) (by rw [valDec_txl]; omega) ?_ (by rw [valDec_txl, valDec_txl]; exact Nat.gcd_one_right _)
  intro hi
  rw [valDec_txl]
  have := of_decide_eq_true hi
  omega
end Go.Proofs.YtijgolgfcgkbiaaDoor
namespace Go.Proofs.YtijgolgfcgkbiaaDoor
open Go.RowKit Nt

theorem dec_lits : dec 0 = ⟨#[48]⟩ ∧ dec 1 = ⟨#[49]⟩ ∧ dec 2 = ⟨#[50]⟩ ∧ dec 10 = ⟨#[49, 48]⟩ ∧ dec 100 = ⟨#[49, 48, 48]⟩ ∧ dec 999 = ⟨#[57, 57, 57]⟩ ∧ dec 1000 = ⟨#[49, 48, 48, 48]⟩ := by
  refine ⟨rfl, rfl, rfl, rfl, rfl, rfl, rfl⟩


set_option maxRecDepth 100000 in
set_option maxHeartbeats 1000000 in
theorem l6Digits_c (g p n cap : Nat) (a : Option Addr) (w : World) (h : Rd w g p a n cap) (hp : p ≤ 900000000) :
    Calls Tryd.prog 29 #[.pointer (some ⟨g, 0, none⟩)] w fun e w' => (∃ x, e = .returned (.string (dec x)) ∧ (dec x).size ≤ 60) ∧ Drawn w g p n cap a 100 w' := by
  unfold Drawn
  have H := hide h
  clear h
  go_enter Tryd.func29, Tryd.ntmps29
  go_wp2_with fail
  refine (pick_c g p n cap a 4 _ (unhide H) (by omega) (by omega)).mono ?_
  rintro e w1 ⟨⟨i1, rfl, hi1⟩, hr1, hk1⟩
  have hi1' : i1 < 4 := by rcases hi1 with h | h <;> omega
  have HR1 := hide hr1
  have HK1 := hide hk1
  clear hr1 hk1 hi1
  go_wp2_with fail
  refine (pick_c g (p + 1) n cap a 8 _ (unhide HR1) (by omega) (by omega)).mono ?_
  rintro e w2 ⟨⟨i2, rfl, hi2⟩, hr2, hk2⟩
  have HR2 := hide hr2
  have HK2 := hide ((unhide HK1).trans hk2)
  clear hr2 hk2 hi2
  by_cases h0 : i2 = 0
  · subst h0
    go_wp2_with fail
    refine (pick_c g (p + 1 + 1) n cap a 30 _ (unhide HR2) (by omega) (by omega)).mono ?_
    rintro e w2' ⟨⟨i3, rfl, hi3⟩, hr3, hk3⟩
    have hi3' : i3 < 30 := by rcases hi3 with h | h <;> omega
    have HR3 := hide hr3
    have HK3 := hide ((unhide HK2).trans hk3)
    clear hr3 hk3 hi3
    go_wp2
    -- the digits are drawn: (1 + (i3 : Int)) how many (Int), w2' the world ahead, (p + 1 + 1 + 1) the reader's place, (unhide HR3) its fact, (unhide HK3) what is kept
    go_loopw [4, 5] (fun vo vi wr => ∃ (xs : List Nat) (p' : Nat), vi = .int .i64 (xs.length : Int) ∧ vo = .string (B ((xs.map sg).reverse)) ∧ Hid (∀ d ∈ xs, d < 10) ∧ (xs.length : Int) ≤ (1 + (i3 : Int)) ∧ p' ≤ (p + 1 + 1 + 1) + xs.length ∧ Rd wr g p' a n cap ∧ Keeps g w wr) (fun _ vi _ => ((1 + (i3 : Int)) - intOf vi).toNat)
    case atStart => exact ⟨[], (p + 1 + 1 + 1), rfl, rfl, hide (by simp), by simp; omega, by simp, (unhide HR3), (unhide HK3)⟩
    case round =>
      obtain ⟨xs, p', rfl, rfl, hd, hle, hp', hr', hk'⟩ := hrel
      have HR' := hide hr'
      have HK' := hide hk'
      clear hr' hk'
      have hBx := B_size ((xs.map sg).reverse)
      simp only [List.length_reverse, List.length_map] at hBx
      by_cases hlt : (xs.length : Int) < (1 + (i3 : Int))
      · go_wp2_with fail
        refine (pick_c g p' n cap a 10 _ (unhide HR') (by omega) (by omega)).mono ?_
        rintro e w3 ⟨⟨d, rfl, hd10⟩, hr3, hk3⟩
        have hd9 : d < 10 := by rcases hd10 with h | h <;> omega
        have HR3 := hide hr3
        have HK3 := hide hk3
        clear hr3 hk3 hd10
        go_wp2_with fail
        refine (l1Small_c d (by omega) _).mono ?_
        rintro e w4 ⟨rfl, hb4⟩
        have hds : (dec d).size = 1 := by unfold dec txt; rw [txl_one 10 (by omega) d hd9, B_size]; rfl
        have happ : Hid (B ((xs.map sg).reverse) ++ dec d = B (((d :: xs).map sg).reverse)) := by
          show _ = _; unfold dec txt; rw [txl_one 10 (by omega) d hd9, B_append]; simp
        go_wp2
        go_roundw
        case rel => exact ⟨d :: xs, p' + 1, by simp, by rw [unhide happ], hide (by intro x hx; rcases List.mem_cons.1 hx with rfl | hx; exact hd9; exact unhide hd x hx), by simp; omega, by simp; omega, (unhide HR3).keep hb4, ((unhide HK').trans (unhide HK3)).trans (Keeps.of_below hb4)⟩
        case measure => simp [intOf]; omega
      · have hne : xs ≠ [] := by intro h; subst h; simp at hlt; omega
        have htr := trim_rev xs (unhide hd) hne
        have hlen : (xs.map sg).reverse.length ≤ 60 := by simp; omega
        have htl := trim_length ((xs.map sg).reverse)
        rw [htr] at htl
        have Htr := hide htr
        clear htr
        go_wp2_with fail
        refine (l1Trim_c ((xs.map sg).reverse) _ (by omega)).mono ?_
        rintro e w3 ⟨rfl, rfl⟩
        go_wp2
        go_ret
        exact ⟨⟨ofd 10 xs, ret_str (by rw [unhide Htr]; rfl), by rw [dec_len]; omega⟩, ⟨p', by omega, unhide HR'⟩, unhide HK'⟩
  · by_cases h1 : i2 = 1
    · subst h1
      go_wp2_with fail
      refine (pick_c g (p + 1 + 1) n cap a 3 _ (unhide HR2) (by omega) (by omega)).mono ?_
      rintro e w2' ⟨⟨i3, rfl, hi3⟩, hr3, hk3⟩
      have hi3' : i3 < 3 := by rcases hi3 with h | h <;> omega
      have HR3 := hide hr3
      have HK3 := hide ((unhide HK2).trans hk3)
      clear hr3 hk3 hi3
      go_wp2
      -- the digits are drawn: (60 - (i3 : Int)) how many (Int), w2' the world ahead, (p + 1 + 1 + 1) the reader's place, (unhide HR3) its fact, (unhide HK3) what is kept
      go_loopw [4, 5] (fun vo vi wr => ∃ (xs : List Nat) (p' : Nat), vi = .int .i64 (xs.length : Int) ∧ vo = .string (B ((xs.map sg).reverse)) ∧ Hid (∀ d ∈ xs, d < 10) ∧ (xs.length : Int) ≤ (60 - (i3 : Int)) ∧ p' ≤ (p + 1 + 1 + 1) + xs.length ∧ Rd wr g p' a n cap ∧ Keeps g w wr) (fun _ vi _ => ((60 - (i3 : Int)) - intOf vi).toNat)
      case atStart => exact ⟨[], (p + 1 + 1 + 1), rfl, rfl, hide (by simp), by simp; omega, by simp, (unhide HR3), (unhide HK3)⟩
      case round =>
        obtain ⟨xs, p', rfl, rfl, hd, hle, hp', hr', hk'⟩ := hrel
        have HR' := hide hr'
        have HK' := hide hk'
        clear hr' hk'
        have hBx := B_size ((xs.map sg).reverse)
        simp only [List.length_reverse, List.length_map] at hBx
        by_cases hlt : (xs.length : Int) < (60 - (i3 : Int))
        · go_wp2_with fail
          refine (pick_c g p' n cap a 10 _ (unhide HR') (by omega) (by omega)).mono ?_
          rintro e w3 ⟨⟨d, rfl, hd10⟩, hr3, hk3⟩
          have hd9 : d < 10 := by rcases hd10 with h | h <;> omega
          have HR3 := hide hr3
          have HK3 := hide hk3
          clear hr3 hk3 hd10
          go_wp2_with fail
          refine (l1Small_c d (by omega) _).mono ?_
          rintro e w4 ⟨rfl, hb4⟩
          have hds : (dec d).size = 1 := by unfold dec txt; rw [txl_one 10 (by omega) d hd9, B_size]; rfl
          have happ : Hid (B ((xs.map sg).reverse) ++ dec d = B (((d :: xs).map sg).reverse)) := by
            show _ = _; unfold dec txt; rw [txl_one 10 (by omega) d hd9, B_append]; simp
          go_wp2
          go_roundw
          case rel => exact ⟨d :: xs, p' + 1, by simp, by rw [unhide happ], hide (by intro x hx; rcases List.mem_cons.1 hx with rfl | hx; exact hd9; exact unhide hd x hx), by simp; omega, by simp; omega, (unhide HR3).keep hb4, ((unhide HK').trans (unhide HK3)).trans (Keeps.of_below hb4)⟩
          case measure => simp [intOf]; omega
        · have hne : xs ≠ [] := by intro h; subst h; simp at hlt; omega
          have htr := trim_rev xs (unhide hd) hne
          have hlen : (xs.map sg).reverse.length ≤ 60 := by simp; omega
          have htl := trim_length ((xs.map sg).reverse)
          rw [htr] at htl
          have Htr := hide htr
          clear htr
          go_wp2_with fail
          refine (l1Trim_c ((xs.map sg).reverse) _ (by omega)).mono ?_
          rintro e w3 ⟨rfl, rfl⟩
          go_wp2
          go_ret
          exact ⟨⟨ofd 10 xs, ret_str (by rw [unhide Htr]; rfl), by rw [dec_len]; omega⟩, ⟨p', by omega, unhide HR'⟩, unhide HK'⟩
    · have z0 : ((i2 : Int) == 0) = false := by rw [beq_eq_false_iff_ne]; omega
      have z1 : ((i2 : Int) == 1) = false := by rw [beq_eq_false_iff_ne]; omega
      by_cases h2 : i2 = 2
      · subst h2
        have hr2 := (unhide HR2)
        have hlt := hr2.lt
        go_wp2_with fail
        refine (of_c g (p + 1 + 1) n cap w2.heap.size a #[.string ⟨#[48]⟩, .string ⟨#[49]⟩, .string ⟨#[50]⟩, .string ⟨#[49, 48]⟩, .string ⟨#[49, 48, 48]⟩, .string ⟨#[57, 57, 57]⟩, .string ⟨#[49, 48, 48, 48]⟩] 7 _ (hr2.keep ((Below.refl _ _).alloc (Nat.le_refl _) _)) (by omega) rfl (by omega) (by omega) (by show (w2.heap.push _)[w2.heap.size]? = _; rw [Array.getElem?_push, if_pos rfl]) (by omega)).mono ?_
        rintro e w3 ⟨⟨v, rfl, hv⟩, ⟨p3, hp3, hr3⟩, hk3⟩
        have hx : ∃ x, v = .string (dec x) ∧ (dec x).size ≤ 60 := by
          obtain ⟨d0, d1, d2, d3, d4, d5, d6⟩ := dec_lits
          simp at hv
          rcases hv with rfl | rfl | rfl | rfl | rfl | rfl | rfl
          · exact ⟨0, by rw [d0], by rw [d0]; decide⟩
          · exact ⟨1, by rw [d1], by rw [d1]; decide⟩
          · exact ⟨2, by rw [d2], by rw [d2]; decide⟩
          · exact ⟨10, by rw [d3], by rw [d3]; decide⟩
          · exact ⟨100, by rw [d4], by rw [d4]; decide⟩
          · exact ⟨999, by rw [d5], by rw [d5]; decide⟩
          · exact ⟨1000, by rw [d6], by rw [d6]; decide⟩
        obtain ⟨x, rfl, hx60⟩ := hx
        have HR3 := hide hr3
        have HK3 := hide ((unhide HK2).trans ((Keeps.refl _ _).alloc _ |>.trans hk3))
        clear hr3 hk3 hr2 hv
        go_wp2
        go_ret
        exact ⟨⟨x, rfl, hx60⟩, ⟨p3, by omega, unhide HR3⟩, unhide HK3⟩
      · have z2 : ((i2 : Int) == 2) = false := by rw [beq_eq_false_iff_ne]; omega
        go_wp2
        -- the digits are drawn: (1 + (i1 : Int)) how many (Int), w2 the world ahead, (p + 1 + 1) the reader's place, (unhide HR2) its fact, (unhide HK2) what is kept
        go_loopw [4, 5] (fun vo vi wr => ∃ (xs : List Nat) (p' : Nat), vi = .int .i64 (xs.length : Int) ∧ vo = .string (B ((xs.map sg).reverse)) ∧ Hid (∀ d ∈ xs, d < 10) ∧ (xs.length : Int) ≤ (1 + (i1 : Int)) ∧ p' ≤ (p + 1 + 1) + xs.length ∧ Rd wr g p' a n cap ∧ Keeps g w wr) (fun _ vi _ => ((1 + (i1 : Int)) - intOf vi).toNat)
        case atStart => exact ⟨[], (p + 1 + 1), rfl, rfl, hide (by simp), by simp; omega, by simp, (unhide HR2), (unhide HK2)⟩
        case round =>
          obtain ⟨xs, p', rfl, rfl, hd, hle, hp', hr', hk'⟩ := hrel
          have HR' := hide hr'
          have HK' := hide hk'
          clear hr' hk'
          have hBx := B_size ((xs.map sg).reverse)
          simp only [List.length_reverse, List.length_map] at hBx
          by_cases hlt : (xs.length : Int) < (1 + (i1 : Int))
          · go_wp2_with fail
            refine (pick_c g p' n cap a 10 _ (unhide HR') (by omega) (by omega)).mono ?_
            rintro e w3 ⟨⟨d, rfl, hd10⟩, hr3, hk3⟩
            have hd9 : d < 10 := by rcases hd10 with h | h <;> omega
            have HR3 := hide hr3
            have HK3 := hide hk3
            clear hr3 hk3 hd10
            go_wp2_with fail
            refine (l1Small_c d (by omega) _).mono ?_
            rintro e w4 ⟨rfl, hb4⟩
            have hds : (dec d).size = 1 := by unfold dec txt; rw [txl_one 10 (by omega) d hd9, B_size]; rfl
            have happ : Hid (B ((xs.map sg).reverse) ++ dec d = B (((d :: xs).map sg).reverse)) := by
              show _ = _; unfold dec txt; rw [txl_one 10 (by omega) d hd9, B_append]; simp
            go_wp2
            go_roundw
            case rel => exact ⟨d :: xs, p' + 1, by simp, by rw [unhide happ], hide (by intro x hx; rcases List.mem_cons.1 hx with rfl | hx; exact hd9; exact unhide hd x hx), by simp; omega, by simp; omega, (unhide HR3).keep hb4, ((unhide HK').trans (unhide HK3)).trans (Keeps.of_below hb4)⟩
            case measure => simp [intOf]; omega
          · have hne : xs ≠ [] := by intro h; subst h; simp at hlt; omega
            have htr := trim_rev xs (unhide hd) hne
            have hlen : (xs.map sg).reverse.length ≤ 60 := by simp; omega
            have htl := trim_length ((xs.map sg).reverse)
            rw [htr] at htl
            have Htr := hide htr
            clear htr
            go_wp2_with fail
            refine (l1Trim_c ((xs.map sg).reverse) _ (by omega)).mono ?_
            rintro e w3 ⟨rfl, rfl⟩
            go_wp2
            go_ret
            exact ⟨⟨ofd 10 xs, ret_str (by rw [unhide Htr]; rfl), by rw [dec_len]; omega⟩, ⟨p', by omega, unhide HR'⟩, unhide HK'⟩
end Go.Proofs.YtijgolgfcgkbiaaDoor
namespace Go.Proofs.YtijgolgfcgkbiaaDoor
open Go.RowKit Nt


theorem dec_lits' : dec 7 = ⟨#[55]⟩ ∧ dec 1 = ⟨#[49]⟩ := ⟨rfl, rfl⟩

set_option maxRecDepth 100000 in
set_option maxHeartbeats 2000000 in
theorem l6Num_c (g p n cap : Nat) (a : Option Addr) (w : World) (h : Rd w g p a n cap) (hp : p ≤ 800000000) :
    Calls Tryd.prog 26 #[.pointer (some ⟨g, 0, none⟩)] w fun e w' => (∃ neg x y, e = .returned (numV neg (dec x) (dec y)) ∧ (dec x).size ≤ 60 ∧ (dec y).size ≤ 60) ∧ Drawn w g p n cap a 300 w' := by
  have hlt := h.lt
  have Hlt := hide hlt
  have HR := hide (h.alloc (.cells #[.bool false, .string ⟨#[]⟩, .string ⟨#[]⟩] 26))
  clear h
  go_enter Tryd.func26, Tryd.ntmps26
  go_wp2_with fail
  refine (pick_d g p n cap a 2 _ (unhide HR) (by omega) (by omega)).mono ?_
  rintro e w1 ⟨⟨i, rfl, hi⟩, ⟨p1, hp1, hr1⟩, hk1⟩
  have HR1 := hide hr1
  have HK1 := hide hk1
  clear hr1 hk1 hi
  by_cases hi0 : i = 0
  · have z0 : ((i : Int) == 0) = true := by rw [beq_iff_eq]; omega
    have HK := hide hi0
    clear hi0
    go_wp2_with fail
    have h := l6Digits_c g p1 n cap a w1 (unhide HR1) (by omega)
    refine h.mono ?_
    clear h
    rintro e w2 ⟨⟨d, rfl, hd60⟩, ⟨p2, hp2, hr2⟩, hk2⟩
    have HR2 := hide hr2
    have HK2 := hide ((unhide HK1).trans hk2)
    clear hr2 hk2
    -- the number is made: d the text below (a Nat d, its size d60), w2 the world, p2 the reader's place, (unhide HR2) its fact, (unhide HK2) what is kept since W0
    go_wp2_with fail
    refine (pick_d g p2 n cap a 2 _ (unhide HR2) (by omega) (by omega)).mono ?_
    rintro e w3 ⟨⟨j, rfl, hj⟩, ⟨p3, hp3, hr3⟩, hk3⟩
    have HR3 := hide hr3
    have HK3 := hide (((unhide HK2)).trans hk3)
    clear hr3 hk3 hj
    go_wp2_with fail
    have h := l6Digits_c g p3 n cap a w3 (unhide HR3) (by omega)
    refine h.mono ?_
    clear h
    rintro e w4 ⟨⟨u, rfl, hu60⟩, ⟨p4, hp4, hr4⟩, hk4⟩
    have HR4 := hide hr4
    have HK4 := hide ((unhide HK3).trans hk4)
    clear hr4 hk4
    go_wp2_with fail
    have h := l2Make_c ((j : Int) == 0) u d w4 (by omega) (by omega)
    refine h.mono ?_
    clear h
    rintro e w5 ⟨rfl, hb5⟩
    have hr5 := (unhide HR4).keep hb5
    have hk5 := (unhide HK4).trans (Keeps.of_below hb5)
    have hA := (At3.new w (.bool false) (.string ⟨#[]⟩) (.string ⟨#[]⟩)).keeps hk5 (by omega)
    have hsz := hA.lt
    have c0 := hA.c0
    have c1 := hA.c1
    have c2 := hA.c2
    have f := hA.f
    have Hfin : Hid (Drawn w g p n cap a 300 w5) := ⟨⟨p4, by omega, hr5⟩, ((Keeps.refl g w).alloc _).trans hk5⟩
    clear hr5 hk5 hA HR3 HK3 HR4 HK4 HR1 HK1 HR2 HK2 HR HK
    have hne : w5.heap.size ≠ w.heap.size := by omega
    cases hl : lowest ((j : Int) == 0) u d with
    | none =>
      unfold numAns numO noNum numV
      go_wp2
      refine bodyPost_ret (v := .agg #[.bool false, .string ⟨#[55]⟩, .string ⟨#[49]⟩]) (by simp [results, Tryd.results26, go_sem, c0, c1, c2, hsz]) rfl ⟨⟨false, 7, 1, rfl, by decide, by decide⟩, ?_⟩
      exact (unhide Hfin).more (unhide Hlt) ((below_three (Below.refl _ _) w.heap.size (by omega) _ _ _).alloc (by simp; omega) _)
    | some r =>
      obtain ⟨nn, x, y⟩ := r
      have hok := ok_parts (lowest_ok hl)
      have hx60 : (dec x).size ≤ 60 := by rw [dec_len]; exact hok.2.2.1
      have hy60 : (dec y).size ≤ 60 := by rw [dec_len]; exact hok.2.2.2.1
      clear hok
      unfold numAns numO numV
      go_wp2
      refine bodyPost_ret (v := numV nn (dec x) (dec y)) (by simp [results, Tryd.results26, go_sem, numV, c0, c1, c2, hsz]) rfl ⟨⟨nn, x, y, rfl, hx60, hy60⟩, ?_⟩
      exact (unhide Hfin).more (unhide Hlt) ((below_three (Below.refl _ _) w.heap.size (by omega) _ _ _).alloc (by simp; omega) _)
  · have z0 : ((i : Int) == 0) = false := by rw [beq_eq_false_iff_ne]; omega
    have HK := hide hi0
    have HR2 := HK
    have HK2 := HK
    clear hi0
    have hd60 : (dec 1).size ≤ 60 := by decide
    rw [show (Value.string ⟨#[49]⟩) = .string (dec 1) from rfl]
    -- the number is made: 1 the text below (a Nat d, its size d60), w1 the world, p1 the reader's place, (unhide HR1) its fact, (unhide HK1) what is kept since W0
    go_wp2_with fail
    refine (pick_d g p1 n cap a 2 _ (unhide HR1) (by omega) (by omega)).mono ?_
    rintro e w3 ⟨⟨j, rfl, hj⟩, ⟨p3, hp3, hr3⟩, hk3⟩
    have HR3 := hide hr3
    have HK3 := hide (((unhide HK1)).trans hk3)
    clear hr3 hk3 hj
    go_wp2_with fail
    have h := l6Digits_c g p3 n cap a w3 (unhide HR3) (by omega)
    refine h.mono ?_
    clear h
    rintro e w4 ⟨⟨u, rfl, hu60⟩, ⟨p4, hp4, hr4⟩, hk4⟩
    have HR4 := hide hr4
    have HK4 := hide ((unhide HK3).trans hk4)
    clear hr4 hk4
    go_wp2_with fail
    have h := l2Make_c ((j : Int) == 0) u 1 w4 (by omega) (by omega)
    refine h.mono ?_
    clear h
    rintro e w5 ⟨rfl, hb5⟩
    have hr5 := (unhide HR4).keep hb5
    have hk5 := (unhide HK4).trans (Keeps.of_below hb5)
    have hA := (At3.new w (.bool false) (.string ⟨#[]⟩) (.string ⟨#[]⟩)).keeps hk5 (by omega)
    have hsz := hA.lt
    have c0 := hA.c0
    have c1 := hA.c1
    have c2 := hA.c2
    have f := hA.f
    have Hfin : Hid (Drawn w g p n cap a 300 w5) := ⟨⟨p4, by omega, hr5⟩, ((Keeps.refl g w).alloc _).trans hk5⟩
    clear hr5 hk5 hA HR3 HK3 HR4 HK4 HR1 HK1 HR2 HK2 HR HK
    have hne : w5.heap.size ≠ w.heap.size := by omega
    cases hl : lowest ((j : Int) == 0) u 1 with
    | none =>
      unfold numAns numO noNum numV
      go_wp2
      refine bodyPost_ret (v := .agg #[.bool false, .string ⟨#[55]⟩, .string ⟨#[49]⟩]) (by simp [results, Tryd.results26, go_sem, c0, c1, c2, hsz]) rfl ⟨⟨false, 7, 1, rfl, by decide, by decide⟩, ?_⟩
      exact (unhide Hfin).more (unhide Hlt) ((below_three (Below.refl _ _) w.heap.size (by omega) _ _ _).alloc (by simp; omega) _)
    | some r =>
      obtain ⟨nn, x, y⟩ := r
      have hok := ok_parts (lowest_ok hl)
      have hx60 : (dec x).size ≤ 60 := by rw [dec_len]; exact hok.2.2.1
      have hy60 : (dec y).size ≤ 60 := by rw [dec_len]; exact hok.2.2.2.1
      clear hok
      unfold numAns numO numV
      go_wp2
      refine bodyPost_ret (v := numV nn (dec x) (dec y)) (by simp [results, Tryd.results26, go_sem, numV, c0, c1, c2, hsz]) rfl ⟨⟨nn, x, y, rfl, hx60, hy60⟩, ?_⟩
      exact (unhide Hfin).more (unhide Hlt) ((below_three (Below.refl _ _) w.heap.size (by omega) _ _ _).alloc (by simp; omega) _)
end Go.Proofs.YtijgolgfcgkbiaaDoor
namespace Go.Proofs.YtijgolgfcgkbiaaDoor
open Go.RowKit Nt

def numS (neg : Bool) (us ds : ByteArray) : Value := .agg #[.bool neg, .string us, .string ds]
/-- a drawn number's texts are no longer than this -/
def smallS (us ds : ByteArray) : Prop := us.size ≤ 1000 ∧ ds.size ≤ 1000


theorem dec_size_two {x : Nat} (h : (dec x).size ≤ 60) : (dec (x * 2)).size ≤ 61 := by
  by_cases h0 : x = 0
  · subst h0; decide
  · have := dec_size_ten (ρ := x * 2) (b := x) (by omega); omega

theorem of_strs {l : List Value} {v : Value} {M : Nat} (h : l.all (isS M) = true) (hv : v ∈ l) : ∃ s, v = .string s ∧ s.size ≤ M := isS_out (List.all_eq_true.1 h v hv)

set_option maxRecDepth 100000 in
set_option maxHeartbeats 4000000 in
theorem l6Spoil_c (g p n cap : Nat) (a : Option Addr) (neg : Bool) (x y : Nat) (w : World) (h : Rd w g p a n cap) (hp : p ≤ 800000000) (hx : (dec x).size ≤ 60) (hy : (dec y).size ≤ 60) :
    Calls Tryd.prog 69 #[.pointer (some ⟨g, 0, none⟩), numV neg (dec x) (dec y)] w fun e w' => (∃ neg us ds, e = .returned (numS neg us ds) ∧ smallS us ds) ∧ Drawn w g p n cap a 10 w' := by
  have hlt := h.lt
  have Hlt := hide hlt
  have hAa := (At3.new w (.bool neg) (.string (dec x)) (.string (dec y))).alloc (.cells #[.bool false, .string ⟨#[]⟩, .string ⟨#[]⟩] 26)
  have hAb := At3.new (w.alloc (.cells #[.bool neg, .string (dec x), .string (dec y)] 26)) (.bool false) (.string ⟨#[]⟩) (.string ⟨#[]⟩)
  have hR0 := (h.alloc (.cells #[.bool neg, .string (dec x), .string (dec y)] 26)).alloc (.cells #[.bool false, .string ⟨#[]⟩, .string ⟨#[]⟩] 26)
  rw [show (w.alloc (.cells #[.bool neg, .string (dec x), .string (dec y)] 26)).heap.size = w.heap.size + 1 from by simp] at hAb
  have HA1 := hide hAa
  have HA2 := hide hAb
  have HR := hide hR0
  clear h hAa hAb hR0
  unfold numV
  go_enter Tryd.func69, Tryd.ntmps69
  go_wp2_with fail
  refine (pick_d g p n cap a 7 _ (unhide HR) (by omega) (by omega)).mono ?_
  rintro e w1 ⟨⟨i, rfl, hi⟩, ⟨p1, hp1, hr1⟩, hk1⟩
  have HR1 := hide hr1
  have HK1 := hide hk1
  clear hr1 hk1 hi
  -- w1 the world, (unhide HK1) what is kept since W0
  have hA1 := (unhide HA1).keeps (unhide HK1) (by omega)
  have hA2 := (unhide HA2).keeps (unhide HK1) (by omega)
  have c10 := hA1.c0
  have c11 := hA1.c1
  have c12 := hA1.c2
  have f1 := hA1.f
  have c20 := hA2.c0
  have c21 := hA2.c1
  have c22 := hA2.c2
  have f2 := hA2.f
  have hs1 := hA1.lt
  have hs2 := hA2.lt
  clear hA1 hA2
  rcases Nat.lt_or_ge i 1 with h | h
  · have hi0 : i = 0 := by omega
    subst hi0
    have hr1 := unhide HR1
    have hlt1 := hr1.lt
    go_wp2_with fail
    refine (of_c g p1 n cap w1.heap.size a #[.string ⟨#[]⟩, .string ⟨#[48, 48]⟩, .string ⟨#[48]⟩, .string ⟨#[120]⟩, .string ⟨#[45, 49]⟩, .string ⟨#[48, 55]⟩] 6 _ (hr1.alloc _) (by omega) rfl (by omega) (by omega) (by show (w1.heap.push _)[w1.heap.size]? = _; rw [Array.getElem?_push, if_pos rfl]) (by omega)).mono ?_
    rintro e w2 ⟨⟨v, rfl, hv⟩, ⟨p2, hp2, hr2⟩, hk2⟩
    obtain ⟨s, rfl, hs⟩ := of_strs (M := 10) (by rfl) hv
    have HR2 := hide hr2
    have HK2 := hide (((unhide HK1).alloc _).trans hk2)
    clear hr2 hk2 hv hr1 c10 c11 c12 f1 c20 c21 c22 f2 hs1 hs2
    -- w2 the world, (unhide HK2) what is kept since W0
    have hA1 := (unhide HA1).keeps (unhide HK2) (by omega)
    have hA2 := (unhide HA2).keeps (unhide HK2) (by omega)
    have c10 := hA1.c0
    have c11 := hA1.c1
    have c12 := hA1.c2
    have f1 := hA1.f
    have c20 := hA2.c0
    have c21 := hA2.c1
    have c22 := hA2.c2
    have f2 := hA2.f
    have hs1 := hA1.lt
    have hs2 := hA2.lt
    clear hA1 hA2
    -- neg neg, s up, (dec y) down, ⟨by omega, by omega⟩ bounds, p2 the place, (unhide HR2) its fact, (unhide HK2) what is kept since W0, w2 the block's world
    go_wp2
    have hcc := And.intro c10 (And.intro c11 (And.intro c12 (And.intro c20 (And.intro c21 (And.intro c22 (And.intro hs1 hs2))))))
    refine bodyPost_ret (v := numS neg s (dec y)) (by simp [results, Tryd.results69, go_sem, numS, hcc]) rfl ⟨⟨neg, s, (dec y), rfl, ⟨by omega, by omega⟩⟩, ?_⟩
    have hD : Drawn w g p n cap a 10 w2 := ⟨⟨p2, by omega, (unhide HR2)⟩, (((Keeps.refl g w).alloc _).alloc _).trans (unhide HK2)⟩
    refine hD.more (unhide Hlt) ?_
    repeat (first | exact Below.refl _ _ | refine Below.setCell ?_ (by first | exact Nat.le_refl _ | exact Nat.le_succ _ | (simp; done) | (simp; omega)) _ | refine Below.alloc ?_ (by first | exact Nat.le_refl _ | (simp; done) | (simp; omega)) _)
  rcases Nat.lt_or_ge i 2 with h2 | h2
  · have hi1 : i = 1 := by omega
    subst hi1
    have hr1 := unhide HR1
    have hlt1 := hr1.lt
    go_wp2_with fail
    refine (of_c g p1 n cap w1.heap.size a #[.string ⟨#[]⟩, .string ⟨#[48]⟩, .string ⟨#[48, 48]⟩, .string ⟨#[120]⟩, .string ⟨#[48, 49]⟩, .string ⟨#[49]⟩] 6 _ (hr1.alloc _) (by omega) rfl (by omega) (by omega) (by show (w1.heap.push _)[w1.heap.size]? = _; rw [Array.getElem?_push, if_pos rfl]) (by omega)).mono ?_
    rintro e w2 ⟨⟨v, rfl, hv⟩, ⟨p2, hp2, hr2⟩, hk2⟩
    obtain ⟨s, rfl, hs⟩ := of_strs (M := 10) (by rfl) hv
    have HR2 := hide hr2
    have HK2 := hide (((unhide HK1).alloc _).trans hk2)
    clear hr2 hk2 hv hr1 c10 c11 c12 f1 c20 c21 c22 f2 hs1 hs2
    -- w2 the world, (unhide HK2) what is kept since W0
    have hA1 := (unhide HA1).keeps (unhide HK2) (by omega)
    have hA2 := (unhide HA2).keeps (unhide HK2) (by omega)
    have c10 := hA1.c0
    have c11 := hA1.c1
    have c12 := hA1.c2
    have f1 := hA1.f
    have c20 := hA2.c0
    have c21 := hA2.c1
    have c22 := hA2.c2
    have f2 := hA2.f
    have hs1 := hA1.lt
    have hs2 := hA2.lt
    clear hA1 hA2
    -- neg neg, (dec x) up, s down, ⟨by omega, by omega⟩ bounds, p2 the place, (unhide HR2) its fact, (unhide HK2) what is kept since W0, w2 the block's world
    go_wp2
    have hcc := And.intro c10 (And.intro c11 (And.intro c12 (And.intro c20 (And.intro c21 (And.intro c22 (And.intro hs1 hs2))))))
    refine bodyPost_ret (v := numS neg (dec x) s) (by simp [results, Tryd.results69, go_sem, numS, hcc]) rfl ⟨⟨neg, (dec x), s, rfl, ⟨by omega, by omega⟩⟩, ?_⟩
    have hD : Drawn w g p n cap a 10 w2 := ⟨⟨p2, by omega, (unhide HR2)⟩, (((Keeps.refl g w).alloc _).alloc _).trans (unhide HK2)⟩
    refine hD.more (unhide Hlt) ?_
    repeat (first | exact Below.refl _ _ | refine Below.setCell ?_ (by first | exact Nat.le_refl _ | exact Nat.le_succ _ | (simp; done) | (simp; omega)) _ | refine Below.alloc ?_ (by first | exact Nat.le_refl _ | (simp; done) | (simp; omega)) _)
  have z0 : ((i : Int) == 0) = false := by rw [beq_eq_false_iff_ne]; omega
  have z1 : ((i : Int) == 1) = false := by rw [beq_eq_false_iff_ne]; omega
  rcases Nat.lt_or_ge i 3 with h3 | h3
  · have hi2 : i = 2 := by omega
    subst hi2
    cases neg with
    | false =>
      -- true neg, (dec x) up, (dec y) down, ⟨by omega, by omega⟩ bounds, p1 the place, (unhide HR1) its fact, (unhide HK1) what is kept since W0, w1 the block's world
      go_wp2
      have hcc := And.intro c10 (And.intro c11 (And.intro c12 (And.intro c20 (And.intro c21 (And.intro c22 (And.intro hs1 hs2))))))
      refine bodyPost_ret (v := numS true (dec x) (dec y)) (by simp [results, Tryd.results69, go_sem, numS, hcc]) rfl ⟨⟨true, (dec x), (dec y), rfl, ⟨by omega, by omega⟩⟩, ?_⟩
      have hD : Drawn w g p n cap a 10 w1 := ⟨⟨p1, by omega, (unhide HR1)⟩, (((Keeps.refl g w).alloc _).alloc _).trans (unhide HK1)⟩
      refine hD.more (unhide Hlt) ?_
      repeat (first | exact Below.refl _ _ | refine Below.setCell ?_ (by first | exact Nat.le_refl _ | exact Nat.le_succ _ | (simp; done) | (simp; omega)) _ | refine Below.alloc ?_ (by first | exact Nat.le_refl _ | (simp; done) | (simp; omega)) _)
    | true =>
      -- false neg, (dec x) up, (dec y) down, ⟨by omega, by omega⟩ bounds, p1 the place, (unhide HR1) its fact, (unhide HK1) what is kept since W0, w1 the block's world
      go_wp2
      have hcc := And.intro c10 (And.intro c11 (And.intro c12 (And.intro c20 (And.intro c21 (And.intro c22 (And.intro hs1 hs2))))))
      refine bodyPost_ret (v := numS false (dec x) (dec y)) (by simp [results, Tryd.results69, go_sem, numS, hcc]) rfl ⟨⟨false, (dec x), (dec y), rfl, ⟨by omega, by omega⟩⟩, ?_⟩
      have hD : Drawn w g p n cap a 10 w1 := ⟨⟨p1, by omega, (unhide HR1)⟩, (((Keeps.refl g w).alloc _).alloc _).trans (unhide HK1)⟩
      refine hD.more (unhide Hlt) ?_
      repeat (first | exact Below.refl _ _ | refine Below.setCell ?_ (by first | exact Nat.le_refl _ | exact Nat.le_succ _ | (simp; done) | (simp; omega)) _ | refine Below.alloc ?_ (by first | exact Nat.le_refl _ | (simp; done) | (simp; omega)) _)
  have z2 : ((i : Int) == 2) = false := by rw [beq_eq_false_iff_ne]; omega
  rcases Nat.lt_or_ge i 4 with h4 | h4
  · have hi3 : i = 3 := by omega
    subst hi3
    go_wp2_with fail
    rw [show (Value.string ⟨#[50]⟩) = .string (dec 2) from rfl]
    have h := l1Mul_c x 2 w1 (by omega) (by decide)
    refine h.mono ?_
    clear h
    rintro e w2 ⟨rfl, hb2⟩
    have HR2 := hide ((unhide HR1).keep hb2)
    have HK2 := hide ((unhide HK1).trans (Keeps.of_below hb2))
    clear hb2 c10 c11 c12 f1 c20 c21 c22 f2 hs1 hs2
    -- w2 the world, (unhide HK2) what is kept since W0
    have hA1 := (unhide HA1).keeps (unhide HK2) (by omega)
    have hA2 := (unhide HA2).keeps (unhide HK2) (by omega)
    have c10 := hA1.c0
    have c11 := hA1.c1
    have c12 := hA1.c2
    have f1 := hA1.f
    have c20 := hA2.c0
    have c21 := hA2.c1
    have c22 := hA2.c2
    have f2 := hA2.f
    have hs1 := hA1.lt
    have hs2 := hA2.lt
    clear hA1 hA2
    have hB1 := ((unhide HA1).keeps (unhide HK2) (by omega)).set1 (.string (dec (x * 2)))
    have hB2 := ((unhide HA2).keeps (unhide HK2) (by omega)).set (p := ⟨w.heap.size, 1, none⟩) (by simp) (.string (dec (x * 2)))
    have HR3 := hide ((unhide HR2).below (w' := w2.setCell ⟨w.heap.size, 1, none⟩ (.string (dec (x * 2)))) ((Below.refl _ _).setCell (by show g + 1 ≤ w.heap.size; omega) _))
    have HK3 := hide ((((Keeps.refl g w).alloc (.cells #[.bool neg, .string (dec x), .string (dec y)] 26)).alloc (.cells #[.bool false, .string ⟨#[]⟩, .string ⟨#[]⟩] 26)).trans (unhide HK2))
    have HK4 := hide ((unhide HK3).setNew (p := ⟨w.heap.size, 1, none⟩) (Nat.le_refl _) (.string (dec (x * 2))))
    have HB1 := hide hB1
    have HB2 := hide hB2
    clear hB1 hB2
    go_wp2_with fail
    rw [show (Value.string ⟨#[50]⟩) = .string (dec 2) from rfl]
    have h := l1Mul_c y 2 (w2.setCell ⟨w.heap.size, 1, none⟩ (.string (dec (x * 2)))) (by omega) (by decide)
    refine h.mono ?_
    clear h
    rintro e w3 ⟨rfl, hb3⟩
    have hR := (unhide HR3).keep hb3
    have hK := (unhide HK4).trans (Keeps.of_below hb3)
    have hA1 := (unhide HB1).below hb3
    have hA2 := (unhide HB2).below hb3
    clear hb3 c10 c11 c12 f1 c20 c21 c22 f2 hs1 hs2
    have c10 := hA1.c0
    have c11 := hA1.c1
    have c12 := hA1.c2
    have f1 := hA1.f
    have c20 := hA2.c0
    have c21 := hA2.c1
    have c22 := hA2.c2
    have f2 := hA2.f
    have hs1 := hA1.lt
    have hs2 := hA2.lt
    have HR := hide hR
    have HK := hide hK
    have hx2 : (dec (x * 2)).size ≤ 61 := dec_size_two hx
    have hy2 : (dec (y * 2)).size ≤ 61 := dec_size_two hy
    clear hA1 hA2 hR hK
    go_wp2
    have hcc := And.intro c10 (And.intro c11 (And.intro c12 (And.intro c20 (And.intro c21 (And.intro c22 (And.intro hs1 hs2))))))
    refine bodyPost_ret (v := numS neg (dec (x * 2)) (dec (y * 2))) (by simp [results, Tryd.results69, go_sem, numS, hcc]) rfl ⟨⟨neg, _, _, rfl, ⟨by omega, by omega⟩⟩, ?_⟩
    have hD : Drawn w g p n cap a 10 w3 := ⟨⟨_, by omega, unhide HR⟩, unhide HK⟩
    refine hD.more (unhide Hlt) ?_
    repeat (first | exact Below.refl _ _ | refine Below.setCell ?_ (by first | exact Nat.le_refl _ | exact Nat.le_succ _ | (simp; done) | (simp; omega)) _ | refine Below.alloc ?_ (by first | exact Nat.le_refl _ | (simp; done) | (simp; omega)) _)
  have z3 : ((i : Int) == 3) = false := by rw [beq_eq_false_iff_ne]; omega
  rcases Nat.lt_or_ge i 5 with h5 | h5
  · have hi4 : i = 4 := by omega
    subst hi4
    go_wp2_with fail
    refine (pick_d g p1 n cap a 2 _ (unhide HR1) (by omega) (by omega)).mono ?_
    rintro e w2 ⟨⟨j, rfl, hj⟩, ⟨p2, hp2, hr2⟩, hk2⟩
    have hj2 : j < 2 := by rcases hj with h | h <;> omega
    have HR2 := hide hr2
    have HK2 := hide ((unhide HK1).trans hk2)
    clear hr2 hk2 hj c10 c11 c12 f1 c20 c21 c22 f2 hs1 hs2
    go_wp2_with fail
    refine (l1Many_c ⟨#[57]⟩ (60 + (j : Int)) 100 _ (by show 1 * _ ≤ _; omega) (by omega) (by omega)).mono ?_
    rintro e w3 ⟨⟨s, rfl, hs⟩, rfl⟩
    -- w3 the world, (unhide HK2) what is kept since W0
    have hA1 := (unhide HA1).keeps (unhide HK2) (by omega)
    have hA2 := (unhide HA2).keeps (unhide HK2) (by omega)
    have c10 := hA1.c0
    have c11 := hA1.c1
    have c12 := hA1.c2
    have f1 := hA1.f
    have c20 := hA2.c0
    have c21 := hA2.c1
    have c22 := hA2.c2
    have f2 := hA2.f
    have hs1 := hA1.lt
    have hs2 := hA2.lt
    clear hA1 hA2
    -- neg neg, s up, (dec y) down, ⟨by omega, by omega⟩ bounds, p2 the place, (unhide HR2) its fact, (unhide HK2) what is kept since W0, w3 the block's world
    go_wp2
    have hcc := And.intro c10 (And.intro c11 (And.intro c12 (And.intro c20 (And.intro c21 (And.intro c22 (And.intro hs1 hs2))))))
    refine bodyPost_ret (v := numS neg s (dec y)) (by simp [results, Tryd.results69, go_sem, numS, hcc]) rfl ⟨⟨neg, s, (dec y), rfl, ⟨by omega, by omega⟩⟩, ?_⟩
    have hD : Drawn w g p n cap a 10 w3 := ⟨⟨p2, by omega, (unhide HR2)⟩, (((Keeps.refl g w).alloc _).alloc _).trans (unhide HK2)⟩
    refine hD.more (unhide Hlt) ?_
    repeat (first | exact Below.refl _ _ | refine Below.setCell ?_ (by first | exact Nat.le_refl _ | exact Nat.le_succ _ | (simp; done) | (simp; omega)) _ | refine Below.alloc ?_ (by first | exact Nat.le_refl _ | (simp; done) | (simp; omega)) _)
  have z4 : ((i : Int) == 4) = false := by rw [beq_eq_false_iff_ne]; omega
  rcases Nat.lt_or_ge i 6 with h6 | h6
  · have hi5 : i = 5 := by omega
    subst hi5
    go_wp2_with fail
    refine (pick_d g p1 n cap a 2 _ (unhide HR1) (by omega) (by omega)).mono ?_
    rintro e w2 ⟨⟨j, rfl, hj⟩, ⟨p2, hp2, hr2⟩, hk2⟩
    have hj2 : j < 2 := by rcases hj with h | h <;> omega
    have HR2 := hide hr2
    have HK2 := hide ((unhide HK1).trans hk2)
    clear hr2 hk2 hj c10 c11 c12 f1 c20 c21 c22 f2 hs1 hs2
    go_wp2_with fail
    refine (l1Many_c ⟨#[48]⟩ (59 + (j : Int)) 100 _ (by show 1 * _ ≤ _; omega) (by omega) (by omega)).mono ?_
    rintro e w3 ⟨⟨s, rfl, hs⟩, rfl⟩
    have hsz : (⟨#[49]⟩ ++ s : ByteArray).size ≤ 101 := by rw [ByteArray.size_append]; show 1 + _ ≤ _; omega
    have hns : ¬ 9223372036854775807 < 1 + s.size := by omega
    -- w3 the world, (unhide HK2) what is kept since W0
    have hA1 := (unhide HA1).keeps (unhide HK2) (by omega)
    have hA2 := (unhide HA2).keeps (unhide HK2) (by omega)
    have c10 := hA1.c0
    have c11 := hA1.c1
    have c12 := hA1.c2
    have f1 := hA1.f
    have c20 := hA2.c0
    have c21 := hA2.c1
    have c22 := hA2.c2
    have f2 := hA2.f
    have hs1 := hA1.lt
    have hs2 := hA2.lt
    clear hA1 hA2
    -- neg neg, (dec x) up, (⟨#[49]⟩ ++ s) down, ⟨by omega, by omega⟩ bounds, p2 the place, (unhide HR2) its fact, (unhide HK2) what is kept since W0, w3 the block's world
    go_wp2
    have hcc := And.intro c10 (And.intro c11 (And.intro c12 (And.intro c20 (And.intro c21 (And.intro c22 (And.intro hs1 hs2))))))
    refine bodyPost_ret (v := numS neg (dec x) (⟨#[49]⟩ ++ s)) (by simp [results, Tryd.results69, go_sem, numS, hcc]) rfl ⟨⟨neg, (dec x), (⟨#[49]⟩ ++ s), rfl, ⟨by omega, by omega⟩⟩, ?_⟩
    have hD : Drawn w g p n cap a 10 w3 := ⟨⟨p2, by omega, (unhide HR2)⟩, (((Keeps.refl g w).alloc _).alloc _).trans (unhide HK2)⟩
    refine hD.more (unhide Hlt) ?_
    repeat (first | exact Below.refl _ _ | refine Below.setCell ?_ (by first | exact Nat.le_refl _ | exact Nat.le_succ _ | (simp; done) | (simp; omega)) _ | refine Below.alloc ?_ (by first | exact Nat.le_refl _ | (simp; done) | (simp; omega)) _)
  have z5 : ((i : Int) == 5) = false := by rw [beq_eq_false_iff_ne]; omega
  go_wp2
  have hcc := And.intro c10 (And.intro c11 (And.intro c12 (And.intro c20 (And.intro c21 (And.intro c22 (And.intro hs1 hs2))))))
  refine bodyPost_ret (v := numS false ⟨#[]⟩ ⟨#[]⟩) (by simp [results, Tryd.results69, go_sem, numS, hcc]) rfl ⟨⟨false, _, _, rfl, ⟨by decide, by decide⟩⟩, ?_⟩
  have hD : Drawn w g p n cap a 10 w1 := ⟨⟨p1, by omega, unhide HR1⟩, (((Keeps.refl g w).alloc _).alloc _).trans (unhide HK1)⟩
  refine hD.more (unhide Hlt) ?_
  repeat (first | exact Below.refl _ _ | refine Below.setCell ?_ (by first | exact Nat.le_refl _ | exact Nat.le_succ _ | (simp; done) | (simp; omega)) _ | refine Below.alloc ?_ (by first | exact Nat.le_refl _ | (simp; done) | (simp; omega)) _)
end Go.Proofs.YtijgolgfcgkbiaaDoor
namespace Go.Proofs.YtijgolgfcgkbiaaDoor
open Go.RowKit Nt

set_option maxRecDepth 100000 in
set_option maxHeartbeats 2000000 in
theorem l6Any_c (g p n cap : Nat) (a : Option Addr) (w : World) (h : Rd w g p a n cap) (hp : p ≤ 700000000) :
    Calls Tryd.prog 44 #[.pointer (some ⟨g, 0, none⟩)] w fun e w' => (∃ neg us ds, e = .returned (numS neg us ds) ∧ smallS us ds) ∧ Drawn w g p n cap a 400 w' := by
  have hlt := h.lt
  have Hlt := hide hlt
  have HR := hide (h.alloc (.cells #[.bool false, .string ⟨#[]⟩, .string ⟨#[]⟩] 26))
  clear h
  go_enter Tryd.func44, Tryd.ntmps44
  go_wp2_with fail
  have h := l6Num_c g p n cap a _ (unhide HR) (by omega)
  refine h.mono ?_
  clear h
  rintro e w1 ⟨⟨neg, x, y, rfl, hx60, hy60⟩, ⟨p1, hp1, hr1⟩, hk1⟩
  have hA := (At3.new w (.bool false) (.string ⟨#[]⟩) (.string ⟨#[]⟩)).keeps hk1 (by omega)
  have HA := hide (hA.alloc (.cells #[.bool neg, .string (dec x), .string (dec y)] 26))
  have HB := hide (At3.new w1 (.bool neg) (.string (dec x)) (.string (dec y)))
  have hs0 := hA.lt
  have hs1 : g < w1.heap.size := hr1.lt
  have HR1 := hide (hr1.alloc (.cells #[.bool neg, .string (dec x), .string (dec y)] 26))
  have HK1 := hide ((((Keeps.refl g w).alloc _).trans hk1).alloc (.cells #[.bool neg, .string (dec x), .string (dec y)] 26))
  clear hr1 hk1 hA
  unfold numV
  go_wp2_with fail
  refine (pick_d g p1 n cap a 24 _ (unhide HR1) (by omega) (by omega)).mono ?_
  rintro e w2 ⟨⟨i, rfl, hi⟩, ⟨p2, hp2, hr2⟩, hk2⟩
  have hA1 := (unhide HA).keeps hk2 (by omega)
  have hA2 := (unhide HB).keeps hk2 (by omega)
  have c10 := hA1.c0
  have c11 := hA1.c1
  have c12 := hA1.c2
  have f1 := hA1.f
  have c20 := hA2.c0
  have c21 := hA2.c1
  have c22 := hA2.c2
  have f2 := hA2.f
  have hs2 := hA2.lt
  have HR2 := hide hr2
  have HK2 := hide ((unhide HK1).trans hk2)
  have HA1 := hide hA1
  clear hr2 hk2 hi hA1 hA2
  by_cases hi0 : i = 0
  · have z0 : ((i : Int) == 0) = true := by rw [beq_iff_eq]; omega
    have HI := hide hi0
    clear hi0
    go_wp2_with fail
    have h := l6Spoil_c g p2 n cap a neg x y w2 (unhide HR2) (by omega) hx60 hy60
    refine h.mono ?_
    clear h
    rintro e w3 ⟨⟨neg', us, ds, rfl, hsm⟩, ⟨p3, hp3, hr3⟩, hk3⟩
    have hA1 := (unhide HA1).keeps hk3 (by omega)
    clear c10 c11 c12 f1
    have c10 := hA1.c0
    have c11 := hA1.c1
    have c12 := hA1.c2
    have f1 := hA1.f
    have hD : Drawn w g p n cap a 400 w3 := ⟨⟨p3, by omega, hr3⟩, (unhide HK2).trans hk3⟩
    have HD := hide hD
    have Hsm := hide hsm
    have hs3 := hA1.lt
    clear hD hsm hr3 hk3 hA1
    unfold numS
    go_wp2
    have hcc := And.intro c10 (And.intro c11 c12)
    refine bodyPost_ret (v := .agg #[.bool neg', .string us, .string ds]) (by simp [results, Tryd.results44, go_sem, hcc]) rfl ⟨⟨neg', us, ds, rfl, unhide Hsm⟩, ?_⟩
    refine (unhide HD).more (unhide Hlt) ?_
    repeat (first | exact Below.refl _ _ | refine Below.setCell ?_ (by first | exact Nat.le_refl _ | exact Nat.le_succ _ | (simp; done) | (simp; omega)) _ | refine Below.alloc ?_ (by first | exact Nat.le_refl _ | (simp; done) | (simp; omega)) _)
  · have z0 : ((i : Int) == 0) = false := by rw [beq_eq_false_iff_ne]; omega
    have hD : Drawn w g p n cap a 400 w2 := ⟨⟨p2, by omega, unhide HR2⟩, unhide HK2⟩
    have HD := hide hD
    clear hD hi0
    go_wp2
    have hcc := And.intro c10 (And.intro c11 c12)
    refine bodyPost_ret (v := .agg #[.bool neg, .string (dec x), .string (dec y)]) (by simp [results, Tryd.results44, go_sem, hcc]) rfl ⟨⟨neg, _, _, rfl, ⟨by omega, by omega⟩⟩, ?_⟩
    refine (unhide HD).more (unhide Hlt) ?_
    repeat (first | exact Below.refl _ _ | refine Below.setCell ?_ (by first | exact Nat.le_refl _ | exact Nat.le_succ _ | (simp; done) | (simp; omega)) _ | refine Below.alloc ?_ (by first | exact Nat.le_refl _ | (simp; done) | (simp; omega)) _)

/-- an integer of a table -/
def isI : Value → Bool | .int .i64 _ => true | _ => false
theorem isI_out {v : Value} (h : isI v = true) : ∃ x, v = .int .i64 x := by
  cases v with
  | int k x => cases k <;> simp [isI] at h; exact ⟨x, rfl⟩
  | _ => simp [isI] at h

/-- a table's cells, behind a draw -/
theorem tab_cell {w w1 w2 : World} {g q i : Nat} {cs : Array Value} {T : TypeId} (h : w.heap[q]? = some (.cells cs T (0, 0))) (hb : Keeps g w w1) (hk : Keeps g w1 w2) (hqg : q ≠ g) (hi : i < cs.size) :
    ∃ v, v ∈ cs.toList ∧ w2.cell? ⟨q, i, none⟩ = some v := by
  have hq : q < w.heap.size := (Array.getElem?_eq_some_iff.1 h).1
  refine ⟨cs[i], by simp, ?_⟩
  rw [(hb.trans hk).cell (p := ⟨q, i, none⟩) hq hqg]
  simp [World.cell?, h, hi]

set_option maxRecDepth 100000 in
set_option maxHeartbeats 2000000 in
theorem DrawNumInt_c (a : Option Addr) (n cap : Nat) (w : World) (h : Bytes0 w a n) (hcap : n ≤ cap) (hmax : cap ≤ maxLen) :
    Calls Tryd.prog 12 #[.slice a n cap] w fun e w' => (∃ i : Int, e = .returned (.int .i64 i) ∧ -9223372036854775808 ≤ i ∧ i ≤ 9223372036854775807) ∧ Below w.heap.size w w' := by
  go_enter Tryd.func12, Tryd.ntmps12
  go_wp2_with fail
  refine (l1Open_c a n cap w h hcap hmax).mono ?_
  rintro e w1 ⟨rfl, ⟨m, hm, hr1⟩, hb1⟩
  have hg := hr1.lt
  have HR1 := hide hr1
  clear hr1 h
  go_wp2_with fail
  refine (pick_d w.heap.size 0 m cap a 100 _ (unhide HR1) (by omega) (by omega)).mono ?_
  rintro e w2 ⟨⟨x, rfl, hx⟩, ⟨p2, hp2, hr2⟩, hk2⟩
  have hx' : x < 100 := by rcases hx with h | h <;> omega
  have HR2 := hide hr2
  have HK2 := hide hk2
  clear hr2 hk2 hx
  go_wp2_with fail
  refine (pick_d w.heap.size p2 m cap a 100 _ (unhide HR2) (by omega) (by omega)).mono ?_
  rintro e w3 ⟨⟨y, rfl, hy⟩, ⟨p3, hp3, hr3⟩, hk3⟩
  have hy' : y < 100 := by rcases hy with h | h <;> omega
  have HR3 := hide hr3
  have HK3 := hide ((unhide HK2).trans hk3)
  clear hr3 hk3 hy
  go_wp2_with fail
  refine (pick_d w.heap.size p3 m cap a 1073741824 _ (unhide HR3) (by omega) (by omega)).mono ?_
  rintro e w4 ⟨⟨z, rfl, hz⟩, ⟨p4, hp4, hr4⟩, hk4⟩
  have hz' : z < 1073741824 := by rcases hz with h | h <;> omega
  have hlt4 := hr4.lt
  have HR4 := hide hr4
  have HK4 := hide ((unhide HK3).trans hk4)
  clear hr4 hk4 hz
  go_wp2_with fail
  refine (pick_d w.heap.size p4 m cap a 6 _ ((unhide HR4).alloc _) (by omega) (by omega)).mono ?_
  rintro e w5 ⟨⟨i, rfl, hi⟩, ⟨p5, hp5, hr5⟩, hk5⟩
  have hi' : i < 6 := by rcases hi with h | h <;> omega
  have hiL : (i : Int) < 6 := by omega
  obtain ⟨v, hv, hc⟩ := tab_cell (w1 := w4.alloc _) (q := w4.heap.size) (i := i) (by show (w4.heap.push _)[w4.heap.size]? = _; rw [Array.getElem?_push, if_pos rfl]) (Keeps.refl _ _) hk5 (by omega) (by show i < 6; omega)
  have HF := hide ((((unhide HK4).alloc _).trans hk5).below (Nat.le_refl _) (by omega))
  obtain ⟨u, rfl, hu0, hu1⟩ : ∃ u : Int, v = .int .i64 u ∧ -9223372036854775808 ≤ u ∧ u ≤ 9223372036854775807 := by
    simp at hv
    rcases hv with rfl | rfl | rfl | rfl | rfl | rfl
    · exact ⟨_, rfl, by omega, by omega⟩
    · exact ⟨_, rfl, by omega, by omega⟩
    · exact ⟨_, rfl, by omega, by omega⟩
    · exact ⟨_, rfl, by omega, by omega⟩
    · exact ⟨_, rfl, by omega, by omega⟩
    · exact ⟨_, rfl, by omega, by omega⟩
  clear hk5 hr5 hi hv
  go_wp2
  go_ret
  exact ⟨⟨u, rfl, hu0, hu1⟩, hb1.trans (unhide HF)⟩
end Go.Proofs.YtijgolgfcgkbiaaDoor
namespace Go.Proofs.YtijgolgfcgkbiaaDoor
open Go.RowKit Nt

theorem heap_at (w : World) (cs : Array Value) (T : TypeId) : (w.alloc (.cells cs T)).heap[w.heap.size]? = some (.cells cs T (0, 0)) := by
  show (w.heap.push _)[w.heap.size]? = _; rw [Array.getElem?_push, if_pos rfl]
theorem int_at {cs : Array Value} {i : Nat} (h : cs.toList.all isI = true) (hi : i < cs.size) : ∃ r, cs[i]? = some (.int .i64 r) := by
  obtain ⟨r, hr⟩ := isI_out (List.all_eq_true.1 h cs[i] (by simp))
  exact ⟨r, by rw [Array.getElem?_eq_getElem hi, hr]⟩
theorem isI_mem {l : List Value} {v : Value} (h : l.all isI = true) (hv : v ∈ l) : ∃ x, v = .int .i64 x := isI_out (List.all_eq_true.1 h v hv)

/-- a table made ahead of two draws, of one draw -/
theorem tab_keep2 {w wa wp : World} {g i q : Nat} {cs : Array Value} {T : TypeId} {v : Value} (hq : q = w.heap.size) (hka : Keeps g (w.alloc (.cells cs T)) wa) (hkp : Keeps g wa wp) (hg : q ≠ g) (hv : cs[i]? = some v) : wp.cell? ⟨q, i, none⟩ = some v := by
  subst hq
  rw [(hka.trans hkp).cell (p := ⟨w.heap.size, i, none⟩) (by simp) hg]
  simp [hv]
theorem tab_keep1 {w wp : World} {g i q : Nat} {cs : Array Value} {T : TypeId} {v : Value} (hq : q = w.heap.size) (hkp : Keeps g (w.alloc (.cells cs T)) wp) (hg : q ≠ g) (hv : cs[i]? = some v) : wp.cell? ⟨q, i, none⟩ = some v :=
  tab_keep2 hq hkp (Keeps.refl _ _) hg hv

theorem tab_keep3 {w wa wp : World} {g i q : Nat} {cs : Array Value} {T : TypeId} {v : Value} (hq : q = w.heap.size) (hka : Keeps g (w.alloc (.cells cs T)).drew wa) (hkp : Keeps g wa wp) (hg : q ≠ g) (hv : cs[i]? = some v) : wp.cell? ⟨q, i, none⟩ = some v :=
  tab_keep2 hq (show Keeps g (w.alloc (.cells cs T)) wa from ⟨hka.os, hka.tape, hka.output, hka.size, hka.block⟩) hkp hg hv

/-- the table of radixes -/
def radTab : Array Value := #[.int .i64 10, .int .i64 2, .int .i64 8, .int .i64 16, .int .i64 3, .int .i64 0]

set_option maxRecDepth 100000 in
set_option maxHeartbeats 4000000 in
theorem DrawNumPrint_c (a : Option Addr) (n cap : Nat) (w : World) (h : Bytes0 w a n) (hcap : n ≤ cap) (hmax : cap ≤ maxLen) :
    Calls Tryd.prog 9 #[.slice a n cap] w fun e w' => (∃ neg us ds r, e = .returned (.tuple #[numS neg us ds, .int .i64 r]) ∧ smallS us ds) ∧ Below w.heap.size w w' := by
  have hA0 := At3.new w (.bool false) (.string ⟨#[]⟩) (.string ⟨#[]⟩)
  have H := hide (h.below ((Below.refl _ _).alloc (Nat.le_refl _) (.cells #[.bool false, .string ⟨#[]⟩, .string ⟨#[]⟩] 26)))
  have HA0 := hide hA0
  clear h hA0
  go_enter Tryd.func9, Tryd.ntmps9
  go_wp2_with fail
  refine (l1Open_c a n cap _ (unhide H) hcap hmax).mono ?_
  rintro e w1 ⟨rfl, ⟨m, hm, hr1⟩, hb1⟩
  rw [show (w.alloc (.cells #[.bool false, .string ⟨#[]⟩, .string ⟨#[]⟩] 26)).heap.size = w.heap.size + 1 from by simp] at hr1 hb1 ⊢
  have hA1 := (unhide HA0).below (by simpa using hb1)
  have hlt1 := hr1.lt
  have HR1 := hide hr1
  have HA1 := hide hA1
  have HB1 := hide (below_new hb1)
  clear hr1 hb1 hA1
  go_wp2
  go_region_with (first | (go_at_call 44; refine (l6Any_c (w.heap.size + 1) 0 m cap a _ (by repeat (first | exact unhide HR1 | refine Rd.drew ?_ | refine Rd.alloc ?_ _)) (by omega)).mono ?_; rintro e wa ⟨⟨neg, us, ds, rfl, hsm⟩, ⟨pa, hpa, hra⟩, hka⟩; have hlta := hra.lt; have HRa := hide hra; have HKa := hide hka; have Hsm := hide hsm; have HAa : Hid (At3 wa w.heap.size (.bool false) (.string ⟨#[]⟩) (.string ⟨#[]⟩)) := (by refine At3.keeps (g := w.heap.size + 1) ?_ hka (by omega); repeat (first | exact unhide HA1 | refine At3.drew ?_ | refine At3.alloc ?_ _)); clear hra hka hsm; unfold numS) | (go_at_call 25; refine (pick_d (w.heap.size + 1) pa m cap a 6 _ (by repeat (first | exact unhide HRa | refine Rd.drew ?_ | refine Rd.alloc ?_ _)) (by omega) (by omega)).mono ?_; rintro e wp ⟨⟨i, rfl, hi⟩, ⟨pp, hpp, hrp⟩, hkp⟩; have hi6 : i < 6 := (by rcases hi with h | h <;> omega); have hiL : (i : Int) < 6 := (by omega); have hAp : At3 wp w.heap.size (.bool false) (.string ⟨#[]⟩) (.string ⟨#[]⟩) := (by refine At3.keeps (g := w.heap.size + 1) ?_ hkp (by omega); repeat (first | exact unhide HAa | refine At3.drew ?_ | refine At3.alloc ?_ _)); have c10 := hAp.c0; have c11 := hAp.c1; have c12 := hAp.c2; have f1 := hAp.f; have hs1 := hAp.lt; obtain ⟨r, hr⟩ := int_at (cs := #[.int .i64 10, .int .i64 2, .int .i64 8, .int .i64 16, .int .i64 3, .int .i64 0]) rfl hi6; have hrl : ([.int .i64 10, .int .i64 2, .int .i64 8, .int .i64 16, .int .i64 3, .int .i64 0] : List Value)[i]? = some (.int .i64 r) := (by simpa using hr); have hrg := (List.getElem?_eq_some_iff.1 hrl).2; have hcA := (by first | exact tab_keep2 (q := w1.heap.size) (i := i) rfl (unhide HKa) hkp (by omega) hr | exact tab_keep3 (q := w1.heap.size) (i := i) rfl (unhide HKa) hkp (by omega) hr | exact tab_keep1 (q := wa.heap.size) (i := i) rfl hkp (by omega) hr | exact trivial : _); have HKp := hide hkp; clear hrp hkp hi hAp))
  all_goals
    go_wp2
    have hcc := And.intro c10 (And.intro c11 (And.intro c12 (And.intro hs1 hrg)))
    refine bodyPost_ret (v := .tuple #[.agg #[.bool neg, .string us, .string ds], .int .i64 r]) (by simp [results, Tryd.results9, go_sem, hcc]) rfl ⟨⟨neg, us, ds, r, rfl, unhide Hsm⟩, ?_⟩
    have hF : Below w.heap.size w wp := by
      first
        | exact (unhide HB1).trans (((show Keeps (w.heap.size + 1) w1 wa from ⟨(unhide HKa).os, (unhide HKa).tape, (unhide HKa).output, (unhide HKa).size, (unhide HKa).block⟩).trans (unhide HKp)).below (by omega) (by omega))
        | exact (unhide HB1).trans (((show Keeps (w.heap.size + 1) w1 wa from ⟨(unhide HKa).os, (unhide HKa).tape, (unhide HKa).output, (unhide HKa).size, (unhide HKa).block⟩).trans (((Keeps.refl _ _).alloc _).trans (unhide HKp))).below (by omega) (by omega))
        | exact (unhide HB1).trans (((((Keeps.refl (w.heap.size + 1) w1).alloc (.cells #[.int .i64 10, .int .i64 2, .int .i64 8, .int .i64 16, .int .i64 3, .int .i64 0] 3)).trans (show Keeps (w.heap.size + 1) (w1.alloc (.cells #[.int .i64 10, .int .i64 2, .int .i64 8, .int .i64 16, .int .i64 3, .int .i64 0] 3)) wa from ⟨(unhide HKa).os, (unhide HKa).tape, (unhide HKa).output, (unhide HKa).size, (unhide HKa).block⟩)).trans (unhide HKp)).below (by omega) (by omega))
    refine hF.trans ?_
    repeat (first | exact Below.refl _ _ | refine Below.setCell ?_ (by first | exact Nat.le_refl _ | exact Nat.le_succ _ | (simp; done) | (simp; omega)) _ | refine Below.alloc ?_ (by first | exact Nat.le_refl _ | (simp; done) | (simp; omega)) _)
end Go.Proofs.YtijgolgfcgkbiaaDoor
