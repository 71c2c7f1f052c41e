/- A part of the proof, put together out of smaller texts: each piece says what it is for. -/
import Derived.Test.YtchginjabaobfaaDoorM6
import Derived.Deep.RegionWith
namespace Go.Proofs.YtchginjabaobfaaDoor
open Go.RowKit Nt

theorem dec_lits : dec 0 = ⟨#[48]⟩ ∧ dec 1 = ⟨#[49]⟩ ∧ dec 2 = ⟨#[50]⟩ ∧ dec 10 = ⟨#[49, 48]⟩ ∧ dec 100 = ⟨#[49, 48, 48]⟩ ∧ dec 999 = ⟨#[57, 57, 57]⟩ ∧ dec 1000 = ⟨#[49, 48, 48, 48]⟩ := by
  refine ⟨rfl, rfl, rfl, rfl, rfl, rfl, rfl⟩


set_option maxRecDepth 100000 in
set_option maxHeartbeats 1000000 in
theorem l6Digits_c (g p n cap : Nat) (a : Option Addr) (w : World) (h : Rd w g p a n cap) (hp : p ≤ 900000000) :
    Calls Tryd.prog 37 #[.pointer (some ⟨g, 0, none⟩)] w fun e w' => (∃ x, e = .returned (.string (dec x)) ∧ (dec x).size ≤ 60) ∧ Drawn w g p n cap a 100 w' := by
  unfold Drawn
  have H := hide h
  clear h
  go_enter Tryd.func37, Tryd.ntmps37
  go_wp2_with fail
  refine (pick_c g p n cap a 4 _ (unhide H) (by omega) (by omega)).mono ?_
  rintro e w1 ⟨⟨i1, rfl, hi1⟩, hr1, hk1⟩
  have hi1' : i1 < 4 := by rcases hi1 with h | h <;> omega
  have HR1 := hide hr1
  have HK1 := hide hk1
  clear hr1 hk1 hi1
  go_wp2_with fail
  refine (pick_c g (p + 1) n cap a 8 _ (unhide HR1) (by omega) (by omega)).mono ?_
  rintro e w2 ⟨⟨i2, rfl, hi2⟩, hr2, hk2⟩
  have HR2 := hide hr2
  have HK2 := hide ((unhide HK1).trans hk2)
  clear hr2 hk2 hi2
  by_cases h0 : i2 = 0
  · subst h0
    go_wp2_with fail
    refine (pick_c g (p + 1 + 1) n cap a 30 _ (unhide HR2) (by omega) (by omega)).mono ?_
    rintro e w2' ⟨⟨i3, rfl, hi3⟩, hr3, hk3⟩
    have hi3' : i3 < 30 := by rcases hi3 with h | h <;> omega
    have HR3 := hide hr3
    have HK3 := hide ((unhide HK2).trans hk3)
    clear hr3 hk3 hi3
    go_wp2
    -- the digits are drawn: (1 + (i3 : Int)) how many (Int), w2' the world ahead, (p + 1 + 1 + 1) the reader's place, (unhide HR3) its fact, (unhide HK3) what is kept
    go_loopw [4, 5] (fun vo vi wr => ∃ (xs : List Nat) (p' : Nat), vi = .int .i64 (xs.length : Int) ∧ vo = .string (B ((xs.map sg).reverse)) ∧ Hid (∀ d ∈ xs, d < 10) ∧ (xs.length : Int) ≤ (1 + (i3 : Int)) ∧ p' ≤ (p + 1 + 1 + 1) + xs.length ∧ Rd wr g p' a n cap ∧ Keeps g w wr) (fun _ vi _ => ((1 + (i3 : Int)) - intOf vi).toNat)
    case atStart => exact ⟨[], (p + 1 + 1 + 1), rfl, rfl, hide (by simp), by simp; omega, by simp, (unhide HR3), (unhide HK3)⟩
    case round =>
      obtain ⟨xs, p', rfl, rfl, hd, hle, hp', hr', hk'⟩ := hrel
      have HR' := hide hr'
      have HK' := hide hk'
      clear hr' hk'
      have hBx := B_size ((xs.map sg).reverse)
      simp only [List.length_reverse, List.length_map] at hBx
      by_cases hlt : (xs.length : Int) < (1 + (i3 : Int))
      · go_wp2_with fail
        refine (pick_c g p' n cap a 10 _ (unhide HR') (by omega) (by omega)).mono ?_
        rintro e w3 ⟨⟨d, rfl, hd10⟩, hr3, hk3⟩
        have hd9 : d < 10 := by rcases hd10 with h | h <;> omega
        have HR3 := hide hr3
        have HK3 := hide hk3
        clear hr3 hk3 hd10
        go_wp2_with fail
        refine (l1Small_c d (by omega) _).mono ?_
        rintro e w4 ⟨rfl, hb4⟩
        have hds : (dec d).size = 1 := by unfold dec txt; rw [txl_one 10 (by omega) d hd9, B_size]; rfl
        have happ : Hid (B ((xs.map sg).reverse) ++ dec d = B (((d :: xs).map sg).reverse)) := by
          show _ = _; unfold dec txt; rw [txl_one 10 (by omega) d hd9, B_append]; simp
        go_wp2
        go_roundw
        case rel => exact ⟨d :: xs, p' + 1, by simp, by rw [unhide happ], hide (by intro x hx; rcases List.mem_cons.1 hx with rfl | hx; exact hd9; exact unhide hd x hx), by simp; omega, by simp; omega, (unhide HR3).keep hb4, ((unhide HK').trans (unhide HK3)).trans (Keeps.of_below hb4)⟩
        case measure => simp [intOf]; omega
      · have hne : xs ≠ [] := by intro h; subst h; simp at hlt; omega
        have htr := trim_rev xs (unhide hd) hne
        have hlen : (xs.map sg).reverse.length ≤ 60 := by simp; omega
        have htl := trim_length ((xs.map sg).reverse)
        rw [htr] at htl
        have Htr := hide htr
        clear htr
        go_wp2_with fail
        refine (l1Trim_c ((xs.map sg).reverse) _ (by omega)).mono ?_
        rintro e w3 ⟨rfl, rfl⟩
        go_wp2
        go_ret
        exact ⟨⟨ofd 10 xs, ret_str (by rw [unhide Htr]; rfl), by rw [dec_len]; omega⟩, ⟨p', by omega, unhide HR'⟩, unhide HK'⟩
  · by_cases h1 : i2 = 1
    · subst h1
      go_wp2_with fail
      refine (pick_c g (p + 1 + 1) n cap a 3 _ (unhide HR2) (by omega) (by omega)).mono ?_
      rintro e w2' ⟨⟨i3, rfl, hi3⟩, hr3, hk3⟩
      have hi3' : i3 < 3 := by rcases hi3 with h | h <;> omega
      have HR3 := hide hr3
      have HK3 := hide ((unhide HK2).trans hk3)
      clear hr3 hk3 hi3
      go_wp2
      -- the digits are drawn: (60 - (i3 : Int)) how many (Int), w2' the world ahead, (p + 1 + 1 + 1) the reader's place, (unhide HR3) its fact, (unhide HK3) what is kept
      go_loopw [4, 5] (fun vo vi wr => ∃ (xs : List Nat) (p' : Nat), vi = .int .i64 (xs.length : Int) ∧ vo = .string (B ((xs.map sg).reverse)) ∧ Hid (∀ d ∈ xs, d < 10) ∧ (xs.length : Int) ≤ (60 - (i3 : Int)) ∧ p' ≤ (p + 1 + 1 + 1) + xs.length ∧ Rd wr g p' a n cap ∧ Keeps g w wr) (fun _ vi _ => ((60 - (i3 : Int)) - intOf vi).toNat)
      case atStart => exact ⟨[], (p + 1 + 1 + 1), rfl, rfl, hide (by simp), by simp; omega, by simp, (unhide HR3), (unhide HK3)⟩
      case round =>
        obtain ⟨xs, p', rfl, rfl, hd, hle, hp', hr', hk'⟩ := hrel
        have HR' := hide hr'
        have HK' := hide hk'
        clear hr' hk'
        have hBx := B_size ((xs.map sg).reverse)
        simp only [List.length_reverse, List.length_map] at hBx
        by_cases hlt : (xs.length : Int) < (60 - (i3 : Int))
        · go_wp2_with fail
          refine (pick_c g p' n cap a 10 _ (unhide HR') (by omega) (by omega)).mono ?_
          rintro e w3 ⟨⟨d, rfl, hd10⟩, hr3, hk3⟩
          have hd9 : d < 10 := by rcases hd10 with h | h <;> omega
          have HR3 := hide hr3
          have HK3 := hide hk3
          clear hr3 hk3 hd10
          go_wp2_with fail
          refine (l1Small_c d (by omega) _).mono ?_
          rintro e w4 ⟨rfl, hb4⟩
          have hds : (dec d).size = 1 := by unfold dec txt; rw [txl_one 10 (by omega) d hd9, B_size]; rfl
          have happ : Hid (B ((xs.map sg).reverse) ++ dec d = B (((d :: xs).map sg).reverse)) := by
            show _ = _; unfold dec txt; rw [txl_one 10 (by omega) d hd9, B_append]; simp
          go_wp2
          go_roundw
          case rel => exact ⟨d :: xs, p' + 1, by simp, by rw [unhide happ], hide (by intro x hx; rcases List.mem_cons.1 hx with rfl | hx; exact hd9; exact unhide hd x hx), by simp; omega, by simp; omega, (unhide HR3).keep hb4, ((unhide HK').trans (unhide HK3)).trans (Keeps.of_below hb4)⟩
          case measure => simp [intOf]; omega
        · have hne : xs ≠ [] := by intro h; subst h; simp at hlt; omega
          have htr := trim_rev xs (unhide hd) hne
          have hlen : (xs.map sg).reverse.length ≤ 60 := by simp; omega
          have htl := trim_length ((xs.map sg).reverse)
          rw [htr] at htl
          have Htr := hide htr
          clear htr
          go_wp2_with fail
          refine (l1Trim_c ((xs.map sg).reverse) _ (by omega)).mono ?_
          rintro e w3 ⟨rfl, rfl⟩
          go_wp2
          go_ret
          exact ⟨⟨ofd 10 xs, ret_str (by rw [unhide Htr]; rfl), by rw [dec_len]; omega⟩, ⟨p', by omega, unhide HR'⟩, unhide HK'⟩
    · have z0 : ((i2 : Int) == 0) = false := by rw [beq_eq_false_iff_ne]; omega
      have z1 : ((i2 : Int) == 1) = false := by rw [beq_eq_false_iff_ne]; omega
      by_cases h2 : i2 = 2
      · subst h2
        have hr2 := (unhide HR2)
        have hlt := hr2.lt
        go_wp2_with fail
        refine (of_c g (p + 1 + 1) n cap w2.heap.size a #[.string ⟨#[48]⟩, .string ⟨#[49]⟩, .string ⟨#[50]⟩, .string ⟨#[49, 48]⟩, .string ⟨#[49, 48, 48]⟩, .string ⟨#[57, 57, 57]⟩, .string ⟨#[49, 48, 48, 48]⟩] 7 _ (hr2.keep ((Below.refl _ _).alloc (Nat.le_refl _) _)) (by omega) rfl (by omega) (by omega) (by show (w2.heap.push _)[w2.heap.size]? = _; rw [Array.getElem?_push, if_pos rfl]) (by omega)).mono ?_
        rintro e w3 ⟨⟨v, rfl, hv⟩, ⟨p3, hp3, hr3⟩, hk3⟩
        have hx : ∃ x, v = .string (dec x) ∧ (dec x).size ≤ 60 := by
          obtain ⟨d0, d1, d2, d3, d4, d5, d6⟩ := dec_lits
          simp at hv
          rcases hv with rfl | rfl | rfl | rfl | rfl | rfl | rfl
          · exact ⟨0, by rw [d0], by rw [d0]; decide⟩
          · exact ⟨1, by rw [d1], by rw [d1]; decide⟩
          · exact ⟨2, by rw [d2], by rw [d2]; decide⟩
          · exact ⟨10, by rw [d3], by rw [d3]; decide⟩
          · exact ⟨100, by rw [d4], by rw [d4]; decide⟩
          · exact ⟨999, by rw [d5], by rw [d5]; decide⟩
          · exact ⟨1000, by rw [d6], by rw [d6]; decide⟩
        obtain ⟨x, rfl, hx60⟩ := hx
        have HR3 := hide hr3
        have HK3 := hide ((unhide HK2).trans ((Keeps.refl _ _).alloc _ |>.trans hk3))
        clear hr3 hk3 hr2 hv
        go_wp2
        go_ret
        exact ⟨⟨x, rfl, hx60⟩, ⟨p3, by omega, unhide HR3⟩, unhide HK3⟩
      · have z2 : ((i2 : Int) == 2) = false := by rw [beq_eq_false_iff_ne]; omega
        go_wp2
        -- the digits are drawn: (1 + (i1 : Int)) how many (Int), w2 the world ahead, (p + 1 + 1) the reader's place, (unhide HR2) its fact, (unhide HK2) what is kept
        go_loopw [4, 5] (fun vo vi wr => ∃ (xs : List Nat) (p' : Nat), vi = .int .i64 (xs.length : Int) ∧ vo = .string (B ((xs.map sg).reverse)) ∧ Hid (∀ d ∈ xs, d < 10) ∧ (xs.length : Int) ≤ (1 + (i1 : Int)) ∧ p' ≤ (p + 1 + 1) + xs.length ∧ Rd wr g p' a n cap ∧ Keeps g w wr) (fun _ vi _ => ((1 + (i1 : Int)) - intOf vi).toNat)
        case atStart => exact ⟨[], (p + 1 + 1), rfl, rfl, hide (by simp), by simp; omega, by simp, (unhide HR2), (unhide HK2)⟩
        case round =>
          obtain ⟨xs, p', rfl, rfl, hd, hle, hp', hr', hk'⟩ := hrel
          have HR' := hide hr'
          have HK' := hide hk'
          clear hr' hk'
          have hBx := B_size ((xs.map sg).reverse)
          simp only [List.length_reverse, List.length_map] at hBx
          by_cases hlt : (xs.length : Int) < (1 + (i1 : Int))
          · go_wp2_with fail
            refine (pick_c g p' n cap a 10 _ (unhide HR') (by omega) (by omega)).mono ?_
            rintro e w3 ⟨⟨d, rfl, hd10⟩, hr3, hk3⟩
            have hd9 : d < 10 := by rcases hd10 with h | h <;> omega
            have HR3 := hide hr3
            have HK3 := hide hk3
            clear hr3 hk3 hd10
            go_wp2_with fail
            refine (l1Small_c d (by omega) _).mono ?_
            rintro e w4 ⟨rfl, hb4⟩
            have hds : (dec d).size = 1 := by unfold dec txt; rw [txl_one 10 (by omega) d hd9, B_size]; rfl
            have happ : Hid (B ((xs.map sg).reverse) ++ dec d = B (((d :: xs).map sg).reverse)) := by
              show _ = _; unfold dec txt; rw [txl_one 10 (by omega) d hd9, B_append]; simp
            go_wp2
            go_roundw
            case rel => exact ⟨d :: xs, p' + 1, by simp, by rw [unhide happ], hide (by intro x hx; rcases List.mem_cons.1 hx with rfl | hx; exact hd9; exact unhide hd x hx), by simp; omega, by simp; omega, (unhide HR3).keep hb4, ((unhide HK').trans (unhide HK3)).trans (Keeps.of_below hb4)⟩
            case measure => simp [intOf]; omega
          · have hne : xs ≠ [] := by intro h; subst h; simp at hlt; omega
            have htr := trim_rev xs (unhide hd) hne
            have hlen : (xs.map sg).reverse.length ≤ 60 := by simp; omega
            have htl := trim_length ((xs.map sg).reverse)
            rw [htr] at htl
            have Htr := hide htr
            clear htr
            go_wp2_with fail
            refine (l1Trim_c ((xs.map sg).reverse) _ (by omega)).mono ?_
            rintro e w3 ⟨rfl, rfl⟩
            go_wp2
            go_ret
            exact ⟨⟨ofd 10 xs, ret_str (by rw [unhide Htr]; rfl), by rw [dec_len]; omega⟩, ⟨p', by omega, unhide HR'⟩, unhide HK'⟩
end Go.Proofs.YtchginjabaobfaaDoor
namespace Go.Proofs.YtchginjabaobfaaDoor
open Go.RowKit Nt


theorem dec_lits' : dec 7 = ⟨#[55]⟩ ∧ dec 1 = ⟨#[49]⟩ := ⟨rfl, rfl⟩

set_option maxRecDepth 100000 in
set_option maxHeartbeats 2000000 in
theorem l6Num_c (g p n cap : Nat) (a : Option Addr) (w : World) (h : Rd w g p a n cap) (hp : p ≤ 800000000) :
    Calls Tryd.prog 34 #[.pointer (some ⟨g, 0, none⟩)] w fun e w' => (∃ neg x y, e = .returned (numV neg (dec x) (dec y)) ∧ (dec x).size ≤ 60 ∧ (dec y).size ≤ 60) ∧ Drawn w g p n cap a 300 w' := by
  have hlt := h.lt
  have Hlt := hide hlt
  have HR := hide (h.alloc (.cells #[.bool false, .string ⟨#[]⟩, .string ⟨#[]⟩] 26))
  clear h
  go_enter Tryd.func34, Tryd.ntmps34
  go_wp2_with fail
  refine (pick_d g p n cap a 2 _ (unhide HR) (by omega) (by omega)).mono ?_
  rintro e w1 ⟨⟨i, rfl, hi⟩, ⟨p1, hp1, hr1⟩, hk1⟩
  have HR1 := hide hr1
  have HK1 := hide hk1
  clear hr1 hk1 hi
  by_cases hi0 : i = 0
  · have z0 : ((i : Int) == 0) = true := by rw [beq_iff_eq]; omega
    have HK := hide hi0
    clear hi0
    go_wp2_with fail
    have h := l6Digits_c g p1 n cap a w1 (unhide HR1) (by omega)
    refine h.mono ?_
    clear h
    rintro e w2 ⟨⟨d, rfl, hd60⟩, ⟨p2, hp2, hr2⟩, hk2⟩
    have HR2 := hide hr2
    have HK2 := hide ((unhide HK1).trans hk2)
    clear hr2 hk2
    -- the number is made: d the text below (a Nat d, its size d60), w2 the world, p2 the reader's place, (unhide HR2) its fact, (unhide HK2) what is kept since W0
    go_wp2_with fail
    refine (pick_d g p2 n cap a 2 _ (unhide HR2) (by omega) (by omega)).mono ?_
    rintro e w3 ⟨⟨j, rfl, hj⟩, ⟨p3, hp3, hr3⟩, hk3⟩
    have HR3 := hide hr3
    have HK3 := hide (((unhide HK2)).trans hk3)
    clear hr3 hk3 hj
    go_wp2_with fail
    have h := l6Digits_c g p3 n cap a w3 (unhide HR3) (by omega)
    refine h.mono ?_
    clear h
    rintro e w4 ⟨⟨u, rfl, hu60⟩, ⟨p4, hp4, hr4⟩, hk4⟩
    have HR4 := hide hr4
    have HK4 := hide ((unhide HK3).trans hk4)
    clear hr4 hk4
    go_wp2_with fail
    have h := l2Make_c ((j : Int) == 0) u d w4 (by omega) (by omega)
    refine h.mono ?_
    clear h
    rintro e w5 ⟨rfl, hb5⟩
    have hr5 := (unhide HR4).keep hb5
    have hk5 := (unhide HK4).trans (Keeps.of_below hb5)
    have hA := (At3.new w (.bool false) (.string ⟨#[]⟩) (.string ⟨#[]⟩)).keeps hk5 (by omega)
    have hsz := hA.lt
    have c0 := hA.c0
    have c1 := hA.c1
    have c2 := hA.c2
    have f := hA.f
    have Hfin : Hid (Drawn w g p n cap a 300 w5) := ⟨⟨p4, by omega, hr5⟩, ((Keeps.refl g w).alloc _).trans hk5⟩
    clear hr5 hk5 hA HR3 HK3 HR4 HK4 HR1 HK1 HR2 HK2 HR HK
    have hne : w5.heap.size ≠ w.heap.size := by omega
    cases hl : lowest ((j : Int) == 0) u d with
    | none =>
      unfold numAns numO noNum numV
      go_wp2
      refine bodyPost_ret (v := .agg #[.bool false, .string ⟨#[55]⟩, .string ⟨#[49]⟩]) (by simp [results, Tryd.results34, go_sem, c0, c1, c2, hsz]) rfl ⟨⟨false, 7, 1, rfl, by decide, by decide⟩, ?_⟩
      exact (unhide Hfin).more (unhide Hlt) ((below_three (Below.refl _ _) w.heap.size (by omega) _ _ _).alloc (by simp; omega) _)
    | some r =>
      obtain ⟨nn, x, y⟩ := r
      have hok := ok_parts (lowest_ok hl)
      have hx60 : (dec x).size ≤ 60 := by rw [dec_len]; exact hok.2.2.1
      have hy60 : (dec y).size ≤ 60 := by rw [dec_len]; exact hok.2.2.2.1
      clear hok
      unfold numAns numO numV
      go_wp2
      refine bodyPost_ret (v := numV nn (dec x) (dec y)) (by simp [results, Tryd.results34, go_sem, numV, c0, c1, c2, hsz]) rfl ⟨⟨nn, x, y, rfl, hx60, hy60⟩, ?_⟩
      exact (unhide Hfin).more (unhide Hlt) ((below_three (Below.refl _ _) w.heap.size (by omega) _ _ _).alloc (by simp; omega) _)
  · have z0 : ((i : Int) == 0) = false := by rw [beq_eq_false_iff_ne]; omega
    have HK := hide hi0
    have HR2 := HK
    have HK2 := HK
    clear hi0
    have hd60 : (dec 1).size ≤ 60 := by decide
    rw [show (Value.string ⟨#[49]⟩) = .string (dec 1) from rfl]
    -- the number is made: 1 the text below (a Nat d, its size d60), w1 the world, p1 the reader's place, (unhide HR1) its fact, (unhide HK1) what is kept since W0
    go_wp2_with fail
    refine (pick_d g p1 n cap a 2 _ (unhide HR1) (by omega) (by omega)).mono ?_
    rintro e w3 ⟨⟨j, rfl, hj⟩, ⟨p3, hp3, hr3⟩, hk3⟩
    have HR3 := hide hr3
    have HK3 := hide (((unhide HK1)).trans hk3)
    clear hr3 hk3 hj
    go_wp2_with fail
    have h := l6Digits_c g p3 n cap a w3 (unhide HR3) (by omega)
    refine h.mono ?_
    clear h
    rintro e w4 ⟨⟨u, rfl, hu60⟩, ⟨p4, hp4, hr4⟩, hk4⟩
    have HR4 := hide hr4
    have HK4 := hide ((unhide HK3).trans hk4)
    clear hr4 hk4
    go_wp2_with fail
    have h := l2Make_c ((j : Int) == 0) u 1 w4 (by omega) (by omega)
    refine h.mono ?_
    clear h
    rintro e w5 ⟨rfl, hb5⟩
    have hr5 := (unhide HR4).keep hb5
    have hk5 := (unhide HK4).trans (Keeps.of_below hb5)
    have hA := (At3.new w (.bool false) (.string ⟨#[]⟩) (.string ⟨#[]⟩)).keeps hk5 (by omega)
    have hsz := hA.lt
    have c0 := hA.c0
    have c1 := hA.c1
    have c2 := hA.c2
    have f := hA.f
    have Hfin : Hid (Drawn w g p n cap a 300 w5) := ⟨⟨p4, by omega, hr5⟩, ((Keeps.refl g w).alloc _).trans hk5⟩
    clear hr5 hk5 hA HR3 HK3 HR4 HK4 HR1 HK1 HR2 HK2 HR HK
    have hne : w5.heap.size ≠ w.heap.size := by omega
    cases hl : lowest ((j : Int) == 0) u 1 with
    | none =>
      unfold numAns numO noNum numV
      go_wp2
      refine bodyPost_ret (v := .agg #[.bool false, .string ⟨#[55]⟩, .string ⟨#[49]⟩]) (by simp [results, Tryd.results34, go_sem, c0, c1, c2, hsz]) rfl ⟨⟨false, 7, 1, rfl, by decide, by decide⟩, ?_⟩
      exact (unhide Hfin).more (unhide Hlt) ((below_three (Below.refl _ _) w.heap.size (by omega) _ _ _).alloc (by simp; omega) _)
    | some r =>
      obtain ⟨nn, x, y⟩ := r
      have hok := ok_parts (lowest_ok hl)
      have hx60 : (dec x).size ≤ 60 := by rw [dec_len]; exact hok.2.2.1
      have hy60 : (dec y).size ≤ 60 := by rw [dec_len]; exact hok.2.2.2.1
      clear hok
      unfold numAns numO numV
      go_wp2
      refine bodyPost_ret (v := numV nn (dec x) (dec y)) (by simp [results, Tryd.results34, go_sem, numV, c0, c1, c2, hsz]) rfl ⟨⟨nn, x, y, rfl, hx60, hy60⟩, ?_⟩
      exact (unhide Hfin).more (unhide Hlt) ((below_three (Below.refl _ _) w.heap.size (by omega) _ _ _).alloc (by simp; omega) _)
end Go.Proofs.YtchginjabaobfaaDoor
namespace Go.Proofs.YtchginjabaobfaaDoor
open Go.RowKit Nt

def numS (neg : Bool) (us ds : ByteArray) : Value := .agg #[.bool neg, .string us, .string ds]
/-- a drawn number's texts are no longer than this -/
def smallS (us ds : ByteArray) : Prop := us.size ≤ 1000 ∧ ds.size ≤ 1000


theorem dec_size_two {x : Nat} (h : (dec x).size ≤ 60) : (dec (x * 2)).size ≤ 61 := by
  by_cases h0 : x = 0
  · subst h0; decide
  · have := dec_size_ten (ρ := x * 2) (b := x) (by omega); omega

theorem of_strs {l : List Value} {v : Value} {M : Nat} (h : l.all (isS M) = true) (hv : v ∈ l) : ∃ s, v = .string s ∧ s.size ≤ M := isS_out (List.all_eq_true.1 h v hv)

set_option maxRecDepth 100000 in
set_option maxHeartbeats 4000000 in
theorem l6Spoil_c (g p n cap : Nat) (a : Option Addr) (neg : Bool) (x y : Nat) (w : World) (h : Rd w g p a n cap) (hp : p ≤ 800000000) (hx : (dec x).size ≤ 60) (hy : (dec y).size ≤ 60) :
    Calls Tryd.prog 99 #[.pointer (some ⟨g, 0, none⟩), numV neg (dec x) (dec y)] w fun e w' => (∃ neg us ds, e = .returned (numS neg us ds) ∧ smallS us ds) ∧ Drawn w g p n cap a 10 w' := by
  have hlt := h.lt
  have Hlt := hide hlt
  have hAa := (At3.new w (.bool neg) (.string (dec x)) (.string (dec y))).alloc (.cells #[.bool false, .string ⟨#[]⟩, .string ⟨#[]⟩] 26)
  have hAb := At3.new (w.alloc (.cells #[.bool neg, .string (dec x), .string (dec y)] 26)) (.bool false) (.string ⟨#[]⟩) (.string ⟨#[]⟩)
  have hR0 := (h.alloc (.cells #[.bool neg, .string (dec x), .string (dec y)] 26)).alloc (.cells #[.bool false, .string ⟨#[]⟩, .string ⟨#[]⟩] 26)
  rw [show (w.alloc (.cells #[.bool neg, .string (dec x), .string (dec y)] 26)).heap.size = w.heap.size + 1 from by simp] at hAb
  have HA1 := hide hAa
  have HA2 := hide hAb
  have HR := hide hR0
  clear h hAa hAb hR0
  unfold numV
  go_enter Tryd.func99, Tryd.ntmps99
  go_wp2_with fail
  refine (pick_d g p n cap a 7 _ (unhide HR) (by omega) (by omega)).mono ?_
  rintro e w1 ⟨⟨i, rfl, hi⟩, ⟨p1, hp1, hr1⟩, hk1⟩
  have HR1 := hide hr1
  have HK1 := hide hk1
  clear hr1 hk1 hi
  -- w1 the world, (unhide HK1) what is kept since W0
  have hA1 := (unhide HA1).keeps (unhide HK1) (by omega)
  have hA2 := (unhide HA2).keeps (unhide HK1) (by omega)
  have c10 := hA1.c0
  have c11 := hA1.c1
  have c12 := hA1.c2
  have f1 := hA1.f
  have c20 := hA2.c0
  have c21 := hA2.c1
  have c22 := hA2.c2
  have f2 := hA2.f
  have hs1 := hA1.lt
  have hs2 := hA2.lt
  clear hA1 hA2
  rcases Nat.lt_or_ge i 1 with h | h
  · have hi0 : i = 0 := by omega
    subst hi0
    have hr1 := unhide HR1
    have hlt1 := hr1.lt
    go_wp2_with fail
    refine (of_c g p1 n cap w1.heap.size a #[.string ⟨#[]⟩, .string ⟨#[48, 48]⟩, .string ⟨#[48]⟩, .string ⟨#[120]⟩, .string ⟨#[45, 49]⟩, .string ⟨#[48, 55]⟩] 6 _ (hr1.alloc _) (by omega) rfl (by omega) (by omega) (by show (w1.heap.push _)[w1.heap.size]? = _; rw [Array.getElem?_push, if_pos rfl]) (by omega)).mono ?_
    rintro e w2 ⟨⟨v, rfl, hv⟩, ⟨p2, hp2, hr2⟩, hk2⟩
    obtain ⟨s, rfl, hs⟩ := of_strs (M := 10) (by rfl) hv
    have HR2 := hide hr2
    have HK2 := hide (((unhide HK1).alloc _).trans hk2)
    clear hr2 hk2 hv hr1 c10 c11 c12 f1 c20 c21 c22 f2 hs1 hs2
    -- w2 the world, (unhide HK2) what is kept since W0
    have hA1 := (unhide HA1).keeps (unhide HK2) (by omega)
    have hA2 := (unhide HA2).keeps (unhide HK2) (by omega)
    have c10 := hA1.c0
    have c11 := hA1.c1
    have c12 := hA1.c2
    have f1 := hA1.f
    have c20 := hA2.c0
    have c21 := hA2.c1
    have c22 := hA2.c2
    have f2 := hA2.f
    have hs1 := hA1.lt
    have hs2 := hA2.lt
    clear hA1 hA2
    -- neg neg, s up, (dec y) down, ⟨by omega, by omega⟩ bounds, p2 the place, (unhide HR2) its fact, (unhide HK2) what is kept since W0, w2 the block's world
    go_wp2
    have hcc := And.intro c10 (And.intro c11 (And.intro c12 (And.intro c20 (And.intro c21 (And.intro c22 (And.intro hs1 hs2))))))
    refine bodyPost_ret (v := numS neg s (dec y)) (by simp [results, Tryd.results99, go_sem, numS, hcc]) rfl ⟨⟨neg, s, (dec y), rfl, ⟨by omega, by omega⟩⟩, ?_⟩
    have hD : Drawn w g p n cap a 10 w2 := ⟨⟨p2, by omega, (unhide HR2)⟩, (((Keeps.refl g w).alloc _).alloc _).trans (unhide HK2)⟩
    refine hD.more (unhide Hlt) ?_
    repeat (first | exact Below.refl _ _ | refine Below.setCell ?_ (by first | exact Nat.le_refl _ | exact Nat.le_succ _ | (simp; done) | (simp; omega)) _ | refine Below.alloc ?_ (by first | exact Nat.le_refl _ | (simp; done) | (simp; omega)) _)
  rcases Nat.lt_or_ge i 2 with h2 | h2
  · have hi1 : i = 1 := by omega
    subst hi1
    have hr1 := unhide HR1
    have hlt1 := hr1.lt
    go_wp2_with fail
    refine (of_c g p1 n cap w1.heap.size a #[.string ⟨#[]⟩, .string ⟨#[48]⟩, .string ⟨#[48, 48]⟩, .string ⟨#[120]⟩, .string ⟨#[48, 49]⟩, .string ⟨#[49]⟩] 6 _ (hr1.alloc _) (by omega) rfl (by omega) (by omega) (by show (w1.heap.push _)[w1.heap.size]? = _; rw [Array.getElem?_push, if_pos rfl]) (by omega)).mono ?_
    rintro e w2 ⟨⟨v, rfl, hv⟩, ⟨p2, hp2, hr2⟩, hk2⟩
    obtain ⟨s, rfl, hs⟩ := of_strs (M := 10) (by rfl) hv
    have HR2 := hide hr2
    have HK2 := hide (((unhide HK1).alloc _).trans hk2)
    clear hr2 hk2 hv hr1 c10 c11 c12 f1 c20 c21 c22 f2 hs1 hs2
    -- w2 the world, (unhide HK2) what is kept since W0
    have hA1 := (unhide HA1).keeps (unhide HK2) (by omega)
    have hA2 := (unhide HA2).keeps (unhide HK2) (by omega)
    have c10 := hA1.c0
    have c11 := hA1.c1
    have c12 := hA1.c2
    have f1 := hA1.f
    have c20 := hA2.c0
    have c21 := hA2.c1
    have c22 := hA2.c2
    have f2 := hA2.f
    have hs1 := hA1.lt
    have hs2 := hA2.lt
    clear hA1 hA2
    -- neg neg, (dec x) up, s down, ⟨by omega, by omega⟩ bounds, p2 the place, (unhide HR2) its fact, (unhide HK2) what is kept since W0, w2 the block's world
    go_wp2
    have hcc := And.intro c10 (And.intro c11 (And.intro c12 (And.intro c20 (And.intro c21 (And.intro c22 (And.intro hs1 hs2))))))
    refine bodyPost_ret (v := numS neg (dec x) s) (by simp [results, Tryd.results99, go_sem, numS, hcc]) rfl ⟨⟨neg, (dec x), s, rfl, ⟨by omega, by omega⟩⟩, ?_⟩
    have hD : Drawn w g p n cap a 10 w2 := ⟨⟨p2, by omega, (unhide HR2)⟩, (((Keeps.refl g w).alloc _).alloc _).trans (unhide HK2)⟩
    refine hD.more (unhide Hlt) ?_
    repeat (first | exact Below.refl _ _ | refine Below.setCell ?_ (by first | exact Nat.le_refl _ | exact Nat.le_succ _ | (simp; done) | (simp; omega)) _ | refine Below.alloc ?_ (by first | exact Nat.le_refl _ | (simp; done) | (simp; omega)) _)
  have z0 : ((i : Int) == 0) = false := by rw [beq_eq_false_iff_ne]; omega
  have z1 : ((i : Int) == 1) = false := by rw [beq_eq_false_iff_ne]; omega
  rcases Nat.lt_or_ge i 3 with h3 | h3
  · have hi2 : i = 2 := by omega
    subst hi2
    cases neg with
    | false =>
      -- true neg, (dec x) up, (dec y) down, ⟨by omega, by omega⟩ bounds, p1 the place, (unhide HR1) its fact, (unhide HK1) what is kept since W0, w1 the block's world
      go_wp2
      have hcc := And.intro c10 (And.intro c11 (And.intro c12 (And.intro c20 (And.intro c21 (And.intro c22 (And.intro hs1 hs2))))))
      refine bodyPost_ret (v := numS true (dec x) (dec y)) (by simp [results, Tryd.results99, go_sem, numS, hcc]) rfl ⟨⟨true, (dec x), (dec y), rfl, ⟨by omega, by omega⟩⟩, ?_⟩
      have hD : Drawn w g p n cap a 10 w1 := ⟨⟨p1, by omega, (unhide HR1)⟩, (((Keeps.refl g w).alloc _).alloc _).trans (unhide HK1)⟩
      refine hD.more (unhide Hlt) ?_
      repeat (first | exact Below.refl _ _ | refine Below.setCell ?_ (by first | exact Nat.le_refl _ | exact Nat.le_succ _ | (simp; done) | (simp; omega)) _ | refine Below.alloc ?_ (by first | exact Nat.le_refl _ | (simp; done) | (simp; omega)) _)
    | true =>
      -- false neg, (dec x) up, (dec y) down, ⟨by omega, by omega⟩ bounds, p1 the place, (unhide HR1) its fact, (unhide HK1) what is kept since W0, w1 the block's world
      go_wp2
      have hcc := And.intro c10 (And.intro c11 (And.intro c12 (And.intro c20 (And.intro c21 (And.intro c22 (And.intro hs1 hs2))))))
      refine bodyPost_ret (v := numS false (dec x) (dec y)) (by simp [results, Tryd.results99, go_sem, numS, hcc]) rfl ⟨⟨false, (dec x), (dec y), rfl, ⟨by omega, by omega⟩⟩, ?_⟩
      have hD : Drawn w g p n cap a 10 w1 := ⟨⟨p1, by omega, (unhide HR1)⟩, (((Keeps.refl g w).alloc _).alloc _).trans (unhide HK1)⟩
      refine hD.more (unhide Hlt) ?_
      repeat (first | exact Below.refl _ _ | refine Below.setCell ?_ (by first | exact Nat.le_refl _ | exact Nat.le_succ _ | (simp; done) | (simp; omega)) _ | refine Below.alloc ?_ (by first | exact Nat.le_refl _ | (simp; done) | (simp; omega)) _)
  have z2 : ((i : Int) == 2) = false := by rw [beq_eq_false_iff_ne]; omega
  rcases Nat.lt_or_ge i 4 with h4 | h4
  · have hi3 : i = 3 := by omega
    subst hi3
    go_wp2_with fail
    rw [show (Value.string ⟨#[50]⟩) = .string (dec 2) from rfl]
    have h := l1Mul_c x 2 w1 (by omega) (by decide)
    refine h.mono ?_
    clear h
    rintro e w2 ⟨rfl, hb2⟩
    have HR2 := hide ((unhide HR1).keep hb2)
    have HK2 := hide ((unhide HK1).trans (Keeps.of_below hb2))
    clear hb2 c10 c11 c12 f1 c20 c21 c22 f2 hs1 hs2
    -- w2 the world, (unhide HK2) what is kept since W0
    have hA1 := (unhide HA1).keeps (unhide HK2) (by omega)
    have hA2 := (unhide HA2).keeps (unhide HK2) (by omega)
    have c10 := hA1.c0
    have c11 := hA1.c1
    have c12 := hA1.c2
    have f1 := hA1.f
    have c20 := hA2.c0
    have c21 := hA2.c1
    have c22 := hA2.c2
    have f2 := hA2.f
    have hs1 := hA1.lt
    have hs2 := hA2.lt
    clear hA1 hA2
    have hB1 := ((unhide HA1).keeps (unhide HK2) (by omega)).set1 (.string (dec (x * 2)))
    have hB2 := ((unhide HA2).keeps (unhide HK2) (by omega)).set (p := ⟨w.heap.size, 1, none⟩) (by simp) (.string (dec (x * 2)))
    have HR3 := hide ((unhide HR2).below (w' := w2.setCell ⟨w.heap.size, 1, none⟩ (.string (dec (x * 2)))) ((Below.refl _ _).setCell (by show g + 1 ≤ w.heap.size; omega) _))
    have HK3 := hide ((((Keeps.refl g w).alloc (.cells #[.bool neg, .string (dec x), .string (dec y)] 26)).alloc (.cells #[.bool false, .string ⟨#[]⟩, .string ⟨#[]⟩] 26)).trans (unhide HK2))
    have HK4 := hide ((unhide HK3).setNew (p := ⟨w.heap.size, 1, none⟩) (Nat.le_refl _) (.string (dec (x * 2))))
    have HB1 := hide hB1
    have HB2 := hide hB2
    clear hB1 hB2
    go_wp2_with fail
    rw [show (Value.string ⟨#[50]⟩) = .string (dec 2) from rfl]
    have h := l1Mul_c y 2 (w2.setCell ⟨w.heap.size, 1, none⟩ (.string (dec (x * 2)))) (by omega) (by decide)
    refine h.mono ?_
    clear h
    rintro e w3 ⟨rfl, hb3⟩
    have hR := (unhide HR3).keep hb3
    have hK := (unhide HK4).trans (Keeps.of_below hb3)
    have hA1 := (unhide HB1).below hb3
    have hA2 := (unhide HB2).below hb3
    clear hb3 c10 c11 c12 f1 c20 c21 c22 f2 hs1 hs2
    have c10 := hA1.c0
    have c11 := hA1.c1
    have c12 := hA1.c2
    have f1 := hA1.f
    have c20 := hA2.c0
    have c21 := hA2.c1
    have c22 := hA2.c2
    have f2 := hA2.f
    have hs1 := hA1.lt
    have hs2 := hA2.lt
    have HR := hide hR
    have HK := hide hK
    have hx2 : (dec (x * 2)).size ≤ 61 := dec_size_two hx
    have hy2 : (dec (y * 2)).size ≤ 61 := dec_size_two hy
    clear hA1 hA2 hR hK
    go_wp2
    have hcc := And.intro c10 (And.intro c11 (And.intro c12 (And.intro c20 (And.intro c21 (And.intro c22 (And.intro hs1 hs2))))))
    refine bodyPost_ret (v := numS neg (dec (x * 2)) (dec (y * 2))) (by simp [results, Tryd.results99, go_sem, numS, hcc]) rfl ⟨⟨neg, _, _, rfl, ⟨by omega, by omega⟩⟩, ?_⟩
    have hD : Drawn w g p n cap a 10 w3 := ⟨⟨_, by omega, unhide HR⟩, unhide HK⟩
    refine hD.more (unhide Hlt) ?_
    repeat (first | exact Below.refl _ _ | refine Below.setCell ?_ (by first | exact Nat.le_refl _ | exact Nat.le_succ _ | (simp; done) | (simp; omega)) _ | refine Below.alloc ?_ (by first | exact Nat.le_refl _ | (simp; done) | (simp; omega)) _)
  have z3 : ((i : Int) == 3) = false := by rw [beq_eq_false_iff_ne]; omega
  rcases Nat.lt_or_ge i 5 with h5 | h5
  · have hi4 : i = 4 := by omega
    subst hi4
    go_wp2_with fail
    refine (pick_d g p1 n cap a 2 _ (unhide HR1) (by omega) (by omega)).mono ?_
    rintro e w2 ⟨⟨j, rfl, hj⟩, ⟨p2, hp2, hr2⟩, hk2⟩
    have hj2 : j < 2 := by rcases hj with h | h <;> omega
    have HR2 := hide hr2
    have HK2 := hide ((unhide HK1).trans hk2)
    clear hr2 hk2 hj c10 c11 c12 f1 c20 c21 c22 f2 hs1 hs2
    go_wp2_with fail
    refine (l1Many_c ⟨#[57]⟩ (60 + (j : Int)) 100 _ (by show 1 * _ ≤ _; omega) (by omega) (by omega)).mono ?_
    rintro e w3 ⟨⟨s, rfl, hs⟩, rfl⟩
    -- w3 the world, (unhide HK2) what is kept since W0
    have hA1 := (unhide HA1).keeps (unhide HK2) (by omega)
    have hA2 := (unhide HA2).keeps (unhide HK2) (by omega)
    have c10 := hA1.c0
    have c11 := hA1.c1
    have c12 := hA1.c2
    have f1 := hA1.f
    have c20 := hA2.c0
    have c21 := hA2.c1
    have c22 := hA2.c2
    have f2 := hA2.f
    have hs1 := hA1.lt
    have hs2 := hA2.lt
    clear hA1 hA2
    -- neg neg, s up, (dec y) down, ⟨by omega, by omega⟩ bounds, p2 the place, (unhide HR2) its fact, (unhide HK2) what is kept since W0, w3 the block's world
    go_wp2
    have hcc := And.intro c10 (And.intro c11 (And.intro c12 (And.intro c20 (And.intro c21 (And.intro c22 (And.intro hs1 hs2))))))
    refine bodyPost_ret (v := numS neg s (dec y)) (by simp [results, Tryd.results99, go_sem, numS, hcc]) rfl ⟨⟨neg, s, (dec y), rfl, ⟨by omega, by omega⟩⟩, ?_⟩
    have hD : Drawn w g p n cap a 10 w3 := ⟨⟨p2, by omega, (unhide HR2)⟩, (((Keeps.refl g w).alloc _).alloc _).trans (unhide HK2)⟩
    refine hD.more (unhide Hlt) ?_
    repeat (first | exact Below.refl _ _ | refine Below.setCell ?_ (by first | exact Nat.le_refl _ | exact Nat.le_succ _ | (simp; done) | (simp; omega)) _ | refine Below.alloc ?_ (by first | exact Nat.le_refl _ | (simp; done) | (simp; omega)) _)
  have z4 : ((i : Int) == 4) = false := by rw [beq_eq_false_iff_ne]; omega
  rcases Nat.lt_or_ge i 6 with h6 | h6
  · have hi5 : i = 5 := by omega
    subst hi5
    go_wp2_with fail
    refine (pick_d g p1 n cap a 2 _ (unhide HR1) (by omega) (by omega)).mono ?_
    rintro e w2 ⟨⟨j, rfl, hj⟩, ⟨p2, hp2, hr2⟩, hk2⟩
    have hj2 : j < 2 := by rcases hj with h | h <;> omega
    have HR2 := hide hr2
    have HK2 := hide ((unhide HK1).trans hk2)
    clear hr2 hk2 hj c10 c11 c12 f1 c20 c21 c22 f2 hs1 hs2
    go_wp2_with fail
    refine (l1Many_c ⟨#[48]⟩ (59 + (j : Int)) 100 _ (by show 1 * _ ≤ _; omega) (by omega) (by omega)).mono ?_
    rintro e w3 ⟨⟨s, rfl, hs⟩, rfl⟩
    have hsz : (⟨#[49]⟩ ++ s : ByteArray).size ≤ 101 := by rw [ByteArray.size_append]; show 1 + _ ≤ _; omega
    have hns : ¬ 9223372036854775807 < 1 + s.size := by omega
    -- w3 the world, (unhide HK2) what is kept since W0
    have hA1 := (unhide HA1).keeps (unhide HK2) (by omega)
    have hA2 := (unhide HA2).keeps (unhide HK2) (by omega)
    have c10 := hA1.c0
    have c11 := hA1.c1
    have c12 := hA1.c2
    have f1 := hA1.f
    have c20 := hA2.c0
    have c21 := hA2.c1
    have c22 := hA2.c2
    have f2 := hA2.f
    have hs1 := hA1.lt
    have hs2 := hA2.lt
    clear hA1 hA2
    -- neg neg, (dec x) up, (⟨#[49]⟩ ++ s) down, ⟨by omega, by omega⟩ bounds, p2 the place, (unhide HR2) its fact, (unhide HK2) what is kept since W0, w3 the block's world
    go_wp2
    have hcc := And.intro c10 (And.intro c11 (And.intro c12 (And.intro c20 (And.intro c21 (And.intro c22 (And.intro hs1 hs2))))))
    refine bodyPost_ret (v := numS neg (dec x) (⟨#[49]⟩ ++ s)) (by simp [results, Tryd.results99, go_sem, numS, hcc]) rfl ⟨⟨neg, (dec x), (⟨#[49]⟩ ++ s), rfl, ⟨by omega, by omega⟩⟩, ?_⟩
    have hD : Drawn w g p n cap a 10 w3 := ⟨⟨p2, by omega, (unhide HR2)⟩, (((Keeps.refl g w).alloc _).alloc _).trans (unhide HK2)⟩
    refine hD.more (unhide Hlt) ?_
    repeat (first | exact Below.refl _ _ | refine Below.setCell ?_ (by first | exact Nat.le_refl _ | exact Nat.le_succ _ | (simp; done) | (simp; omega)) _ | refine Below.alloc ?_ (by first | exact Nat.le_refl _ | (simp; done) | (simp; omega)) _)
  have z5 : ((i : Int) == 5) = false := by rw [beq_eq_false_iff_ne]; omega
  go_wp2
  have hcc := And.intro c10 (And.intro c11 (And.intro c12 (And.intro c20 (And.intro c21 (And.intro c22 (And.intro hs1 hs2))))))
  refine bodyPost_ret (v := numS false ⟨#[]⟩ ⟨#[]⟩) (by simp [results, Tryd.results99, go_sem, numS, hcc]) rfl ⟨⟨false, _, _, rfl, ⟨by decide, by decide⟩⟩, ?_⟩
  have hD : Drawn w g p n cap a 10 w1 := ⟨⟨p1, by omega, unhide HR1⟩, (((Keeps.refl g w).alloc _).alloc _).trans (unhide HK1)⟩
  refine hD.more (unhide Hlt) ?_
  repeat (first | exact Below.refl _ _ | refine Below.setCell ?_ (by first | exact Nat.le_refl _ | exact Nat.le_succ _ | (simp; done) | (simp; omega)) _ | refine Below.alloc ?_ (by first | exact Nat.le_refl _ | (simp; done) | (simp; omega)) _)
end Go.Proofs.YtchginjabaobfaaDoor
namespace Go.Proofs.YtchginjabaobfaaDoor
open Go.RowKit Nt

set_option maxRecDepth 100000 in
set_option maxHeartbeats 2000000 in
theorem l6Any_c (g p n cap : Nat) (a : Option Addr) (w : World) (h : Rd w g p a n cap) (hp : p ≤ 700000000) :
    Calls Tryd.prog 52 #[.pointer (some ⟨g, 0, none⟩)] w fun e w' => (∃ neg us ds, e = .returned (numS neg us ds) ∧ smallS us ds) ∧ Drawn w g p n cap a 400 w' := by
  have hlt := h.lt
  have Hlt := hide hlt
  have HR := hide (h.alloc (.cells #[.bool false, .string ⟨#[]⟩, .string ⟨#[]⟩] 26))
  clear h
  go_enter Tryd.func52, Tryd.ntmps52
  go_wp2_with fail
  have h := l6Num_c g p n cap a _ (unhide HR) (by omega)
  refine h.mono ?_
  clear h
  rintro e w1 ⟨⟨neg, x, y, rfl, hx60, hy60⟩, ⟨p1, hp1, hr1⟩, hk1⟩
  have hA := (At3.new w (.bool false) (.string ⟨#[]⟩) (.string ⟨#[]⟩)).keeps hk1 (by omega)
  have HA := hide (hA.alloc (.cells #[.bool neg, .string (dec x), .string (dec y)] 26))
  have HB := hide (At3.new w1 (.bool neg) (.string (dec x)) (.string (dec y)))
  have hs0 := hA.lt
  have hs1 : g < w1.heap.size := hr1.lt
  have HR1 := hide (hr1.alloc (.cells #[.bool neg, .string (dec x), .string (dec y)] 26))
  have HK1 := hide ((((Keeps.refl g w).alloc _).trans hk1).alloc (.cells #[.bool neg, .string (dec x), .string (dec y)] 26))
  clear hr1 hk1 hA
  unfold numV
  go_wp2_with fail
  refine (pick_d g p1 n cap a 24 _ (unhide HR1) (by omega) (by omega)).mono ?_
  rintro e w2 ⟨⟨i, rfl, hi⟩, ⟨p2, hp2, hr2⟩, hk2⟩
  have hA1 := (unhide HA).keeps hk2 (by omega)
  have hA2 := (unhide HB).keeps hk2 (by omega)
  have c10 := hA1.c0
  have c11 := hA1.c1
  have c12 := hA1.c2
  have f1 := hA1.f
  have c20 := hA2.c0
  have c21 := hA2.c1
  have c22 := hA2.c2
  have f2 := hA2.f
  have hs2 := hA2.lt
  have HR2 := hide hr2
  have HK2 := hide ((unhide HK1).trans hk2)
  have HA1 := hide hA1
  clear hr2 hk2 hi hA1 hA2
  by_cases hi0 : i = 0
  · have z0 : ((i : Int) == 0) = true := by rw [beq_iff_eq]; omega
    have HI := hide hi0
    clear hi0
    go_wp2_with fail
    have h := l6Spoil_c g p2 n cap a neg x y w2 (unhide HR2) (by omega) hx60 hy60
    refine h.mono ?_
    clear h
    rintro e w3 ⟨⟨neg', us, ds, rfl, hsm⟩, ⟨p3, hp3, hr3⟩, hk3⟩
    have hA1 := (unhide HA1).keeps hk3 (by omega)
    clear c10 c11 c12 f1
    have c10 := hA1.c0
    have c11 := hA1.c1
    have c12 := hA1.c2
    have f1 := hA1.f
    have hD : Drawn w g p n cap a 400 w3 := ⟨⟨p3, by omega, hr3⟩, (unhide HK2).trans hk3⟩
    have HD := hide hD
    have Hsm := hide hsm
    have hs3 := hA1.lt
    clear hD hsm hr3 hk3 hA1
    unfold numS
    go_wp2
    have hcc := And.intro c10 (And.intro c11 c12)
    refine bodyPost_ret (v := .agg #[.bool neg', .string us, .string ds]) (by simp [results, Tryd.results52, go_sem, hcc]) rfl ⟨⟨neg', us, ds, rfl, unhide Hsm⟩, ?_⟩
    refine (unhide HD).more (unhide Hlt) ?_
    repeat (first | exact Below.refl _ _ | refine Below.setCell ?_ (by first | exact Nat.le_refl _ | exact Nat.le_succ _ | (simp; done) | (simp; omega)) _ | refine Below.alloc ?_ (by first | exact Nat.le_refl _ | (simp; done) | (simp; omega)) _)
  · have z0 : ((i : Int) == 0) = false := by rw [beq_eq_false_iff_ne]; omega
    have hD : Drawn w g p n cap a 400 w2 := ⟨⟨p2, by omega, unhide HR2⟩, unhide HK2⟩
    have HD := hide hD
    clear hD hi0
    go_wp2
    have hcc := And.intro c10 (And.intro c11 c12)
    refine bodyPost_ret (v := .agg #[.bool neg, .string (dec x), .string (dec y)]) (by simp [results, Tryd.results52, go_sem, hcc]) rfl ⟨⟨neg, _, _, rfl, ⟨by omega, by omega⟩⟩, ?_⟩
    refine (unhide HD).more (unhide Hlt) ?_
    repeat (first | exact Below.refl _ _ | refine Below.setCell ?_ (by first | exact Nat.le_refl _ | exact Nat.le_succ _ | (simp; done) | (simp; omega)) _ | refine Below.alloc ?_ (by first | exact Nat.le_refl _ | (simp; done) | (simp; omega)) _)

/-- an integer of a table -/
def isI : Value → Bool | .int .i64 _ => true | _ => false
theorem isI_out {v : Value} (h : isI v = true) : ∃ x, v = .int .i64 x := by
  cases v with
  | int k x => cases k <;> simp [isI] at h; exact ⟨x, rfl⟩
  | _ => simp [isI] at h

/-- a table's cells, behind a draw -/
theorem tab_cell {w w1 w2 : World} {g q i : Nat} {cs : Array Value} {T : TypeId} (h : w.heap[q]? = some (.cells cs T (0, 0))) (hb : Keeps g w w1) (hk : Keeps g w1 w2) (hqg : q ≠ g) (hi : i < cs.size) :
    ∃ v, v ∈ cs.toList ∧ w2.cell? ⟨q, i, none⟩ = some v := by
  have hq : q < w.heap.size := (Array.getElem?_eq_some_iff.1 h).1
  refine ⟨cs[i], by simp, ?_⟩
  rw [(hb.trans hk).cell (p := ⟨q, i, none⟩) hq hqg]
  simp [World.cell?, h, hi]

set_option maxRecDepth 100000 in
set_option maxHeartbeats 2000000 in
theorem DrawNumInt_c (a : Option Addr) (n cap : Nat) (w : World) (h : Bytes0 w a n) (hcap : n ≤ cap) (hmax : cap ≤ maxLen) :
    Calls Tryd.prog 13 #[.slice a n cap] w fun e w' => (∃ i : Int, e = .returned (.int .i64 i) ∧ -9223372036854775808 ≤ i ∧ i ≤ 9223372036854775807) ∧ Below w.heap.size w w' := by
  go_enter Tryd.func13, Tryd.ntmps13
  go_wp2_with fail
  refine (l1Open_c a n cap w h hcap hmax).mono ?_
  rintro e w1 ⟨rfl, ⟨m, hm, hr1⟩, hb1⟩
  have hg := hr1.lt
  have HR1 := hide hr1
  clear hr1 h
  go_wp2_with fail
  refine (pick_d w.heap.size 0 m cap a 100 _ (unhide HR1) (by omega) (by omega)).mono ?_
  rintro e w2 ⟨⟨x, rfl, hx⟩, ⟨p2, hp2, hr2⟩, hk2⟩
  have hx' : x < 100 := by rcases hx with h | h <;> omega
  have HR2 := hide hr2
  have HK2 := hide hk2
  clear hr2 hk2 hx
  go_wp2_with fail
  refine (pick_d w.heap.size p2 m cap a 100 _ (unhide HR2) (by omega) (by omega)).mono ?_
  rintro e w3 ⟨⟨y, rfl, hy⟩, ⟨p3, hp3, hr3⟩, hk3⟩
  have hy' : y < 100 := by rcases hy with h | h <;> omega
  have HR3 := hide hr3
  have HK3 := hide ((unhide HK2).trans hk3)
  clear hr3 hk3 hy
  go_wp2_with fail
  refine (pick_d w.heap.size p3 m cap a 1073741824 _ (unhide HR3) (by omega) (by omega)).mono ?_
  rintro e w4 ⟨⟨z, rfl, hz⟩, ⟨p4, hp4, hr4⟩, hk4⟩
  have hz' : z < 1073741824 := by rcases hz with h | h <;> omega
  have hlt4 := hr4.lt
  have HR4 := hide hr4
  have HK4 := hide ((unhide HK3).trans hk4)
  clear hr4 hk4 hz
  go_wp2_with fail
  refine (pick_d w.heap.size p4 m cap a 6 _ ((unhide HR4).alloc _) (by omega) (by omega)).mono ?_
  rintro e w5 ⟨⟨i, rfl, hi⟩, ⟨p5, hp5, hr5⟩, hk5⟩
  have hi' : i < 6 := by rcases hi with h | h <;> omega
  have hiL : (i : Int) < 6 := by omega
  obtain ⟨v, hv, hc⟩ := tab_cell (w1 := w4.alloc _) (q := w4.heap.size) (i := i) (by show (w4.heap.push _)[w4.heap.size]? = _; rw [Array.getElem?_push, if_pos rfl]) (Keeps.refl _ _) hk5 (by omega) (by show i < 6; omega)
  have HF := hide ((((unhide HK4).alloc _).trans hk5).below (Nat.le_refl _) (by omega))
  obtain ⟨u, rfl, hu0, hu1⟩ : ∃ u : Int, v = .int .i64 u ∧ -9223372036854775808 ≤ u ∧ u ≤ 9223372036854775807 := by
    simp at hv
    rcases hv with rfl | rfl | rfl | rfl | rfl | rfl
    · exact ⟨_, rfl, by omega, by omega⟩
    · exact ⟨_, rfl, by omega, by omega⟩
    · exact ⟨_, rfl, by omega, by omega⟩
    · exact ⟨_, rfl, by omega, by omega⟩
    · exact ⟨_, rfl, by omega, by omega⟩
    · exact ⟨_, rfl, by omega, by omega⟩
  clear hk5 hr5 hi hv
  go_wp2
  go_ret
  exact ⟨⟨u, rfl, hu0, hu1⟩, hb1.trans (unhide HF)⟩
end Go.Proofs.YtchginjabaobfaaDoor
namespace Go.Proofs.YtchginjabaobfaaDoor
open Go.RowKit Nt

theorem heap_at (w : World) (cs : Array Value) (T : TypeId) : (w.alloc (.cells cs T)).heap[w.heap.size]? = some (.cells cs T (0, 0)) := by
  show (w.heap.push _)[w.heap.size]? = _; rw [Array.getElem?_push, if_pos rfl]
theorem int_at {cs : Array Value} {i : Nat} (h : cs.toList.all isI = true) (hi : i < cs.size) : ∃ r, cs[i]? = some (.int .i64 r) := by
  obtain ⟨r, hr⟩ := isI_out (List.all_eq_true.1 h cs[i] (by simp))
  exact ⟨r, by rw [Array.getElem?_eq_getElem hi, hr]⟩
theorem isI_mem {l : List Value} {v : Value} (h : l.all isI = true) (hv : v ∈ l) : ∃ x, v = .int .i64 x := isI_out (List.all_eq_true.1 h v hv)

/-- a table made ahead of two draws, of one draw -/
theorem tab_keep2 {w wa wp : World} {g i q : Nat} {cs : Array Value} {T : TypeId} {v : Value} (hq : q = w.heap.size) (hka : Keeps g (w.alloc (.cells cs T)) wa) (hkp : Keeps g wa wp) (hg : q ≠ g) (hv : cs[i]? = some v) : wp.cell? ⟨q, i, none⟩ = some v := by
  subst hq
  rw [(hka.trans hkp).cell (p := ⟨w.heap.size, i, none⟩) (by simp) hg]
  simp [hv]
theorem tab_keep1 {w wp : World} {g i q : Nat} {cs : Array Value} {T : TypeId} {v : Value} (hq : q = w.heap.size) (hkp : Keeps g (w.alloc (.cells cs T)) wp) (hg : q ≠ g) (hv : cs[i]? = some v) : wp.cell? ⟨q, i, none⟩ = some v :=
  tab_keep2 hq hkp (Keeps.refl _ _) hg hv

theorem tab_keep3 {w wa wp : World} {g i q : Nat} {cs : Array Value} {T : TypeId} {v : Value} (hq : q = w.heap.size) (hka : Keeps g (w.alloc (.cells cs T)).drew wa) (hkp : Keeps g wa wp) (hg : q ≠ g) (hv : cs[i]? = some v) : wp.cell? ⟨q, i, none⟩ = some v :=
  tab_keep2 hq (show Keeps g (w.alloc (.cells cs T)) wa from ⟨hka.os, hka.tape, hka.output, hka.size, hka.block⟩) hkp hg hv

/-- the table of radixes -/
def radTab : Array Value := #[.int .i64 10, .int .i64 2, .int .i64 8, .int .i64 16, .int .i64 3, .int .i64 0]

set_option maxRecDepth 100000 in
set_option maxHeartbeats 4000000 in
theorem DrawNumPrint_c (a : Option Addr) (n cap : Nat) (w : World) (h : Bytes0 w a n) (hcap : n ≤ cap) (hmax : cap ≤ maxLen) :
    Calls Tryd.prog 10 #[.slice a n cap] w fun e w' => (∃ neg us ds r, e = .returned (.tuple #[numS neg us ds, .int .i64 r]) ∧ smallS us ds) ∧ Below w.heap.size w w' := by
  have hA0 := At3.new w (.bool false) (.string ⟨#[]⟩) (.string ⟨#[]⟩)
  have H := hide (h.below ((Below.refl _ _).alloc (Nat.le_refl _) (.cells #[.bool false, .string ⟨#[]⟩, .string ⟨#[]⟩] 26)))
  have HA0 := hide hA0
  clear h hA0
  go_enter Tryd.func10, Tryd.ntmps10
  go_wp2_with fail
  refine (l1Open_c a n cap _ (unhide H) hcap hmax).mono ?_
  rintro e w1 ⟨rfl, ⟨m, hm, hr1⟩, hb1⟩
  rw [show (w.alloc (.cells #[.bool false, .string ⟨#[]⟩, .string ⟨#[]⟩] 26)).heap.size = w.heap.size + 1 from by simp] at hr1 hb1 ⊢
  have hA1 := (unhide HA0).below (by simpa using hb1)
  have hlt1 := hr1.lt
  have HR1 := hide hr1
  have HA1 := hide hA1
  have HB1 := hide (below_new hb1)
  clear hr1 hb1 hA1
  go_wp2
  go_region_with (first | (go_at_call 52; refine (l6Any_c (w.heap.size + 1) 0 m cap a _ (by repeat (first | exact unhide HR1 | refine Rd.drew ?_ | refine Rd.alloc ?_ _)) (by omega)).mono ?_; rintro e wa ⟨⟨neg, us, ds, rfl, hsm⟩, ⟨pa, hpa, hra⟩, hka⟩; have hlta := hra.lt; have HRa := hide hra; have HKa := hide hka; have Hsm := hide hsm; have HAa : Hid (At3 wa w.heap.size (.bool false) (.string ⟨#[]⟩) (.string ⟨#[]⟩)) := (by refine At3.keeps (g := w.heap.size + 1) ?_ hka (by omega); repeat (first | exact unhide HA1 | refine At3.drew ?_ | refine At3.alloc ?_ _)); clear hra hka hsm; unfold numS) | (go_at_call 33; refine (pick_d (w.heap.size + 1) pa m cap a 6 _ (by repeat (first | exact unhide HRa | refine Rd.drew ?_ | refine Rd.alloc ?_ _)) (by omega) (by omega)).mono ?_; rintro e wp ⟨⟨i, rfl, hi⟩, ⟨pp, hpp, hrp⟩, hkp⟩; have hi6 : i < 6 := (by rcases hi with h | h <;> omega); have hiL : (i : Int) < 6 := (by omega); have hAp : At3 wp w.heap.size (.bool false) (.string ⟨#[]⟩) (.string ⟨#[]⟩) := (by refine At3.keeps (g := w.heap.size + 1) ?_ hkp (by omega); repeat (first | exact unhide HAa | refine At3.drew ?_ | refine At3.alloc ?_ _)); have c10 := hAp.c0; have c11 := hAp.c1; have c12 := hAp.c2; have f1 := hAp.f; have hs1 := hAp.lt; obtain ⟨r, hr⟩ := int_at (cs := #[.int .i64 10, .int .i64 2, .int .i64 8, .int .i64 16, .int .i64 3, .int .i64 0]) rfl hi6; have hrl : ([.int .i64 10, .int .i64 2, .int .i64 8, .int .i64 16, .int .i64 3, .int .i64 0] : List Value)[i]? = some (.int .i64 r) := (by simpa using hr); have hrg := (List.getElem?_eq_some_iff.1 hrl).2; have hcA := (by first | exact tab_keep2 (q := w1.heap.size) (i := i) rfl (unhide HKa) hkp (by omega) hr | exact tab_keep3 (q := w1.heap.size) (i := i) rfl (unhide HKa) hkp (by omega) hr | exact tab_keep1 (q := wa.heap.size) (i := i) rfl hkp (by omega) hr | exact trivial : _); have HKp := hide hkp; clear hrp hkp hi hAp))
  all_goals
    go_wp2
    have hcc := And.intro c10 (And.intro c11 (And.intro c12 (And.intro hs1 hrg)))
    refine bodyPost_ret (v := .tuple #[.agg #[.bool neg, .string us, .string ds], .int .i64 r]) (by simp [results, Tryd.results10, go_sem, hcc]) rfl ⟨⟨neg, us, ds, r, rfl, unhide Hsm⟩, ?_⟩
    have hF : Below w.heap.size w wp := by
      first
        | exact (unhide HB1).trans (((show Keeps (w.heap.size + 1) w1 wa from ⟨(unhide HKa).os, (unhide HKa).tape, (unhide HKa).output, (unhide HKa).size, (unhide HKa).block⟩).trans (unhide HKp)).below (by omega) (by omega))
        | exact (unhide HB1).trans (((show Keeps (w.heap.size + 1) w1 wa from ⟨(unhide HKa).os, (unhide HKa).tape, (unhide HKa).output, (unhide HKa).size, (unhide HKa).block⟩).trans (((Keeps.refl _ _).alloc _).trans (unhide HKp))).below (by omega) (by omega))
        | exact (unhide HB1).trans (((((Keeps.refl (w.heap.size + 1) w1).alloc (.cells #[.int .i64 10, .int .i64 2, .int .i64 8, .int .i64 16, .int .i64 3, .int .i64 0] 3)).trans (show Keeps (w.heap.size + 1) (w1.alloc (.cells #[.int .i64 10, .int .i64 2, .int .i64 8, .int .i64 16, .int .i64 3, .int .i64 0] 3)) wa from ⟨(unhide HKa).os, (unhide HKa).tape, (unhide HKa).output, (unhide HKa).size, (unhide HKa).block⟩)).trans (unhide HKp)).below (by omega) (by omega))
    refine hF.trans ?_
    repeat (first | exact Below.refl _ _ | refine Below.setCell ?_ (by first | exact Nat.le_refl _ | exact Nat.le_succ _ | (simp; done) | (simp; omega)) _ | refine Below.alloc ?_ (by first | exact Nat.le_refl _ | (simp; done) | (simp; omega)) _)
end Go.Proofs.YtchginjabaobfaaDoor
namespace Go.Proofs.YtchginjabaobfaaDoor
open Go.RowKit Nt

/-- what stands where a text is drawn: its radix, the text, the reader -/
def textTab1 : Array Value := #[.int .i64 10, .int .i64 10, .int .i64 2, .int .i64 8, .int .i64 16, .int .i64 3, .int .i64 0]

theorem picks (i2 i3 i4 : Nat) (h2 : i2 < 2) (h3 : i3 < 2) (h4 : i4 < 3) : ∃ m3 : Nat, Hid (wrap64 (5 + wrap64 (wrap64 ((i2 : Int) * (i3 : Int)) * (i4 : Int))) = (m3 : Int)) ∧ m3 ≤ 7 := by
  have k : ∀ a : Nat, a < 2 → ∀ b : Nat, b < 2 → ∀ c : Nat, c < 3 → wrap64 (5 + wrap64 (wrap64 ((a : Int) * (b : Int)) * (c : Int))) = ((5 + a * b * c : Nat) : Int) ∧ 5 + a * b * c ≤ 7 := by decide +kernel
  exact ⟨_, (k i2 h2 i3 h3 i4 h4).1, (k i2 h2 i3 h3 i4 h4).2⟩
theorem five (m : Nat) (h : m ≤ 2) : ∃ k : Nat, wrap64 (5 + (m : Int)) = (k : Int) ∧ k ≤ 7 := ⟨5 + m, by unfold wrap64; omega, by omega⟩

theorem print_len (neg : Bool) (u d : List UInt8) (r : Int) : (printM neg u d r).length ≤ 482 := by
  unfold printM
  split
  · rename_i h
    simp only [Bool.and_eq_true] at h
    obtain ⟨b, rfl, hb4⟩ := isRadix_nat h.2
    obtain ⟨h3, h4, hu, hd, _⟩ := ok_parts h.1
    have e1 := txt_size (b := b) (n := valDec u) (by omega) (by rw [dec_len, ← isDec_val h3]; exact hu)
    have e2 := txt_size (b := b) (n := valDec d) (by omega) (by rw [dec_len, ← isDec_val h4]; exact hd)
    unfold txt at e1 e2
    rw [B_size] at e1
    rw [B_size] at e2
    unfold prM
    rw [Int.toNat_natCast]
    cases neg <;> by_cases h1 : valDec d = 1 <;> simp [h1] <;> omega
  · simp

set_option maxRecDepth 100000 in
set_option maxHeartbeats 2000000 in
theorem DrawNumParse_c (a : Option Addr) (n cap : Nat) (w : World) (h : Bytes0 w a n) (hcap : n ≤ cap) (hmax : cap ≤ maxLen) :
    Calls Tryd.prog 6 #[.slice a n cap] w fun e w' => (∃ (s : ByteArray) (r : Int), e = .returned (.tuple #[.string s, .int .i64 r]) ∧ s.size ≤ 10000) ∧ Below w.heap.size w w' := by
  go_enter Tryd.func6, Tryd.ntmps6
  go_wp2_with fail
  refine (l1Open_c a n cap w h hcap hmax).mono ?_
  rintro e w1 ⟨rfl, ⟨m, hm, hr1⟩, hb1⟩
  have hlt1 := hr1.lt
  have HR1 := hide hr1
  clear hr1 h
  go_wp2_with fail
  refine (pick_d w.heap.size 0 m cap a 2 _ ((unhide HR1).alloc _) (by omega) (by omega)).mono ?_
  rintro e w2 ⟨⟨i2, rfl, hi2⟩, ⟨p2, hp2, hr2⟩, hk2⟩
  have hi2' : i2 < 2 := by rcases hi2 with h | h <;> omega
  have HR2 := hide hr2
  have HK2 := hide hk2
  clear hr2 hk2 hi2
  go_wp2_with fail
  refine (pick_d w.heap.size p2 m cap a 2 _ (unhide HR2) (by omega) (by omega)).mono ?_
  rintro e w3 ⟨⟨i3, rfl, hi3⟩, ⟨p3, hp3, hr3⟩, hk3⟩
  have hi3' : i3 < 2 := by rcases hi3 with h | h <;> omega
  have HR3 := hide hr3
  have HK3 := hide ((unhide HK2).trans hk3)
  clear hr3 hk3 hi3
  go_wp2_with fail
  refine (pick_d w.heap.size p3 m cap a 3 _ (unhide HR3) (by omega) (by omega)).mono ?_
  rintro e w4 ⟨⟨i4, rfl, hi4⟩, ⟨p4, hp4, hr4⟩, hk4⟩
  have hi4' : i4 < 3 := by rcases hi4 with h | h <;> omega
  have HR4 := hide hr4
  have HK4 := hide ((unhide HK3).trans hk4)
  clear hr4 hk4 hi4
  obtain ⟨m3, hw3, hm3⟩ := picks i2 i3 i4 hi2' hi3' hi4'
  go_wp2_with fail
  rw [show wrap64 (5 + wrap64 (wrap64 ((i2 : Int) * (i3 : Int)) * (i4 : Int))) = (m3 : Int) from unhide hw3]
  refine (pick_d w.heap.size p4 m cap a (m3 : Int) _ (unhide HR4) (by omega) (by omega)).mono ?_
  rintro e w5 ⟨⟨i5, rfl, hi5⟩, ⟨p5, hp5, hr5⟩, hk5⟩
  have hi5' : i5 < 7 := by rcases hi5 with h | h <;> omega
  have hiL : (i5 : Int) < 7 := by omega
  have HR5 := hide hr5
  have HK5 := hide ((unhide HK4).trans hk5)
  obtain ⟨r, hr⟩ := int_at (cs := #[.int .i64 10, .int .i64 10, .int .i64 2, .int .i64 8, .int .i64 16, .int .i64 3, .int .i64 0]) rfl hi5'
  have hcr := tab_keep1 (q := w1.heap.size) (i := i5) rfl (unhide HK5) (by omega) hr
  have HKw := hide (((Keeps.refl w.heap.size w1).alloc (.cells #[.int .i64 10, .int .i64 10, .int .i64 2, .int .i64 8, .int .i64 16, .int .i64 3, .int .i64 0] 3)).trans (unhide HK5))
  clear hr5 hk5 hi5 hr hw3 HR1 HR2 HR3 HR4 HK2 HK3 HK4 HK5
  go_wp2_with fail
  have h := l6Num_c w.heap.size p5 m cap a w5 (unhide HR5) (by omega)
  refine h.mono ?_
  clear h
  rintro e w6 ⟨⟨neg, x, y, rfl, hx60, hy60⟩, ⟨p6, hp6, hr6⟩, hk6⟩
  have hlt6 := hr6.lt
  have HR6 := hide hr6
  have HK6 := hide ((unhide HKw).trans hk6)
  clear hr6 hk6
  go_wp2_with fail
  refine (pick_d w.heap.size p6 m cap a 2 _ ((unhide HR6).alloc _) (by omega) (by omega)).mono ?_
  rintro e w7 ⟨⟨i7, rfl, hi7⟩, ⟨p7, hp7, hr7⟩, hk7⟩
  have hi7' : i7 < 2 := by rcases hi7 with h | h <;> omega
  have hiL7 : (i7 : Int) < 2 := by omega
  obtain ⟨r7, hr7'⟩ := int_at (cs := #[.int .i64 10, .int .i64 r]) rfl hi7'
  have hcr7 := tab_keep1 (q := w6.heap.size) (i := i7) rfl hk7 (by omega) hr7'
  have HR7 := hide hr7
  have HK7 := hide (((unhide HK6).alloc (.cells #[.int .i64 10, .int .i64 r] 3)).trans hk7)
  clear hr7 hk7 hi7 hr7' HR5 HKw HR6 HK6
  go_wp2_with fail
  have h := specNumPrint_c neg (txl 10 x) (txl 10 y) r7 w7 (by rw [← dec_len]; omega) (by rw [← dec_len]; omega)
  unfold numV
  refine h.mono ?_
  clear h
  rintro e w8 ⟨rfl, hb8⟩
  have hpl := print_len neg (txl 10 x) (txl 10 y) r7
  generalize printM neg (txl 10 x) (txl 10 y) r7 = s at *
  have HR8 := hide ((unhide HR7).keep hb8)
  have HK8 := hide ((unhide HK7).trans (Keeps.of_below hb8))
  clear hb8 HR7 HK7
  go_wp2_with fail
  refine (pick_d w.heap.size p7 m cap a 10 _ (unhide HR8) (by omega) (by omega)).mono ?_
  rintro e w9 ⟨⟨i9, rfl, hi9⟩, ⟨p9, hp9, hr9⟩, hk9⟩
  have hlt9 := hr9.lt
  have hsz := B_size s
  have HR9 := hide hr9
  have HK9 := hide ((unhide HK8).trans hk9)
  clear hr9 hk9 hi9 HR8 HK8 hcr hcr7
  have HB1 := hide hb1
  clear hb1
  rcases Nat.lt_or_ge i9 1 with h | h
  · have hi0 : i9 = 0 := by omega
    subst hi0
    have hs2 : (⟨#[43]⟩ ++ B s : ByteArray).size ≤ 10000 := by rw [ByteArray.size_append, B_size]; show 1 + _ ≤ _; omega
    have hns : ¬ 9223372036854775807 < 1 + (B s).size := by omega
    have Hs2 := hide hs2
    clear hs2
    go_wp2
    go_ret2
    exact ⟨⟨_, r, rfl, unhide Hs2⟩, (unhide HB1).trans ((unhide HK9).below (Nat.le_refl _) (by omega))⟩
  have z0 : ((i9 : Int) == 0) = false := by rw [beq_eq_false_iff_ne]; omega
  rcases Nat.lt_or_ge i9 2 with h2 | h2
  · have hi0 : i9 = 1 := by omega
    subst hi0
    go_wp2_with fail
    refine (of_c w.heap.size p9 m cap w9.heap.size a #[.string ⟨#[]⟩, .string ⟨#[45]⟩, .string ⟨#[43]⟩, .string ⟨#[47]⟩, .string ⟨#[49, 47]⟩, .string ⟨#[47, 49]⟩, .string ⟨#[49, 47, 48]⟩, .string ⟨#[45, 45, 49]⟩, .string ⟨#[49, 45]⟩, .string ⟨#[49, 46, 53]⟩, .string ⟨#[46, 53]⟩, .string ⟨#[53, 46]⟩, .string ⟨#[46]⟩, .string ⟨#[45, 46, 50, 53]⟩, .string ⟨#[49, 46, 50, 46, 51]⟩, .string ⟨#[49, 47, 50, 47, 51]⟩, .string ⟨#[49, 46, 53, 47, 50]⟩, .string ⟨#[48, 120, 49]⟩, .string ⟨#[70]⟩, .string ⟨#[102]⟩, .string ⟨#[49, 101, 51]⟩, .string ⟨#[32, 49]⟩, .string ⟨#[48, 48]⟩, .string ⟨#[45, 48]⟩, .string ⟨#[48, 48, 55]⟩, .string ⟨#[48, 47, 53]⟩] 26 _ ((unhide HR9).alloc _) (by omega) rfl (by omega) (by omega) (heap_at _ _ _) (by omega)).mono ?_
    rintro e w10 ⟨⟨v, rfl, hv⟩, ⟨p10, hp10, hr10⟩, hk10⟩
    obtain ⟨s2, rfl, hs2⟩ := of_strs (M := 10) (by rfl) hv
    have HK10 := hide (((unhide HK9).alloc _).trans hk10)
    clear hr10 hk10 hv
    go_wp2
    go_ret2
    exact ⟨⟨_, r, rfl, by omega⟩, (unhide HB1).trans ((unhide HK10).below (Nat.le_refl _) (by omega))⟩
  have z1 : ((i9 : Int) == 1) = false := by rw [beq_eq_false_iff_ne]; omega
  rcases Nat.lt_or_ge i9 3 with h3 | h3
  · have hi0 : i9 = 2 := by omega
    subst hi0
    go_wp2_with fail
    refine (pick_d w.heap.size p9 m cap a ((B s).size + 1 : Int) _ (unhide HR9) (by omega) (by omega)).mono ?_
    rintro e w10 ⟨⟨k, rfl, hk⟩, ⟨p10, hp10, hr10⟩, hk10⟩
    have hks : k ≤ s.length := by rcases hk with h | h <;> omega
    have hks1 : k ≤ (B s).size := by omega
    have hks2 : (k : Int) ≤ (B s).size := by omega
    have hlt10 := hr10.lt
    have HR10 := hide hr10
    have HK10 := hide ((unhide HK9).trans hk10)
    clear hr10 hk10 hk HK9 HR9
    have hx1 : ((B s).extract 0 k).size = k := by rw [ByteArray.size_extract]; omega
    have hx2 : ((B s).extract k (B s).size).size = (B s).size - k := by rw [ByteArray.size_extract]; omega
    have hx3 := fun s2 : ByteArray => (ByteArray.size_append (a := (B s).extract 0 k) (b := s2))
    go_wp2
    go_region_with (go_at_call 35; refine (of_c w.heap.size p10 m cap w10.heap.size a #[.string ⟨#[48]⟩, .string ⟨#[57]⟩, .string ⟨#[46]⟩, .string ⟨#[47]⟩, .string ⟨#[45]⟩, .string ⟨#[97]⟩, .string ⟨#[32]⟩, .string ⟨#[0]⟩] 8 _ (by repeat (first | exact unhide HR10 | refine Rd.drew ?_ | refine Rd.alloc ?_ _)) (by omega) rfl (by omega) (by omega) (by exact heap_at w10 _ _) (by omega)).mono ?_; rintro e w11 ⟨⟨v, rfl, hv⟩, ⟨p11, hp11, hr11⟩, hk11⟩; obtain ⟨s2, rfl, hs2⟩ := of_strs (M := 10) (by rfl) hv; have HK11 := hide hk11; clear hr11 hk11 hv; have hn1 : ¬ 9223372036854775807 < ((B s).extract 0 k).size + s2.size := (by omega); have hn2 : ¬ 9223372036854775807 < ((B s).extract 0 k).size + s2.size + ((B s).extract k (B s).size).size := (by omega))
    all_goals
      have hF : Below w.heap.size w1 w11 := by
        first
          | exact (((unhide HK10).alloc _).trans (unhide HK11)).below (Nat.le_refl _) (by omega)
          | exact (((unhide HK10).alloc _).drew.trans (unhide HK11)).below (Nat.le_refl _) (by omega)
          | exact (((unhide HK10).drew.alloc _).trans (unhide HK11)).below (Nat.le_refl _) (by omega)
      have hfin : ((B s).extract 0 k ++ s2 ++ (B s).extract k s.length).size ≤ 10000 := by
        rw [ByteArray.size_append, ByteArray.size_append, ByteArray.size_extract, ByteArray.size_extract]; omega
      have Hfin := hide hfin
      clear hfin
      go_wp2
      go_ret2
      exact ⟨⟨_, r, rfl, unhide Hfin⟩, (unhide HB1).trans hF⟩
  have z2 : ((i9 : Int) == 2) = false := by rw [beq_eq_false_iff_ne]; omega
  rcases Nat.lt_or_ge i9 4 with h4 | h4
  · have hi0 : i9 = 3 := by omega
    subst hi0
    go_wp2_with fail
    refine (pick_d w.heap.size p9 m cap a 2 _ (unhide HR9) (by omega) (by omega)).mono ?_
    rintro e w10 ⟨⟨k, rfl, hk⟩, ⟨p10, hp10, hr10⟩, hk10⟩
    have hk2 : k < 2 := by rcases hk with h | h <;> omega
    have HK10 := hide ((unhide HK9).trans hk10)
    clear hr10 hk10 hk HK9 HR9
    go_wp2_with fail
    refine (l1Many_c ⟨#[48]⟩ (240 - ((B s).size : Int) + (k : Int)) 300 _ (by show 1 * _ ≤ _; omega) (by omega) (by omega)).mono ?_
    rintro e w11 ⟨⟨s2, rfl, hs2⟩, rfl⟩
    have hs3 : (s2 ++ B s : ByteArray).size ≤ 10000 := by rw [ByteArray.size_append, B_size]; omega
    have hns : ¬ 9223372036854775807 < s2.size + (B s).size := by omega
    have Hs3 := hide hs3
    clear hs3
    go_wp2
    go_ret2
    exact ⟨⟨_, r, rfl, unhide Hs3⟩, (unhide HB1).trans ((unhide HK10).below (Nat.le_refl _) (by omega))⟩
  have z3 : ((i9 : Int) == 3) = false := by rw [beq_eq_false_iff_ne]; omega
  rcases Nat.lt_or_ge i9 5 with h5 | h5
  · have hi0 : i9 = 4 := by omega
    subst hi0
    go_wp2_with fail
    have h := l6Digits_c w.heap.size p9 m cap a w9 (unhide HR9) (by omega)
    refine h.mono ?_
    clear h
    rintro e w10 ⟨⟨u, rfl, hu⟩, ⟨p10, hp10, hr10⟩, hk10⟩
    have HR10 := hide hr10
    have HK10 := hide ((unhide HK9).trans hk10)
    clear hr10 hk10 HK9 HR9
    go_wp2_with fail
    have h := l6Digits_c w.heap.size p10 m cap a w10 (unhide HR10) (by omega)
    refine h.mono ?_
    clear h
    rintro e w11 ⟨⟨d, rfl, hd⟩, ⟨p11, hp11, hr11⟩, hk11⟩
    have HK11 := hide ((unhide HK10).trans hk11)
    clear hr11 hk11 HK10 HR10
    have hs3 : (dec u ++ ⟨#[46]⟩ ++ dec d : ByteArray).size ≤ 10000 := by rw [ByteArray.size_append, ByteArray.size_append]; show _ + 1 + _ ≤ _; omega
    have hs4 : (dec u ++ ⟨#[46]⟩ : ByteArray).size = (dec u).size + 1 := by rw [ByteArray.size_append]; rfl
    have hns : ¬ 9223372036854775807 < (dec u).size + 1 := by omega
    have hns2 : ¬ 9223372036854775807 < (dec u).size + 1 + (dec d).size := by omega
    have hns3 : ¬ 9223372036854775807 < (dec u ++ ⟨#[46]⟩ : ByteArray).size + (dec d).size := by omega
    have Hs3 := hide hs3
    clear hs3
    go_wp2
    go_ret2
    exact ⟨⟨_, r, rfl, unhide Hs3⟩, (unhide HB1).trans ((unhide HK11).below (Nat.le_refl _) (by omega))⟩
  have z4 : ((i9 : Int) == 4) = false := by rw [beq_eq_false_iff_ne]; omega
  go_wp2
  go_ret2
  exact ⟨⟨_, r, rfl, by omega⟩, (unhide HB1).trans ((unhide HK9).below (Nat.le_refl _) (by omega))⟩
end Go.Proofs.YtchginjabaobfaaDoor
namespace Go.Proofs.YtchginjabaobfaaDoor
open Go.RowKit Nt

theorem AtC.keeps {w w' : World} {b g : Nat} {cs : Array Value} {T : TypeId} (h : AtC w b cs T) (k : Keeps g w w') (hg : b ≠ g) : AtC w' b cs T := (k.block b h.lt hg).trans h

theorem AtC.put3 {w : World} {b : Nat} {x y z : Value} {T : TypeId} (h : AtC w b #[x, y, z] T) (u v t : Value) : AtC (((w.setCell ⟨b, 0, none⟩ u).setCell ⟨b, 1, none⟩ v).setCell ⟨b, 2, none⟩ t) b #[u, v, t] T := by
  have h1 : (w.setCell ⟨b, 0, none⟩ u).heap[b]? = some (.cells #[u, y, z] T (0, 0)) := by
    show (w.heap.modify b _)[b]? = _
    rw [Array.getElem?_modify, if_pos rfl, show w.heap[b]? = _ from h]
    rfl
  have h2 : ((w.setCell ⟨b, 0, none⟩ u).setCell ⟨b, 1, none⟩ v).heap[b]? = some (.cells #[u, v, z] T (0, 0)) := by
    show ((w.setCell ⟨b, 0, none⟩ u).heap.modify b _)[b]? = _
    rw [Array.getElem?_modify, if_pos rfl, h1]
    rfl
  show (((w.setCell ⟨b, 0, none⟩ u).setCell ⟨b, 1, none⟩ v).heap.modify b _)[b]? = _
  rw [Array.getElem?_modify, if_pos rfl, h2]
  rfl
theorem AtC.far3 {w : World} {b c : Nat} {cs : Array Value} {T : TypeId} (h : AtC w b cs T) (hc : b ≠ c) (u v t : Value) : AtC (((w.setCell ⟨c, 0, none⟩ u).setCell ⟨c, 1, none⟩ v).setCell ⟨c, 2, none⟩ t) b cs T := by
  unfold AtC; rw [Below.heap_setCell _ _ _ _ hc, Below.heap_setCell _ _ _ _ hc, Below.heap_setCell _ _ _ _ hc]; exact h
theorem below_set3 {B : Nat} {a w : World} (h : Below B a w) {b : Nat} (hb : B ≤ b) (u v t : Value) : Below B a (((w.setCell ⟨b, 0, none⟩ u).setCell ⟨b, 1, none⟩ v).setCell ⟨b, 2, none⟩ t) :=
  ((h.setCell (p := ⟨b, 0, none⟩) hb u).setCell (p := ⟨b, 1, none⟩) hb v).setCell (p := ⟨b, 2, none⟩) hb t


set_option maxRecDepth 100000 in
set_option maxHeartbeats 2000000 in
theorem l6Two2_c (a : Option Addr) (n cap : Nat) (w : World) (h : Bytes0 w a n) (hcap : n ≤ cap) (hmax : cap ≤ maxLen) :
    Calls Tryd.prog 59 #[.slice a n cap] w fun e w' => (∃ n1 us1 ds1 n2 us2 ds2, e = .returned (.tuple #[numS n1 us1 ds1, numS n2 us2 ds2]) ∧ smallS us1 ds1 ∧ smallS us2 ds2) ∧ Below w.heap.size w w' := by
  have hW := ((Below.refl w.heap.size w).alloc (Nat.le_refl _) (.cells #[.bool false, .string ⟨#[]⟩, .string ⟨#[]⟩] 26)).alloc (by simp) (.cells #[.bool false, .string ⟨#[]⟩, .string ⟨#[]⟩] 26)
  have H := hide (h.below hW)
  have HW := hide hW
  have hA := (AtC.new w #[.bool false, .string ⟨#[]⟩, .string ⟨#[]⟩] 26).alloc (.cells #[.bool false, .string ⟨#[]⟩, .string ⟨#[]⟩] 26)
  have hB := AtC.new (w.alloc (.cells #[.bool false, .string ⟨#[]⟩, .string ⟨#[]⟩] 26)) #[.bool false, .string ⟨#[]⟩, .string ⟨#[]⟩] 26
  rw [World.size_alloc] at hB
  have HA0 := hide hA
  have HB0 := hide hB
  clear h hW hA hB
  go_enter Tryd.func59, Tryd.ntmps59
  go_wp2_with fail
  refine (l1Open_c a n cap _ (unhide H) hcap hmax).mono ?_
  rintro e w1 ⟨rfl, ⟨m, hm, hr1⟩, hb1⟩
  have HA1 := hide ((unhide HA0).below hb1)
  have HB1 := hide ((unhide HB0).below hb1)
  have HW1 := hide ((unhide HW).trans (hb1.mono (unhide HW).size))
  rw [World.size_alloc, World.size_alloc] at hr1 ⊢
  have hlt1 := hr1.lt
  have HR1 := hide hr1
  clear hr1 hb1
  go_wp2_with fail
  have h := l6Any_c (w.heap.size + 1 + 1) 0 m cap a w1 (unhide HR1) (by omega)
  refine h.mono ?_
  clear h
  rintro e w2 ⟨⟨n1, us1, ds1, rfl, hsm1⟩, ⟨p2, hp2, hr2⟩, hk2⟩
  have hlt2 := hr2.lt
  have HR2 := hide (hr2.alloc (.cells #[.bool n1, .string us1, .string ds1] 26))
  have HC2 := hide (AtC.new w2 #[.bool n1, .string us1, .string ds1] 26)
  have HK2 := hide (hk2.alloc (.cells #[.bool n1, .string us1, .string ds1] 26))
  have Hsm1 := hide hsm1
  clear hr2 hk2 hsm1
  unfold numS
  go_wp2_with fail
  have h := l6Any_c (w.heap.size + 1 + 1) p2 m cap a (w2.alloc (.cells #[.bool n1, .string us1, .string ds1] 26)) (unhide HR2) (by omega)
  refine h.mono ?_
  clear h
  rintro e w3 ⟨⟨n2, us2, ds2, rfl, hsm2⟩, ⟨p3, hp3, hr3⟩, hk3⟩
  have hlt3 := hr3.lt
  have HR3 := hide (hr3.alloc (.cells #[.bool n2, .string us2, .string ds2] 26))
  have HC3 := hide (((unhide HC2).keeps hk3 (by omega)).alloc (.cells #[.bool n2, .string us2, .string ds2] 26))
  have HD3 := hide (AtC.new w3 #[.bool n2, .string us2, .string ds2] 26)
  have HK3 := hide (((unhide HK2).trans hk3).alloc (.cells #[.bool n2, .string us2, .string ds2] 26))
  have hl23 : w2.heap.size < w3.heap.size := by have := hk3.size; simp at this; omega
  have Hsm2 := hide hsm2
  clear hr3 hk3 hsm2
  unfold numS
  go_wp2_with fail
  refine (pick_d (w.heap.size + 1 + 1) p3 m cap a 8 _ (unhide HR3) (by omega) (by omega)).mono ?_
  rintro e w4 ⟨⟨i, rfl, hi⟩, ⟨p4, hp4, hr4⟩, hk4⟩
  have HA := hide (((unhide HA1).keeps (unhide HK3) (by omega)).keeps hk4 (by omega))
  have HB := hide (((unhide HB1).keeps (unhide HK3) (by omega)).keeps hk4 (by omega))
  have HC := hide ((unhide HC3).keeps hk4 (by omega))
  have HD := hide ((unhide HD3).keeps hk4 (by omega))
  have HK4 := hide ((unhide HK3).trans hk4)
  have HW4 := hide ((unhide HW1).trans ((unhide HK4).below (by omega) (by omega)))
  have hs4 := (unhide HD).lt
  clear hr4 hk4 hi HA1 HB1 HA0 HB0 HC2 HC3 HD3 HK2 HK3 HR1 HR2 HR3
  -- w4 the world; HA HB (the answers' boxes), HC HD (the drawn numbers' boxes), at w4
  have a0 : (w4).cell? ⟨w.heap.size, 0, none⟩ = some (.bool false) := (unhide HA).c 0
  have a1 : (w4).cell? ⟨w.heap.size, 1, none⟩ = some (.string ⟨#[]⟩) := (unhide HA).c 1
  have a2 : (w4).cell? ⟨w.heap.size, 2, none⟩ = some (.string ⟨#[]⟩) := (unhide HA).c 2
  have b0 : (w4).cell? ⟨w.heap.size + 1, 0, none⟩ = some (.bool false) := (unhide HB).c 0
  have b1 : (w4).cell? ⟨w.heap.size + 1, 1, none⟩ = some (.string ⟨#[]⟩) := (unhide HB).c 1
  have b2 : (w4).cell? ⟨w.heap.size + 1, 2, none⟩ = some (.string ⟨#[]⟩) := (unhide HB).c 2
  have c0 : (w4).cell? ⟨w2.heap.size, 0, none⟩ = some (.bool n1) := (unhide HC).c 0
  have c1 : (w4).cell? ⟨w2.heap.size, 1, none⟩ = some (.string us1) := (unhide HC).c 1
  have c2 : (w4).cell? ⟨w2.heap.size, 2, none⟩ = some (.string ds1) := (unhide HC).c 2
  have d0 : (w4).cell? ⟨w3.heap.size, 0, none⟩ = some (.bool n2) := (unhide HD).c 0
  have d1 : (w4).cell? ⟨w3.heap.size, 1, none⟩ = some (.string us2) := (unhide HD).c 1
  have d2 : (w4).cell? ⟨w3.heap.size, 2, none⟩ = some (.string ds2) := (unhide HD).c 2
  have fa := (unhide HA).f
  have fb := (unhide HB).f
  have fd := (unhide HD).f
  rcases Nat.lt_or_ge i 1 with h1 | h1
  · have hi0 : i = 0 := by omega
    subst hi0
    go_wp2
    have HA' := hide ((unhide HA).far3 (c := w3.heap.size) (by omega) (.bool n1) (.string us1) (.string ds1))
    have HB' := hide ((unhide HB).far3 (c := w3.heap.size) (by omega) (.bool n1) (.string us1) (.string ds1))
    have HC' := hide ((unhide HC).far3 (c := w3.heap.size) (by omega) (.bool n1) (.string us1) (.string ds1))
    have HD' := hide ((unhide HD).put3 (.bool n1) (.string us1) (.string ds1))
    have HWe := hide (below_set3 (unhide HW4) (b := w3.heap.size) (by omega) (.bool n1) (.string us1) (.string ds1))
    clear HA HB HC HD HW4
    generalize (((w4.setCell ⟨w3.heap.size, 0, none⟩ (.bool n1)).setCell ⟨w3.heap.size, 1, none⟩ (.string us1)).setCell ⟨w3.heap.size, 2, none⟩ (.string ds1)) = W5 at *
    have HA := HA'
    have HB := HB'
    have HC := HC'
    have HD := HD'
    clear HA' HB' HC' HD'
    -- the answers are told: W5 the world; n1 us1 ds1 the second number; Hsm1 its bounds; HA HB HC HD at W5, HWe what is kept below
    clear a0 a1 a2 b0 b1 b2 c0 c1 c2 d0 d1 d2 fa fb fd
    have a0 : (W5).cell? ⟨w.heap.size, 0, none⟩ = some (.bool false) := (unhide HA).c 0
    have a1 : (W5).cell? ⟨w.heap.size, 1, none⟩ = some (.string ⟨#[]⟩) := (unhide HA).c 1
    have a2 : (W5).cell? ⟨w.heap.size, 2, none⟩ = some (.string ⟨#[]⟩) := (unhide HA).c 2
    have b0 : (W5).cell? ⟨w.heap.size + 1, 0, none⟩ = some (.bool false) := (unhide HB).c 0
    have b1 : (W5).cell? ⟨w.heap.size + 1, 1, none⟩ = some (.string ⟨#[]⟩) := (unhide HB).c 1
    have b2 : (W5).cell? ⟨w.heap.size + 1, 2, none⟩ = some (.string ⟨#[]⟩) := (unhide HB).c 2
    have c0 : (W5).cell? ⟨w2.heap.size, 0, none⟩ = some (.bool n1) := (unhide HC).c 0
    have c1 : (W5).cell? ⟨w2.heap.size, 1, none⟩ = some (.string us1) := (unhide HC).c 1
    have c2 : (W5).cell? ⟨w2.heap.size, 2, none⟩ = some (.string ds1) := (unhide HC).c 2
    have d0 : (W5).cell? ⟨w3.heap.size, 0, none⟩ = some (.bool n1) := (unhide HD).c 0
    have d1 : (W5).cell? ⟨w3.heap.size, 1, none⟩ = some (.string us1) := (unhide HD).c 1
    have d2 : (W5).cell? ⟨w3.heap.size, 2, none⟩ = some (.string ds1) := (unhide HD).c 2
    have fa := fun j => (show (W5).frozen? ⟨w.heap.size, j, none⟩ = false from (unhide HA).f j)
    have fb := fun j => (show (W5).frozen? ⟨w.heap.size + 1, j, none⟩ = false from (unhide HB).f j)
    go_region
    all_goals
      go_wp2
      have hcc := And.intro a0 (And.intro a1 (And.intro a2 (And.intro b0 (And.intro b1 b2))))
      refine bodyPost_ret (v := .tuple #[.agg #[.bool n1, .string us1, .string ds1], .agg #[.bool n1, .string us1, .string ds1]]) (by simp [results, Tryd.results59, go_sem, hcc]) rfl ⟨⟨n1, us1, ds1, n1, us1, ds1, rfl, unhide Hsm1, unhide Hsm1⟩, ?_⟩
      exact (below_set3 (below_set3 (unhide HWe) (b := w.heap.size) (Nat.le_refl _) _ _ _) (b := w.heap.size + 1) (by omega) _ _ _).drew
  have z0 : ((i : Int) == 0) = false := by rw [beq_eq_false_iff_ne]; omega
  rcases Nat.lt_or_ge i 2 with h2 | h2
  · have hi1 : i = 1 := by omega
    subst hi1
    go_wp2_with fail
    refine (l3Neg_c n1 us1 ds1 w4).mono ?_
    rintro e w5 ⟨rfl, hb5⟩
    have hA := (unhide HA).below hb5
    have hB := (unhide HB).below hb5
    have hC := (unhide HC).below hb5
    have hD := (unhide HD).below hb5
    have hWe := (unhide HW4).trans (hb5.mono (unhide HW4).size)
    have d0' : w5.cell? ⟨w3.heap.size, 0, none⟩ = some (.bool n2) := hD.c 0
    have d1' : w5.cell? ⟨w3.heap.size, 1, none⟩ = some (.string us2) := hD.c 1
    have d2' : w5.cell? ⟨w3.heap.size, 2, none⟩ = some (.string ds2) := hD.c 2
    have fd' := hD.f
    obtain ⟨b, hb⟩ : ∃ b, (!n1 && us1.toList != [48]) = b := ⟨_, rfl⟩
    rw [hb]
    clear HA HB HC HD HW4 hb hb5
    have HA' := hide (hA.far3 (c := w3.heap.size) (by omega) (.bool b) (.string us1) (.string ds1))
    have HB' := hide (hB.far3 (c := w3.heap.size) (by omega) (.bool b) (.string us1) (.string ds1))
    have HC' := hide (hC.far3 (c := w3.heap.size) (by omega) (.bool b) (.string us1) (.string ds1))
    have HD' := hide (hD.put3 (.bool b) (.string us1) (.string ds1))
    have HWe := hide (below_set3 hWe (b := w3.heap.size) (by omega) (.bool b) (.string us1) (.string ds1))
    clear hA hB hC hD hWe
    go_wp2
    clear d0' d1' d2' fd'
    generalize (((w5.setCell ⟨w3.heap.size, 0, none⟩ (.bool b)).setCell ⟨w3.heap.size, 1, none⟩ (.string us1)).setCell ⟨w3.heap.size, 2, none⟩ (.string ds1)) = W5 at *
    have HA := HA'
    have HB := HB'
    have HC := HC'
    have HD := HD'
    clear HA' HB' HC' HD'
    -- the answers are told: W5 the world; b us1 ds1 the second number; Hsm1 its bounds; HA HB HC HD at W5, HWe what is kept below
    clear a0 a1 a2 b0 b1 b2 c0 c1 c2 d0 d1 d2 fa fb fd
    have a0 : (W5).cell? ⟨w.heap.size, 0, none⟩ = some (.bool false) := (unhide HA).c 0
    have a1 : (W5).cell? ⟨w.heap.size, 1, none⟩ = some (.string ⟨#[]⟩) := (unhide HA).c 1
    have a2 : (W5).cell? ⟨w.heap.size, 2, none⟩ = some (.string ⟨#[]⟩) := (unhide HA).c 2
    have b0 : (W5).cell? ⟨w.heap.size + 1, 0, none⟩ = some (.bool false) := (unhide HB).c 0
    have b1 : (W5).cell? ⟨w.heap.size + 1, 1, none⟩ = some (.string ⟨#[]⟩) := (unhide HB).c 1
    have b2 : (W5).cell? ⟨w.heap.size + 1, 2, none⟩ = some (.string ⟨#[]⟩) := (unhide HB).c 2
    have c0 : (W5).cell? ⟨w2.heap.size, 0, none⟩ = some (.bool n1) := (unhide HC).c 0
    have c1 : (W5).cell? ⟨w2.heap.size, 1, none⟩ = some (.string us1) := (unhide HC).c 1
    have c2 : (W5).cell? ⟨w2.heap.size, 2, none⟩ = some (.string ds1) := (unhide HC).c 2
    have d0 : (W5).cell? ⟨w3.heap.size, 0, none⟩ = some (.bool b) := (unhide HD).c 0
    have d1 : (W5).cell? ⟨w3.heap.size, 1, none⟩ = some (.string us1) := (unhide HD).c 1
    have d2 : (W5).cell? ⟨w3.heap.size, 2, none⟩ = some (.string ds1) := (unhide HD).c 2
    have fa := fun j => (show (W5).frozen? ⟨w.heap.size, j, none⟩ = false from (unhide HA).f j)
    have fb := fun j => (show (W5).frozen? ⟨w.heap.size + 1, j, none⟩ = false from (unhide HB).f j)
    go_region
    all_goals
      go_wp2
      have hcc := And.intro a0 (And.intro a1 (And.intro a2 (And.intro b0 (And.intro b1 b2))))
      refine bodyPost_ret (v := .tuple #[.agg #[.bool n1, .string us1, .string ds1], .agg #[.bool b, .string us1, .string ds1]]) (by simp [results, Tryd.results59, go_sem, hcc]) rfl ⟨⟨n1, us1, ds1, b, us1, ds1, rfl, unhide Hsm1, unhide Hsm1⟩, ?_⟩
      exact (below_set3 (below_set3 (unhide HWe) (b := w.heap.size) (Nat.le_refl _) _ _ _) (b := w.heap.size + 1) (by omega) _ _ _).drew
  have z1 : ((i : Int) == 1) = false := by rw [beq_eq_false_iff_ne]; omega
  have HWe := HW4
  go_wp2
  -- the answers are told: w4 the world; n2 us2 ds2 the second number; Hsm2 its bounds; HA HB HC HD at w4, HWe what is kept below
  clear a0 a1 a2 b0 b1 b2 c0 c1 c2 d0 d1 d2 fa fb fd
  have a0 : (w4).cell? ⟨w.heap.size, 0, none⟩ = some (.bool false) := (unhide HA).c 0
  have a1 : (w4).cell? ⟨w.heap.size, 1, none⟩ = some (.string ⟨#[]⟩) := (unhide HA).c 1
  have a2 : (w4).cell? ⟨w.heap.size, 2, none⟩ = some (.string ⟨#[]⟩) := (unhide HA).c 2
  have b0 : (w4).cell? ⟨w.heap.size + 1, 0, none⟩ = some (.bool false) := (unhide HB).c 0
  have b1 : (w4).cell? ⟨w.heap.size + 1, 1, none⟩ = some (.string ⟨#[]⟩) := (unhide HB).c 1
  have b2 : (w4).cell? ⟨w.heap.size + 1, 2, none⟩ = some (.string ⟨#[]⟩) := (unhide HB).c 2
  have c0 : (w4).cell? ⟨w2.heap.size, 0, none⟩ = some (.bool n1) := (unhide HC).c 0
  have c1 : (w4).cell? ⟨w2.heap.size, 1, none⟩ = some (.string us1) := (unhide HC).c 1
  have c2 : (w4).cell? ⟨w2.heap.size, 2, none⟩ = some (.string ds1) := (unhide HC).c 2
  have d0 : (w4).cell? ⟨w3.heap.size, 0, none⟩ = some (.bool n2) := (unhide HD).c 0
  have d1 : (w4).cell? ⟨w3.heap.size, 1, none⟩ = some (.string us2) := (unhide HD).c 1
  have d2 : (w4).cell? ⟨w3.heap.size, 2, none⟩ = some (.string ds2) := (unhide HD).c 2
  have fa := fun j => (show (w4).frozen? ⟨w.heap.size, j, none⟩ = false from (unhide HA).f j)
  have fb := fun j => (show (w4).frozen? ⟨w.heap.size + 1, j, none⟩ = false from (unhide HB).f j)
  go_region
  all_goals
    go_wp2
    have hcc := And.intro a0 (And.intro a1 (And.intro a2 (And.intro b0 (And.intro b1 b2))))
    refine bodyPost_ret (v := .tuple #[.agg #[.bool n1, .string us1, .string ds1], .agg #[.bool n2, .string us2, .string ds2]]) (by simp [results, Tryd.results59, go_sem, hcc]) rfl ⟨⟨n1, us1, ds1, n2, us2, ds2, rfl, unhide Hsm1, unhide Hsm2⟩, ?_⟩
    exact (below_set3 (below_set3 (unhide HWe) (b := w.heap.size) (Nat.le_refl _) _ _ _) (b := w.heap.size + 1) (by omega) _ _ _).drew

set_option maxRecDepth 100000 in
set_option maxHeartbeats 2000000 in
theorem DrawNumAdd_c (a : Option Addr) (n cap : Nat) (w : World) (h : Bytes0 w a n) (hcap : n ≤ cap) (hmax : cap ≤ maxLen) :
    Calls Tryd.prog 16 #[.slice a n cap] w fun e w' => (∃ n1 us1 ds1 n2 us2 ds2, e = .returned (.tuple #[numS n1 us1 ds1, numS n2 us2 ds2]) ∧ smallS us1 ds1 ∧ smallS us2 ds2) ∧ Below w.heap.size w w' := by
  have hW := ((Below.refl w.heap.size w).alloc (Nat.le_refl _) (.cells #[.bool false, .string ⟨#[]⟩, .string ⟨#[]⟩] 26)).alloc (by simp) (.cells #[.bool false, .string ⟨#[]⟩, .string ⟨#[]⟩] 26)
  have H := hide (h.below hW)
  have HW := hide hW
  have hA := (AtC.new w #[.bool false, .string ⟨#[]⟩, .string ⟨#[]⟩] 26).alloc (.cells #[.bool false, .string ⟨#[]⟩, .string ⟨#[]⟩] 26)
  have hB := AtC.new (w.alloc (.cells #[.bool false, .string ⟨#[]⟩, .string ⟨#[]⟩] 26)) #[.bool false, .string ⟨#[]⟩, .string ⟨#[]⟩] 26
  rw [World.size_alloc] at hB
  have HA0 := hide hA
  have HB0 := hide hB
  clear h hW hA hB
  go_enter Tryd.func16, Tryd.ntmps16
  go_wp2_with fail
  refine (l6Two2_c a n cap _ (unhide H) hcap hmax).mono ?_
  rintro e w1 ⟨⟨n1, us1, ds1, n2, us2, ds2, rfl, hsm1, hsm2⟩, hb1⟩
  have hA := (unhide HA0).below hb1
  have hB := (unhide HB0).below hb1
  have a0 : w1.cell? ⟨w.heap.size, 0, none⟩ = some (.bool false) := hA.c 0
  have a1 : w1.cell? ⟨w.heap.size, 1, none⟩ = some (.string ⟨#[]⟩) := hA.c 1
  have a2 : w1.cell? ⟨w.heap.size, 2, none⟩ = some (.string ⟨#[]⟩) := hA.c 2
  have b0 : w1.cell? ⟨w.heap.size + 1, 0, none⟩ = some (.bool false) := hB.c 0
  have b1 : w1.cell? ⟨w.heap.size + 1, 1, none⟩ = some (.string ⟨#[]⟩) := hB.c 1
  have b2 : w1.cell? ⟨w.heap.size + 1, 2, none⟩ = some (.string ⟨#[]⟩) := hB.c 2
  have fa := hA.f
  have fb := hB.f
  have HW1 := hide ((unhide HW).trans (hb1.mono (unhide HW).size))
  have Hsm := hide (And.intro hsm1 hsm2)
  clear hA hB hb1 hsm1 hsm2
  unfold numS
  go_wp2
  have hcc := And.intro a0 (And.intro a1 (And.intro a2 (And.intro b0 (And.intro b1 b2))))
  refine bodyPost_ret (v := .tuple #[.agg #[.bool n1, .string us1, .string ds1], .agg #[.bool n2, .string us2, .string ds2]]) (by simp [results, Tryd.results16, go_sem, hcc]) rfl ⟨⟨n1, us1, ds1, n2, us2, ds2, rfl, unhide Hsm⟩, ?_⟩
  refine (unhide HW1).trans ?_
  repeat (first | exact Below.refl _ _ | refine Below.setCell ?_ (by first | exact Nat.le_refl _ | exact Nat.le_succ _ | (simp; done) | (simp; omega)) _ | refine Below.alloc ?_ (by first | exact Nat.le_refl _ | (simp; done) | (simp; omega)) _)
set_option maxRecDepth 100000 in
set_option maxHeartbeats 2000000 in
theorem DrawNumMul_c (a : Option Addr) (n cap : Nat) (w : World) (h : Bytes0 w a n) (hcap : n ≤ cap) (hmax : cap ≤ maxLen) :
    Calls Tryd.prog 17 #[.slice a n cap] w fun e w' => (∃ n1 us1 ds1 n2 us2 ds2, e = .returned (.tuple #[numS n1 us1 ds1, numS n2 us2 ds2]) ∧ smallS us1 ds1 ∧ smallS us2 ds2) ∧ Below w.heap.size w w' := by
  have hW := ((Below.refl w.heap.size w).alloc (Nat.le_refl _) (.cells #[.bool false, .string ⟨#[]⟩, .string ⟨#[]⟩] 26)).alloc (by simp) (.cells #[.bool false, .string ⟨#[]⟩, .string ⟨#[]⟩] 26)
  have H := hide (h.below hW)
  have HW := hide hW
  have hA := (AtC.new w #[.bool false, .string ⟨#[]⟩, .string ⟨#[]⟩] 26).alloc (.cells #[.bool false, .string ⟨#[]⟩, .string ⟨#[]⟩] 26)
  have hB := AtC.new (w.alloc (.cells #[.bool false, .string ⟨#[]⟩, .string ⟨#[]⟩] 26)) #[.bool false, .string ⟨#[]⟩, .string ⟨#[]⟩] 26
  rw [World.size_alloc] at hB
  have HA0 := hide hA
  have HB0 := hide hB
  clear h hW hA hB
  go_enter Tryd.func17, Tryd.ntmps17
  go_wp2_with fail
  refine (l6Two2_c a n cap _ (unhide H) hcap hmax).mono ?_
  rintro e w1 ⟨⟨n1, us1, ds1, n2, us2, ds2, rfl, hsm1, hsm2⟩, hb1⟩
  have hA := (unhide HA0).below hb1
  have hB := (unhide HB0).below hb1
  have a0 : w1.cell? ⟨w.heap.size, 0, none⟩ = some (.bool false) := hA.c 0
  have a1 : w1.cell? ⟨w.heap.size, 1, none⟩ = some (.string ⟨#[]⟩) := hA.c 1
  have a2 : w1.cell? ⟨w.heap.size, 2, none⟩ = some (.string ⟨#[]⟩) := hA.c 2
  have b0 : w1.cell? ⟨w.heap.size + 1, 0, none⟩ = some (.bool false) := hB.c 0
  have b1 : w1.cell? ⟨w.heap.size + 1, 1, none⟩ = some (.string ⟨#[]⟩) := hB.c 1
  have b2 : w1.cell? ⟨w.heap.size + 1, 2, none⟩ = some (.string ⟨#[]⟩) := hB.c 2
  have fa := hA.f
  have fb := hB.f
  have HW1 := hide ((unhide HW).trans (hb1.mono (unhide HW).size))
  have Hsm := hide (And.intro hsm1 hsm2)
  clear hA hB hb1 hsm1 hsm2
  unfold numS
  go_wp2
  have hcc := And.intro a0 (And.intro a1 (And.intro a2 (And.intro b0 (And.intro b1 b2))))
  refine bodyPost_ret (v := .tuple #[.agg #[.bool n1, .string us1, .string ds1], .agg #[.bool n2, .string us2, .string ds2]]) (by simp [results, Tryd.results17, go_sem, hcc]) rfl ⟨⟨n1, us1, ds1, n2, us2, ds2, rfl, unhide Hsm⟩, ?_⟩
  refine (unhide HW1).trans ?_
  repeat (first | exact Below.refl _ _ | refine Below.setCell ?_ (by first | exact Nat.le_refl _ | exact Nat.le_succ _ | (simp; done) | (simp; omega)) _ | refine Below.alloc ?_ (by first | exact Nat.le_refl _ | (simp; done) | (simp; omega)) _)
end Go.Proofs.YtchginjabaobfaaDoor
namespace Go.Proofs.YtchginjabaobfaaDoor
open Go.RowKit Nt


theorem gr_word {n : Nat} (h : n ≤ 9223372036854775808) : (gr n).length ≤ 3 := dg_len_le (by omega) (Nat.lt_of_le_of_lt h (by decide))

set_option maxRecDepth 100000 in
set_option maxHeartbeats 1000000 in
theorem implNumInt_c (i : Int) (w : World) (h0 : -9223372036854775808 ≤ i) (h1 : i ≤ 9223372036854775807) (hT : Tens w) :
    Calls Tryd.prog 14 #[.int .i64 i] w fun e w' => e = .returned (intV i) ∧ Below w.heap.size w w' := by
  have HT := hide hT
  clear hT
  by_cases hi : 0 ≤ i
  · obtain ⟨n, rfl⟩ := Int.eq_ofNat_of_zero_le hi
    have Hf : Hid (intV (n : Int) = numV false (dec n) ⟨#[49]⟩) := by
      show _ = _; unfold intV; rw [decide_eq_false (by omega), dec_one]; simp
    have ew : IntKind.wrap .u64 (n : Int) = (n : Int) := wu64 _ (by omega) (by omega)
    have el : decide ((n : Int) < 0) = false := decide_eq_false (by omega)
    have hg := gr_word (n := n) (by omega)
    go_enter Tryd.func14, Tryd.ntmps14
    -- n: the size of the integer
    go_wp2_with fail
    refine (natOf_c (n) _ (by omega)).mono ?_
    rintro e w1 ⟨⟨v, rfl, hv⟩, hb1⟩
    have hb0 := below_alloc_size hb1
    have hz0 : w.heap.size + 1 ≤ w1.heap.size := by have := hb1.size; simpa using this
    have Hv := hide hv
    have HT1 := hide ((unhide HT).below (below_new hb0))
    clear hv
    go_wp2_with fail
    refine (decimals_c (n) v _ (unhide Hv) (by omega) (unhide HT1)).mono ?_
    rintro e w2 ⟨rfl, hb2⟩
    have hn2 := below_next hb0 hz0 hb2
    have c0 := newcell hn2.1 0
    have c1 := newcell hn2.1 1
    have c2 := newcell hn2.1 2
    have f0 := newfree hn2.1 0
    have f1 := newfree hn2.1 1
    have f2 := newfree hn2.1 2
    have hbX := below_new hn2.1
    simp at c0 c1 c2
    clear hb1 hb0 hb2 hn2 hz0
    go_wp2
    refine bodyPost_ret (v := numV false (dec n) ⟨#[49]⟩) (by simp [results, Tryd.results14, go_sem, numV, c0, c1, c2]) rfl ⟨by rw [unhide Hf], ?_⟩
    exact below_three hbX _ (Nat.le_refl _) _ _ _
  · obtain ⟨n, hn⟩ := Int.eq_ofNat_of_zero_le (show 0 ≤ -(i + 1) by omega)
    have hn' : i = -(n : Int) - 1 := by omega
    subst hn'
    have Hf : Hid (intV (-(n : Int) - 1) = numV true (dec (n + 1)) ⟨#[49]⟩) := by
      show _ = _; unfold intV; rw [decide_eq_true (by omega), dec_one, show (-(n : Int) - 1).natAbs = n + 1 from by omega]
    have ew : IntKind.wrap .u64 (-(n : Int) - 1) = 18446744073709551615 - (n : Int) := by rw [IntKind.wrap_u64]; omega
    have en : IntKind.wrap .u64 (-(18446744073709551615 - (n : Int))) = ((n + 1 : Nat) : Int) := by rw [IntKind.wrap_u64]; omega
    have el : decide (-(n : Int) - 1 < 0) = true := decide_eq_true (by omega)
    have hg := gr_word (n := n + 1) (by omega)
    clear hn
    go_enter Tryd.func14, Tryd.ntmps14
    -- n + 1: the size of the integer
    go_wp2_with fail
    refine (natOf_c (n + 1) _ (by omega)).mono ?_
    rintro e w1 ⟨⟨v, rfl, hv⟩, hb1⟩
    have hb0 := below_alloc_size hb1
    have hz0 : w.heap.size + 1 ≤ w1.heap.size := by have := hb1.size; simpa using this
    have Hv := hide hv
    have HT1 := hide ((unhide HT).below (below_new hb0))
    clear hv
    go_wp2_with fail
    refine (decimals_c (n + 1) v _ (unhide Hv) (by omega) (unhide HT1)).mono ?_
    rintro e w2 ⟨rfl, hb2⟩
    have hn2 := below_next hb0 hz0 hb2
    have c0 := newcell hn2.1 0
    have c1 := newcell hn2.1 1
    have c2 := newcell hn2.1 2
    have f0 := newfree hn2.1 0
    have f1 := newfree hn2.1 1
    have f2 := newfree hn2.1 2
    have hbX := below_new hn2.1
    simp at c0 c1 c2
    clear hb1 hb0 hb2 hn2 hz0
    go_wp2
    refine bodyPost_ret (v := numV true (dec (n + 1)) ⟨#[49]⟩) (by simp [results, Tryd.results14, go_sem, numV, c0, c1, c2]) rfl ⟨by rw [unhide Hf], ?_⟩
    exact below_three hbX _ (Nat.le_refl _) _ _ _
end Go.Proofs.YtchginjabaobfaaDoor
namespace Go.Proofs.YtchginjabaobfaaDoor
open Go.RowKit Nt

theorem small_of {us ds : ByteArray} (h : smallS us ds) : ∃ u d : List UInt8, us = B u ∧ ds = B d ∧ small (false, u, d) := by
  refine ⟨us.data.toList, ds.data.toList, (B_toList us).symm, (B_toList ds).symm, ?_, ?_⟩
  · have := h.1; show us.data.toList.length ≤ 1000; rwa [← B_size, B_toList]
  · have := h.2; show ds.data.toList.length ≤ 1000; rwa [← B_size, B_toList]
theorem drawAdd_t (a : Option Addr) (n cap : Nat) (w : World) (h : Bytes0 w a n) (hcap : n ≤ cap) (hmax : cap ≤ maxLen) :
    Calls Tryd.prog 16 #[.slice a n cap] w fun e w' => (∃ n1 u1 d1 n2 u2 d2, e = .returned (.tuple #[.agg #[.bool n1, .string (B u1), .string (B d1)], .agg #[.bool n2, .string (B u2), .string (B d2)]]) ∧ small (n1, u1, d1) ∧ small (n2, u2, d2)) ∧ Below w.heap.size w w' := by
  refine (DrawNumAdd_c a n cap w h hcap hmax).mono ?_
  rintro e w' ⟨⟨n1, us1, ds1, n2, us2, ds2, rfl, h1, h2⟩, hb⟩
  obtain ⟨u1, d1, rfl, rfl, s1⟩ := small_of h1
  obtain ⟨u2, d2, rfl, rfl, s2⟩ := small_of h2
  exact ⟨⟨n1, u1, d1, n2, u2, d2, rfl, s1, s2⟩, hb⟩
theorem drawMul_t (a : Option Addr) (n cap : Nat) (w : World) (h : Bytes0 w a n) (hcap : n ≤ cap) (hmax : cap ≤ maxLen) :
    Calls Tryd.prog 17 #[.slice a n cap] w fun e w' => (∃ n1 u1 d1 n2 u2 d2, e = .returned (.tuple #[.agg #[.bool n1, .string (B u1), .string (B d1)], .agg #[.bool n2, .string (B u2), .string (B d2)]]) ∧ small (n1, u1, d1) ∧ small (n2, u2, d2)) ∧ Below w.heap.size w w' := by
  refine (DrawNumMul_c a n cap w h hcap hmax).mono ?_
  rintro e w' ⟨⟨n1, us1, ds1, n2, us2, ds2, rfl, h1, h2⟩, hb⟩
  obtain ⟨u1, d1, rfl, rfl, s1⟩ := small_of h1
  obtain ⟨u2, d2, rfl, rfl, s2⟩ := small_of h2
  exact ⟨⟨n1, u1, d1, n2, u2, d2, rfl, s1, s2⟩, hb⟩

theorem fld_small {f : Rt → Rt → Option Rt} (hf : Low f) {a b : T3} {r : T3} {x : Int} (h : fld f a b = (r, x)) : small r := by
  have := fld_len f hf a b
  rw [h] at this
  exact ⟨Nat.le_trans this.1 (by decide), Nat.le_trans this.2 (by decide)⟩
theorem fld_isok {f : Rt → Rt → Option Rt} (hf : Low f) {a b : T3} {r : T3} (h : fld f a b = (r, 0)) : okT r = true := by
  have := fld_ok hf (a := a) (b := b)
  rw [h] at this
  exact this

theorem implAdd_s {n1 n2 rn : Bool} {u1 d1 u2 d2 ru rd : List UInt8} {rx : Int} (hr : fld addP (n1, u1, d1) (n2, u2, d2) = ((rn, ru, rd), rx)) (w : World) (ha : small (n1, u1, d1)) (hb : small (n2, u2, d2)) (hT : Tens w) :
    Calls Tryd.prog 18 #[.agg #[.bool n1, .string (B u1), .string (B d1)], .agg #[.bool n2, .string (B u2), .string (B d2)]] w fun e w' => e = .returned (.tuple #[.agg #[.bool rn, .string (B ru), .string (B rd)], .int .i64 rx]) ∧ Below w.heap.size w w' := by
  have h := implAdd_t (n1, u1, d1) (n2, u2, d2) w ha hb hT
  rw [hr] at h
  exact h
theorem implSub_s {n1 n2 rn : Bool} {u1 d1 u2 d2 ru rd : List UInt8} {rx : Int} (hr : fld subP (n1, u1, d1) (n2, u2, d2) = ((rn, ru, rd), rx)) (w : World) (ha : small (n1, u1, d1)) (hb : small (n2, u2, d2)) (hT : Tens w) :
    Calls Tryd.prog 23 #[.agg #[.bool n1, .string (B u1), .string (B d1)], .agg #[.bool n2, .string (B u2), .string (B d2)]] w fun e w' => e = .returned (.tuple #[.agg #[.bool rn, .string (B ru), .string (B rd)], .int .i64 rx]) ∧ Below w.heap.size w w' := by
  have h := implSub_t (n1, u1, d1) (n2, u2, d2) w ha hb hT
  rw [hr] at h
  exact h
theorem implMul_s {n1 n2 rn : Bool} {u1 d1 u2 d2 ru rd : List UInt8} {rx : Int} (hr : fld mulP (n1, u1, d1) (n2, u2, d2) = ((rn, ru, rd), rx)) (w : World) (ha : small (n1, u1, d1)) (hb : small (n2, u2, d2)) (hT : Tens w) :
    Calls Tryd.prog 20 #[.agg #[.bool n1, .string (B u1), .string (B d1)], .agg #[.bool n2, .string (B u2), .string (B d2)]] w fun e w' => e = .returned (.tuple #[.agg #[.bool rn, .string (B ru), .string (B rd)], .int .i64 rx]) ∧ Below w.heap.size w w' := by
  have h := implMul_t (n1, u1, d1) (n2, u2, d2) w ha hb hT
  rw [hr] at h
  exact h
theorem specAdd_s {n1 n2 rn : Bool} {u1 d1 u2 d2 ru rd : List UInt8} {rx : Int} (hr : fld addP (n1, u1, d1) (n2, u2, d2) = ((rn, ru, rd), rx)) (w : World) (ha : small (n1, u1, d1)) (hb : small (n2, u2, d2)) :
    Calls Tryd.prog 19 #[.agg #[.bool n1, .string (B u1), .string (B d1)], .agg #[.bool n2, .string (B u2), .string (B d2)]] w fun e w' => e = .returned (.tuple #[.agg #[.bool rn, .string (B ru), .string (B rd)], .int .i64 rx]) ∧ Below w.heap.size w w' := by
  have h := specAdd_t (n1, u1, d1) (n2, u2, d2) w ha hb
  rw [hr] at h
  exact h
theorem implDiv_s {n1 rn : Bool} {u1 d1 ru rd : List UInt8} {rx : Int} (hr : divT (n1, u1, d1) (n1, u1, d1) = ((rn, ru, rd), rx)) (w : World) (ha : okT (n1, u1, d1) = true) (hT : Tens w) :
    Calls Tryd.prog 24 #[.agg #[.bool n1, .string (B u1), .string (B d1)], .agg #[.bool n1, .string (B u1), .string (B d1)]] w fun e w' => e = .returned (.tuple #[.agg #[.bool rn, .string (B ru), .string (B rd)], .int .i64 rx]) ∧ Below w.heap.size w w' := by
  have h := implDiv_t (n1, u1, d1) (n1, u1, d1) w ha ha hT
  rw [hr] at h
  exact h
theorem implOk_s {n : Bool} {u d : List UInt8} (w : World) (ho : okT (n, u, d) = true) (hT : Tens w) :
    Calls Tryd.prog 9 #[.agg #[.bool n, .string (B u), .string (B d)]] w fun e w' => e = .returned (.bool true) ∧ Below w.heap.size w w' := by
  have hl := okT_len ho
  have h := implOk_t (n, u, d) w ⟨by omega, by omega⟩ hT
  rw [ho] at h
  exact h
theorem specOk_s {n : Bool} {u d : List UInt8} {k : Bool} (w : World) (ho : okT (n, u, d) = k) (hs : small (n, u, d)) :
    Calls Tryd.prog 21 #[.agg #[.bool n, .string (B u), .string (B d)]] w fun e w' => e = .returned (.bool k) ∧ Below w.heap.size w w' := by
  have h := specOk_t (n, u, d) w hs
  rw [ho] at h
  exact h
theorem sameT_s {n1 n2 : Bool} {u1 d1 u2 d2 : List UInt8} {x y : Int} (h : sameT ((n1, u1, d1), x) ((n2, u2, d2), y)) (w : World) :
    Calls Tryd.prog 22 #[.agg #[.bool n1, .string (B u1), .string (B d1)], .int .i64 x, .agg #[.bool n2, .string (B u2), .string (B d2)], .int .i64 y] w fun e w' => e = .returned (.bool true) ∧ Below w.heap.size w w' :=
  wfSame_t ((n1, u1, d1), x) ((n2, u2, d2), y) w h
theorem int0_s (w : World) (hT : Tens w) : Calls Tryd.prog 14 #[.int .i64 0] w fun e w' => e = .returned (.agg #[.bool false, .string ⟨#[48]⟩, .string ⟨#[49]⟩]) ∧ Below w.heap.size w w' := by
  have h := implNumInt_c 0 w (by decide) (by decide) hT
  rw [show intV 0 = .agg #[.bool false, .string ⟨#[48]⟩, .string ⟨#[49]⟩] from by unfold intV numV; rw [show dec (0 : Int).natAbs = ⟨#[48]⟩ from by decide +kernel, dec_one]; rfl] at h
  exact h
theorem int1_s (w : World) (hT : Tens w) : Calls Tryd.prog 14 #[.int .i64 1] w fun e w' => e = .returned (.agg #[.bool false, .string ⟨#[49]⟩, .string ⟨#[49]⟩]) ∧ Below w.heap.size w w' := by
  have h := implNumInt_c 1 w (by decide) (by decide) hT
  rw [show intV 1 = .agg #[.bool false, .string ⟨#[49]⟩, .string ⟨#[49]⟩] from by unfold intV numV; rw [show (1 : Int).natAbs = 1 from rfl, dec_one]; rfl] at h
  exact h

theorem assoc_s {A B C S T : T3} {L R : T3 × Int} (hc : okT C = true) (hS : fld addP A B = (S, 0)) (hT : fld addP B C = (T, 0)) (hL : fld addP S C = L) (hR : fld addP A T = R) : sameT L R := by
  have := assoc_t (a := A) (b := B) (c := C) hc (by rw [hS]) (by rw [hT])
  rw [hS, hT] at this
  rw [hL, hR] at this
  exact .inr (.inr this)
theorem dist_s {A B C T P Z : T3} {M N : T3 × Int} (hT : fld addP B C = (T, 0)) (hP : fld mulP A B = (P, 0)) (hZ : fld mulP A C = (Z, 0)) (hM : fld mulP A T = M) (hN : fld addP P Z = N) : sameT M N := by
  have := dist_t (a := A) (b := B) (c := C) (by rw [hT]) (by rw [hP]) (by rw [hZ])
  rw [hT, hP, hZ] at this
  rw [hM, hN] at this
  exact .inr (.inr this)
theorem back_s {A B S : T3} {K : T3 × Int} (hS : fld addP A B = (S, 0)) (hK : fld subP S B = K) : K = (A, 0) := by
  have := back_t (a := A) (b := B) (by rw [hS])
  rw [hS, hK] at this
  exact this
theorem below_stepa {a w w' : World} {o : Obj} (h : Below a.heap.size a w) (hb : Below (w.alloc o).heap.size (w.alloc o) w') : Below a.heap.size a w' :=
  (below_al h (Nat.le_refl _) o).trans (hb.mono (below_al h (Nat.le_refl _) o).size)
theorem below_step {a w w' : World} (h : Below a.heap.size a w) (hb : Below w.heap.size w w') : Below a.heap.size a w' := h.trans (hb.mono h.size)
end Go.Proofs.YtchginjabaobfaaDoor
