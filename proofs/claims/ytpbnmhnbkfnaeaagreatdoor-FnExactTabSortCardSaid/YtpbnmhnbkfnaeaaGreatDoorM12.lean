/- A part of the proof, put together out of smaller texts: each piece says what it is for. -/
import Derived.Test.YtpbnmhnbkfnaeaaGreatDoorM11
import Derived.Deep.RegionWith
import Derived.Deep.QuietTactic
import Derived.BigQuiet
/- The specification's texts of nodes. -/
namespace Go.Proofs.YtpbnmhnbkfnaeaaGreatDoor
open Go.RowKit Nt

set_option maxHeartbeats 4000000 in
set_option maxRecDepth 100000 in
theorem l12TextOk_c (s : Int) (t : List UInt8) (kv : Value) (w : World) (hs : t.length ≤ 1048576) :
    Calls Tryz.prog 35 #[.agg #[.int .i64 s, .string (B t), kv]] w fun e w' => e = .returned (.bool (textM s t)) ∧ Below w.heap.size w w' := by
  have HB := hide (step_a (Below.refl w.heap.size w) (.cells #[.int .i64 s, .string (B t), kv] 56))
  have HC := hide (AtC3.new w (.int .i64 s) (.string (B t)) kv 56)
  obtain ⟨R, hR⟩ : ∃ R, textM s t = R := ⟨_, rfl⟩
  rw [hR]
  have HR := hide hR
  clear hR
  by_cases h1 : s = 1
  · subst h1
    have HQ : Hid (numTextM t = R) := hide (by rw [← unhide HR]; rfl)
    cases hp : parseM t 10 with
    | none =>
      have HQ2 : Hid (R = false) := hide (by rw [← unhide HQ]; unfold numTextM; rw [hp])
      go_enter Tryz.func35, Tryz.ntmps35
      go_wp2_with fail
      have h := specNumParse_c t 10 (w.alloc (.cells #[.int .i64 1, .string (B t), kv] 56)) (by omega)
      rw [hp, show numAns none = .tuple #[.agg #[.bool false, .string ⟨#[]⟩, .string ⟨#[]⟩], .bool false] from rfl] at h
      refine h.mono ?_
      clear h hp
      rintro e w1 ⟨rfl, hb1⟩
      have HB1 := hide (step_a (step_b (unhide HB) hb1) (.cells #[.bool false, .string ⟨#[]⟩, .string ⟨#[]⟩] 79))
      have HD := hide (drewN_below (w1.alloc (.cells #[.bool false, .string ⟨#[]⟩, .string ⟨#[]⟩] 79)))
      clear hb1
      go_wp2_with fail
      go_region
      all_goals
        go_wp2_with fail
        go_ret
        exact ⟨by rw [unhide HQ2]; rfl, by first | exact step_b (unhide HB1) (unhide HD _) | exact step_b (unhide HB1) (unhide HD 1) | exact unhide HB1⟩
    | some p =>
      obtain ⟨n, u, d⟩ := p
      have hok := parse_ok hp
      obtain ⟨_, _, hl1, hl2, _⟩ := ok_parts hok
      have HQ2 : Hid (((B (printM n (txl 10 u) (txl 10 d) 10)).toList == (B t).toList) = R) := hide (by
        rw [← unhide HQ]; unfold numTextM; rw [hp, B_tl, B_tl]
        show _ = decide (printT (n, u, d) = t)
        show (printT (n, u, d) == t) = _
        by_cases e : printT (n, u, d) = t
        · rw [e]; simp
        · rw [decide_eq_false e, beq_eq_false_iff_ne.2 e])
      go_enter Tryz.func35, Tryz.ntmps35
      go_wp2_with fail
      have h := specNumParse_c t 10 (w.alloc (.cells #[.int .i64 1, .string (B t), kv] 56)) (by omega)
      rw [hp, show numAns (some (n, u, d)) = .tuple #[.agg #[.bool n, .string (B (txl 10 u)), .string (B (txl 10 d))], .bool true] from rfl] at h
      refine h.mono ?_
      clear h hp hok
      rintro e w1 ⟨rfl, hb1⟩
      have HC1 := hide ((unhide HC).below hb1)
      have HB1 := hide (step_b (unhide HB) hb1)
      clear hb1 HB HC
      go_wp2_with fail
      obtain ⟨W, hW⟩ : ∃ W, w1.alloc (.cells #[.bool n, .string (B (txl 10 u)), .string (B (txl 10 d))] 79) = W := ⟨_, rfl⟩
      have HN := hide (AtC3.new w1 (.bool n) (.string (B (txl 10 u))) (.string (B (txl 10 d))) 79)
      have HC2 := hide ((unhide HC1).below (step_a (Below.refl w1.heap.size w1) (.cells #[.bool n, .string (B (txl 10 u)), .string (B (txl 10 d))] 79)))
      have HB2 := hide (step_a (unhide HB1) (.cells #[.bool n, .string (B (txl 10 u)), .string (B (txl 10 d))] 79))
      rw [hW] at HN HC2 HB2 ⊢
      clear hW
      have a0 := (unhide HN).n0
      have a1 := (unhide HN).n1
      have a2 := (unhide HN).n2
      have c1 := (unhide HC2).n1
      go_region_with ((go_at_call 57; refine (specNumPrint_c n (txl 10 u) (txl 10 d) 10 _ (by omega) (by omega)).mono ?_; rintro e w2 ⟨rfl, hb2⟩; have HB3 : Hid (Below W.heap.size W w2) := (Below.refl _ _).drew.trans hb2; have d1 := ((unhide HC2).below (unhide HB3)).n1; clear hb2))
      all_goals
        go_wp2_with fail
        go_ret
        exact ⟨by rw [← unhide HQ2]; rfl, step_b (unhide HB2) (unhide HB3)⟩
  · have e1 : (s == 1) = false := beq_eq_false_iff_ne.2 h1
    by_cases h2 : s = 2
    · subst h2
      have HQ : Hid (symM t = R) := hide (by rw [← unhide HR]; rfl)
      go_enter Tryz.func35, Tryz.ntmps35
      go_wp2_with fail
      have h := l11SymbolOk_c t (w.alloc (.cells #[.int .i64 2, .string (B t), kv] 56)) hs
      refine h.mono ?_
      clear h
      rintro e w1 ⟨rfl, hb1⟩
      have HB1 := hide (step_b (unhide HB) hb1)
      rw [unhide HQ]
      clear hb1
      go_wp2_with fail
      go_ret
      exact ⟨rfl, unhide HB1⟩
    · have e2 : (s == 2) = false := beq_eq_false_iff_ne.2 h2
      by_cases h3 : s = 3
      · subst h3
        have HQ : Hid ((decide (t.length ≤ 200) && Lib.validD t) = R) := hide (by rw [← unhide HR]; rfl)
        by_cases hl : t.length ≤ 200
        · have hl' : ((B t).size : Int) ≤ 200 := by rw [B_size]; omega
          go_enter Tryz.func35, Tryz.ntmps35
          go_wp2_with fail
          have h := l11Runes_c t (w.alloc (.cells #[.int .i64 3, .string (B t), kv] 56)) hs
          refine h.mono ?_
          clear h
          rintro e w1 ⟨rfl, hb1⟩
          have HB1 := hide (step_b (unhide HB) hb1)
          have HQ2 : Hid (Lib.validD t = R) := hide (by rw [← unhide HQ, decide_eq_true hl, Bool.true_and])
          rw [unhide HQ2]
          clear hb1
          go_wp2_with fail
          go_ret
          exact ⟨rfl, unhide HB1⟩
        · have hl' : ¬ ((B t).size : Int) ≤ 200 := by rw [B_size]; omega
          have HQ2 : Hid (R = false) := hide (by rw [← unhide HQ, decide_eq_false hl, Bool.false_and])
          go_enter Tryz.func35, Tryz.ntmps35
          go_wp2_with fail
          go_ret
          exact ⟨by rw [unhide HQ2]; rfl, unhide HB⟩
      · have e3 : (s == 3) = false := beq_eq_false_iff_ne.2 h3
        by_cases h4 : s = 4
        · subst h4
          have HQ : Hid (oneM t = R) := hide (by rw [← unhide HR]; rfl)
          go_enter Tryz.func35, Tryz.ntmps35
          go_wp2_with fail
          have HS := hide (fun W => specSize_c t W hs)
          obtain ⟨m, hm⟩ : ∃ m, sizeM (B t) = m := ⟨_, rfl⟩
          rw [hm] at HS
          have hQ := unhide HQ
          unfold oneM at hQ
          rw [hm] at hQ
          have HQ := hide hQ
          clear hQ hm
          obtain ⟨W, hW⟩ : ∃ W, w.alloc (.cells #[.int .i64 4, .string (B t), kv] 56) = W := ⟨_, rfl⟩
          rw [hW] at HB HC ⊢
          clear hW
          have c1 := (unhide HC).n1
          by_cases h0 : 0 < m
          · have h0' : decide (0 < m) = true := decide_eq_true h0
            have HQ2 : Hid (((m : Int) == ((B t).size : Int)) = R) := hide (by
              rw [← unhide HQ, decide_eq_true h0, Bool.true_and, B_size, Bool.eq_iff_iff]; simp; omega)
            go_wp2_with fail
            go_region_with (first | (go_at_call 67; refine (unhide HS W.drew).mono ?_; rintro e w2 ⟨rfl, hb2⟩; have HB3 : Hid (Below W.heap.size W w2) := (Below.refl _ _).drew.trans hb2; have d1 := ((unhide HC).below (unhide HB3)).n1; clear hb2) | (go_at_call 67; refine (unhide HS w2).mono ?_; rintro e w3 ⟨rfl, hb3⟩; have HB4 := hide (step_b (unhide HB3) hb3); have e1 := ((unhide HC).below (unhide HB4)).n1; clear hb3))
            all_goals
              go_wp2_with fail
              go_ret
              exact ⟨by rw [← unhide HQ2]; rfl, step_b (unhide HB) (unhide HB4)⟩
          · have h0' : decide (0 < m) = false := decide_eq_false h0
            have HQ2 : Hid (R = false) := hide (by rw [← unhide HQ, decide_eq_false h0, Bool.false_and])
            go_wp2_with fail
            first | (go_region_with ((go_at_call 67; refine (unhide HS W.drew).mono ?_; rintro e w2 ⟨rfl, hb2⟩; have HB3 : Hid (Below W.heap.size W w2) := (Below.refl _ _).drew.trans hb2; have d1 := ((unhide HC).below (unhide HB3)).n1; clear hb2))) | fail
            all_goals
              go_wp2_with fail
              go_ret
              exact ⟨by rw [unhide HQ2]; rfl, step_b (unhide HB) (unhide HB3)⟩
        · have e4 : (s == 4) = false := beq_eq_false_iff_ne.2 h4
          by_cases h5 : s = 5
          · subst h5
            have HQ : Hid ((decide (t = [116]) || decide (t = [102])) = R) := hide (by rw [← unhide HR]; rfl)
            by_cases ht : t = [116]
            · have f0 : ((B t).toList == [116]) = true := by rw [ht]; exact B_eqq _
              have HQ2 : Hid (R = true) := hide (by rw [← unhide HQ, decide_eq_true ht, Bool.true_or])
              clear ht
              go_enter Tryz.func35, Tryz.ntmps35
              go_wp2_with fail
              go_ret
              exact ⟨by rw [unhide HQ2]; rfl, unhide HB⟩
            · have f0 : ((B t).toList == [116]) = false := B_ne _ _ ht
              have HQ2 : Hid (((B t).toList == [102]) = R) := hide (by
                rw [← unhide HQ, decide_eq_false ht, Bool.false_or, B_tl]
                by_cases h : t = [102]
                · subst h; rfl
                · rw [decide_eq_false h, beq_eq_false_iff_ne.2 h])
              clear ht
              go_enter Tryz.func35, Tryz.ntmps35
              go_wp2_with fail
              go_ret
              exact ⟨by rw [← unhide HQ2]; rfl, unhide HB⟩
          · have e5 : (s == 5) = false := beq_eq_false_iff_ne.2 h5
            by_cases h9 : s = 9
            · subst h9
              have HQ : Hid (decide (((B t).size : Int) ≤ 200) = R) := hide (by
                rw [← unhide HR, B_size]
                show _ = decide (t.length ≤ 200)
                congr 1; rw [eq_iff_iff]; omega)
              go_enter Tryz.func35, Tryz.ntmps35
              go_wp2_with fail
              go_ret
              exact ⟨by rw [← unhide HQ]; rfl, unhide HB⟩
            · have e9 : (s == 9) = false := beq_eq_false_iff_ne.2 h9
              have HQ : Hid ((B t).toList.isEmpty = R) := hide (by
                rw [← unhide HR, B_tl]
                unfold textM
                rw [if_neg h1, if_neg h2, if_neg h3, if_neg h4, if_neg h5, if_neg h9]
                cases t <;> rfl)
              go_enter Tryz.func35, Tryz.ntmps35
              go_wp2_with fail
              go_ret
              exact ⟨by rw [← unhide HQ]; rfl, unhide HB⟩
end Go.Proofs.YtpbnmhnbkfnaeaaGreatDoor
/- The specification's ReadOk. -/
namespace Go.Proofs.YtpbnmhnbkfnaeaaGreatDoor
open Go.RowKit Nt

theorem all_nd_take {ns : List Nd} {p : Nd → Bool} {j : Nat} {x : Nd} (h : ns[j]? = some x) : (ns.take (j + 1)).all p = ((ns.take j).all p && p x) := by
  rw [List.take_add_one, h]; simp
theorem okD_no1 {d : Dt} (h : smallD d = false) : okD d = false := by unfold okD; rw [h]; rfl
theorem okD_no2 {d : Dt} {nd : Nd} (hm : nd ∈ d.1) (h : ndOk d.1.length nd = false) : okD d = false := by
  unfold okD
  have : d.1.all (ndOk d.1.length) = false := by rw [List.all_eq_false]; exact ⟨nd, hm, by simp [h]⟩
  rw [this, Bool.and_false, Bool.false_and]
theorem okD_no3 {d : Dt} {r : Int} (hm : r ∈ d.2) (h : inR r d.1.length = false) : okD d = false := by
  unfold okD
  have : d.2.all (inR · d.1.length) = false := by rw [List.all_eq_false]; exact ⟨r, hm, by simp [h]⟩
  rw [this, Bool.and_false]
theorem okD_yes {d : Dt} (h1 : smallD d = true) (h2 : d.1.all (ndOk d.1.length) = true) (h3 : d.2.all (inR · d.1.length) = true) : okD d = true := by
  unfold okD; rw [h1, h2, h3]; rfl

set_option maxRecDepth 100000 in
set_option maxHeartbeats 8000000 in
theorem specReadOk_c (d : Dt) (u : Value) (w : World) (h : DataAt w u d) (hsm : d.1.length ≤ 1048576 ∧ d.2.length ≤ 1048576 ∧ NsSmall d.1) :
    Calls Tryz.prog 10 #[u] w fun e W' => e = .returned (.bool (okD d)) ∧ Below w.heap.size w W' := by
  obtain ⟨ns, rs⟩ := d
  obtain ⟨nv, rv, rfl, hn, hr⟩ := h
  simp only at hn hr hsm
  obtain ⟨an, cn, rfl, hn1, hn2⟩ := hn.form0
  obtain ⟨ar, cr, rfl, hr1, hr2⟩ := hr.form
  unfold maxLen at hn2 hr2
  obtain ⟨hs1, hs2, hs3⟩ := hsm
  have HN := hide hn
  have HR := hide hr
  have HB := hide (step_a (Below.refl w.heap.size w) (.cells #[.slice an ns.length cn, .slice ar rs.length cr] 26))
  have HP := hide (AtC2.new w (.slice an ns.length cn) (.slice ar rs.length cr) 26)
  have HS3 := hide hs3
  clear hn hr hs3
  by_cases h80 : ns.length ≤ 80
  · have h80' : ¬ (80 < (ns.length : Int)) := by omega
    by_cases h12 : rs.length ≤ 12
    · have h12' : ¬ (12 < (rs.length : Int)) := by omega
      have HSM : Hid (smallD (ns, rs) = true) := hide (by unfold smallD; simp [h80, h12])
      go_enter Tryz.func10, Tryz.ntmps10
      go_wp2_with fail
      go_loopw [3] (fun iv' wr => ∃ i : Nat, i ≤ ns.length ∧ iv' = .int .i64 i ∧ Hid ((ns.take i).all (ndOk ns.length) = true) ∧ Hid (Below w.heap.size w wr) ∧ Hid (AtC2 wr w.heap.size (.slice an ns.length cn) (.slice ar rs.length cr) 26))
        (fun iv' _ => ns.length - (intOf iv').toNat)
      case atStart => exact ⟨0, by omega, rfl, hide (by simp), HB, HP⟩
      case round =>
        clear HB HP
        obtain ⟨i, hile, rfl, hall, HB, HP⟩ := hrel
        have p0 := (unhide HP).n0
        have p1 := (unhide HP).n1
        by_cases hil : i < ns.length
        · obtain ⟨nd, hnd⟩ : ∃ nd, ns[i]? = some nd := ⟨_, List.getElem?_eq_getElem hil⟩
          obtain ⟨b, off, rfl, hba⟩ := (unhide HN).addr (by omega)
          obtain ⟨kv, c0, c1, c2, htl, hk⟩ := ((unhide HN).below (unhide HB)).node hnd
          have hNd := (unhide HS3) nd (List.mem_of_getElem? hnd)
          have HST := hide (all_nd_take (p := ndOk ns.length) hnd)
          have HNO := hide (fun h => okD_no2 (d := (ns, rs)) (List.mem_of_getElem? hnd) h)
          have HNB : Hid (ndOk ns.length nd = ((decide (1 ≤ nd.1) && decide (nd.1 ≤ 9)) && textM nd.1 nd.2.1 && kidsOk nd ns.length)) := hide rfl
          obtain ⟨s, t, ks⟩ := nd
          simp only at htl hk hNd c0 c1 c2
          have HK := hide hk
          obtain ⟨ka, kc, rfl, _, _⟩ := hk.form
          clear hk hnd
          have hbs := step_a (Below.refl wr.heap.size wr) (.cells #[.int .i64 s, .string (B t), .slice ka ks.length kc] 56)
          have HB1 := hide (step_b (unhide HB) hbs)
          have HP1 := hide ((unhide HP).below hbs)
          have HQ1 := hide (AtC3.new wr (.int .i64 s) (.string (B t)) (.slice ka ks.length kc) 56)
          have HK1 := hide ((unhide HK).below hbs)
          have HTL := hide htl
          clear hbs HP HK htl
          go_wp2_with fail
          obtain ⟨W, hW⟩ : ∃ W, wr.alloc (.cells #[.int .i64 s, .string (B t), .slice ka ks.length kc] 56) = W := ⟨_, rfl⟩
          rw [hW] at HB1 HP1 HQ1 HK1 ⊢
          clear hW c0 c1 c2 p0 p1
          have q0 := (unhide HQ1).n0
          have q1 := (unhide HQ1).n1
          have q2 := (unhide HQ1).n2
          refine (l1In_g s 1 9 W).mono ?_
          rintro e w2 ⟨rfl, rfl⟩
          rcases Bool.eq_false_or_eq_true (decide (1 ≤ s) && decide (s ≤ 9)) with hz | hz
          · rw [hz]
            have HZ := hide hz
            clear hz
            go_wp2_with fail
            refine (l12TextOk_c s t _ w2 hNd.1).mono ?_
            rintro e w3 ⟨rfl, hb3⟩
            have HB3 := hide (step_b (unhide HB1) hb3)
            have HP3 := hide ((unhide HP1).below hb3)
            have HQ3 := hide ((unhide HQ1).below hb3)
            have HK3 := hide ((unhide HK1).below hb3)
            clear hb3 HB1 HP1 HQ1 HK1 q0 q1 q2
            rcases Bool.eq_false_or_eq_true (textM s t) with hy | hy
            · rw [hy]
              have HY := hide hy
              have q0 := (unhide HQ3).n0
              have q1 := (unhide HQ3).n1
              have q2 := (unhide HQ3).n2
              have p0 := (unhide HP3).n0
              have p1 := (unhide HP3).n1
              clear hy
              go_wp2_with fail
              refine (l12KidsOk_c _ (s, t, ks) ns.length w3 ⟨_, rfl, unhide HTL, unhide HK3⟩ hs1).mono ?_
              rintro e w4 ⟨rfl, hb4⟩
              have HB4 := hide (step_b (unhide HB3) hb4)
              have HP4 := hide ((unhide HP3).below hb4)
              clear hb4 HB3 HP3 HQ3 HK3 q0 q1 q2 p0 p1
              have HV : Hid (ndOk ns.length (s, t, ks) = kidsOk (s, t, ks) ns.length) := hide (by rw [unhide HNB]; simp only [unhide HZ, unhide HY, Bool.true_and])
              rcases Bool.eq_false_or_eq_true (kidsOk (s, t, ks) ns.length) with hx | hx
              · rw [hx]
                have HX : Hid ((ns.take (i + 1)).all (ndOk ns.length) = true) := hide (by rw [unhide HST, unhide hall, unhide HV, hx]; rfl)
                clear hx
                go_wp2_with fail
                go_roundw
                case rel => exact ⟨i + 1, by omega, by go_num, HX, HB4, HP4⟩
                case measure => simp [intOf]; omega
              · rw [hx]
                have HX := hide (unhide HNO (by rw [← hx]; exact unhide HV))
                clear hx
                go_wp2_with fail
                go_ret
                exact ⟨by rw [unhide HX]; rfl, unhide HB4⟩
            · rw [hy]
              have HX := hide (unhide HNO (by show ndOk ns.length (s, t, ks) = false; rw [unhide HNB]; simp only [hy, Bool.and_false, Bool.false_and]))
              clear hy
              go_wp2_with fail
              go_ret
              exact ⟨by rw [unhide HX]; rfl, unhide HB3⟩
          · rw [hz]
            have HX := hide (unhide HNO (by show ndOk ns.length (s, t, ks) = false; rw [unhide HNB]; simp only [hz, Bool.false_and]))
            clear hz
            go_wp2_with fail
            go_ret
            exact ⟨by rw [unhide HX]; rfl, unhide HB1⟩
        · have hie : i = ns.length := by omega
          subst hie
          have hall' := unhide hall
          rw [List.take_of_length_le (Nat.le_refl _)] at hall'
          have HALL := hide hall'
          clear hall hall'
          go_wp2_with fail
          go_loopw [5] (fun jv wr => ∃ j : Nat, j ≤ rs.length ∧ jv = .int .i64 j ∧ Hid ((rs.take j).all (inR · ns.length) = true) ∧ Hid (Below w.heap.size w wr) ∧ Hid (AtC2 wr w.heap.size (.slice an ns.length cn) (.slice ar rs.length cr) 26))
            (fun jv _ => rs.length - (intOf jv).toNat)
          case atStart => exact ⟨0, by omega, rfl, hide (by simp), HB, HP⟩
          case round =>
            clear HB HP p0 p1
            obtain ⟨j, hjle, rfl, hrall, HB, HP⟩ := hrel
            have p0 := (unhide HP).n0
            have p1 := (unhide HP).n1
            by_cases hjl : j < rs.length
            · obtain ⟨x, hx⟩ : ∃ x, rs[j]? = some x := ⟨_, List.getElem?_eq_getElem hjl⟩
              obtain ⟨b, off, rfl, hb, hc⟩ := ((unhide HR).below (unhide HB)).cell hx
              have HST := hide (all_take_step (p := (inR · ns.length)) hx)
              have HNO := hide (fun h => okD_no3 (d := (ns, rs)) (List.mem_of_getElem? hx) h)
              have q0 : (0 : Int) ≤ (j : Int) := by omega
              have q1 : (j : Int) < (rs.length : Int) := by omega
              have q2 : ((j : Int)).toNat = j := by omega
              have q5 : IntKind.i64.wrap ((ns.length : Int) - 1) = (ns.length : Int) - 1 := by rw [wi64] <;> omega
              clear hx
              go_wp2_with fail
              go_quiet ((go_at_call 34; exact Calls.quiet_of_same (l1In_c x ns.length _)))
              have HB1 := hide (step_b (unhide HB) (drewN_below wr nq))
              have HP1 := hide ((unhide HP).below (drewN_below wr nq))
              clear HB HP p0 p1
              rcases Bool.eq_false_or_eq_true (inR x ns.length) with hz | hz
              · rw [hz]
                have HX : Hid ((rs.take (j + 1)).all (inR · ns.length) = true) := hide (by rw [unhide HST, unhide hrall, hz]; rfl)
                clear hz
                go_wp2_with fail
                go_roundw
                case rel => exact ⟨j + 1, by omega, by go_num, HX, HB1, HP1⟩
                case measure => simp [intOf]; omega
              · rw [hz]
                have HX := hide (unhide HNO hz)
                clear hz
                go_wp2_with fail
                go_ret
                exact ⟨by rw [unhide HX]; rfl, unhide HB1⟩
            · have hje : j = rs.length := by omega
              subst hje
              have hrall' := unhide hrall
              rw [List.take_of_length_le (Nat.le_refl _)] at hrall'
              have HX := hide (okD_yes (d := (ns, rs)) (unhide HSM) (unhide HALL) hrall')
              clear hrall hrall'
              go_wp2_with fail
              go_ret
              exact ⟨by rw [unhide HX]; rfl, unhide HB⟩
    · have h12' : (12 < (rs.length : Int)) := by omega
      have HR : Hid (okD (ns, rs) = false) := hide (okD_no1 (by unfold smallD; simp [h12]))
      go_enter Tryz.func10, Tryz.ntmps10
      go_wp2_with fail
      go_ret
      exact ⟨by rw [unhide HR]; rfl, unhide HB⟩
  · have h80' : (80 < (ns.length : Int)) := by omega
    have HR : Hid (okD (ns, rs) = false) := hide (okD_no1 (by unfold smallD; simp [h80]))
    go_enter Tryz.func10, Tryz.ntmps10
    go_wp2_with fail
    go_ret
    exact ⟨by rw [unhide HR]; rfl, unhide HB⟩
end Go.Proofs.YtpbnmhnbkfnaeaaGreatDoor
/- The specification's TabCmp. -/
namespace Go.Proofs.YtpbnmhnbkfnaeaaGreatDoor
open Go.RowKit Nt

theorem tab_no1 {d e : Dt} (h : okD d = false) : tabM d e = 0 := by unfold tabM; rw [h]; rfl
theorem tab_no2 {d e : Dt} (h : okD e = false) : tabM d e = 0 := by unfold tabM; rw [h, Bool.and_false]; rfl
theorem tab_nil1 {d e : Dt} (h : d.2 = []) : tabM d e = 0 := by unfold tabM; rw [h]; split <;> rfl
theorem tab_nil2 {d e : Dt} (h : e.2 = []) : tabM d e = 0 := by unfold tabM; rw [h]; split <;> (try rfl); split <;> first | rfl | simp_all
theorem tab_yes {ns ms : List Nd} {a b : Int} {rs ss : List Int} (h1 : okD (ns, a :: rs) = true) (h2 : okD (ms, b :: ss) = true) : tabM (ns, a :: rs) (ms, b :: ss) = cmpAt ns ms a b := by unfold tabM; rw [h1, h2]; rfl
theorem ok_parts_d {ns : List Nd} {rs : List Int} (h : okD (ns, rs) = true) : ns.length ≤ 80 ∧ rs.length ≤ 12 ∧ ns.all (ndOk ns.length) = true ∧ ∀ r ∈ rs, 0 ≤ r ∧ r < ns.length := by
  unfold okD smallD at h
  simp only [Bool.and_eq_true, decide_eq_true_eq] at h
  obtain ⟨⟨⟨h1, h2⟩, h3⟩, h4⟩ := h
  refine ⟨h1, h2, h3, fun r hr => ?_⟩
  have := List.all_eq_true.1 h4 r hr
  unfold inR at this
  simpa using this

set_option maxRecDepth 100000 in
set_option maxHeartbeats 8000000 in
theorem specTabCmp_c (d e : Dt) (u v : Value) (w : World) (hd : DataAt w u d) (he : DataAt w v e) (hsd : d.1.length ≤ 1048576 ∧ d.2.length ≤ 1048576 ∧ NsSmall d.1) (hse : e.1.length ≤ 1048576 ∧ e.2.length ≤ 1048576 ∧ NsSmall e.1) :
    Calls Tryz.prog 9 #[u, v] w fun r W' => r = .returned (.int .i64 (tabM d e)) ∧ Below w.heap.size w W' := by
  obtain ⟨ns, rs⟩ := d
  obtain ⟨ms, ss⟩ := e
  have HD := hide hd
  have HE := hide he
  obtain ⟨nv, rv, rfl, hn, hr⟩ := hd
  obtain ⟨mv, sv, rfl, hm, hs⟩ := he
  simp only at hn hr hm hs hsd hse
  have HN := hide hn
  have HM := hide hm
  have HR := hide hr
  have HS := hide hs
  obtain ⟨an, cn, rfl, hn1, hn2⟩ := hn.form0
  obtain ⟨ar, cr, rfl, hr1, hr2⟩ := hr.form
  obtain ⟨am, cm, rfl, hm1, hm2⟩ := hm.form0
  obtain ⟨as_, cs, rfl, hs1, hs2⟩ := hs.form
  unfold maxLen at hn2 hr2 hm2 hs2
  have HSD := hide hsd
  have HSE := hide hse
  obtain ⟨R, hR⟩ : ∃ R, tabM (ns, rs) (ms, ss) = R := ⟨_, rfl⟩
  rw [hR]
  have HTR := hide hR
  have HB := hide (step_a (step_a (Below.refl w.heap.size w) (.cells #[.slice an ns.length cn, .slice ar rs.length cr] 26)) (.cells #[.slice am ms.length cm, .slice as_ ss.length cs] 26))
  have HP := hide ((AtC2.new w (.slice an ns.length cn) (.slice ar rs.length cr) 26).alloc (.cells #[.slice am ms.length cm, .slice as_ ss.length cs] 26))
  have HQ := hide (AtC2.new (w.alloc (.cells #[.slice an ns.length cn, .slice ar rs.length cr] 26)) (.slice am ms.length cm) (.slice as_ ss.length cs) 26)
  rw [World.size_alloc] at HQ
  clear hn hr hm hs hsd hse hR
  go_enter Tryz.func9, Tryz.ntmps9
  go_wp2_with fail
  obtain ⟨W, hW⟩ : ∃ W, (w.alloc (.cells #[.slice an ns.length cn, .slice ar rs.length cr] 26)).alloc (.cells #[.slice am ms.length cm, .slice as_ ss.length cs] 26) = W := ⟨_, rfl⟩
  rw [hW] at HB HP HQ ⊢
  clear hW
  have h := specReadOk_c (ns, rs) _ W ((unhide HD).below (unhide HB)) (unhide HSD)
  refine h.mono ?_
  clear h
  rintro e' W1 ⟨rfl, hb1⟩
  have HB1 := hide (step_b (unhide HB) hb1)
  have HP1 := hide ((unhide HP).below hb1)
  have HQ1 := hide ((unhide HQ).below hb1)
  clear hb1 HB HP HQ
  rcases Bool.eq_false_or_eq_true (okD (ns, rs)) with ho | ho
  · rw [ho]
    have HO1 := hide ho
    clear ho
    have q0 := (unhide HQ1).n0
    have q1 := (unhide HQ1).n1
    go_wp2_with fail
    have h := specReadOk_c (ms, ss) _ W1 ((unhide HE).below (unhide HB1)) (unhide HSE)
    refine h.mono ?_
    clear h
    rintro e' W2 ⟨rfl, hb2⟩
    have HB2 := hide (step_b (unhide HB1) hb2)
    have HP2 := hide ((unhide HP1).below hb2)
    have HQ2 := hide ((unhide HQ1).below hb2)
    clear hb2 HB1 HP1 HQ1 q0 q1
    rcases Bool.eq_false_or_eq_true (okD (ms, ss)) with ho | ho
    · rw [ho]
      have HO2 := hide ho
      clear ho
      have p0 := (unhide HP2).n0
      have p1 := (unhide HP2).n1
      have q0 := (unhide HQ2).n0
      have q1 := (unhide HQ2).n1
      by_cases hr0 : rs = []
      · have HZ : Hid (R = 0) := hide (by rw [← unhide HTR]; exact tab_nil1 hr0)
        have r1 : ((rs.length : Int) == 0) = true := by rw [hr0]; rfl
        clear hr0
        go_wp2_with fail
        go_ret
        exact ⟨ret_int (unhide HZ).symm, unhide HB2⟩
      · obtain ⟨a, rt, har⟩ : ∃ a t, rs = a :: t := by cases rs with | nil => exact absurd rfl hr0 | cons a t => exact ⟨a, t, rfl⟩
        have hrl : 0 < rs.length := List.length_pos_iff.2 hr0
        have r1 : ((rs.length : Int) == 0) = false := by rw [beq_eq_false_iff_ne]; omega
        by_cases hs0 : ss = []
        · have HZ : Hid (R = 0) := hide (by rw [← unhide HTR]; exact tab_nil2 hs0)
          have r2 : ((ss.length : Int) == 0) = true := by rw [hs0]; rfl
          clear hs0 hr0 har hrl
          go_wp2_with fail
          go_ret
          exact ⟨ret_int (unhide HZ).symm, unhide HB2⟩
        · obtain ⟨b, st, hbs⟩ : ∃ b t, ss = b :: t := by cases ss with | nil => exact absurd rfl hs0 | cons b t => exact ⟨b, t, rfl⟩
          have hsl : 0 < ss.length := List.length_pos_iff.2 hs0
          have r2 : ((ss.length : Int) == 0) = false := by rw [beq_eq_false_iff_ne]; omega
          have HZ : Hid (cmpAt ns ms a b = R) := hide (by rw [← unhide HTR]; have h1 := unhide HO1; have h2 := unhide HO2; rw [har] at h1 ⊢; rw [hbs] at h2 ⊢; exact (tab_yes h1 h2).symm)
          obtain ⟨l1, _, k1, j1⟩ := ok_parts_d (unhide HO1)
          obtain ⟨l2, _, k2, j2⟩ := ok_parts_d (unhide HO2)
          have ha := j1 a (by rw [har]; exact List.mem_cons_self)
          have hb := j2 b (by rw [hbs]; exact List.mem_cons_self)
          obtain ⟨ga, oa, rfl, _, u0⟩ := ((unhide HR).below (unhide HB2)).cell (k := 0) (x := a) (by rw [har]; rfl)
          obtain ⟨gb, ob, rfl, _, u1⟩ := ((unhide HS).below (unhide HB2)).cell (k := 0) (x := b) (by rw [hbs]; rfl)
          rw [Nat.add_zero] at u0 u1
          have HC : Hid (∀ X, Below W2.heap.size W2 X → Calls Tryz.prog 33 #[.slice an ns.length cn, .int .i64 a, .slice am ms.length cm, .int .i64 b] X fun r W' => r = .returned (.int .i64 R) ∧ Below X.heap.size X W') := hide (fun X hX => by
            rw [← unhide HZ]
            exact l21Cmp_c ns ms a b _ _ X ((unhide HN).below (step_b (unhide HB2) hX)) ((unhide HM).below (step_b (unhide HB2) hX)) k1 k2 ⟨ha, hb⟩ (unhide HSD).2.2 (unhide HSE).2.2 l1 l2)
          have t0 : (0 : Int) < (rs.length : Int) := by omega
          have t1 : (0 : Int) < (ss.length : Int) := by omega
          clear k1 k2 j1 j2 ha hb hr0 hs0 har hbs
          go_wp2_with fail
          go_region_held3 (fun w' => w'.cell? ⟨w.heap.size, 0, none⟩ = some (.slice an ns.length cn) ∧ w'.cell? ⟨w.heap.size, 1, none⟩ = some (.slice (some ⟨ga, oa, none⟩) rs.length cr) ∧ w'.cell? ⟨ga, oa, none⟩ = some (.int .i64 a) ∧ w'.cell? ⟨w.heap.size + 1, 0, none⟩ = some (.slice am ms.length cm) ∧ w'.cell? ⟨w.heap.size + 1, 1, none⟩ = some (.slice (some ⟨gb, ob, none⟩) ss.length cs) ∧ w'.cell? ⟨gb, ob, none⟩ = some (.int .i64 b)) (((try dsimp only); (repeat' apply And.intro) <;> (first | with_reducible assumption | exact p0 | exact p1 | exact u0 | exact q0 | exact q1 | exact u1))) ((go_at_call 33; refine (unhide HC W2.drew (Below.refl _ _).drew).mono ?_; rintro e w5 ⟨rfl, hb5⟩; have HB5 : Hid (Below W2.heap.size W2 w5) := (Below.refl _ _).drew.trans hb5; have c1 := cell_below (unhide HB5) p0; have c2 := cell_below (unhide HB5) p1; have c3 := cell_below (unhide HB5) u0; have c4 := cell_below (unhide HB5) q0; have c5 := cell_below (unhide HB5) q1; have c6 := cell_below (unhide HB5) u1; clear hb5))
          go_wp2_with fail
          go_ret
          exact ⟨rfl, step_b (unhide HB2) (unhide HB5)⟩
    · rw [ho]
      have HZ : Hid (R = 0) := hide (by rw [← unhide HTR]; exact tab_no2 ho)
      clear ho
      go_wp2_with fail
      go_ret
      exact ⟨ret_int (unhide HZ).symm, unhide HB2⟩
  · rw [ho]
    have HZ : Hid (R = 0) := hide (by rw [← unhide HTR]; exact tab_no1 ho)
    clear ho
    go_wp2_with fail
    go_ret
    exact ⟨ret_int (unhide HZ).symm, unhide HB1⟩
end Go.Proofs.YtpbnmhnbkfnaeaaGreatDoor
/- impl.TabSort. -/
namespace Go.Proofs.YtpbnmhnbkfnaeaaGreatDoor
open Go.RowKit Nt

def sortM (d : Dt) : Dt := if okD d then (d.1, srt (ordI d.1) d.2) else ([], [])
theorem sort_yes {d : Dt} (h : okD d = true) : sortM d = (d.1, srt (ordI d.1) d.2) := by unfold sortM; rw [h]; rfl
theorem sort_no {d : Dt} (h : okD d = false) : sortM d = ([], []) := by unfold sortM; rw [h]; rfl
theorem own_none (w : World) (base : Nat) (_ : base ≤ w.heap.size) : DataOwn w base w.heap.size (.agg #[.slice none 0 0, .slice none 0 0]) ([], []) := by
  refine ⟨_, _, [], rfl, .inl ⟨rfl, rfl, rfl⟩, World.ownsRow_nil _ _ _ _, List.pairwise_singleton _ _, fun i hi => by simp [Value.ownBlock] at hi, fun x hx i hi => ?_, Nat.le_refl _⟩
  rcases hx with rfl | rfl | hx
  · simp [Value.ownBlock] at hi
  · simp [Value.ownBlock] at hi
  · simp at hx
theorem far_st2 {w : World} {b : Nat} {u0 u1 v : Value} {a : Addr} (h : w.cell? a = some v) (hne : a.block ≠ b) : ((w.setCell ⟨b, 0, none⟩ u0).setCell ⟨b, 1, none⟩ u1).cell? a = some v := by
  rw [World.cell?_setCell_far _ _ _ _ (Ne.symm hne), World.cell?_setCell_far _ _ _ _ (Ne.symm hne)]
  exact h
/-- an order that is one, and says of the roots what is asked -/
theorem ord_of {ns : List Nd} {rs : List Int} (hn : ns.all (ndOk ns.length) = true) (hr : ∀ x ∈ rs, 0 ≤ x ∧ x < ns.length) : ∃ r : Int → Int → Int, Pre r ∧ srt r rs = srt (ordI ns) rs ∧ ∀ x ∈ rs, ∀ y ∈ rs, r x y = cmpAt ns ns x y := by
  by_cases h0 : 0 < ns.length
  · exact ⟨ordI ns, ordI_pre hn h0, rfl, fun x hx y hy => ordI_in (hr x hx) (hr y hy)⟩
  · have hrs : rs = [] := by
      cases rs with
      | nil => rfl
      | cons x t => have := hr x List.mem_cons_self; omega
    subst hrs
    exact ⟨fun _ _ => 0, ⟨fun _ _ => rfl, fun _ _ _ _ _ => by omega⟩, rfl, fun x hx => by simp at hx⟩

set_option maxRecDepth 100000 in
set_option maxHeartbeats 4000000 in
theorem implTabSort_c (nv rv : Value) (d : Dt) (w : World) (h : DataAt w (.agg #[nv, rv]) d) (hs : d.1.length ≤ 1048576 ∧ d.2.length ≤ 1048576 ∧ NsSmall d.1) (hT : Tabz w) (hN : Tens w) (h3 : 3 < w.heap.size) :
    Calls Tryz.prog 15 #[.agg #[nv, rv]] w fun e w' => (∃ gn gr, e = .returned (.agg #[gn, gr]) ∧ DataOwn w' w.heap.size w'.heap.size (.agg #[gn, gr]) (sortM d)) ∧ Below w.heap.size w w' := by
  obtain ⟨ns, rs⟩ := d
  have HD := hide h
  obtain ⟨nv', rv', e, hn, hr⟩ := h
  simp only [Value.agg.injEq, Array.mk.injEq, List.cons.injEq, and_true] at e
  obtain ⟨rfl, rfl⟩ := e
  simp only at hn hr hs
  have HN := hide hn
  have HR := hide hr
  obtain ⟨na, nc, rfl, hn1, hn2⟩ := hn.form0
  obtain ⟨ra, rc, rfl, hr1, hr2⟩ := hr.form
  unfold maxLen at hn2 hr2
  have HT := hide (And.intro hT (And.intro hN h3))
  have HS := hide hs
  have HB := hide (step_a (step_a (Below.refl w.heap.size w) (.cells #[.slice na ns.length nc, .slice ra rs.length rc] 26)) (.cells #[.slice none 0 0, .slice none 0 0] 26))
  have HP := hide ((AtC2.new w (.slice na ns.length nc) (.slice ra rs.length rc) 26).alloc (.cells #[.slice none 0 0, .slice none 0 0] 26))
  have HQ := hide (AtC2.new (w.alloc (.cells #[.slice na ns.length nc, .slice ra rs.length rc] 26)) (.slice none 0 0) (.slice none 0 0) 26)
  rw [World.size_alloc] at HQ
  have HC : Hid (∀ W, Below w.heap.size w W → Calls Tryz.prog 37 #[.agg #[.slice na ns.length nc, .slice ra rs.length rc]] W fun e w' => e = .returned (.bool (okD (ns, rs))) ∧ Below W.heap.size W w') := hide (fun W hb => implReadOk_c _ _ (ns, rs) W ((unhide HD).below hb) hs ((unhide HT).1.below (by have := (unhide HT).2.2; omega) hb) ((unhide HT).2.1.belowB hb (unhide HT).2.2) (Nat.lt_of_lt_of_le (unhide HT).2.2 hb.size))
  obtain ⟨M, hM⟩ : ∃ M, sortM (ns, rs) = M := ⟨_, rfl⟩
  rw [hM]
  have HM := hide hM
  clear hn hr hs hT hN h3 hM
  go_enter Tryz.func15, Tryz.ntmps15
  go_wp2_with fail
  obtain ⟨W, hW⟩ : ∃ W, (w.alloc (.cells #[.slice na ns.length nc, .slice ra rs.length rc] 26)).alloc (.cells #[.slice none 0 0, .slice none 0 0] 26) = W := ⟨_, rfl⟩
  rw [hW] at HB HP HQ ⊢
  clear hW
  have p0 := (unhide HP).n0
  have p1 := (unhide HP).n1
  go_wp2_with fail
  refine (unhide HC W (unhide HB)).mono ?_
  rintro e' W1 ⟨rfl, hb1⟩
  have HB1 := hide (step_b (unhide HB) hb1)
  have HP1 := hide ((unhide HP).below hb1)
  have HQ1 := hide ((unhide HQ).below hb1)
  clear hb1 HB HP HQ p0 p1
  rcases Bool.eq_false_or_eq_true (okD (ns, rs)) with ho | ho
  · rw [ho]
    have HO := hide ho
    obtain ⟨l1, l2, k1, j1⟩ := ok_parts_d ho
    obtain ⟨r, hpre, hsr, hro⟩ := ord_of k1 j1
    obtain rfl : M = (ns, srt r rs) := by rw [← unhide HM, sort_yes ho, hsr]
    have hl := srt_len (r := r) rs
    have HCE : Hid (∀ X, Below w.heap.size w X → Calls Tryz.prog 43 #[.slice na ns.length nc, .func (.func 44) #[] #[]] X fun e w' => (∃ kvs, e = .returned (.slice (some ⟨X.heap.size, 0, none⟩) ns.length ns.length) ∧ NodesOwn w' X.heap.size X.heap.size ns.length ns kvs) ∧ Below X.heap.size X w') := hide (fun X hX => tabEach_c na nc ns X ((unhide HN).below hX) (by omega) (unhide HS).2.2)
    have HCS : Hid (∀ X, Below W1.heap.size W1 X → Calls Tryz.prog 45 #[.slice ra rs.length rc, .func (.func 42) #[] #[.pointer (some ⟨w.heap.size, 0, none⟩)]] X fun e w' => (∃ sa sc, e = .returned (.slice sa rs.length sc) ∧ RowI w' X.heap.size (.slice sa rs.length sc) (srt r rs)) ∧ Below X.heap.size X w') := hide (fun X hX => by
      have hwX := step_b (unhide HB1) hX
      have := tabSorted_c r hpre w.heap.size 12 rs ra rc X l2 l2 ((unhide HR).below hwX) (fun x hx y hy Y hY => by
        rw [hro x hx y hy]
        have hx' := j1 x hx
        have hwY := step_b hwX hY
        obtain ⟨gn, on, cn', e1, _, _, _⟩ := (unhide HN).form (show 0 < ns.length by omega)
        injection e1 with e1 _ e1c
        have hnY := (unhide HN).below hwY
        have hpY := ((unhide HP1).below hX).below hY
        rw [e1] at hnY hpY
        exact sortOrd_c ns x y gn on nc w.heap.size _ Y hpY hnY k1 ⟨hx', j1 y hy⟩ l1 ((unhide HT).2.1.belowB hwY (unhide HT).2.2) (Nat.lt_of_lt_of_le (unhide HT).2.2 hwY.size))
      refine this.mono ?_
      rintro e w' ⟨⟨v, rfl, hr⟩, hb⟩
      obtain ⟨a, c, rfl, hr'⟩ := row_form (k := rs.length) hr hl
      exact ⟨⟨a, c, rfl, hr'⟩, hb⟩)
    have p0 := (unhide HP1).n0
    have p1 := (unhide HP1).n1
    have q0 := (unhide HQ1).n0
    have q1 := (unhide HQ1).n1
    have HPRE := hide (And.intro hpre hl)
    clear ho k1 j1 hro hsr hpre hl HC
    go_wp2_with fail
    have d0 : W1.drew.cell? ⟨w.heap.size, 0, none⟩ = some (.slice na ns.length nc) := (unhide HP1).n0
    have d1 : W1.drew.cell? ⟨w.heap.size, 1, none⟩ = some (.slice ra rs.length rc) := (unhide HP1).n1
    go_region_held3 (fun w' => w'.cell? ⟨w.heap.size, 0, none⟩ = some (.slice na ns.length nc) ∧ w'.cell? ⟨w.heap.size, 1, none⟩ = some (.slice ra rs.length rc)) (((try dsimp only); (repeat' apply And.intro) <;> (first | with_reducible assumption | (refine far_st2 (by with_reducible assumption) (by show w.heap.size ≠ w.heap.size + 1; omega)))))
      (first
        | (go_at_call 45; refine (unhide HCS w5 (unhide HB5)).mono ?_; rintro e w6 ⟨⟨sa, sc, rfl, hr6⟩, hb6⟩; have HR6 := hide hr6; have HN6 := hide ((unhide HN5).below hb6); have HB6 : Hid (Below W1.heap.size W1 w6) := step_b (unhide HB5) hb6; have f0 := ((unhide HP1).below (unhide HB6)).n0; have f1 := ((unhide HP1).below (unhide HB6)).n1; have g0 := ((unhide HQ1).below (unhide HB6)).n0; have g1 := ((unhide HQ1).below (unhide HB6)).n1; have gf := ((unhide HQ1).below (unhide HB6)).f; clear hr6 hb6)
        | (go_at_call 43; refine (unhide HCE W1.drew (unhide HB1).drew).mono ?_; rintro e w5 ⟨⟨kvs, rfl, hn5⟩, hb5⟩; have HN5 : Hid (NodesOwn w5 W1.heap.size W1.heap.size ns.length ns kvs) := hn5; have HB5 : Hid (Below W1.heap.size W1 w5) := (Below.refl _ _).drew.trans hb5; have e0 := ((unhide HP1).below (unhide HB5)).n0; have e1 := ((unhide HP1).below (unhide HB5)).n1; clear hn5 hb5))
    obtain ⟨V0, hV0⟩ : ∃ V, Value.slice (some ⟨W1.heap.size, 0, none⟩) ns.length ns.length = V := ⟨_, rfl⟩
    obtain ⟨V1, hV1⟩ : ∃ V, Value.slice sa rs.length sc = V := ⟨_, rfl⟩
    have HRF := hide ((((unhide HQ1).below (unhide HB6)).st0 V0).st1 V1)
    have z0 := (unhide HRF).n0
    have z1 := (unhide HRF).n1
    have ql := (unhide HQ1).lt
    have HBF := hide (((step_b (unhide HB1) (unhide HB6)).setCell (p := ⟨w.heap.size + 1, 0, none⟩) (Nat.le_succ _) V0).setCell (p := ⟨w.heap.size + 1, 1, none⟩) (Nat.le_succ _) V1)
    have h51 := (unhide HN5).1.2.1
    have h15 := (unhide HB5).size
    have hw1 := (unhide HB1).size
    have hN := ((unhide HN6).far (a := ⟨w.heap.size + 1, 0, none⟩) ql V0).far (a := ⟨w.heap.size + 1, 1, none⟩) ql V1
    have hR := ownsRow_setCell_below (ownsRow_setCell_below (unhide HR6) (a := ⟨w.heap.size + 1, 0, none⟩) (by show w.heap.size + 1 < _; omega) V0) (a := ⟨w.heap.size + 1, 1, none⟩) (by show w.heap.size + 1 < _; omega) V1
    have hsz : ((w6.setCell ⟨w.heap.size + 1, 0, none⟩ V0).setCell ⟨w.heap.size + 1, 1, none⟩ V1).heap.size = w6.heap.size := by simp
    have hOwn : DataOwn ((w6.setCell ⟨w.heap.size + 1, 0, none⟩ V0).setCell ⟨w.heap.size + 1, 1, none⟩ V1) w.heap.size ((w6.setCell ⟨w.heap.size + 1, 0, none⟩ V0).setCell ⟨w.heap.size + 1, 1, none⟩ V1).heap.size (.agg #[V0, V1]) (ns, srt r rs) := by
      refine ⟨V0, V1, kvs, rfl, .inr ⟨W1.heap.size, ns.length, hV0.symm, Nat.le_refl _, by unfold maxLen; omega, hN.base hw1⟩, ?_, ?_, ?_, ?_, Nat.le_refl _⟩
      · rw [← hV1] at hR ⊢
        exact own_base hR (by omega)
      · unfold Apart
        rw [List.pairwise_cons]
        refine ⟨fun k hk i hi e => ?_, (unhide HN6).2.2.2.2.1⟩
        rw [← hV1] at hi
        have := ((unhide HR6).lt i hi).1
        have := (unhide HN5).old k hk i e
        omega
      · intro i hi e
        rw [← hV0] at hi
        rw [← hV1] at e
        have := ((unhide HR6).lt i e).1
        simp [Value.ownBlock] at hi
        omega
      · rw [hsz]
        intro x hx i hi
        rcases hx with rfl | rfl | hx
        · rw [← hV0] at hi
          simp [Value.ownBlock] at hi
          have := (unhide HN6).1.2.1
          omega
        · rw [← hV1] at hi
          exact ((unhide HR6).lt i hi).2
        · exact (unhide HN6).old x hx i hi
    have HOWN := hide hOwn
    rw [hV0, hV1]
    clear hN hR hsz hOwn h51 h15 hw1 ql f0 f1 g0 g1 gf e0 e1 d0 d1 p0 p1 q0 q1 hV0 hV1
    go_wp2_with fail
    refine bodyPost_ret (v := .agg #[V0, V1]) (by simp [results, Tryz.f15, go_sem, z0, z1]) rfl ⟨⟨_, _, rfl, unhide HOWN⟩, unhide HBF⟩
  · rw [ho]
    obtain rfl : M = ([], []) := by rw [← unhide HM, sort_no ho]
    clear ho
    have q0 := (unhide HQ1).n0
    have q1 := (unhide HQ1).n1
    have qf := (unhide HQ1).f
    go_wp2_with fail
    have HRF := hide (((unhide HQ1).st0 (.slice none 0 0)).st1 (.slice none 0 0))
    have z0 := (unhide HRF).n0
    have z1 := (unhide HRF).n1
    have HBF := hide (((unhide HB1).setCell (p := ⟨w.heap.size + 1, 0, none⟩) (Nat.le_succ _) (.slice none 0 0)).setCell (p := ⟨w.heap.size + 1, 1, none⟩) (Nat.le_succ _) (.slice none 0 0))
    refine bodyPost_ret (v := .agg #[.slice none 0 0, .slice none 0 0]) (by simp [results, Tryz.f15, go_sem, z0, z1]) rfl ⟨⟨_, _, rfl, own_none _ _ (unhide HBF).size⟩, unhide HBF⟩
end Go.Proofs.YtpbnmhnbkfnaeaaGreatDoor
/- The specification's TabSort: the region where one is put in, by what holds whichever of its operations have been carried out. -/
namespace Go.Proofs.YtpbnmhnbkfnaeaaGreatDoor
open Go.RowKit Nt

/-- which operations read alone -/
def rdI (i : Nat) : Bool := (decide (0 < i) && decide (i < 4)) || (decide (4 < i) && decide (i < 10)) || (decide (11 < i) && decide (i < 15))
theorem cell_below_' {w w' : World} (k : Below w.heap.size w w') {a : Addr} {v : Value} (h : w.cell? a = some v) : w'.cell? a = some v := (k.cell (World.block_lt_of_cell? _ _ h)).trans h
/-- a block apart from a row's -/
def Apt (v : Value) (g : Nat) : Prop := v.ownBlock ≠ some g
structure InS (W : World) (v : Nat → Value) (y : Int) (p q : List Int) (l : Array Bool) (x : Nat → Value) (w' : World) : Prop where
  sz : l.size = 17
  val : ∀ i, rdI i = true → LL l i → x i = v i
  bw : Below W.heap.size W w'
  k0 : LL l 0 → ¬ LL l 4 → (∃ g, x 0 = .slice (some ⟨g, 0, none⟩) 0 0) ∧ RowI w' W.heap.size (x 0) []
  k4 : LL l 4 → ∃ a c, x 4 = .slice a p.length c
  r4 : LL l 4 → ¬ LL l 11 → RowI w' W.heap.size (x 4) p
  n10 : LL l 10 → ¬ LL l 11 → ∃ g, x 10 = .slice (some ⟨g, 0, none⟩) 1 1 ∧ w'.cell? ⟨g, 0, none⟩ = some (.int .i64 y) ∧ g < w'.heap.size ∧ (LL l 0 → ¬ LL l 4 → Apt (x 0) g) ∧ (LL l 4 → Apt (x 4) g)
  k11 : LL l 11 → ∃ a c, x 11 = .slice a (p.length + 1) c
  r11 : LL l 11 → ¬ LL l 15 → RowI w' W.heap.size (x 11) (p ++ [y])
  r15 : LL l 15 → (∃ a c, x 15 = .slice a (p ++ [y] ++ q).length c) ∧ RowI w' W.heap.size (x 15) (p ++ [y] ++ q)
  c4 : LL l 4 → LL l 0
  c11 : LL l 11 → LL l 4 ∧ LL l 10
  c15 : LL l 15 → LL l 11
  c16 : LL l 16 → ∀ j, j < 16 → LL l j
  o16 : ¬ LL l 16 → x 16 = v 16
  a16 : LL l 16 → x 16 = x 15
section
variable {W w' w2 : World} {v x : Nat → Value} {y : Int} {p q : List Int} {l : Array Bool}
theorem InS.start (hl : l = Array.replicate 17 false) (h : Below W.heap.size W w') (h16 : x 16 = v 16) : InS W v y p q l x w' := by
  subst hl
  have hn : ∀ j, ¬ LL (Array.replicate 17 false) j := fun j h => by
    unfold LL at h
    rw [Array.getElem?_replicate] at h
    split at h <;> simp at h
  exact ⟨by simp, fun i _ h => absurd h (hn _), h, fun h => absurd h (hn _), fun h => absurd h (hn _), fun h => absurd h (hn _), fun h => absurd h (hn _), fun h => absurd h (hn _), fun h => absurd h (hn _), fun h => absurd h (hn _), fun h => absurd h (hn _), fun h => absurd h (hn _), fun h => absurd h (hn _), fun h => absurd h (hn _), fun _ => h16, fun h => absurd h (hn _)⟩
/-- the same, seen from what a step changes -/
theorem InS.mk' (i : Nat) (hi : i < 17) (hn : ¬ LL l i) (h : InS W v y p q l x w') {x' : Nat → Value} (hx : ∀ j, j ≠ i → x' j = x j) (hv : rdI i = true → x' i = v i) (hb : Below W.heap.size W w2) (_ : Below W.heap.size w' w2)
    (k0 : (i = 0 ∨ LL l 0) → ¬ (i = 4 ∨ LL l 4) → (∃ g, x' 0 = .slice (some ⟨g, 0, none⟩) 0 0) ∧ RowI w2 W.heap.size (x' 0) [])
    (k4 : (i = 4 ∨ LL l 4) → ∃ a c, x' 4 = .slice a p.length c)
    (r4 : (i = 4 ∨ LL l 4) → ¬ (i = 11 ∨ LL l 11) → RowI w2 W.heap.size (x' 4) p)
    (n10 : (i = 10 ∨ LL l 10) → ¬ (i = 11 ∨ LL l 11) → ∃ g, x' 10 = .slice (some ⟨g, 0, none⟩) 1 1 ∧ w2.cell? ⟨g, 0, none⟩ = some (.int .i64 y) ∧ g < w2.heap.size ∧ ((i = 0 ∨ LL l 0) → ¬ (i = 4 ∨ LL l 4) → Apt (x' 0) g) ∧ ((i = 4 ∨ LL l 4) → Apt (x' 4) g))
    (k11 : (i = 11 ∨ LL l 11) → ∃ a c, x' 11 = .slice a (p.length + 1) c)
    (r11 : (i = 11 ∨ LL l 11) → ¬ (i = 15 ∨ LL l 15) → RowI w2 W.heap.size (x' 11) (p ++ [y]))
    (r15 : (i = 15 ∨ LL l 15) → (∃ a c, x' 15 = .slice a (p ++ [y] ++ q).length c) ∧ RowI w2 W.heap.size (x' 15) (p ++ [y] ++ q))
    (c4 : (i = 4 ∨ LL l 4) → i = 0 ∨ LL l 0) (c11 : (i = 11 ∨ LL l 11) → (i = 4 ∨ LL l 4) ∧ (i = 10 ∨ LL l 10)) (c15 : (i = 15 ∨ LL l 15) → i = 11 ∨ LL l 11)
    (c16 : i = 16 → ∀ j, j < 16 → LL l j) (a16 : i = 16 → x' 16 = x' 15) : InS W v y p q (l.setIfInBounds i true) x' w2 := by
  have e : ∀ j, LL (l.setIfInBounds i true) j ↔ (i = j ∨ LL l j) := fun j => (LL_set (by rw [h.sz]; exact hi) j).trans ⟨fun h => h.imp Eq.symm id, fun h => h.imp Eq.symm id⟩
  refine ⟨by simp [h.sz], fun j hj ej => ?_, hb, by rw [e, e]; exact k0, by rw [e]; exact k4, by rw [e, e]; exact r4, by rw [e, e, e, e]; exact n10, by rw [e]; exact k11, by rw [e, e]; exact r11, by rw [e]; exact r15, by rw [e, e]; exact c4, by rw [e, e, e]; exact c11, by rw [e, e]; exact c15, ?_, ?_, ?_⟩
  · by_cases q' : j = i
    · subst q'; exact hv hj
    · rw [hx j q']; exact h.val j hj (((e j).1 ej).resolve_left (Ne.symm q'))
  · intro e16 j hj
    rw [e]
    rcases (e 16).1 e16 with q' | q'
    · exact .inr (c16 q' j hj)
    · exact .inr (h.c16 q' j hj)
  · intro n16
    rw [e] at n16
    have q' : (16 : Nat) ≠ i := fun q' => n16 (.inl q'.symm)
    rw [hx 16 q']; exact h.o16 (fun q => n16 (.inr q))
  · intro e16
    rcases (e 16).1 e16 with q' | q'
    · exact a16 q'
    · by_cases r : i = 16
      · exact a16 r
      · have hi16 : i < 16 := by omega
        exact absurd (h.c16 q' i hi16) hn
theorem InS.read (h : InS W v y p q l x w') (i : Nat) (hi : rdI i = true) (hi17 : i < 17) (hn : ¬ LL l i) (u : Value) (hu : u = v i) : InS W v y p q (l.setIfInBounds i true) (fun j => if j = i then u else x j) w' := by
  have n0 : i ≠ 0 := by rintro rfl; revert hi; decide
  have n4 : i ≠ 4 := by rintro rfl; revert hi; decide
  have n10 : i ≠ 10 := by rintro rfl; revert hi; decide
  have n11 : i ≠ 11 := by rintro rfl; revert hi; decide
  have n15 : i ≠ 15 := by rintro rfl; revert hi; decide
  have n16 : i ≠ 16 := by rintro rfl; revert hi; decide
  refine InS.mk' i hi17 hn h (fun j hj => if_neg hj) (fun _ => by simpa using hu) h.bw (Below.refl _ _ |>.mono h.bw.size) ?_ ?_ ?_ ?_ ?_ ?_ ?_ ?_ ?_ ?_ (fun e => absurd e n16) (fun e => absurd e n16)
  · simp only [n0, n4, false_or, if_neg (Ne.symm n0)]; exact h.k0
  · simp only [n4, false_or, if_neg (Ne.symm n4)]; exact h.k4
  · simp only [n4, n11, false_or, if_neg (Ne.symm n4)]; exact h.r4
  · simp only [n0, n4, n10, n11, false_or, if_neg (Ne.symm n0), if_neg (Ne.symm n4), if_neg (Ne.symm n10)]; exact h.n10
  · simp only [n11, false_or, if_neg (Ne.symm n11)]; exact h.k11
  · simp only [n11, n15, false_or, if_neg (Ne.symm n11)]; exact h.r11
  · simp only [n15, false_or, if_neg (Ne.symm n15)]; exact h.r15
  · simp only [n0, n4, false_or]; exact h.c4
  · simp only [n4, n10, n11, false_or]; exact h.c11
  · simp only [n11, n15, false_or]; exact h.c15
theorem InS.s0 (h : InS W v y p q l x w') (hn : ¬ LL l 0) : InS W v y p q (l.setIfInBounds 0 true) (fun j => if j = 0 then .slice (some ⟨w'.heap.size, 0, none⟩) 0 0 else x j) (w'.alloc (.cells #[] 3)) := by
  have n4 : ¬ LL l 4 := fun e => hn (h.c4 e)
  have n11 : ¬ LL l 11 := fun e => n4 (h.c11 e).1
  have n15 : ¬ LL l 15 := fun e => n11 (h.c15 e)
  have hb := step_a h.bw (.cells #[] 3)
  refine InS.mk' 0 (by omega) hn h (fun j hj => if_neg hj) (fun e => absurd e (by decide)) hb ((step_a (Below.refl _ _) _).mono h.bw.size) (fun _ _ => ⟨⟨_, rfl⟩, own_base (rowI_made w') h.bw.size⟩) (fun e => ?_) (fun e => ?_) (fun e e' => ?_) (fun e => ?_) (fun e => ?_) (fun e => ?_) (fun e => ?_) (fun e => ?_) (fun e => ?_) (fun e => absurd e (by decide)) (fun e => absurd e (by decide))
  · exact absurd (e.resolve_left (by decide)) n4
  · exact absurd (e.resolve_left (by decide)) n4
  · obtain ⟨g, e1, e2, e3, _, _⟩ := h.n10 (e.resolve_left (by decide)) n11
    refine ⟨g, e1, cell_below_' (step_a (Below.refl _ _) _) e2, by simp; omega, fun _ _ q => ?_, fun e => absurd (e.resolve_left (by decide)) n4⟩
    simp [Value.ownBlock] at q
    omega
  · exact absurd (e.resolve_left (by decide)) n11
  · exact absurd (e.resolve_left (by decide)) n11
  · exact absurd (e.resolve_left (by decide)) n15
  · exact absurd (e.resolve_left (by decide)) n4
  · exact absurd (e.resolve_left (by decide)) n11
  · exact absurd (e.resolve_left (by decide)) n15
theorem cell_grown {w w' : World} {r : Option Nat} {g : Nat} {u : Value} (hg : w.grownBy w' r) (hlt : g < w.heap.size) (hne : r ≠ some g) (h : w.cell? ⟨g, 0, none⟩ = some u) : w'.cell? ⟨g, 0, none⟩ = some u := by
  have e := hg.block g hlt (Ne.symm hne)
  exact (World.cell?_of_block (a := ⟨g, 0, none⟩) e).trans h
theorem InS.s4 (h : InS W v y p q l x w') (hn : ¬ LL l 4) (h0 : LL l 0) {a : Option Addr} {c : Nat} (hr : RowI w2 W.heap.size (.slice a p.length c) p) (hg : w'.grownBy w2 (x 0).ownBlock) (hw : (Value.slice a p.length c).ownBlock = (x 0).ownBlock ∨ (Value.slice a p.length c).ownBlock = some w'.heap.size) :
    InS W v y p q (l.setIfInBounds 4 true) (fun j => if j = 4 then .slice a p.length c else x j) w2 := by
  have n11 : ¬ LL l 11 := fun e => hn (h.c11 e).1
  have n15 : ¬ LL l 15 := fun e => n11 (h.c15 e)
  have hrow := (h.k0 h0 hn).2
  have hb := below_grown h.bw hrow hg h.bw.size
  have hbb : Below W.heap.size w' w2 := below_grown (Below.refl _ _) hrow hg h.bw.size
  refine InS.mk' 4 (by omega) hn h (fun j hj => if_neg hj) (fun e => absurd e (by decide)) hb hbb (fun _ e => absurd (.inl rfl) e) (fun _ => ⟨a, c, rfl⟩) (fun _ _ => hr) (fun e e' => ?_) (fun e => ?_) (fun e => ?_) (fun e => ?_) (fun _ => .inr h0) (fun e => ?_) (fun e => ?_) (fun e => absurd e (by decide)) (fun e => absurd e (by decide))
  · obtain ⟨g, e1, e2, e3, e4, _⟩ := h.n10 (e.resolve_left (by decide)) n11
    have hap := e4 h0 hn
    refine ⟨g, e1, cell_grown hg e3 hap e2, Nat.lt_of_lt_of_le e3 hbb.size, fun _ e => absurd (.inl rfl) e, fun _ q => ?_⟩
    have q : (Value.slice a p.length c).ownBlock = some g := q
    rcases hw with hw | hw
    · rw [hw] at q; exact hap q
    · rw [hw] at q
      simp at q
      omega
  · exact absurd (e.resolve_left (by decide)) n11
  · exact absurd (e.resolve_left (by decide)) n11
  · exact absurd (e.resolve_left (by decide)) n15
  · exact absurd (e.resolve_left (by decide)) n11
  · exact absurd (e.resolve_left (by decide)) n15
theorem row_apt {w : World} {b : Nat} {u : Value} {m : List Int} (h : RowI w b u m) : Apt u w.heap.size := fun e => by have := (h.lt _ e).2; omega
theorem InS.s10 (h : InS W v y p q l x w') (hn : ¬ LL l 10) : InS W v y p q (l.setIfInBounds 10 true) (fun j => if j = 10 then .slice (some ⟨w'.heap.size, 0, none⟩) 1 1 else x j) (w'.alloc (.cells #[.int .i64 y] 3)) := by
  have n11 : ¬ LL l 11 := fun e => hn (h.c11 e).2
  have n15 : ¬ LL l 15 := fun e => n11 (h.c15 e)
  have hab := step_a (Below.refl w'.heap.size w') (.cells #[.int .i64 y] 3)
  refine InS.mk' 10 (by omega) hn h (fun j hj => if_neg hj) (fun e => absurd e (by decide)) (step_a h.bw _) (hab.mono h.bw.size) (fun e e' => ?_) (fun e => ?_) (fun e _ => ?_) (fun _ _ => ?_) (fun e => ?_) (fun e => ?_) (fun e => ?_) (fun e => ?_) (fun e => ?_) (fun e => ?_) (fun e => absurd e (by decide)) (fun e => absurd e (by decide))
  · obtain ⟨k1, k2⟩ := h.k0 (e.resolve_left (by decide)) (fun q => e' (.inr q))
    exact ⟨k1, own_below k2 hab⟩
  · exact h.k4 (e.resolve_left (by decide))
  · exact own_below (h.r4 (e.resolve_left (by decide)) n11) hab
  · refine ⟨_, rfl, ?_, by simp, fun e e' => ?_, fun e => ?_⟩
    · have := heap_alloc_new w' (.cells #[.int .i64 y] 3)
      unfold World.cell?
      simp only
      rw [this]
      rfl
    · exact row_apt (h.k0 (e.resolve_left (by decide)) (fun q => e' (.inr q))).2
    · exact row_apt (h.r4 (e.resolve_left (by decide)) n11)
  · exact absurd (e.resolve_left (by decide)) n11
  · exact absurd (e.resolve_left (by decide)) n11
  · exact absurd (e.resolve_left (by decide)) n15
  · exact .inr (h.c4 (e.resolve_left (by decide)))
  · exact absurd (e.resolve_left (by decide)) n11
  · exact absurd (e.resolve_left (by decide)) n15
theorem InS.s11 (h : InS W v y p q l x w') (hn : ¬ LL l 11) (h4 : LL l 4) (h10 : LL l 10) {a : Option Addr} {c : Nat} (hr : RowI w2 W.heap.size (.slice a (p.length + 1) c) (p ++ [y])) (hg : w'.grownBy w2 (x 4).ownBlock) :
    InS W v y p q (l.setIfInBounds 11 true) (fun j => if j = 11 then .slice a (p.length + 1) c else x j) w2 := by
  have n15 : ¬ LL l 15 := fun e => hn (h.c15 e)
  have hrow := h.r4 h4 hn
  have hb := below_grown h.bw hrow hg h.bw.size
  have hbb : Below W.heap.size w' w2 := below_grown (Below.refl _ _) hrow hg h.bw.size
  refine InS.mk' 11 (by omega) hn h (fun j hj => if_neg hj) (fun e => absurd e (by decide)) hb hbb (fun _ e => absurd (.inr h4) e) (fun _ => h.k4 h4) (fun _ e => absurd (.inl rfl) e) (fun _ e => absurd (.inl rfl) e) (fun _ => ⟨a, c, rfl⟩) (fun _ _ => hr) (fun e => ?_) (fun _ => .inr (h.c4 h4)) (fun _ => ⟨.inr h4, .inr h10⟩) (fun _ => .inl rfl) (fun e => absurd e (by decide)) (fun e => absurd e (by decide))
  exact absurd (e.resolve_left (by decide)) n15
theorem InS.s15 (h : InS W v y p q l x w') (hn : ¬ LL l 15) (h11 : LL l 11) {a : Option Addr} {c : Nat} (hr : RowI w2 W.heap.size (.slice a (p ++ [y] ++ q).length c) (p ++ [y] ++ q)) (hg : w'.grownBy w2 (x 11).ownBlock) :
    InS W v y p q (l.setIfInBounds 15 true) (fun j => if j = 15 then .slice a (p ++ [y] ++ q).length c else x j) w2 := by
  have hrow := h.r11 h11 hn
  have hb := below_grown h.bw hrow hg h.bw.size
  have hbb : Below W.heap.size w' w2 := below_grown (Below.refl _ _) hrow hg h.bw.size
  have h4 := (h.c11 h11).1
  exact InS.mk' 15 (by omega) hn h (fun j hj => if_neg hj) (fun e => absurd e (by decide)) hb hbb (fun _ e => absurd (.inr h4) e) (fun _ => h.k4 h4) (fun _ e => absurd (.inr h11) e) (fun _ e => absurd (.inr h11) e) (fun _ => h.k11 h11) (fun _ e => absurd (.inl rfl) e) (fun _ => ⟨⟨a, c, rfl⟩, hr⟩) (fun _ => .inr (h.c4 h4)) (fun _ => ⟨.inr h4, .inr (h.c11 h11).2⟩) (fun _ => .inr h11) (fun e => absurd e (by decide)) (fun e => absurd e (by decide))
theorem InS.s16 (h : InS W v y p q l x w') (hn : ¬ LL l 16) (hall : ∀ j, j < 16 → LL l j) (u : Value) (hu : u = x 15) : InS W v y p q (l.setIfInBounds 16 true) (fun j => if j = 16 then u else x j) w' := by
  have h11 := hall 11 (by omega)
  have h15 := hall 15 (by omega)
  exact InS.mk' 16 (by omega) hn h (fun j hj => if_neg hj) (fun e => absurd e (by decide)) h.bw ((Below.refl _ _).mono h.bw.size) (fun _ e => absurd (.inr (hall 4 (by omega))) e) (fun _ => h.k4 (hall 4 (by omega))) (fun _ e => absurd (.inr h11) e) (fun _ e => absurd (.inr h11) e) (fun _ => h.k11 h11) (fun _ e => absurd (.inr h15) e) (fun _ => h.r15 h15) (fun _ => .inr (hall 0 (by omega))) (fun _ => ⟨.inr (hall 4 (by omega)), .inr (hall 10 (by omega))⟩) (fun _ => .inr h11) (fun _ => hall) (fun _ => by simpa using hu)
end
end Go.Proofs.YtpbnmhnbkfnaeaaGreatDoor
/- The specification's TabSort: one by one, each behind those that are not greater. -/
namespace Go.Proofs.YtpbnmhnbkfnaeaaGreatDoor
open Go.RowKit Nt

theorem far_box {w : World} {g b i : Nat} {T : TypeId} {z : Int} {a1 a2 : Option Addr} {n1 c1 n2 c2 : Nat} (hA : AtC2 w g (.slice a1 n1 c1) (.slice a2 n2 c2) T) (h : w.cell? ⟨b, i, none⟩ = some (.int .i64 z)) : b ≠ g := by
  rintro rfl
  unfold AtC2 at hA
  unfold World.cell? at h
  simp only [hA] at h
  match i, h with
  | 0, h => simp at h
  | 1, h => simp at h
  | i + 2, h => simp at h
theorem IntsAt.box {w : World} {g : Nat} {v : Value} {T : TypeId} {xs : List Int} {a1 a2 : Option Addr} {n1 c1 n2 c2 : Nat} (h : IntsAt w v xs) (hA : AtC2 w g (.slice a1 n1 c1) (.slice a2 n2 c2) T) (i : Nat) (u : Value) : IntsAt (w.setCell ⟨g, i, none⟩ u) v xs := by
  obtain ⟨a, cap, rfl, h1, h2, h3⟩ := h
  refine ⟨a, cap, rfl, h1, h2, fun h0 => ?_⟩
  obtain ⟨b, off, rfl, hb, hc⟩ := h3 h0
  refine ⟨b, off, rfl, by simpa using hb, fun j x hx => ?_⟩
  have hne := far_box hA (hc j x hx)
  rw [World.cell?_setCell_far _ _ _ _ (Ne.symm hne)]
  exact hc j x hx
theorem NodesAt.box {w : World} {g : Nat} {v : Value} {T : TypeId} {ns : List Nd} {a1 a2 : Option Addr} {n1 c1 n2 c2 : Nat} (h : NodesAt w v ns) (hA : AtC2 w g (.slice a1 n1 c1) (.slice a2 n2 c2) T) (i : Nat) (u : Value) : NodesAt (w.setCell ⟨g, i, none⟩ u) v ns := by
  obtain ⟨a, cap, rfl, h1, h2, h3⟩ := h
  refine ⟨a, cap, rfl, h1, h2, fun h0 => ?_⟩
  obtain ⟨b, off, rfl, hb, hc⟩ := h3 h0
  refine ⟨b, off, rfl, by simpa using hb, fun j nd hx => ?_⟩
  obtain ⟨k0, k1, hl, kv, k2, hk⟩ := hc j nd hx
  have hne := far_box hA k0
  refine ⟨?_, ?_, hl, kv, ?_, hk.box hA i u⟩
  · rw [World.cell?_setCell_far _ _ _ _ (Ne.symm hne)]; exact k0
  · rw [World.cell?_setCell_far _ _ _ _ (Ne.symm hne)]; exact k1
  · rw [World.cell?_setCell_far _ _ _ _ (Ne.symm hne)]; exact k2
theorem srt_in {r : Int → Int → Int} (hp : Pre r) {rs m : List Int} {k i : Nat} {z : Int} (hm : m = srt r (rs.take k)) (hz : m[i]? = some z) : z ∈ rs :=
  List.mem_of_mem_take ((srt_mem hp _ _).1 (by rw [← hm]; exact List.mem_of_getElem? hz))
theorem insAt {r : Int → Int → Int} (hp : Pre r) {rs m : List Int} {k j : Nat} {x : Int} (hx : rs[k]? = some x) (hm : m = srt r (rs.take k)) (hj : j ≤ m.length)
    (h1 : ∀ (t : Nat) (z : Int), m[t]? = some z → j ≤ t → 0 < r z x) (h2 : ∀ z, m[j - 1]? = some z → 0 < j → r z x ≤ 0) : srt r (rs.take (k + 1)) = m.take j ++ [x] ++ m.drop j := by
  rw [List.take_add_one, hx]
  show srt r (rs.take k ++ [x]) = _
  rw [srt_snoc, ← hm]
  exact insF_at hp (by rw [hm]; exact srt_sorted hp _) hj h1 h2
theorem ints_cell1 {w : World} {g : Nat} {x : Int} (h : w.cell? ⟨g, 0, none⟩ = some (.int .i64 x)) (hg : g < w.heap.size) : IntsAt w (.slice (some ⟨g, 0, none⟩) 1 1) [x] := by
  refine ⟨_, 1, rfl, Nat.le_refl _, by unfold maxLen; omega, fun _ => ⟨g, 0, rfl, hg, fun j y hj => ?_⟩⟩
  match j, hj with
  | 0, hj =>
    simp at hj
    subst hj
    exact h
set_option maxRecDepth 100000 in
set_option maxHeartbeats 8000000 in
theorem specTabSort_c (d : Dt) (u : Value) (w : World) (h : DataAt w u d) (hs : d.1.length ≤ 1048576 ∧ d.2.length ≤ 1048576 ∧ NsSmall d.1) :
    Calls Tryz.prog 17 #[u] w fun e W' => (∃ mn mr, e = .returned (.agg #[mn, mr]) ∧ DataAt W' (.agg #[mn, mr]) (sortM d)) ∧ Below w.heap.size w W' := by
  obtain ⟨ns, rs⟩ := d
  have HD := hide h
  obtain ⟨nv, rv, rfl, hn, hr⟩ := h
  simp only at hn hr hs
  have HN := hide hn
  have HR := hide hr
  obtain ⟨an, cn, rfl, hn1, hn2⟩ := hn.form0
  obtain ⟨ar, cr, rfl, hr1, hr2⟩ := hr.form
  unfold maxLen at hn2 hr2
  have HS := hide hs
  have HB := hide (step_a (step_a (Below.refl w.heap.size w) (.cells #[.slice an ns.length cn, .slice ar rs.length cr] 26)) (.cells #[.slice none 0 0, .slice none 0 0] 26))
  have HP := hide ((AtC2.new w (.slice an ns.length cn) (.slice ar rs.length cr) 26).alloc (.cells #[.slice none 0 0, .slice none 0 0] 26))
  have HQ := hide (AtC2.new (w.alloc (.cells #[.slice an ns.length cn, .slice ar rs.length cr] 26)) (.slice none 0 0) (.slice none 0 0) 26)
  rw [World.size_alloc] at HQ
  obtain ⟨M, hM⟩ : ∃ M, sortM (ns, rs) = M := ⟨_, rfl⟩
  rw [hM]
  have HM := hide hM
  clear hn hr hs hM
  go_enter Tryz.func17, Tryz.ntmps17
  go_wp2_with fail
  obtain ⟨W, hW⟩ : ∃ W, (w.alloc (.cells #[.slice an ns.length cn, .slice ar rs.length cr] 26)).alloc (.cells #[.slice none 0 0, .slice none 0 0] 26) = W := ⟨_, rfl⟩
  rw [hW] at HB HP HQ ⊢
  clear hW
  have p0 := (unhide HP).n0
  have p1 := (unhide HP).n1
  go_wp2_with fail
  have h := specReadOk_c (ns, rs) _ W ((unhide HD).below (unhide HB)) (unhide HS)
  refine h.mono ?_
  clear h
  rintro e' W1 ⟨rfl, hb1⟩
  have HB1 := hide (step_b (unhide HB) hb1)
  have HP1 := hide ((unhide HP).below hb1)
  have HQ1 := hide ((unhide HQ).below hb1)
  clear hb1 HB HP HQ p0 p1
  rcases Bool.eq_false_or_eq_true (okD (ns, rs)) with ho | ho
  · rw [ho]
    obtain ⟨l1, l2, k1, j1⟩ := ok_parts_d ho
    obtain ⟨r, hpre, hsr, hro⟩ := ord_of k1 j1
    obtain rfl : M = (ns, srt r rs) := by rw [← unhide HM, sort_yes ho, hsr]
    have HK := hide (And.intro k1 j1)
    have HO := hide (And.intro hpre hro)
    have p0 := (unhide HP1).n0
    have p1 := (unhide HP1).n1
    clear ho k1 j1 hpre hsr hro HM
    go_wp2_with fail
    have h := l12Copy_c (ns, rs) _ W1 ((unhide HD).below (unhide HB1)) ⟨by simp only; omega, by simp only; omega, (unhide HS).2.2⟩
    refine h.mono ?_
    clear h
    rintro e' W3 ⟨⟨ma, mc, rb, rc, rfl, hcp⟩, hb3⟩
    simp only at hcp
    have HCP := hide hcp
    have HB3 := hide (step_b (unhide HB1) hb3)
    have HP3 := hide ((unhide HP1).below hb3)
    have HQ3 := hide ((unhide HQ1).below hb3)
    clear hcp hb3 p0 p1 HB1 HP1 HQ1
    go_wp2_with fail
    have h5 := step_a (step_a (Below.refl W3.heap.size W3) (.cells #[.slice ma ns.length mc, .slice rb rs.length rc] 26)) (.cells #[] 3)
    have HB5 := hide (step_b (unhide HB3) h5)
    have HP5 := hide ((unhide HP3).below h5)
    have HQ5 := hide ((unhide HQ3).below h5)
    have HC5 := hide ((unhide HCP).below h5)
    have HT5 := hide ((AtC2.new W3 (.slice ma ns.length mc) (.slice rb rs.length rc) 26).alloc (.cells #[] 3))
    have hI := owns_ints (rowI_made (W3.alloc (.cells #[.slice ma ns.length mc, .slice rb rs.length rc] 26)))
    rw [World.size_alloc] at hI
    have HI5 := hide hI
    have hwl : w.heap.size + 1 < W3.heap.size := (unhide HQ3).lt
    have hs5 : ((W3.alloc (.cells #[.slice ma ns.length mc, .slice rb rs.length rc] 26)).alloc (.cells #[] 3)).heap.size = W3.heap.size + 1 + 1 := by simp
    obtain ⟨W5, hW5⟩ : ∃ W5, (W3.alloc (.cells #[.slice ma ns.length mc, .slice rb rs.length rc] 26)).alloc (.cells #[] 3) = W5 := ⟨_, rfl⟩
    rw [hW5] at HB5 HP5 HQ5 HC5 HT5 HI5 hs5 ⊢
    clear h5 hI hW5 HB3 HP3 HQ3 HCP
    go_loopw [4, 5] (fun o i wr => ∃ (k : Nat) (m : List Int) (ob oo oc : Nat), k ≤ rs.length ∧ i = .int .i64 k ∧ o = .slice (some ⟨ob, oo, none⟩) m.length oc ∧ Hid (IntsAt wr (.slice (some ⟨ob, oo, none⟩) m.length oc) m) ∧ Hid (m = srt r (rs.take k)) ∧ Below W5.heap.size W5 wr)
      (fun _ i _ => rs.length - (intOf i).toNat)
    case atStart => exact ⟨0, [], _, _, _, by omega, rfl, rfl, HI5, hide rfl, Below.refl _ _⟩
    case round =>
      clear HI5
      obtain ⟨k, m, ob, oo, oc, hk, rfl, rfl, HIm, HMm, hbl⟩ := hrel
      have hml : m.length = k := by rw [unhide HMm, srt_len, List.length_take]; omega
      have hml12 : m.length ≤ 12 := by omega
      have HML := hide hml
      clear hml
      obtain ⟨a', c', e, hoc1, hoc2⟩ := (unhide HIm).form
      injection e with e1 _ e3
      subst e1 e3
      unfold maxLen at hoc2
      have HPW := hide ((unhide HP5).below hbl)
      have p0 := (unhide HPW).n0
      have p1 := (unhide HPW).n1
      have HBL := hide hbl
      by_cases hlt : k < rs.length
      · obtain ⟨x, hx⟩ : ∃ x, rs[k]? = some x := ⟨_, List.getElem?_eq_getElem hlt⟩
        have hrW := ((unhide HR).below (unhide HB5)).below hbl
        obtain ⟨ab, ao, rfl, _, u0⟩ := hrW.cell hx
        obtain ⟨W6, hW6⟩ : ∃ W6, W6 = wr := ⟨_, rfl⟩
        subst hW6
        have HU := hide u0
        clear hrW hbl u0
        go_wp2_with fail
        go_loopw [6] (fun q wr => ∃ j : Nat, j ≤ m.length ∧ q = .int .i64 j ∧ Below W6.heap.size W6 wr ∧ Hid (∀ (i : Nat) (y : Int), m[i]? = some y → j ≤ i → 0 < cmpAt ns ns y x))
          (fun q _ => (intOf q).toNat)
        case atStart => exact ⟨m.length, Nat.le_refl _, rfl, Below.refl _ _, hide (fun i y hi hj => by have := (List.getElem?_eq_some_iff.1 hi).1; omega)⟩
        case round =>
          obtain ⟨j, hj, rfl, hb6, HJ⟩ := hrel
          have HPX := hide ((unhide HPW).below hb6)
          have p0 := (unhide HPX).n0
          have p1 := (unhide HPX).n1
          have u0 := cell_below hb6 (unhide HU)
          by_cases hj0 : j = 0
          · have k0 : decide (0 < j) = false := decide_eq_false (by omega)
            have HJZ := hide hj0
            clear hj0
            go_wp2_with fail
            go_region
            go_wp2_with fail
            have HIW := hide (((unhide HIm).below hb6).below (Below.refl wr.heap.size wr).drew)
            have HALL2 := hide (And.intro (show wr.drew.cell? ⟨w.heap.size, 1, none⟩ = some (.slice (some ⟨ab, ao, none⟩) rs.length cr) from p1) (show wr.drew.cell? ⟨ab, ao + k, none⟩ = some (.int .i64 x) from u0))
            have HBW := hide hb6.drew
            have HINS : Hid (srt r (rs.take (k + 1)) = m.take j ++ [x] ++ m.drop j) := hide (insAt (unhide HO).1 hx (unhide HMm) hj (fun t z hz ht => by
              rw [(unhide HO).2 z (srt_in (unhide HO).1 (unhide HMm) hz) x (List.mem_of_getElem? hx)]
              exact unhide HJ t z hz ht) (fun z _ h0 => absurd h0 (by rw [unhide HJZ]; omega)))
            clear p0 p1 u0
            -- wr.drew the world; .int .i64 ↑j, .bool false, .bool false, undef, undef, undef, undef, undef, undef, undef, undef, undef, undef, undef, undef, undef, undef, undef, undef, .bool false, u43, u44 the slots 23 to 44
            have HPX1 := hide (IntsAt.take (k := j) (unhide HIW) (by omega))
            obtain ⟨p, hp⟩ : ∃ p, m.take j = p := ⟨_, rfl⟩
            obtain ⟨q, hq⟩ : ∃ q, m.drop j = q := ⟨_, rfl⟩
            have hpl : p.length = j := by rw [← hp, List.length_take]; omega
            have hql : q.length = m.length - j := by rw [← hq, List.length_drop]
            obtain ⟨qa, hqa, hqI⟩ : ∃ qa : Option Addr, (qa = if oc = j then some ⟨ob, oo, none⟩ else some ⟨ob, oo + j, none⟩) ∧ IntsAt wr.drew (.slice qa (m.length - j) (oc - j)) q := by
              refine ⟨_, rfl, ?_⟩
              by_cases cj : oc = j
              · rw [if_pos cj]
                have : q = [] := List.length_eq_zero_iff.1 (by omega)
                subst this
                exact ⟨_, oc - j, by rw [show m.length - j = 0 by omega]; rfl, by simp, by unfold maxLen; omega, fun h => absurd h (by simp)⟩
              · rw [if_neg cj]
                have := (unhide HIW).drop (k := j) (by omega) rfl
                rw [hq] at this
                have e : (⟨ob, oo, none⟩ : Addr).add j = ⟨ob, oo + j, none⟩ := by unfold Addr.add; split <;> simp_all
                rwa [e] at this
            have HQ1 := hide hqI
            rw [hp] at HPX1
            have HNS : Hid (srt r (rs.take (k + 1)) = p ++ [x] ++ q) := hide (by rw [← hp, ← hq]; exact unhide HINS)
            have HQA := hide hqa
            have hjm : (j : Int) ≤ (m.length : Int) := by omega
            have hjo : (j : Int) ≤ (oc : Int) := by omega
            have hj00 : (0 : Int) ≤ (j : Int) := by omega
            have hki : (k : Int) < (rs.length : Int) := by omega
            clear hp hq hqI hqa
            have HPL := hide hpl
            have HQL := hide hql
            have hpq : p.length + q.length ≤ 12 := by omega
            clear hpl hql
            obtain ⟨v, hv⟩ : ∃ v : Nat → Value, v = fun t => match t with
              | 1 => .slice (some ⟨ob, oo, none⟩) m.length oc
              | 2 => .int .i64 (j : Int)
              | 3 => .slice (some ⟨ob, oo, none⟩) j oc
              | 5 => .pointer (some ⟨w.heap.size, 1, none⟩)
              | 6 => .slice (some ⟨ab, ao, none⟩) rs.length cr
              | 7 => .int .i64 (k : Int)
              | 8 => .pointer (some ⟨ab, ao + k, none⟩)
              | 9 => .int .i64 x
              | 12 => .slice (some ⟨ob, oo, none⟩) m.length oc
              | 13 => .int .i64 (j : Int)
              | 14 => .slice qa (m.length - j) (oc - j)
              | 16 => .slice (some ⟨ob, oo, none⟩) m.length oc
              | _ => undef := ⟨_, rfl⟩
            have v1 : v 1 = .slice (some ⟨ob, oo, none⟩) m.length oc := by subst hv; rfl
            have v2 : v 2 = .int .i64 (j : Int) := by subst hv; rfl
            have v3 : v 3 = .slice (some ⟨ob, oo, none⟩) j oc := by subst hv; rfl
            have v5 : v 5 = .pointer (some ⟨w.heap.size, 1, none⟩) := by subst hv; rfl
            have v6 : v 6 = .slice (some ⟨ab, ao, none⟩) rs.length cr := by subst hv; rfl
            have v7 : v 7 = .int .i64 (k : Int) := by subst hv; rfl
            have v8 : v 8 = .pointer (some ⟨ab, ao + k, none⟩) := by subst hv; rfl
            have v9 : v 9 = .int .i64 x := by subst hv; rfl
            have v12 : v 12 = .slice (some ⟨ob, oo, none⟩) m.length oc := by subst hv; rfl
            have v13 : v 13 = .int .i64 (j : Int) := by subst hv; rfl
            have v14 : v 14 = .slice qa (m.length - j) (oc - j) := by subst hv; rfl
            have v16 : v 16 = .slice (some ⟨ob, oo, none⟩) m.length oc := by subst hv; rfl
            clear hv
            refine wp_region_any (by kernel_rfl) ?_
            change wpAny _ _ _ _ _ _ _ (World.drew _)
            refine wpAny_inv (fun l a' w' => ∃ (z f : Nat → Value), a' = ⟨#[.agg #[.slice an ns.length cn, .slice (some ⟨ab, ao, none⟩) rs.length cr], .pointer (some ⟨w.heap.size, 0, none⟩), .pointer (some ⟨w.heap.size + 1, 0, none⟩), .pointer (some ⟨W3.heap.size, 0, none⟩), f 16, .int .i64 ↑k, .int .i64 ↑j, .agg #[.slice an ns.length cn, .slice (some ⟨ab, ao, none⟩) rs.length cr], .bool true, .bool false, undef, .agg #[.slice an ns.length cn, .slice (some ⟨ab, ao, none⟩) rs.length cr], .agg #[.slice ma ns.length mc, .slice rb rs.length rc], .slice (some ⟨W3.heap.size + 1, 0, none⟩) 0 0, .int .i64 ↑k, .pointer (some ⟨w.heap.size, 1, none⟩), .slice (some ⟨ab, ao, none⟩) rs.length cr, .int .i64 ↑rs.length, .bool true, u19, u20, .slice (some ⟨ob, oo, none⟩) m.length oc, .int .i64 ↑m.length, z 0, z 1, z 2, z 3, z 4, z 5, z 6, z 7, z 8, z 9, z 10, z 11, z 12, z 13, z 14, z 15, z 16, z 17, z 18, z 19, z 20, z 21, f 0, f 1, f 2, f 3, f 4, f 5, f 6, f 7, f 8, f 9, f 10, f 11, f 12, f 13, f 14, f 15, undef, undef, undef], []⟩ ∧ InS wr.drew v x p q l f w') ?hsz ?hend ?hstep ?hgo _ _ _ _ ?h0 ?hc
            case hsz =>
              rintro l a' w' ⟨z, f, _, h⟩
              exact h.sz
            case h0 => exact ⟨fun t => [.int .i64 ↑j, .bool false, .bool false, undef, undef, undef, undef, undef, undef, undef, undef, undef, undef, undef, undef, undef, undef, undef, undef, .bool false, u43, u44].getD t undef, fun t => [u45, u46, u47, u48, u49, u50, u51, u52, u53, u54, u55, u56, u57, u58, u59, u60, .slice (some ⟨ob, oo, none⟩) m.length oc].getD t undef, rfl, InS.start rfl (Below.refl _ _).drew v16.symm⟩
            case hc => exact Nat.le_of_eq rfl
            case hgo =>
              rintro l a' w' ⟨z, f, rfl, h⟩ hr t ht
              have k0 : l[0]? = some true := LL_ready hr 0 (by simp) (by rw [h.sz]; rfl) (by simp [Region.binds, Array.getD_eq_getD_getElem?])
              have k1 : l[1]? = some true := LL_ready hr 1 (by simp) (by rw [h.sz]; rfl) (by simp [Region.binds, Array.getD_eq_getD_getElem?])
              have k2 : l[2]? = some true := LL_ready hr 2 (by simp) (by rw [h.sz]; rfl) (by simp [Region.binds, Array.getD_eq_getD_getElem?])
              have k3 : l[3]? = some true := LL_ready hr 3 (by simp) (by rw [h.sz]; rfl) (by simp [Region.binds, Array.getD_eq_getD_getElem?, k1, k2])
              have k4 : l[4]? = some true := LL_ready hr 4 (by simp) (by rw [h.sz]; rfl) (by simp [Region.binds, Array.getD_eq_getD_getElem?, k0, k3])
              have k5 : l[5]? = some true := LL_ready hr 5 (by simp) (by rw [h.sz]; rfl) (by simp [Region.binds, Array.getD_eq_getD_getElem?])
              have k6 : l[6]? = some true := LL_ready hr 6 (by simp) (by rw [h.sz]; rfl) (by simp [Region.binds, Array.getD_eq_getD_getElem?, k5])
              have k7 : l[7]? = some true := LL_ready hr 7 (by simp) (by rw [h.sz]; rfl) (by simp [Region.binds, Array.getD_eq_getD_getElem?])
              have k8 : l[8]? = some true := LL_ready hr 8 (by simp) (by rw [h.sz]; rfl) (by simp [Region.binds, Array.getD_eq_getD_getElem?, k6, k7])
              have k9 : l[9]? = some true := LL_ready hr 9 (by simp) (by rw [h.sz]; rfl) (by simp [Region.binds, Array.getD_eq_getD_getElem?, k8])
              have k10 : l[10]? = some true := LL_ready hr 10 (by simp) (by rw [h.sz]; rfl) (by simp [Region.binds, Array.getD_eq_getD_getElem?, k9])
              have k11 : l[11]? = some true := LL_ready hr 11 (by simp) (by rw [h.sz]; rfl) (by simp [Region.binds, Array.getD_eq_getD_getElem?, k4, k10])
              have k12 : l[12]? = some true := LL_ready hr 12 (by simp) (by rw [h.sz]; rfl) (by simp [Region.binds, Array.getD_eq_getD_getElem?])
              have k13 : l[13]? = some true := LL_ready hr 13 (by simp) (by rw [h.sz]; rfl) (by simp [Region.binds, Array.getD_eq_getD_getElem?])
              have k14 : l[14]? = some true := LL_ready hr 14 (by simp) (by rw [h.sz]; rfl) (by simp [Region.binds, Array.getD_eq_getD_getElem?, k12, k13])
              have k15 : l[15]? = some true := LL_ready hr 15 (by simp) (by rw [h.sz]; rfl) (by simp [Region.binds, Array.getD_eq_getD_getElem?, k11, k14])
              have k16 : l[16]? = some true := LL_ready hr 16 (by simp) (by rw [h.sz]; rfl) (by simp [Region.binds, Array.getD_eq_getD_getElem?, k0, k1, k2, k3, k4, k5, k6, k7, k8, k9, k10, k11, k12, k13, k14, k15])
              have ht : t < 17 := by simpa using ht
              rcases (by omega : t = 0 ∨ t = 1 ∨ t = 2 ∨ t = 3 ∨ t = 4 ∨ t = 5 ∨ t = 6 ∨ t = 7 ∨ t = 8 ∨ t = 9 ∨ t = 10 ∨ t = 11 ∨ t = 12 ∨ t = 13 ∨ t = 14 ∨ t = 15 ∨ t = 16) with rfl | rfl | rfl | rfl | rfl | rfl | rfl | rfl | rfl | rfl | rfl | rfl | rfl | rfl | rfl | rfl | rfl
              all_goals assumption
            case hstep =>
              rintro l a' w' t ⟨z, f, rfl, h⟩ hi
              have hi2 := hi
              unfold Region.ready at hi2
              rw [List.mem_filter] at hi2
              obtain ⟨hjj, hi3⟩ := hi2
              have hjj : t < 17 := by simpa using hjj
              have hjl : ¬ LL l t := fun e => by
                unfold LL at e
                simp [Array.getD_eq_getD_getElem?, e] at hi3
              clear hi
              rcases (by omega : t = 0 ∨ t = 1 ∨ t = 2 ∨ t = 3 ∨ t = 4 ∨ t = 5 ∨ t = 6 ∨ t = 7 ∨ t = 8 ∨ t = 9 ∨ t = 10 ∨ t = 11 ∨ t = 12 ∨ t = 13 ∨ t = 14 ∨ t = 15 ∨ t = 16) with rfl | rfl | rfl | rfl | rfl | rfl | rfl | rfl | rfl | rfl | rfl | rfl | rfl | rfl | rfl | rfl | rfl
              · clear hi3
                refine wpOp_step rfl (fun K hK => ?_)
                go_simp
                exact hK _ _ ⟨z, _, by simp, h.s0 hjl⟩
              · clear hi3
                have n16 : ¬ LL l 16 := fun e => hjl (h.c16 e 1 (by omega))
                have w16 := (h.o16 n16).trans v16
                refine wpOp_step rfl (fun K hK => ?_)
                go_simp
                exact hK _ _ ⟨z, _, by simp [w16, v1], h.read 1 rfl (by omega) hjl (v 1) rfl⟩
              · clear hi3
                refine wpOp_step rfl (fun K hK => ?_)
                go_simp
                exact hK _ _ ⟨z, _, by simp [v2], h.read 2 rfl (by omega) hjl (v 2) rfl⟩
              · have l1 : LL l 1 := LL_of (by simp [Region.binds, Array.getD_eq_getD_getElem?] at hi3; simp [hi3])
                have l2 : LL l 2 := LL_of (by simp [Region.binds, Array.getD_eq_getD_getElem?] at hi3; simp [hi3])
                clear hi3
                have w1 := (h.val 1 rfl l1).trans v1
                have w2 := (h.val 2 rfl l2).trans v2
                refine wpOp_step rfl (fun K hK => ?_)
                go_simp
                exact hK _ _ ⟨z, _, by simp [w1, w2, v3], h.read 3 rfl (by omega) hjl (v 3) rfl⟩
              · have l0 : LL l 0 := LL_of (by simp [Region.binds, Array.getD_eq_getD_getElem?] at hi3; simp [hi3])
                have l3 : LL l 3 := LL_of (by simp [Region.binds, Array.getD_eq_getD_getElem?] at hi3; simp [hi3])
                clear hi3
                have w3 := (h.val 3 rfl l3).trans v3
                obtain ⟨⟨g, e0⟩, hk0⟩ := h.k0 l0 hjl
                rw [e0] at hk0
                refine wpOp_step rfl (fun K hK => ?_)
                refine step_append_ints rfl _ _ rfl (wr.drew).heap.size (.slice (some ⟨g, 0, none⟩) 0 0) (.slice (some ⟨ob, oo, none⟩) j oc) [] p (by exact e0) (by exact w3) hk0 ((unhide HPX1).below h.bw) (by simp only [List.length_nil]; omega) h.bw.size (some 49) rfl ?_
                intro v6 w6 hr6 hg6 hat
                obtain ⟨ra', rc', rfl⟩ := own_form' hr6
                exact hK _ _ ⟨z, _, by simp [Act.put, e0, w3], h.s4 hjl l0 hr6 (by rw [e0]; exact hg6) (by rw [e0]; exact hat)⟩
              · clear hi3
                refine wpOp_step rfl (fun K hK => ?_)
                go_simp
                exact hK _ _ ⟨z, _, by simp [v5], h.read 5 rfl (by omega) hjl (v 5) rfl⟩
              · have l5 : LL l 5 := LL_of (by simp [Region.binds, Array.getD_eq_getD_getElem?] at hi3; simp [hi3])
                clear hi3
                obtain ⟨q1, u1⟩ := unhide HALL2
                have q1 := cell_below_' h.bw q1
                have u1 := cell_below_' h.bw u1
                have w5 := (h.val 5 rfl l5).trans v5
                refine wpOp_step rfl (fun K hK => ?_)
                go_simp
                exact hK _ _ ⟨z, _, by simp [w5, v6], h.read 6 rfl (by omega) hjl (v 6) rfl⟩
              · clear hi3
                refine wpOp_step rfl (fun K hK => ?_)
                go_simp
                exact hK _ _ ⟨z, _, by simp [v7], h.read 7 rfl (by omega) hjl (v 7) rfl⟩
              · have l6 : LL l 6 := LL_of (by simp [Region.binds, Array.getD_eq_getD_getElem?] at hi3; simp [hi3])
                have l7 : LL l 7 := LL_of (by simp [Region.binds, Array.getD_eq_getD_getElem?] at hi3; simp [hi3])
                clear hi3
                have w6 := (h.val 6 rfl l6).trans v6
                have w7 := (h.val 7 rfl l7).trans v7
                refine wpOp_step rfl (fun K hK => ?_)
                go_simp
                exact hK _ _ ⟨z, _, by simp [w6, w7, v8], h.read 8 rfl (by omega) hjl (v 8) rfl⟩
              · have l8 : LL l 8 := LL_of (by simp [Region.binds, Array.getD_eq_getD_getElem?] at hi3; simp [hi3])
                clear hi3
                obtain ⟨q1, u1⟩ := unhide HALL2
                have q1 := cell_below_' h.bw q1
                have u1 := cell_below_' h.bw u1
                have w8 := (h.val 8 rfl l8).trans v8
                refine wpOp_step rfl (fun K hK => ?_)
                go_simp
                exact hK _ _ ⟨z, _, by simp [w8, v9], h.read 9 rfl (by omega) hjl (v 9) rfl⟩
              · have l9 : LL l 9 := LL_of (by simp [Region.binds, Array.getD_eq_getD_getElem?] at hi3; simp [hi3])
                clear hi3
                have w9 := (h.val 9 rfl l9).trans v9
                have HSS := hide (h.s10 hjl)
                refine wpOp_step rfl (fun K hK => ?_)
                go_simp
                exact hK _ _ ⟨z, _, by simp [w9], unhide HSS⟩
              · have l4 : LL l 4 := LL_of (by simp [Region.binds, Array.getD_eq_getD_getElem?] at hi3; simp [hi3])
                have l10 : LL l 10 := LL_of (by simp [Region.binds, Array.getD_eq_getD_getElem?] at hi3; simp [hi3])
                clear hi3
                obtain ⟨ra, rc', e4⟩ := h.k4 l4
                have hr4 := h.r4 l4 hjl
                obtain ⟨g, e10, hc10, hg10, _, _⟩ := h.n10 l10 hjl
                rw [e4] at hr4
                refine wpOp_step rfl (fun K hK => ?_)
                refine step_append_ints rfl _ _ rfl (wr.drew).heap.size (.slice ra p.length rc') (.slice (some ⟨g, 0, none⟩) 1 1) p [x] (by exact e4) (by exact e10) hr4 (ints_cell1 hc10 hg10) (by simp only [List.length_cons, List.length_nil]; omega) h.bw.size (some 56) rfl ?_
                intro v6 w6 hr6 hg6 _
                obtain ⟨sa, sc, rfl⟩ := own_form' hr6
                have hr6' := rowI_snoc hr6
                exact hK _ _ ⟨z, _, by simp [Act.put, e4, e10], h.s11 hjl l4 l10 hr6' (by rw [e4]; exact hg6)⟩
              · clear hi3
                have n16 : ¬ LL l 16 := fun e => hjl (h.c16 e 12 (by omega))
                have w16 := (h.o16 n16).trans v16
                refine wpOp_step rfl (fun K hK => ?_)
                go_simp
                exact hK _ _ ⟨z, _, by simp [w16, v12], h.read 12 rfl (by omega) hjl (v 12) rfl⟩
              · clear hi3
                refine wpOp_step rfl (fun K hK => ?_)
                go_simp
                exact hK _ _ ⟨z, _, by simp [v13], h.read 13 rfl (by omega) hjl (v 13) rfl⟩
              · have l12 : LL l 12 := LL_of (by simp [Region.binds, Array.getD_eq_getD_getElem?] at hi3; simp [hi3])
                have l13 : LL l 13 := LL_of (by simp [Region.binds, Array.getD_eq_getD_getElem?] at hi3; simp [hi3])
                clear hi3
                have w12 := (h.val 12 rfl l12).trans v12
                have w13 := (h.val 13 rfl l13).trans v13
                refine wpOp_step rfl (fun K hK => ?_)
                by_cases cj : oc = j
                · have hqa : qa = some ⟨ob, oo, none⟩ := by rw [unhide HQA, if_pos cj]
                  subst cj
                  go_simp
                  exact hK _ _ ⟨z, _, (by simp [w12, w13, v14, hqa]; try omega), h.read 14 rfl (by omega) hjl (v 14) rfl⟩
                · have hqa : qa = some ⟨ob, oo + j, none⟩ := by rw [unhide HQA, if_neg cj]
                  go_simp
                  exact hK _ _ ⟨z, _, by simp [w12, w13, v14, hqa], h.read 14 rfl (by omega) hjl (v 14) rfl⟩
              · have l11 : LL l 11 := LL_of (by simp [Region.binds, Array.getD_eq_getD_getElem?] at hi3; simp [hi3])
                have l14 : LL l 14 := LL_of (by simp [Region.binds, Array.getD_eq_getD_getElem?] at hi3; simp [hi3])
                clear hi3
                have w14 := (h.val 14 rfl l14).trans v14
                obtain ⟨ra, rc', e11⟩ := h.k11 l11
                have hr11 := h.r11 l11 hjl
                rw [e11] at hr11
                refine wpOp_step rfl (fun K hK => ?_)
                refine step_append_ints rfl _ _ rfl (wr.drew).heap.size (.slice ra (p.length + 1) rc') (.slice qa (m.length - j) (oc - j)) (p ++ [x]) q (by exact e11) (by exact w14) hr11 ((unhide HQ1).below h.bw) (by simp only [List.length_append, List.length_cons, List.length_nil]; omega) h.bw.size (some 60) rfl ?_
                intro v6 w6 hr6 hg6 _
                obtain ⟨sa, sc, rfl⟩ := own_form' hr6
                exact hK _ _ ⟨z, _, by simp [Act.put, e11, w14], h.s15 hjl l11 hr6 (by rw [e11]; exact hg6)⟩
              · have l0 : LL l 0 := LL_of (by simp [Region.binds, Array.getD_eq_getD_getElem?] at hi3; simp [hi3])
                have l1 : LL l 1 := LL_of (by simp [Region.binds, Array.getD_eq_getD_getElem?] at hi3; simp [hi3])
                have l2 : LL l 2 := LL_of (by simp [Region.binds, Array.getD_eq_getD_getElem?] at hi3; simp [hi3])
                have l3 : LL l 3 := LL_of (by simp [Region.binds, Array.getD_eq_getD_getElem?] at hi3; simp [hi3])
                have l4 : LL l 4 := LL_of (by simp [Region.binds, Array.getD_eq_getD_getElem?] at hi3; simp [hi3])
                have l5 : LL l 5 := LL_of (by simp [Region.binds, Array.getD_eq_getD_getElem?] at hi3; simp [hi3])
                have l6 : LL l 6 := LL_of (by simp [Region.binds, Array.getD_eq_getD_getElem?] at hi3; simp [hi3])
                have l7 : LL l 7 := LL_of (by simp [Region.binds, Array.getD_eq_getD_getElem?] at hi3; simp [hi3])
                have l8 : LL l 8 := LL_of (by simp [Region.binds, Array.getD_eq_getD_getElem?] at hi3; simp [hi3])
                have l9 : LL l 9 := LL_of (by simp [Region.binds, Array.getD_eq_getD_getElem?] at hi3; simp [hi3])
                have l10 : LL l 10 := LL_of (by simp [Region.binds, Array.getD_eq_getD_getElem?] at hi3; simp [hi3])
                have l11 : LL l 11 := LL_of (by simp [Region.binds, Array.getD_eq_getD_getElem?] at hi3; simp [hi3])
                have l12 : LL l 12 := LL_of (by simp [Region.binds, Array.getD_eq_getD_getElem?] at hi3; simp [hi3])
                have l13 : LL l 13 := LL_of (by simp [Region.binds, Array.getD_eq_getD_getElem?] at hi3; simp [hi3])
                have l14 : LL l 14 := LL_of (by simp [Region.binds, Array.getD_eq_getD_getElem?] at hi3; simp [hi3])
                have l15 : LL l 15 := LL_of (by simp [Region.binds, Array.getD_eq_getD_getElem?] at hi3; simp [hi3])
                clear hi3
                have hall : ∀ j, j < 16 → LL l j := fun t ht => by
                  rcases (by omega : t = 0 ∨ t = 1 ∨ t = 2 ∨ t = 3 ∨ t = 4 ∨ t = 5 ∨ t = 6 ∨ t = 7 ∨ t = 8 ∨ t = 9 ∨ t = 10 ∨ t = 11 ∨ t = 12 ∨ t = 13 ∨ t = 14 ∨ t = 15) with rfl | rfl | rfl | rfl | rfl | rfl | rfl | rfl | rfl | rfl | rfl | rfl | rfl | rfl | rfl | rfl
                  all_goals assumption
                have HSS := hide (h.s16 hjl hall (f 15) rfl)
                refine wpOp_step rfl (fun K hK => ?_)
                go_simp
                exact hK _ _ ⟨z, _, by simp, unhide HSS⟩
            case hend =>
              rintro l a' w' ⟨z, f, rfl, h⟩ hall
              have l16 : LL l 16 := hall 16 (by decide)
              have l15 : LL l 15 := hall 15 (by decide)
              have e16 := h.a16 l16
              obtain ⟨⟨ra, rc', e15⟩, hr15⟩ := h.r15 l15
              rw [e15] at e16 hr15
              have HRR15 := hide hr15
              have hbw' := h.bw
              clear h hall l16 l15 hr15
              obtain ⟨gb, go, rfl⟩ : ∃ gb go, ra = some ⟨gb, go, none⟩ := by
                obtain ⟨a, c, e, _, _, h3⟩ := owns_ints (unhide HRR15)
                injection e with e1 _ _
                obtain ⟨b, o, e2, _⟩ := h3 (by simp; omega)
                exact ⟨b, o, by rw [e1, e2]⟩
              have HI2 := hide (owns_ints (unhide HRR15))
              obtain ⟨L, hL⟩ : ∃ L, (p ++ [x] ++ q).length = L := ⟨_, rfl⟩
              have HLL := hide hL
              have HB2 := hide (step_b (step_b (unhide HBL) (unhide HBW)) hbw')
              rw [hL] at e16
              rw [e16]
              clear hL hbw' e16 e15
              go_wp2_with fail
              go_roundw
              case rel => exact ⟨k + 1, p ++ [x] ++ q, gb, go, rc', by omega, by go_num, by rw [unhide HLL], HI2, hide (unhide HNS).symm, unhide HB2⟩
              case measure => simp [intOf]; omega
          · obtain ⟨i, hij⟩ : ∃ i, j = i + 1 := ⟨j - 1, by omega⟩
            obtain ⟨y, hy⟩ : ∃ y, m[i]? = some y := ⟨_, List.getElem?_eq_getElem (by omega)⟩
            have hyr : y ∈ rs := List.mem_of_mem_take ((srt_mem (unhide HO).1 _ _).1 (by rw [← unhide HMm]; exact List.mem_of_getElem? hy))
            have hxr := List.mem_of_getElem? hx
            obtain ⟨b', o', e, _, v0⟩ := ((unhide HIm).below hb6).cell hy
            injection e with e
            injection e with e1 e2 _
            subst e1 e2
            have hw : wrap64 ((j : Int) - 1) = (i : Int) := by rw [hij]; unfold wrap64; omega
            have hw3 : IntKind.i64.wrap ((j : Int) - 1) = (i : Int) := by rw [wi64 _ (by omega) (by omega)]; omega
            have k0 : decide (0 < j) = true := decide_eq_true (by omega)
            have hi0 : (0 : Int) ≤ (i : Int) := by omega
            have hi1 : (i : Int) < (m.length : Int) := by omega
            have hi1n : i < m.length := by omega
            have HCM : Hid (∀ X, Below W6.heap.size W6 X → Calls Tryz.prog 33 #[.slice an ns.length cn, .int .i64 y, .slice an ns.length cn, .int .i64 x] X fun r W' => r = .returned (.int .i64 (cmpAt ns ns y x)) ∧ Below X.heap.size X W') := hide (fun X hX => by
              have hnX := (((unhide HN).below (unhide HB5)).below (unhide HBL)).below hX
              exact l21Cmp_c ns ns y x _ _ X hnX hnX (unhide HK).1 (unhide HK).1 ⟨(unhide HK).2 y hyr, (unhide HK).2 x hxr⟩ (unhide HS).2.2 (unhide HS).2.2 l1 l1)
            obtain ⟨R, hR⟩ : ∃ R, cmpAt ns ns y x = R := ⟨_, rfl⟩
            rw [hR] at HCM
            have HRR := hide hR
            have d0 : wr.drew.cell? ⟨w.heap.size, 0, none⟩ = some (.slice an ns.length cn) := p0
            have d1 : wr.drew.cell? ⟨w.heap.size, 1, none⟩ = some (.slice (some ⟨ab, ao, none⟩) rs.length cr) := p1
            have d2 : wr.drew.cell? ⟨ab, ao + k, none⟩ = some (.int .i64 x) := u0
            have d3 : wr.drew.cell? ⟨ob, oo + i, none⟩ = some (.int .i64 y) := v0
            have HIJ := hide hij
            clear hyr hxr hR hij hj0
            go_wp2_with fail
            go_region_held3 (fun w' => w'.cell? ⟨w.heap.size, 0, none⟩ = some (.slice an ns.length cn) ∧ w'.cell? ⟨w.heap.size, 1, none⟩ = some (.slice (some ⟨ab, ao, none⟩) rs.length cr) ∧ w'.cell? ⟨ab, ao + k, none⟩ = some (.int .i64 x) ∧ w'.cell? ⟨ob, oo + i, none⟩ = some (.int .i64 y)) (((try dsimp only); (repeat' apply And.intro) <;> (with_reducible assumption))) ((go_at_call 33; refine (unhide HCM wr.drew (by exact hb6.drew)).mono ?_; rintro e w7 ⟨rfl, hb7⟩; have HB7 : Hid (Below wr.heap.size wr w7) := (Below.refl _ _).drew.trans hb7; have e0 := cell_below (unhide HB7) p0; have e1 := cell_below (unhide HB7) p1; have e2 := cell_below (unhide HB7) u0; have e3 := cell_below (unhide HB7) v0; clear hb7))
            by_cases hR0 : 0 < R
            · have k3 : decide (0 < R) = true := decide_eq_true hR0
              have HJ2 : Hid (∀ (t : Nat) (z : Int), m[t]? = some z → i ≤ t → 0 < cmpAt ns ns z x) := hide (fun t z hz ht => by
                by_cases e : t = i
                · subst e
                  rw [hy] at hz
                  obtain rfl := Option.some.inj hz
                  rw [unhide HRR]; exact hR0
                · exact unhide HJ t z hz (by have := unhide HIJ; omega))
              have hji : i ≤ m.length := by omega
              have HBX := hide (step_b hb6 (unhide HB7))
              clear d0 d1 d2 d3 e0 e1 e2 e3
              go_wp2_with fail
              go_roundw
              case rel => exact ⟨i, hji, by go_num, unhide HBX, HJ2⟩
              case measure => have := unhide HIJ; simp [intOf]; omega
            · have k3 : decide (0 < R) = false := decide_eq_false hR0
              have HIW := hide (((unhide HIm).below hb6).below (unhide HB7))
              have HALL2 := hide (And.intro e1 e2)
              have HBW := hide (step_b hb6 (unhide HB7))
              have HINS : Hid (srt r (rs.take (k + 1)) = m.take j ++ [x] ++ m.drop j) := hide (insAt (unhide HO).1 hx (unhide HMm) hj (fun t z hz ht => by
                rw [(unhide HO).2 z (srt_in (unhide HO).1 (unhide HMm) hz) x (List.mem_of_getElem? hx)]
                exact unhide HJ t z hz ht) (fun z hz _ => by
                rw [unhide HIJ, Nat.add_sub_cancel, hy] at hz
                obtain rfl := Option.some.inj hz
                rw [(unhide HO).2 y (srt_in (unhide HO).1 (unhide HMm) hy) x (List.mem_of_getElem? hx), unhide HRR]
                omega))
              clear p0 p1 u0 v0 d0 d1 d2 d3
              go_wp2_with fail
              clear e0 e1 e2 e3 hw hw3 k3 hR0
              -- w7 the world; .int .i64 ↑j, .bool true, .bool true, .pointer (some ⟨w.heap.size, 0, none⟩), .slice an ns.length cn, .slice (some ⟨ob, oo, none⟩) m.length oc, .int .i64 ↑j, .int .i64 ↑i, .pointer (some ⟨ob, oo + i, none⟩), .int .i64 y, .pointer (some ⟨w.heap.size, 0, none⟩), .slice an ns.length cn, .pointer (some ⟨w.heap.size, 1, none⟩), .slice (some ⟨ab, ao, none⟩) rs.length cr, .int .i64 ↑k, .pointer (some ⟨ab, ao + k, none⟩), .int .i64 x, .int .i64 R, .bool false, .bool false, u43, u44 the slots 23 to 44
              have HPX1 := hide (IntsAt.take (k := j) (unhide HIW) (by omega))
              obtain ⟨p, hp⟩ : ∃ p, m.take j = p := ⟨_, rfl⟩
              obtain ⟨q, hq⟩ : ∃ q, m.drop j = q := ⟨_, rfl⟩
              have hpl : p.length = j := by rw [← hp, List.length_take]; omega
              have hql : q.length = m.length - j := by rw [← hq, List.length_drop]
              obtain ⟨qa, hqa, hqI⟩ : ∃ qa : Option Addr, (qa = if oc = j then some ⟨ob, oo, none⟩ else some ⟨ob, oo + j, none⟩) ∧ IntsAt w7 (.slice qa (m.length - j) (oc - j)) q := by
                refine ⟨_, rfl, ?_⟩
                by_cases cj : oc = j
                · rw [if_pos cj]
                  have : q = [] := List.length_eq_zero_iff.1 (by omega)
                  subst this
                  exact ⟨_, oc - j, by rw [show m.length - j = 0 by omega]; rfl, by simp, by unfold maxLen; omega, fun h => absurd h (by simp)⟩
                · rw [if_neg cj]
                  have := (unhide HIW).drop (k := j) (by omega) rfl
                  rw [hq] at this
                  have e : (⟨ob, oo, none⟩ : Addr).add j = ⟨ob, oo + j, none⟩ := by unfold Addr.add; split <;> simp_all
                  rwa [e] at this
              have HQ1 := hide hqI
              rw [hp] at HPX1
              have HNS : Hid (srt r (rs.take (k + 1)) = p ++ [x] ++ q) := hide (by rw [← hp, ← hq]; exact unhide HINS)
              have HQA := hide hqa
              have hjm : (j : Int) ≤ (m.length : Int) := by omega
              have hjo : (j : Int) ≤ (oc : Int) := by omega
              have hj00 : (0 : Int) ≤ (j : Int) := by omega
              have hki : (k : Int) < (rs.length : Int) := by omega
              clear hp hq hqI hqa
              have HPL := hide hpl
              have HQL := hide hql
              have hpq : p.length + q.length ≤ 12 := by omega
              clear hpl hql
              obtain ⟨v, hv⟩ : ∃ v : Nat → Value, v = fun t => match t with
                | 1 => .slice (some ⟨ob, oo, none⟩) m.length oc
                | 2 => .int .i64 (j : Int)
                | 3 => .slice (some ⟨ob, oo, none⟩) j oc
                | 5 => .pointer (some ⟨w.heap.size, 1, none⟩)
                | 6 => .slice (some ⟨ab, ao, none⟩) rs.length cr
                | 7 => .int .i64 (k : Int)
                | 8 => .pointer (some ⟨ab, ao + k, none⟩)
                | 9 => .int .i64 x
                | 12 => .slice (some ⟨ob, oo, none⟩) m.length oc
                | 13 => .int .i64 (j : Int)
                | 14 => .slice qa (m.length - j) (oc - j)
                | 16 => .slice (some ⟨ob, oo, none⟩) m.length oc
                | _ => undef := ⟨_, rfl⟩
              have v1 : v 1 = .slice (some ⟨ob, oo, none⟩) m.length oc := by subst hv; rfl
              have v2 : v 2 = .int .i64 (j : Int) := by subst hv; rfl
              have v3 : v 3 = .slice (some ⟨ob, oo, none⟩) j oc := by subst hv; rfl
              have v5 : v 5 = .pointer (some ⟨w.heap.size, 1, none⟩) := by subst hv; rfl
              have v6 : v 6 = .slice (some ⟨ab, ao, none⟩) rs.length cr := by subst hv; rfl
              have v7 : v 7 = .int .i64 (k : Int) := by subst hv; rfl
              have v8 : v 8 = .pointer (some ⟨ab, ao + k, none⟩) := by subst hv; rfl
              have v9 : v 9 = .int .i64 x := by subst hv; rfl
              have v12 : v 12 = .slice (some ⟨ob, oo, none⟩) m.length oc := by subst hv; rfl
              have v13 : v 13 = .int .i64 (j : Int) := by subst hv; rfl
              have v14 : v 14 = .slice qa (m.length - j) (oc - j) := by subst hv; rfl
              have v16 : v 16 = .slice (some ⟨ob, oo, none⟩) m.length oc := by subst hv; rfl
              clear hv
              refine wp_region_any (by kernel_rfl) ?_
              change wpAny _ _ _ _ _ _ _ (World.drew _)
              refine wpAny_inv (fun l a' w' => ∃ (z f : Nat → Value), a' = ⟨#[.agg #[.slice an ns.length cn, .slice (some ⟨ab, ao, none⟩) rs.length cr], .pointer (some ⟨w.heap.size, 0, none⟩), .pointer (some ⟨w.heap.size + 1, 0, none⟩), .pointer (some ⟨W3.heap.size, 0, none⟩), f 16, .int .i64 ↑k, .int .i64 ↑j, .agg #[.slice an ns.length cn, .slice (some ⟨ab, ao, none⟩) rs.length cr], .bool true, .bool false, undef, .agg #[.slice an ns.length cn, .slice (some ⟨ab, ao, none⟩) rs.length cr], .agg #[.slice ma ns.length mc, .slice rb rs.length rc], .slice (some ⟨W3.heap.size + 1, 0, none⟩) 0 0, .int .i64 ↑k, .pointer (some ⟨w.heap.size, 1, none⟩), .slice (some ⟨ab, ao, none⟩) rs.length cr, .int .i64 ↑rs.length, .bool true, u19, u20, .slice (some ⟨ob, oo, none⟩) m.length oc, .int .i64 ↑m.length, z 0, z 1, z 2, z 3, z 4, z 5, z 6, z 7, z 8, z 9, z 10, z 11, z 12, z 13, z 14, z 15, z 16, z 17, z 18, z 19, z 20, z 21, f 0, f 1, f 2, f 3, f 4, f 5, f 6, f 7, f 8, f 9, f 10, f 11, f 12, f 13, f 14, f 15, undef, undef, undef], []⟩ ∧ InS w7 v x p q l f w') ?hsz ?hend ?hstep ?hgo _ _ _ _ ?h0 ?hc
              case hsz =>
                rintro l a' w' ⟨z, f, _, h⟩
                exact h.sz
              case h0 => exact ⟨fun t => [.int .i64 ↑j, .bool true, .bool true, .pointer (some ⟨w.heap.size, 0, none⟩), .slice an ns.length cn, .slice (some ⟨ob, oo, none⟩) m.length oc, .int .i64 ↑j, .int .i64 ↑i, .pointer (some ⟨ob, oo + i, none⟩), .int .i64 y, .pointer (some ⟨w.heap.size, 0, none⟩), .slice an ns.length cn, .pointer (some ⟨w.heap.size, 1, none⟩), .slice (some ⟨ab, ao, none⟩) rs.length cr, .int .i64 ↑k, .pointer (some ⟨ab, ao + k, none⟩), .int .i64 x, .int .i64 R, .bool false, .bool false, u43, u44].getD t undef, fun t => [u45, u46, u47, u48, u49, u50, u51, u52, u53, u54, u55, u56, u57, u58, u59, u60, .slice (some ⟨ob, oo, none⟩) m.length oc].getD t undef, rfl, InS.start rfl (Below.refl _ _).drew v16.symm⟩
              case hc => exact Nat.le_of_eq rfl
              case hgo =>
                rintro l a' w' ⟨z, f, rfl, h⟩ hr t ht
                have k0 : l[0]? = some true := LL_ready hr 0 (by simp) (by rw [h.sz]; rfl) (by simp [Region.binds, Array.getD_eq_getD_getElem?])
                have k1 : l[1]? = some true := LL_ready hr 1 (by simp) (by rw [h.sz]; rfl) (by simp [Region.binds, Array.getD_eq_getD_getElem?])
                have k2 : l[2]? = some true := LL_ready hr 2 (by simp) (by rw [h.sz]; rfl) (by simp [Region.binds, Array.getD_eq_getD_getElem?])
                have k3 : l[3]? = some true := LL_ready hr 3 (by simp) (by rw [h.sz]; rfl) (by simp [Region.binds, Array.getD_eq_getD_getElem?, k1, k2])
                have k4 : l[4]? = some true := LL_ready hr 4 (by simp) (by rw [h.sz]; rfl) (by simp [Region.binds, Array.getD_eq_getD_getElem?, k0, k3])
                have k5 : l[5]? = some true := LL_ready hr 5 (by simp) (by rw [h.sz]; rfl) (by simp [Region.binds, Array.getD_eq_getD_getElem?])
                have k6 : l[6]? = some true := LL_ready hr 6 (by simp) (by rw [h.sz]; rfl) (by simp [Region.binds, Array.getD_eq_getD_getElem?, k5])
                have k7 : l[7]? = some true := LL_ready hr 7 (by simp) (by rw [h.sz]; rfl) (by simp [Region.binds, Array.getD_eq_getD_getElem?])
                have k8 : l[8]? = some true := LL_ready hr 8 (by simp) (by rw [h.sz]; rfl) (by simp [Region.binds, Array.getD_eq_getD_getElem?, k6, k7])
                have k9 : l[9]? = some true := LL_ready hr 9 (by simp) (by rw [h.sz]; rfl) (by simp [Region.binds, Array.getD_eq_getD_getElem?, k8])
                have k10 : l[10]? = some true := LL_ready hr 10 (by simp) (by rw [h.sz]; rfl) (by simp [Region.binds, Array.getD_eq_getD_getElem?, k9])
                have k11 : l[11]? = some true := LL_ready hr 11 (by simp) (by rw [h.sz]; rfl) (by simp [Region.binds, Array.getD_eq_getD_getElem?, k4, k10])
                have k12 : l[12]? = some true := LL_ready hr 12 (by simp) (by rw [h.sz]; rfl) (by simp [Region.binds, Array.getD_eq_getD_getElem?])
                have k13 : l[13]? = some true := LL_ready hr 13 (by simp) (by rw [h.sz]; rfl) (by simp [Region.binds, Array.getD_eq_getD_getElem?])
                have k14 : l[14]? = some true := LL_ready hr 14 (by simp) (by rw [h.sz]; rfl) (by simp [Region.binds, Array.getD_eq_getD_getElem?, k12, k13])
                have k15 : l[15]? = some true := LL_ready hr 15 (by simp) (by rw [h.sz]; rfl) (by simp [Region.binds, Array.getD_eq_getD_getElem?, k11, k14])
                have k16 : l[16]? = some true := LL_ready hr 16 (by simp) (by rw [h.sz]; rfl) (by simp [Region.binds, Array.getD_eq_getD_getElem?, k0, k1, k2, k3, k4, k5, k6, k7, k8, k9, k10, k11, k12, k13, k14, k15])
                have ht : t < 17 := by simpa using ht
                rcases (by omega : t = 0 ∨ t = 1 ∨ t = 2 ∨ t = 3 ∨ t = 4 ∨ t = 5 ∨ t = 6 ∨ t = 7 ∨ t = 8 ∨ t = 9 ∨ t = 10 ∨ t = 11 ∨ t = 12 ∨ t = 13 ∨ t = 14 ∨ t = 15 ∨ t = 16) with rfl | rfl | rfl | rfl | rfl | rfl | rfl | rfl | rfl | rfl | rfl | rfl | rfl | rfl | rfl | rfl | rfl
                all_goals assumption
              case hstep =>
                rintro l a' w' t ⟨z, f, rfl, h⟩ hi
                have hi2 := hi
                unfold Region.ready at hi2
                rw [List.mem_filter] at hi2
                obtain ⟨hjj, hi3⟩ := hi2
                have hjj : t < 17 := by simpa using hjj
                have hjl : ¬ LL l t := fun e => by
                  unfold LL at e
                  simp [Array.getD_eq_getD_getElem?, e] at hi3
                clear hi
                rcases (by omega : t = 0 ∨ t = 1 ∨ t = 2 ∨ t = 3 ∨ t = 4 ∨ t = 5 ∨ t = 6 ∨ t = 7 ∨ t = 8 ∨ t = 9 ∨ t = 10 ∨ t = 11 ∨ t = 12 ∨ t = 13 ∨ t = 14 ∨ t = 15 ∨ t = 16) with rfl | rfl | rfl | rfl | rfl | rfl | rfl | rfl | rfl | rfl | rfl | rfl | rfl | rfl | rfl | rfl | rfl
                · clear hi3
                  refine wpOp_step rfl (fun K hK => ?_)
                  go_simp
                  exact hK _ _ ⟨z, _, by simp, h.s0 hjl⟩
                · clear hi3
                  have n16 : ¬ LL l 16 := fun e => hjl (h.c16 e 1 (by omega))
                  have w16 := (h.o16 n16).trans v16
                  refine wpOp_step rfl (fun K hK => ?_)
                  go_simp
                  exact hK _ _ ⟨z, _, by simp [w16, v1], h.read 1 rfl (by omega) hjl (v 1) rfl⟩
                · clear hi3
                  refine wpOp_step rfl (fun K hK => ?_)
                  go_simp
                  exact hK _ _ ⟨z, _, by simp [v2], h.read 2 rfl (by omega) hjl (v 2) rfl⟩
                · have l1 : LL l 1 := LL_of (by simp [Region.binds, Array.getD_eq_getD_getElem?] at hi3; simp [hi3])
                  have l2 : LL l 2 := LL_of (by simp [Region.binds, Array.getD_eq_getD_getElem?] at hi3; simp [hi3])
                  clear hi3
                  have w1 := (h.val 1 rfl l1).trans v1
                  have w2 := (h.val 2 rfl l2).trans v2
                  refine wpOp_step rfl (fun K hK => ?_)
                  go_simp
                  exact hK _ _ ⟨z, _, by simp [w1, w2, v3], h.read 3 rfl (by omega) hjl (v 3) rfl⟩
                · have l0 : LL l 0 := LL_of (by simp [Region.binds, Array.getD_eq_getD_getElem?] at hi3; simp [hi3])
                  have l3 : LL l 3 := LL_of (by simp [Region.binds, Array.getD_eq_getD_getElem?] at hi3; simp [hi3])
                  clear hi3
                  have w3 := (h.val 3 rfl l3).trans v3
                  obtain ⟨⟨g, e0⟩, hk0⟩ := h.k0 l0 hjl
                  rw [e0] at hk0
                  refine wpOp_step rfl (fun K hK => ?_)
                  refine step_append_ints rfl _ _ rfl (w7).heap.size (.slice (some ⟨g, 0, none⟩) 0 0) (.slice (some ⟨ob, oo, none⟩) j oc) [] p (by exact e0) (by exact w3) hk0 ((unhide HPX1).below h.bw) (by simp only [List.length_nil]; omega) h.bw.size (some 49) rfl ?_
                  intro v6 w6 hr6 hg6 hat
                  obtain ⟨ra', rc', rfl⟩ := own_form' hr6
                  exact hK _ _ ⟨z, _, by simp [Act.put, e0, w3], h.s4 hjl l0 hr6 (by rw [e0]; exact hg6) (by rw [e0]; exact hat)⟩
                · clear hi3
                  refine wpOp_step rfl (fun K hK => ?_)
                  go_simp
                  exact hK _ _ ⟨z, _, by simp [v5], h.read 5 rfl (by omega) hjl (v 5) rfl⟩
                · have l5 : LL l 5 := LL_of (by simp [Region.binds, Array.getD_eq_getD_getElem?] at hi3; simp [hi3])
                  clear hi3
                  obtain ⟨q1, u1⟩ := unhide HALL2
                  have q1 := cell_below_' h.bw q1
                  have u1 := cell_below_' h.bw u1
                  have w5 := (h.val 5 rfl l5).trans v5
                  refine wpOp_step rfl (fun K hK => ?_)
                  go_simp
                  exact hK _ _ ⟨z, _, by simp [w5, v6], h.read 6 rfl (by omega) hjl (v 6) rfl⟩
                · clear hi3
                  refine wpOp_step rfl (fun K hK => ?_)
                  go_simp
                  exact hK _ _ ⟨z, _, by simp [v7], h.read 7 rfl (by omega) hjl (v 7) rfl⟩
                · have l6 : LL l 6 := LL_of (by simp [Region.binds, Array.getD_eq_getD_getElem?] at hi3; simp [hi3])
                  have l7 : LL l 7 := LL_of (by simp [Region.binds, Array.getD_eq_getD_getElem?] at hi3; simp [hi3])
                  clear hi3
                  have w6 := (h.val 6 rfl l6).trans v6
                  have w7 := (h.val 7 rfl l7).trans v7
                  refine wpOp_step rfl (fun K hK => ?_)
                  go_simp
                  exact hK _ _ ⟨z, _, by simp [w6, w7, v8], h.read 8 rfl (by omega) hjl (v 8) rfl⟩
                · have l8 : LL l 8 := LL_of (by simp [Region.binds, Array.getD_eq_getD_getElem?] at hi3; simp [hi3])
                  clear hi3
                  obtain ⟨q1, u1⟩ := unhide HALL2
                  have q1 := cell_below_' h.bw q1
                  have u1 := cell_below_' h.bw u1
                  have w8 := (h.val 8 rfl l8).trans v8
                  refine wpOp_step rfl (fun K hK => ?_)
                  go_simp
                  exact hK _ _ ⟨z, _, by simp [w8, v9], h.read 9 rfl (by omega) hjl (v 9) rfl⟩
                · have l9 : LL l 9 := LL_of (by simp [Region.binds, Array.getD_eq_getD_getElem?] at hi3; simp [hi3])
                  clear hi3
                  have w9 := (h.val 9 rfl l9).trans v9
                  have HSS := hide (h.s10 hjl)
                  refine wpOp_step rfl (fun K hK => ?_)
                  go_simp
                  exact hK _ _ ⟨z, _, by simp [w9], unhide HSS⟩
                · have l4 : LL l 4 := LL_of (by simp [Region.binds, Array.getD_eq_getD_getElem?] at hi3; simp [hi3])
                  have l10 : LL l 10 := LL_of (by simp [Region.binds, Array.getD_eq_getD_getElem?] at hi3; simp [hi3])
                  clear hi3
                  obtain ⟨ra, rc', e4⟩ := h.k4 l4
                  have hr4 := h.r4 l4 hjl
                  obtain ⟨g, e10, hc10, hg10, _, _⟩ := h.n10 l10 hjl
                  rw [e4] at hr4
                  refine wpOp_step rfl (fun K hK => ?_)
                  refine step_append_ints rfl _ _ rfl (w7).heap.size (.slice ra p.length rc') (.slice (some ⟨g, 0, none⟩) 1 1) p [x] (by exact e4) (by exact e10) hr4 (ints_cell1 hc10 hg10) (by simp only [List.length_cons, List.length_nil]; omega) h.bw.size (some 56) rfl ?_
                  intro v6 w6 hr6 hg6 _
                  obtain ⟨sa, sc, rfl⟩ := own_form' hr6
                  have hr6' := rowI_snoc hr6
                  exact hK _ _ ⟨z, _, by simp [Act.put, e4, e10], h.s11 hjl l4 l10 hr6' (by rw [e4]; exact hg6)⟩
                · clear hi3
                  have n16 : ¬ LL l 16 := fun e => hjl (h.c16 e 12 (by omega))
                  have w16 := (h.o16 n16).trans v16
                  refine wpOp_step rfl (fun K hK => ?_)
                  go_simp
                  exact hK _ _ ⟨z, _, by simp [w16, v12], h.read 12 rfl (by omega) hjl (v 12) rfl⟩
                · clear hi3
                  refine wpOp_step rfl (fun K hK => ?_)
                  go_simp
                  exact hK _ _ ⟨z, _, by simp [v13], h.read 13 rfl (by omega) hjl (v 13) rfl⟩
                · have l12 : LL l 12 := LL_of (by simp [Region.binds, Array.getD_eq_getD_getElem?] at hi3; simp [hi3])
                  have l13 : LL l 13 := LL_of (by simp [Region.binds, Array.getD_eq_getD_getElem?] at hi3; simp [hi3])
                  clear hi3
                  have w12 := (h.val 12 rfl l12).trans v12
                  have w13 := (h.val 13 rfl l13).trans v13
                  refine wpOp_step rfl (fun K hK => ?_)
                  by_cases cj : oc = j
                  · have hqa : qa = some ⟨ob, oo, none⟩ := by rw [unhide HQA, if_pos cj]
                    subst cj
                    go_simp
                    exact hK _ _ ⟨z, _, (by simp [w12, w13, v14, hqa]; try omega), h.read 14 rfl (by omega) hjl (v 14) rfl⟩
                  · have hqa : qa = some ⟨ob, oo + j, none⟩ := by rw [unhide HQA, if_neg cj]
                    go_simp
                    exact hK _ _ ⟨z, _, by simp [w12, w13, v14, hqa], h.read 14 rfl (by omega) hjl (v 14) rfl⟩
                · have l11 : LL l 11 := LL_of (by simp [Region.binds, Array.getD_eq_getD_getElem?] at hi3; simp [hi3])
                  have l14 : LL l 14 := LL_of (by simp [Region.binds, Array.getD_eq_getD_getElem?] at hi3; simp [hi3])
                  clear hi3
                  have w14 := (h.val 14 rfl l14).trans v14
                  obtain ⟨ra, rc', e11⟩ := h.k11 l11
                  have hr11 := h.r11 l11 hjl
                  rw [e11] at hr11
                  refine wpOp_step rfl (fun K hK => ?_)
                  refine step_append_ints rfl _ _ rfl (w7).heap.size (.slice ra (p.length + 1) rc') (.slice qa (m.length - j) (oc - j)) (p ++ [x]) q (by exact e11) (by exact w14) hr11 ((unhide HQ1).below h.bw) (by simp only [List.length_append, List.length_cons, List.length_nil]; omega) h.bw.size (some 60) rfl ?_
                  intro v6 w6 hr6 hg6 _
                  obtain ⟨sa, sc, rfl⟩ := own_form' hr6
                  exact hK _ _ ⟨z, _, by simp [Act.put, e11, w14], h.s15 hjl l11 hr6 (by rw [e11]; exact hg6)⟩
                · have l0 : LL l 0 := LL_of (by simp [Region.binds, Array.getD_eq_getD_getElem?] at hi3; simp [hi3])
                  have l1 : LL l 1 := LL_of (by simp [Region.binds, Array.getD_eq_getD_getElem?] at hi3; simp [hi3])
                  have l2 : LL l 2 := LL_of (by simp [Region.binds, Array.getD_eq_getD_getElem?] at hi3; simp [hi3])
                  have l3 : LL l 3 := LL_of (by simp [Region.binds, Array.getD_eq_getD_getElem?] at hi3; simp [hi3])
                  have l4 : LL l 4 := LL_of (by simp [Region.binds, Array.getD_eq_getD_getElem?] at hi3; simp [hi3])
                  have l5 : LL l 5 := LL_of (by simp [Region.binds, Array.getD_eq_getD_getElem?] at hi3; simp [hi3])
                  have l6 : LL l 6 := LL_of (by simp [Region.binds, Array.getD_eq_getD_getElem?] at hi3; simp [hi3])
                  have l7 : LL l 7 := LL_of (by simp [Region.binds, Array.getD_eq_getD_getElem?] at hi3; simp [hi3])
                  have l8 : LL l 8 := LL_of (by simp [Region.binds, Array.getD_eq_getD_getElem?] at hi3; simp [hi3])
                  have l9 : LL l 9 := LL_of (by simp [Region.binds, Array.getD_eq_getD_getElem?] at hi3; simp [hi3])
                  have l10 : LL l 10 := LL_of (by simp [Region.binds, Array.getD_eq_getD_getElem?] at hi3; simp [hi3])
                  have l11 : LL l 11 := LL_of (by simp [Region.binds, Array.getD_eq_getD_getElem?] at hi3; simp [hi3])
                  have l12 : LL l 12 := LL_of (by simp [Region.binds, Array.getD_eq_getD_getElem?] at hi3; simp [hi3])
                  have l13 : LL l 13 := LL_of (by simp [Region.binds, Array.getD_eq_getD_getElem?] at hi3; simp [hi3])
                  have l14 : LL l 14 := LL_of (by simp [Region.binds, Array.getD_eq_getD_getElem?] at hi3; simp [hi3])
                  have l15 : LL l 15 := LL_of (by simp [Region.binds, Array.getD_eq_getD_getElem?] at hi3; simp [hi3])
                  clear hi3
                  have hall : ∀ j, j < 16 → LL l j := fun t ht => by
                    rcases (by omega : t = 0 ∨ t = 1 ∨ t = 2 ∨ t = 3 ∨ t = 4 ∨ t = 5 ∨ t = 6 ∨ t = 7 ∨ t = 8 ∨ t = 9 ∨ t = 10 ∨ t = 11 ∨ t = 12 ∨ t = 13 ∨ t = 14 ∨ t = 15) with rfl | rfl | rfl | rfl | rfl | rfl | rfl | rfl | rfl | rfl | rfl | rfl | rfl | rfl | rfl | rfl
                    all_goals assumption
                  have HSS := hide (h.s16 hjl hall (f 15) rfl)
                  refine wpOp_step rfl (fun K hK => ?_)
                  go_simp
                  exact hK _ _ ⟨z, _, by simp, unhide HSS⟩
              case hend =>
                rintro l a' w' ⟨z, f, rfl, h⟩ hall
                have l16 : LL l 16 := hall 16 (by decide)
                have l15 : LL l 15 := hall 15 (by decide)
                have e16 := h.a16 l16
                obtain ⟨⟨ra, rc', e15⟩, hr15⟩ := h.r15 l15
                rw [e15] at e16 hr15
                have HRR15 := hide hr15
                have hbw' := h.bw
                clear h hall l16 l15 hr15
                obtain ⟨gb, go, rfl⟩ : ∃ gb go, ra = some ⟨gb, go, none⟩ := by
                  obtain ⟨a, c, e, _, _, h3⟩ := owns_ints (unhide HRR15)
                  injection e with e1 _ _
                  obtain ⟨b, o, e2, _⟩ := h3 (by simp; omega)
                  exact ⟨b, o, by rw [e1, e2]⟩
                have HI2 := hide (owns_ints (unhide HRR15))
                obtain ⟨L, hL⟩ : ∃ L, (p ++ [x] ++ q).length = L := ⟨_, rfl⟩
                have HLL := hide hL
                have HB2 := hide (step_b (step_b (unhide HBL) (unhide HBW)) hbw')
                rw [hL] at e16
                rw [e16]
                clear hL hbw' e16 e15
                go_wp2_with fail
                go_roundw
                case rel => exact ⟨k + 1, p ++ [x] ++ q, gb, go, rc', by omega, by go_num, by rw [unhide HLL], HI2, hide (unhide HNS).symm, unhide HB2⟩
                case measure => simp [intOf]; omega
      · obtain rfl : k = rs.length := by omega
        have hmm := unhide HMm
        rw [List.take_of_length_le (Nat.le_refl _)] at hmm
        have hT := (unhide HT5).below hbl
        have hQ := (unhide HQ5).below hbl
        obtain ⟨nv', rv', e, hn5, _⟩ := (unhide HC5).below hbl
        simp only [Value.agg.injEq, Array.mk.injEq, List.cons.injEq, and_true] at e
        obtain ⟨rfl, rfl⟩ := e
        simp only at hn5
        have hT1 := hT.st1 (.slice (some ⟨ob, oo, none⟩) m.length oc)
        have hQ1 := hQ.far (a := ⟨W3.heap.size, 1, none⟩) (by show W3.heap.size ≠ w.heap.size + 1; omega) (.slice (some ⟨ob, oo, none⟩) m.length oc)
        have hQ2 := hQ1.st0 (.slice ma ns.length mc)
        have hX := hQ2.st1 (.slice (some ⟨ob, oo, none⟩) m.length oc)
        have hN3 := ((hn5.box hT 1 (.slice (some ⟨ob, oo, none⟩) m.length oc)).box hQ1 0 (.slice ma ns.length mc)).box hQ2 1 (.slice (some ⟨ob, oo, none⟩) m.length oc)
        have hI3 := (((unhide HIm).box hT 1 (.slice (some ⟨ob, oo, none⟩) m.length oc)).box hQ1 0 (.slice ma ns.length mc)).box hQ2 1 (.slice (some ⟨ob, oo, none⟩) m.length oc)
        rw [hmm] at hI3
        have hDD : DataAt (((wr.setCell ⟨W3.heap.size, 1, none⟩ (.slice (some ⟨ob, oo, none⟩) m.length oc)).setCell ⟨w.heap.size + 1, 0, none⟩ (.slice ma ns.length mc)).setCell ⟨w.heap.size + 1, 1, none⟩ (.slice (some ⟨ob, oo, none⟩) m.length oc)) (.agg #[.slice ma ns.length mc, .slice (some ⟨ob, oo, none⟩) m.length oc]) (ns, srt r rs) := ⟨_, _, rfl, hN3, by rw [hmm]; exact hI3⟩
        have hE := (((step_b (unhide HB5) hbl).setCell (p := ⟨W3.heap.size, 1, none⟩) (by show w.heap.size ≤ W3.heap.size; omega) (.slice (some ⟨ob, oo, none⟩) m.length oc)).setCell (p := ⟨w.heap.size + 1, 0, none⟩) (by show w.heap.size ≤ w.heap.size + 1; omega) (.slice ma ns.length mc)).setCell (p := ⟨w.heap.size + 1, 1, none⟩) (by show w.heap.size ≤ w.heap.size + 1; omega) (.slice (some ⟨ob, oo, none⟩) m.length oc)
        have HDD := hide hDD
        have HEE := hide hE
        have t0 := hT.n0
        have t1 := hT.n1
        have tf := hT.f
        have s0 := hT1.n0
        have s1 := hT1.n1
        have q0 := hQ1.n0
        have q1 := hQ1.n1
        have qf := hQ1.f
        have z0 := hX.n0
        have z1 := hX.n1
        clear hDD hE hX hT hT1 hQ hQ1 hQ2 hN3 hI3 hn5 hmm
        go_wp2_with fail
        refine bodyPost_ret (v := .agg #[.slice ma ns.length mc, .slice (some ⟨ob, oo, none⟩) m.length oc]) (by simp [results, Tryz.results17, go_sem, z0, z1]) rfl ⟨⟨_, _, rfl, unhide HDD⟩, unhide HEE⟩
  · rw [ho]
    obtain rfl : M = ([], []) := by rw [← unhide HM, sort_no ho]
    clear ho
    have HRF := hide (((unhide HQ1).st0 (.slice none 0 0)).st1 (.slice none 0 0))
    have z0 := (unhide HRF).n0
    have z1 := (unhide HRF).n1
    have q0 := (unhide HQ1).n0
    have q1 := (unhide HQ1).n1
    have qf := (unhide HQ1).f
    have HBF := hide (((unhide HB1).setCell (p := ⟨w.heap.size + 1, 0, none⟩) (Nat.le_succ _) (.slice none 0 0)).setCell (p := ⟨w.heap.size + 1, 1, none⟩) (Nat.le_succ _) (.slice none 0 0))
    go_wp2_with fail
    refine bodyPost_ret (v := .agg #[.slice none 0 0, .slice none 0 0]) (by simp [results, Tryz.results17, go_sem, z0, z1]) rfl ⟨⟨_, _, rfl, (own_none _ _ (Nat.le_refl _)).at⟩, unhide HBF⟩
end Go.Proofs.YtpbnmhnbkfnaeaaGreatDoor
