/- A part of the proof, put together out of smaller texts: each piece says what it is for. -/
import Derived.Test.YtpbnmhnbkfnaeaaGreatDoorM7
import Derived.Deep.Cut
import Derived.Deep.CutRange
import Derived.Deep.RegionHeld3
import Derived.Deep.AppendLies
import Derived.Shelf.LaysM
import Derived.Shelf.Strconv.Clone
import Derived.Deep.RegionHeldLaw
import Derived.Lib.Bytealg
/- The specification's walk over pairs. -/
namespace Go.Proofs.YtpbnmhnbkfnaeaaGreatDoor
open Go.RowKit Nt

theorem row_first (w : World) (a b : Int) (T : TypeId) : RowP (w.alloc (.cells #[.int .i64 a, .int .i64 b] T)) w.heap.size T (.slice (some ⟨w.heap.size, 0, none⟩) 1 1) [(a, b)] :=
  ⟨rfl, .inr ⟨w.heap.size, 1, _, rfl, Nat.le_refl _, heap_alloc_new w _, Nat.le_refl _, by unfold maxLen; omega, rfl, rfl⟩⟩
theorem own_form {w : World} {base size : Nat} {T : TypeId} {v : Value} {n : Nat} {xs : List Value} (h : w.ownsRow base T size v n xs) : ∃ p cap, v = .slice p n cap := by
  rcases h.2 with ⟨rfl, h1⟩ | ⟨g, cap, cur, rfl, _⟩
  · exact ⟨none, 0, by rw [h1]⟩
  · exact ⟨_, _, rfl⟩
theorem cell_below {w w' : World} (k : Below w.heap.size w w') {a : Addr} {v : Value} (h : w.cell? a = some v) : w'.cell? a = some v := (k.cell (World.block_lt_of_cell? _ _ h)).trans h
theorem own_ne3 {w : World} {b base n size : Nat} {x y z kv : Value} {T e : TypeId} {xs : List Value} (h : AtC3 w b x y z T) (ho : w.ownsRow base e size kv n xs) (hne : e ≠ T) : kv.ownBlock ≠ some b := by
  unfold AtC3 at h
  rcases ho.2 with ⟨rfl, _⟩ | ⟨g1, c1, k1, rfl, _, hg1, _⟩
  · intro e; simp [Value.ownBlock] at e
  · intro e
    simp [Value.ownBlock] at e
    subst e
    rw [hg1] at h
    simp at h
    exact hne h.2
theorem AtC3.grown {w w' : World} {b : Nat} {x y z : Value} {T : TypeId} {row : Option Nat} (h : AtC3 w b x y z T) (hg : w.grownBy w' row) (hne : row ≠ some b) : AtC3 w' b x y z T :=
  (hg.block b h.lt (Ne.symm hne)).trans h
theorem small_nd {ns : List Nd} (hs : NsSmall ns) {x : Int} {nd : Nd} (h : ns[x.toNat]? = some nd) : nd.2.1.length ≤ 1048576 ∧ nd.2.2.length ≤ 1048576 := hs nd (List.mem_of_getElem? h)

set_option maxRecDepth 100000 in
set_option maxHeartbeats 8000000 in
theorem l21Cmp_c (ns ms : List Nd) (a b : Int) (xv yv : Value) (w : World) (hx : NodesAt w xv ns) (hy : NodesAt w yv ms) (okn : ns.all (ndOk ns.length) = true) (okm : ms.all (ndOk ms.length) = true)
    (hab : InP ns.length ms.length (a, b)) (hsn : NsSmall ns) (hsm : NsSmall ms) (hl1 : ns.length ≤ 80) (hl2 : ms.length ≤ 80) :
    Calls Tryz.prog 33 #[xv, .int .i64 a, yv, .int .i64 b] w fun e w' => e = .returned (.int .i64 (cmpAt ns ms a b)) ∧ Below w.heap.size w w' := by
  obtain ⟨i0, hi, hz0, hz1, hz2⟩ := info_parts Tryz.infoPair
  have hF := From.start okn okm hab
  obtain ⟨R, hR⟩ : ∃ R, cmpAt ns ms a b = R := ⟨_, rfl⟩
  rw [hR] at hF ⊢
  have HF := hide hF
  have HX := hide hx
  have HY := hide hy
  obtain ⟨xa, xo, xc, rfl, hx1, hx2, _⟩ := hx.form (by have := hab.1; omega)
  obtain ⟨ya, yo, yc, rfl, hy1, hy2, _⟩ := hy.form (by have := hab.2; omega)
  unfold maxLen at hx2 hy2
  have hnm : ns.length * ms.length ≤ 6400 := Nat.mul_le_mul hl1 hl2
  have HNM := hide hnm
  have HOK := hide (And.intro okn okm)
  have HSN := hide hsn
  have HSM := hide hsm
  have HL0 : Hid ([(a, b)].Nodup ∧ ∀ x ∈ [(a, b)], InP ns.length ms.length x) := hide ⟨by simp, by
    intro x hx
    have : x = (a, b) := by simpa using hx
    rw [this]; exact hab⟩
  have HRW := hide (row_first w a b 87)
  have HB := hide (step_a (Below.refl w.heap.size w) (.cells #[.int .i64 a, .int .i64 b] 87))
  clear hF hR hx hy okn okm hsn hsm hab hnm
  go_enter Tryz.func33, Tryz.ntmps33
  go_wp2_with fail
  go_loopw [9, 10] (fun lv iv' wr => ∃ (l : List (Int × Int)) (i : Nat), i ≤ l.length ∧ iv' = .int .i64 i ∧ Hid (RowP wr w.heap.size 87 lv l) ∧ Hid (Below w.heap.size w wr) ∧ Hid (l.Nodup ∧ ∀ x ∈ l, InP ns.length ms.length x) ∧ Hid (From ns ms R i l))
    (fun _ iv' _ => 6400 - (intOf iv').toNat)
  case atStart => exact ⟨[(a, b)], 0, by simp, rfl, HRW, HB, HL0, HF⟩
  case round =>
    clear HRW HB HF HL0
    obtain ⟨l, i, hil, rfl, HRW, HB, HL, HF⟩ := hrel
    obtain ⟨Wi, hWi⟩ : ∃ Wi, Wi = wr := ⟨_, rfl⟩
    subst hWi
    have hll : l.length ≤ 6400 := Nat.le_trans (pairs_few (unhide HL).1 (unhide HL).2) (unhide HNM)
    by_cases hlt : i < l.length
    · obtain ⟨g, cap, rfl, hc1, hc2, hgb, hcell⟩ := (unhide HRW).form (by omega)
      obtain ⟨⟨pa, pb⟩, hp⟩ : ∃ p, l[i]? = some p := ⟨_, List.getElem?_eq_getElem hlt⟩
      obtain ⟨g0, g1⟩ := hcell i _ hp
      simp only at g0 g1
      have hpin := (unhide HL).2 _ (List.mem_of_getElem? hp)
      obtain ⟨⟨pa0, pa1⟩, pb0, pb1⟩ := inP_iff.1 hpin
      obtain ⟨na, hna⟩ : ∃ nd, ns[pa.toNat]? = some nd := ⟨_, List.getElem?_eq_getElem (by omega)⟩
      obtain ⟨nb, hnb⟩ : ∃ nd, ms[pb.toNat]? = some nd := ⟨_, List.getElem?_eq_getElem (by omega)⟩
      obtain ⟨kva, x0, x1, x2, _, hka⟩ := (unhide HX).node hna
      obtain ⟨kvb, y0, y1, y2, _, hkb⟩ := (unhide HY).node hnb
      have x0 := cell_below (unhide HB) x0
      have x1 := cell_below (unhide HB) x1
      have x2 := cell_below (unhide HB) x2
      have y0 := cell_below (unhide HB) y0
      have y1 := cell_below (unhide HB) y1
      have y2 := cell_below (unhide HB) y2
      have sa := small_nd (unhide HSN) hna
      have sb := small_nd (unhide HSM) hnb
      have HPI := hide hp
      have HPA : Hid (ndI ns pa = na) := hide (ndI_get hna)
      have HPB : Hid (ndI ms pb = nb) := hide (ndI_get hnb)
      have HKA := hide hka
      have HKB := hide hkb
      obtain ⟨aka, akc, rfl, ak1, ak2⟩ := hka.form
      obtain ⟨bka, bkc, rfl, bk1, bk2⟩ := hkb.form
      unfold maxLen at ak2 bk2 hc2
      have HOA : Hid (ndOk ns.length na = true) := hide (List.all_eq_true.1 (unhide HOK).1 _ (List.mem_of_getElem? hna))
      have HOB : Hid (ndOk ms.length nb = true) := hide (List.all_eq_true.1 (unhide HOK).2 _ (List.mem_of_getElem? hnb))
      obtain ⟨sa1, ta, ka⟩ := na
      obtain ⟨sb1, tb, kb⟩ := nb
      simp only at x0 x1 x2 y0 y1 y2 sa sb HKA HKB ak1 bk1
      have ei : ((i : Int)).toNat = i := by omega
      have pan : (pa.toNat : Int) = pa := by omega
      have pbn : (pb.toNat : Int) = pb := by omega
      clear hp hna hnb hka hkb hcell hpin
      have hb1 := step_a (Below.refl Wi.heap.size Wi) (.cells #[.int .i64 sa1, .string (B ta), .slice aka ka.length akc] 56)
      have hb2 := step_a hb1 (.cells #[.int .i64 sb1, .string (B tb), .slice bka kb.length bkc] 56)
      have g1' := cell_below hb1 g1
      have y0' := cell_below hb1 y0
      have y1' := cell_below hb1 y1
      have y2' := cell_below hb1 y2
      have HBB := hide hb2
      have HN1 := hide ((AtC3.new Wi (.int .i64 sa1) (.string (B ta)) (.slice aka ka.length akc) 56).below (step_a (Below.refl _ _) (.cells #[.int .i64 sb1, .string (B tb), .slice bka kb.length bkc] 56)))
      have HN2 := hide (AtC3.new (Wi.alloc (.cells #[.int .i64 sa1, .string (B ta), .slice aka ka.length akc] 56)) (.int .i64 sb1) (.string (B tb)) (.slice bka kb.length bkc) 56)
      rw [World.size_alloc] at HN2
      clear g1 y0 y1 y2 hb1 hb2
      go_wp2_with fail
      obtain ⟨W2, hW⟩ : ∃ W2, (Wi.alloc (.cells #[.int .i64 sa1, .string (B ta), .slice aka ka.length akc] 56)).alloc (.cells #[.int .i64 sb1, .string (B tb), .slice bka kb.length bkc] 56) = W2 := ⟨_, rfl⟩
      rw [hW] at HBB HN1 HN2 ⊢
      clear hW g0 g1' x0 x1 x2 y0' y1' y2'
      have h := l21Node_c (sa1, ta, ka) (sb1, tb, kb) aka bka akc bkc W2 sa.1 sb.1 sa.2 sb.2
      refine h.mono ?_
      clear h
      rintro e W3 ⟨rfl, hb3⟩
      have HB3 := hide (step_b (unhide HB) ((unhide HBB).trans (hb3.mono (unhide HBB).size)))
      have HRW3 := hide (own_below (unhide HRW) ((unhide HBB).trans (hb3.mono (unhide HBB).size)))
      have HM1 := hide ((unhide HN1).below hb3)
      have HM2 := hide ((unhide HN2).below hb3)
      have HLAB : Hid (labP ns ms pa pb = labCmp (sa1, ta, ka) (sb1, tb, kb)) := hide (by unfold labP; rw [unhide HPA, unhide HPB])
      have HKID : Hid (kidsP ns ms pa pb = ka.zip kb) := hide (by unfold kidsP; rw [unhide HPA, unhide HPB])
      clear hb3 HBB HN1 HN2 HB HRW
      obtain ⟨c, hc⟩ : ∃ c, labCmp (sa1, ta, ka) (sb1, tb, kb) = c := ⟨_, rfl⟩
      rw [hc] at HLAB ⊢
      have HC := hide hc
      clear hc
      by_cases hc0 : c = 0
      · subst hc0
        have hlen : ka.length = kb.length := labCmp_len (unhide HOA) (unhide HOB) (unhide HC)
        have HLEN := hide hlen
        have HST : Hid (l = nxtP l ((ka.zip kb).take 0)) := hide rfl
        have HBx := HB3
        clear hlen
        go_wp2_with fail
        go_loopw [9, 14] (fun lv kv wr => ∃ (k : Nat) (l' : List (Int × Int)), k ≤ ka.length ∧ kv = .int .i64 k ∧ Hid (l' = nxtP l ((ka.zip kb).take k)) ∧ Hid (RowP wr w.heap.size 87 lv l') ∧ Hid (Below w.heap.size w wr) ∧
            Hid (AtC3 wr Wi.heap.size (.int .i64 sa1) (.string (B ta)) (.slice aka ka.length akc) 56) ∧ Hid (AtC3 wr (Wi.heap.size + 1) (.int .i64 sb1) (.string (B tb)) (.slice bka kb.length bkc) 56))
          (fun _ kv _ => ka.length - (intOf kv).toNat)
        case atStart => exact ⟨0, l, by omega, rfl, HST, HRW3, HB3, HM1, HM2⟩
        case round =>
          clear HST HRW3 HB3 HM1 HM2
          obtain ⟨k, l', hkl, rfl, HLK, HRW, HB, HM1, HM2⟩ := hrel
          have m12 := (unhide HM1).n2
          have m22 := (unhide HM2).n2
          obtain ⟨Wk, hWk⟩ : ∃ Wk, Wk = wr := ⟨_, rfl⟩
          subst hWk
          by_cases hlt2 : k < ka.length
          · have hlb : k < kb.length := by have := unhide HLEN; omega
            obtain ⟨x, hx⟩ : ∃ x, ka[k]? = some x := ⟨_, List.getElem?_eq_getElem hlt2⟩
            obtain ⟨y, hy⟩ : ∃ y, kb[k]? = some y := ⟨_, List.getElem?_eq_getElem hlb⟩
            have HZ : Hid ((ka.zip kb)[k]? = some (x, y)) := hide (by rw [List.getElem?_zip_eq_some]; exact ⟨hx, hy⟩)
            obtain ⟨ga, oa, rfl, _, u0⟩ := ((unhide HKA).below (unhide HB)).cell hx
            obtain ⟨gb, ob, rfl, _, u1⟩ := ((unhide HKB).below (unhide HB)).cell hy
            have k0 : (0 : Int) ≤ (k : Int) := by omega
            have k1 : (k : Int) < (ka.length : Int) := by omega
            have k2 : (k : Int) < (kb.length : Int) := by omega
            have k3 : ((k : Int)).toNat = k := by omega
            have hal := step_a (Below.refl Wk.heap.size Wk) (.cells #[.int .i64 0, .int .i64 0] 87)
            have n12 := cell_below hal m12
            have n22 := cell_below hal m22
            have v0 := cell_below hal u0
            have v1 := cell_below hal u1
            have HAL := hide hal
            clear hx hy hal
            go_wp2_with fail
            go_region
            obtain ⟨W4, hW4⟩ : ∃ W4, (Wk.alloc (.cells #[.int .i64 x, .int .i64 y] 87)).drew = W4 := ⟨_, rfl⟩
            have hbk : Below Wk.heap.size Wk (Wk.alloc (.cells #[.int .i64 x, .int .i64 y] 87)).drew := (step_a (Below.refl _ _) _).drew
            have HBX : Hid (AtC2 (Wk.alloc (.cells #[.int .i64 x, .int .i64 y] 87)).drew Wk.heap.size (.int .i64 x) (.int .i64 y) 87) := hide ((AtC2.new Wk _ _ _).below (Below.refl _ _).drew)
            rw [hW4] at hbk HBX ⊢
            have HB4 := hide (step_b (unhide HB) hbk)
            have HRW4 := hide (own_below (unhide HRW) hbk)
            have HM14 := hide ((unhide HM1).below hbk)
            have HM24 := hide ((unhide HM2).below hbk)
            have hl0 : 0 < l'.length := by
              obtain ⟨r, hr⟩ := nxtP_pre (ks := (ka.zip kb).take k) (l := l)
              rw [unhide HLK, hr, List.length_append]; omega
            obtain ⟨g2, cap2, rfl, hd1, hd2, hgb2, hcell2⟩ := RowP.form (unhide HRW4) hl0
            unfold maxLen at hd2
            have HCELL := hide hcell2
            have hll2 : l'.length ≤ 6400 := by
              have := nxtP_ok (unhide HL).1 (unhide HL).2 (ks := (ka.zip kb).take k) (fun z hz => kidsP_in (unhide HOK).1 (unhide HOK).2 pa pb ((unhide HL).2 _ (List.mem_of_getElem? (unhide HPI))) z (by rw [unhide HKID]; exact List.mem_of_mem_take hz))
              rw [unhide HLK]
              exact Nat.le_trans (pairs_few this.1 this.2.1) (unhide HNM)
            clear hW4 hbk HAL n12 n22 v0 v1 u0 u1 m12 m22 HM1 HM2 HRW HB hcell2 hl0
            have hbase : Hid (Below W4.heap.size W4 W4) := hide (Below.refl _ _)
            go_wp2_with fail
            go_loopw [16, 17] (fun sv jv wr => ∃ j : Nat, j ≤ l'.length ∧ jv = .int .i64 j ∧ sv = .bool (decide ((x, y) ∈ l'.take j)) ∧ Hid (Below W4.heap.size W4 wr))
              (fun _ jv _ => l'.length - (intOf jv).toNat)
            case atStart => exact ⟨0, by omega, rfl, by simp, hbase⟩
            case round =>
              clear hbase
              obtain ⟨j, hjl, rfl, rfl, HBJ⟩ := hrel
              by_cases hjlt : j < l'.length
              · obtain ⟨⟨p, q⟩, hpq⟩ : ∃ z, l'[j]? = some z := ⟨_, List.getElem?_eq_getElem hjlt⟩
                obtain ⟨z0, z1⟩ := unhide HCELL j _ hpq
                simp only at z0 z1
                have z0 := cell_below (unhide HBJ) z0
                have z1 := cell_below (unhide HBJ) z1
                have e0 := ((unhide HBX).below (unhide HBJ)).n0
                have e1 := ((unhide HBX).below (unhide HBJ)).n1
                have HMT := hide (mem_take (x := (x, y)) hpq)
                have j0 : (0 : Int) ≤ (j : Int) := by omega
                have j1 : (j : Int) < (l'.length : Int) := by omega
                have j3 : ((j : Int)).toNat = j := by omega
                clear hpq
                go_wp2_with fail
                rcases Bool.eq_false_or_eq_true (decide ((x, y) ∈ l'.take j)) with hm | hm
                · rw [hm]
                  have HX : Hid (true = decide ((x, y) ∈ l'.take (j + 1))) := hide (by rw [unhide HMT, hm]; rfl)
                  clear hm
                  go_region
                  go_wp2_with fail
                  go_roundw
                  case rel => exact ⟨j + 1, by omega, by go_num, congrArg Value.bool (unhide HX), hide ((unhide HBJ).trans ((Below.refl _ _).drew))⟩
                  case measure => simp [intOf]; omega
                · rw [hm]
                  have HX : Hid ((decide (p = x) && decide (q = y)) = decide ((x, y) ∈ l'.take (j + 1))) := hide (by rw [unhide HMT, hm, Bool.false_or, Bool.eq_iff_iff]; simp)
                  have HDN := hide (below_drewN (unhide HBJ))
                  have hpg := pair_guard
                  have hpe := fun W => pair_eq W p q x y
                  clear hm
                  go_quiet (fail)
                  clear hpg hpe
                  go_wp2_with fail
                  go_roundw
                  case rel => exact ⟨j + 1, by omega, by go_num, congrArg Value.bool (unhide HX), hide (unhide HDN _)⟩
                  case measure => simp [intOf]; omega
              · obtain rfl : j = l'.length := by omega
                rw [List.take_of_length_le (Nat.le_refl _)]
                have HN := hide (nxt_take (l := l) (unhide HZ))
                have HRW5 := hide (own_below (unhide HRW4) (unhide HBJ))
                have HB5 := hide (step_b (unhide HB4) (unhide HBJ))
                have HM15 := hide ((unhide HM14).below (unhide HBJ))
                have HM25 := hide ((unhide HM24).below (unhide HBJ))
                have e0 := ((unhide HBX).below (unhide HBJ)).n0
                have e1 := ((unhide HBX).below (unhide HBJ)).n1
                clear HBX HRW4 HB4 HM14 HM24 HBJ
                by_cases hm : (x, y) ∈ l'
                · rw [decide_eq_true hm]
                  have HLK2 : Hid (l' = nxtP l ((ka.zip kb).take (k + 1))) := hide (by rw [unhide HN, ← unhide HLK, if_pos hm])
                  clear hm
                  go_wp2_with fail
                  go_roundw
                  case rel => exact ⟨k + 1, l', by omega, by go_num, HLK2, HRW5, HB5, HM15, HM25⟩
                  case measure => simp [intOf]; omega
                · rw [decide_eq_false hm]
                  have HLK2 : Hid (l' ++ [(x, y)] = nxtP l ((ka.zip kb).take (k + 1))) := hide (by rw [unhide HN, ← unhide HLK, if_neg hm])
                  have hal := step_a (Below.refl wr.heap.size wr) (.cells #[.int .i64 x, .int .i64 y] 87)
                  have HRW6 := hide (own_below (unhide HRW5) hal)
                  have HB6 := hide (step_b (unhide HB5) hal)
                  have HM16 := hide ((unhide HM15).below hal)
                  have HM26 := hide ((unhide HM25).below hal)
                  clear hm hal HRW5 HM15 HM25
                  go_wp2_with (at_builtin; refine wpList_append_own _ rfl (.tmp 85) (.tmp 87) 88 rfl w.heap.size 87 i0 (.agg #[.int .i64 0, .int .i64 0]) 2 16 Tryz.underlying88 hi hz0 hz1 hz2 rfl (by decide) _ l'.length (pv l') rfl (unhide HRW6) ⟨wr.heap.size, 0, none⟩ 1 1 [.int .i64 x, .int .i64 y] rfl rfl (World.news_of_block (cs := #[.int .i64 x, .int .i64 y]) (t := 87) (fr := (0, 0)) (heap_alloc_new wr _)) (by intro u hu; simp at hu; rcases hu with rfl | rfl <;> rfl) (by unfold maxLen; omega) (by omega) (by have := (unhide HB5).size; simp; omega) ?_; intro v' w7 hown7 hg7 hnil7; clear hnil7)
                  have HRW7 : Hid (RowP w7 w.heap.size 87 v' (l' ++ [(x, y)])) := hide (by unfold RowP; rw [pv_snoc, List.length_append]; exact hown7)
                  have HB7 := hide (below_grown (unhide HB6) (unhide HRW6) hg7 (unhide HB6).size)
                  have HM17 := hide ((unhide HM16).grown hg7 (own_ne3 (unhide HM16) (unhide HRW6) (by decide)))
                  have HM27 := hide ((unhide HM26).grown hg7 (own_ne3 (unhide HM26) (unhide HRW6) (by decide)))
                  obtain ⟨p7, c7, rfl⟩ := own_form hown7
                  clear hown7 hg7 HB6 HRW6 HM16 HM26
                  go_wp2_with fail
                  go_roundw
                  case rel => exact ⟨k + 1, _, by omega, by go_num, HLK2, HRW7, HB7, HM17, HM27⟩
                  case measure => simp [intOf]; omega
          · obtain rfl : k = ka.length := by omega
            have HK : Hid (l' = nxtP l (kidsP ns ms pa pb)) := hide (by rw [unhide HLK, unhide HKID, List.take_of_length_le (by rw [List.length_zip]; omega)])
            have hok := nxtP_ok (unhide HL).1 (unhide HL).2 (ks := kidsP ns ms pa pb) (fun z hz => kidsP_in (unhide HOK).1 (unhide HOK).2 pa pb ((unhide HL).2 _ (List.mem_of_getElem? (unhide HPI))) z hz)
            have hF2 := (unhide HF).next (unhide HPI) (unhide HLAB)
            rw [← unhide HK] at hok hF2
            have hpre : i + 1 ≤ l'.length := by
              obtain ⟨r, hr⟩ := nxtP_pre (ks := kidsP ns ms pa pb) (l := l)
              rw [unhide HK, hr, List.length_append]; omega
            have HL2 : Hid (l'.Nodup ∧ ∀ z ∈ l', InP ns.length ms.length z) := hide ⟨hok.1, hok.2.1⟩
            have HF2 := hide hF2
            obtain ⟨p8, c8, rfl⟩ := own_form (unhide HRW)
            clear hok hF2
            go_wp2_with fail
            go_roundw
            case rel => exact ⟨l', i + 1, hpre, by go_num, HRW, HB, HL2, HF2⟩
            case measure => simp [intOf]; omega
      · have hcz : (c == 0) = false := beq_eq_false_iff_ne.2 hc0
        have HQ := hide ((unhide HF).stop (unhide HPI) (by rw [unhide HLAB]; exact hc0))
        clear hc0
        go_wp2_with fail
        go_ret
        exact ⟨ret_int (by rw [unhide HQ, unhide HLAB]), unhide HB3⟩
    · obtain rfl : i = l.length := by omega
      have HQ := hide (unhide HF).done
      obtain ⟨p9, c9, rfl⟩ := own_form (unhide HRW)
      go_wp2_with fail
      go_ret
      exact ⟨ret_int (unhide HQ).symm, unhide HB⟩
end Go.Proofs.YtpbnmhnbkfnaeaaGreatDoor
/- Contracts of Go's library at this program: as the kit's lay-shelf.mjs and lay-plain.mjs print them (the numbers are this seat's: lay anew at another). -/
namespace Go.Proofs.YtpbnmhnbkfnaeaaGreatDoor
open Go.Shelf
def Tryz.laysM316_ren : Go.Shelf.Ren := ⟨fun | 316 => 120 | n => n, fun | 9 => 9 | 3 => 3 | 4 => 4 | 37 => 22 | 0 => 0 | 127 => 174 | 5 => 5 | n => n, fun | n => n⟩
theorem Tryz.laysM316 : Go.Proofs.LaysM.n316 Tryz.prog Tryz.laysM316_ren := {
  mixed := by kernel_rfl
  f316 := Tryz.func120.trans (congrArg some (by kernel_rfl))
  t0 := Tryz.underlying0
  a0 := Tryz.isAgg0
  z0 := Tryz.sizeOf0
  v0 := Tryz.zeroValue0
  t3 := Tryz.underlying3
  a3 := Tryz.isAgg3
  z3 := Tryz.sizeOf3
  v3 := Tryz.zeroValue3
  t4 := Tryz.underlying4
  a4 := Tryz.isAgg4
  z4 := Tryz.sizeOf4
  v4 := Tryz.zeroValue4
  t9 := Tryz.underlying9
  a9 := Tryz.isAgg9
  z9 := Tryz.sizeOf9
  v9 := Tryz.zeroValue9
  t37 := Tryz.underlying22
  a37 := Tryz.isAgg22
  z37 := Tryz.sizeOf22
  v37 := Tryz.zeroValue22
  t127 := Tryz.underlying174
  a127 := Tryz.isAgg174
  z127 := Tryz.sizeOf174
  v127 := Tryz.zeroValue174
  t5 := Tryz.underlying5
  a5 := Tryz.isAgg5
  z5 := Tryz.sizeOf5
  v5 := Tryz.zeroValue5
  i0 := by kernel_rfl
  i3 := by kernel_rfl
  i4 := by kernel_rfl
  i5 := by kernel_rfl
  i9 := by kernel_rfl
  i37 := by kernel_rfl
  i127 := by kernel_rfl }
open Go.RowKit in
/-- internal/stringslite.Clone (what strings.Clone calls): "Clone returns a fresh copy of s.": THE SAME BYTES. Of what was there nothing has turned (a new row is laid, and frozen, where s is not empty). (LAID: no walk: one application.) -/
theorem Tryz.stringslite_Clone (s : ByteArray) (w : World) (hlim : s.size ≤ 281474976710656) :
    Calls Tryz.prog 120 #[.string s] w fun e w' => e = .returned (.string s) ∧ Below w.heap.size w w' := Any.stringslite_Clone Tryz.laysM316 s w hlim
end Go.Proofs.YtpbnmhnbkfnaeaaGreatDoor
/- (ReadNode).copied: a node that shares no memory with another one. -/
namespace Go.Proofs.YtpbnmhnbkfnaeaaGreatDoor
open Go.RowKit Nt

theorem clone_c (t : List UInt8) (w : World) (h : t.length ≤ 1048576) :
    Calls Tryz.prog 86 #[.string (B t)] w fun e w' => e = .returned (.string (B t)) ∧ Below w.heap.size w w' := by
  have hs : (B t).size ≤ 281474976710656 := by rw [show (B t).size = t.length from by simp [B, ByteArray.size]]; omega
  go_enter Tryz.func86, Tryz.ntmps86
  go_wp2_with fail
  refine (Tryz.stringslite_Clone (B t) w hs).mono ?_
  rintro e w' ⟨rfl, hb⟩
  go_wp2_with fail
  go_ret
  exact ⟨rfl, hb⟩
theorem at3_one {w : World} {b i : Nat} {cs : Array Value} {T : TypeId} (h : w.heap[b]? = some (.cells cs T (0, 0))) (u : Value) : (w.setCell ⟨b, i, none⟩ u).heap[b]? = some (.cells (cs.setIfInBounds i u) T (0, 0)) := by
  show (w.heap.modify b _)[b]? = _
  rw [Array.getElem?_modify, if_pos rfl, h]; rfl
theorem at3_put {w : World} {b : Nat} {x y z : Value} {T : TypeId} (h : AtC3 w b x y z T) (u v t : Value) : AtC3 (((w.setCell ⟨b, 0, none⟩ u).setCell ⟨b, 1, none⟩ v).setCell ⟨b, 2, none⟩ t) b u v t T :=
  at3_one (i := 2) (at3_one (i := 1) (at3_one (i := 0) h u) v) t
theorem far_st3 {w : World} {b : Nat} {u0 u1 u2 v : Value} {a : Addr} (h : w.cell? a = some v) (hne : a.block ≠ b) : (((w.setCell ⟨b, 0, none⟩ u0).setCell ⟨b, 1, none⟩ u1).setCell ⟨b, 2, none⟩ u2).cell? a = some v := by
  rw [World.cell?_setCell_far _ _ _ _ (Ne.symm hne), World.cell?_setCell_far _ _ _ _ (Ne.symm hne), World.cell?_setCell_far _ _ _ _ (Ne.symm hne)]
  exact h
set_option maxRecDepth 100000 in
set_option maxHeartbeats 4000000 in
theorem copied_c (nd : Nd) (ka : Option Addr) (kc : Nat) (w : World) (hk : IntsAt w (.slice ka nd.2.2.length kc) nd.2.2) (hs : nd.2.2.length ≤ 1048576) (ht : nd.2.1.length ≤ 1048576) :
    Calls Tryz.prog 44 #[.agg #[.int .i64 nd.1, .string (B nd.2.1), .slice ka nd.2.2.length kc]] w fun e w' =>
      (∃ ga gc, e = .returned (.agg #[.int .i64 nd.1, .string (B nd.2.1), .slice ga nd.2.2.length gc]) ∧ RowI w' w.heap.size (.slice ga nd.2.2.length gc) nd.2.2) ∧ Below w.heap.size w w' := by
  obtain ⟨s, t, k⟩ := nd
  simp only at *
  have HB := hide (step_a (step_a (Below.refl w.heap.size w) (.cells #[.int .i64 s, .string (B t), .slice ka k.length kc] 56)) (.cells #[.int .i64 0, .string ⟨#[]⟩, .slice none 0 0] 56))
  have HA := hide ((AtC3.new w (.int .i64 s) (.string (B t)) (.slice ka k.length kc) 56).below (step_a (Below.refl _ _) (.cells #[.int .i64 0, .string ⟨#[]⟩, .slice none 0 0] 56)))
  have HR := hide (AtC3.new (w.alloc (.cells #[.int .i64 s, .string (B t), .slice ka k.length kc] 56)) (.int .i64 0) (.string ⟨#[]⟩) (.slice none 0 0) 56)
  rw [World.size_alloc] at HR
  have HK := hide hk
  have HC := hide (fun W => clone_c t W ht)
  clear hk ht
  go_enter Tryz.func44, Tryz.ntmps44
  go_wp2_with fail
  obtain ⟨W, hW⟩ : ∃ W, (w.alloc (.cells #[.int .i64 s, .string (B t), .slice ka k.length kc] 56)).alloc (.cells #[.int .i64 0, .string ⟨#[]⟩, .slice none 0 0] 56) = W := ⟨_, rfl⟩
  rw [hW] at HB HA HR ⊢
  clear hW
  have a0 := (unhide HA).n0
  have a1 := (unhide HA).n1
  have a2 := (unhide HA).n2
  have d0 : W.drew.cell? ⟨w.heap.size, 0, none⟩ = some (.int .i64 s) := a0
  have d1 : W.drew.cell? ⟨w.heap.size, 1, none⟩ = some (.string (B t)) := a1
  have d2 : W.drew.cell? ⟨w.heap.size, 2, none⟩ = some (.slice ka k.length kc) := a2
  have BA : Hid (Below W.heap.size W (W.alloc (.cells #[] 3)).drew) := hide (step_a (Below.refl W.heap.size W) _).drew
  have RA : Hid (RowI (W.alloc (.cells #[] 3)).drew W.heap.size (.slice (some ⟨W.heap.size, 0, none⟩) 0 0) []) := hide (rowI_made W)
  have g0 := ((unhide HA).below (unhide BA)).n0
  have g1 := ((unhide HA).below (unhide BA)).n1
  have g2 := ((unhide HA).below (unhide BA)).n2
  go_region_held_law (fun w' => w'.cell? ⟨w.heap.size, 0, none⟩ = some (.int .i64 s) ∧ w'.cell? ⟨w.heap.size, 1, none⟩ = some (.string (B t)) ∧ w'.cell? ⟨w.heap.size, 2, none⟩ = some (.slice ka k.length kc)) (((try dsimp only); (repeat' apply And.intro) <;> (first | with_reducible assumption | (refine far_st3 (by with_reducible assumption) (by show w.heap.size ≠ w.heap.size + 1; omega)))))
    ((first
      | (refine step_append_ints (by rfl) _ _ (by rfl) W.heap.size (.slice (some ⟨W.heap.size, 0, none⟩) 0 0) (.slice ka k.length kc) [] k (by rfl) (by rfl) (by with_reducible exact unhide RA) (((unhide HK).below (unhide HB)).below (unhide BA)) (by simp; omega) (unhide BA).size (some 11) (by rfl) ?_; intro v6 w6 hr6 hg6 _; obtain ⟨ra, rc, rfl⟩ := own_form hr6; have HR6 := hide hr6; have HB6 : Hid (Below W.heap.size W w6) := hide (below_grown (unhide BA) (unhide RA) hg6 (unhide BA).size); have h0 := ((unhide HA).below (unhide HB6)).n0; have h1 := ((unhide HA).below (unhide HB6)).n1; have h2 := ((unhide HA).below (unhide HB6)).n2; have i0 := ((unhide HR).below (unhide HB6)).n0; have i1 := ((unhide HR).below (unhide HB6)).n1; have i2 := ((unhide HR).below (unhide HB6)).n2; have jf := ((unhide HR).below (unhide HB6)).f; clear hr6 hg6)
      | (refine step_append_ints (by rfl) _ _ (by rfl) W.heap.size (.slice (some ⟨W.heap.size, 0, none⟩) 0 0) (.slice ka k.length kc) [] k (by rfl) (by rfl) (by with_reducible exact (unhide RB5)) (((unhide HK).below (unhide HB)).below (unhide HB5)) (by simp; omega) (unhide HB5).size (some 11) (by rfl) ?_; intro v6 w6 hr6 hg6 _; obtain ⟨ra, rc, rfl⟩ := own_form hr6; have HR6 := hide hr6; have HB6 : Hid (Below W.heap.size W w6) := hide (below_grown (unhide HB5) (unhide RB5) hg6 (unhide HB5).size); have h0 := ((unhide HA).below (unhide HB6)).n0; have h1 := ((unhide HA).below (unhide HB6)).n1; have h2 := ((unhide HA).below (unhide HB6)).n2; have i0 := ((unhide HR).below (unhide HB6)).n0; have i1 := ((unhide HR).below (unhide HB6)).n1; have i2 := ((unhide HR).below (unhide HB6)).n2; have jf := ((unhide HR).below (unhide HB6)).f; clear hr6 hg6)
      | (refine step_append_ints (by rfl) _ _ (by rfl) W.heap.size (.slice (some ⟨w5.heap.size, 0, none⟩) 0 0) (.slice ka k.length kc) [] k (by rfl) (by rfl) (by with_reducible exact (unhide RC5)) (((unhide HK).below (unhide HB)).below (step_a (unhide HB5) _)) (by simp; omega) (step_a (unhide HB5) _).size (some 11) (by rfl) ?_; intro v6 w6 hr6 hg6 _; obtain ⟨ra, rc, rfl⟩ := own_form hr6; have HR6 := hide hr6; have HB6 : Hid (Below W.heap.size W w6) := hide (below_grown (step_a (unhide HB5) _) (unhide RC5) hg6 (step_a (unhide HB5) _).size); have h0 := ((unhide HA).below (unhide HB6)).n0; have h1 := ((unhide HA).below (unhide HB6)).n1; have h2 := ((unhide HA).below (unhide HB6)).n2; have i0 := ((unhide HR).below (unhide HB6)).n0; have i1 := ((unhide HR).below (unhide HB6)).n1; have i2 := ((unhide HR).below (unhide HB6)).n2; have jf := ((unhide HR).below (unhide HB6)).f; clear hr6 hg6)
      | (go_simp; go_at_call 86; refine (unhide HC _).mono ?_; rintro e w5 ⟨rfl, hb5⟩; have HB5 : Hid (Below W.heap.size W w5) := hide (by first | (with_reducible exact step_b (unhide HB6) hb5) | (with_reducible exact step_b (unhide BA) hb5) | exact (Below.refl W.heap.size W).drew.trans hb5); have RB5 := (by first | (with_reducible exact hide (own_below (unhide HR6) hb5)) | (with_reducible exact hide (own_below (unhide RA) hb5)) | exact True.intro : _); have RC5 : Hid (RowI (w5.alloc (.cells #[] 3)) W.heap.size (.slice (some ⟨w5.heap.size, 0, none⟩) 0 0) []) := hide (own_base (rowI_made w5) (unhide HB5).size); have e0 := ((unhide HA).below (unhide HB5)).n0; have e1 := ((unhide HA).below (unhide HB5)).n1; have e2 := ((unhide HA).below (unhide HB5)).n2; have f0 := ((unhide HA).below (step_a (unhide HB5) (.cells #[] 3))).n0; have f1 := ((unhide HA).below (step_a (unhide HB5) (.cells #[] 3))).n1; have f2 := ((unhide HA).below (step_a (unhide HB5) (.cells #[] 3))).n2; have i0' := ((unhide HR).below (unhide HB5)).n0; have i1' := ((unhide HR).below (unhide HB5)).n1; have i2' := ((unhide HR).below (unhide HB5)).n2; have jf' := ((unhide HR).below (unhide HB5)).f; clear hb5; (try dsimp only))))
  ·
    -- HB6 what is below the last world; HR6 the row of kids
    have hR := (unhide HR).below (unhide HB6)
    have hne := own_ne3 hR (unhide HR6) (by decide)
    have hX := at3_put hR (.int .i64 s) (.string (B t)) (.slice ra k.length rc)
    have x0 := hX.n0
    have x1 := hX.n1
    have x2 := hX.n2
    have HO := hide (own_base (own_set3 (i := 0) (u := .int .i64 s) (v := .string (B t)) (t := .slice ra k.length rc) (unhide HR6) hne) (unhide HB).size)
    have HE := hide ((((step_b (unhide HB) (unhide HB6)).setCell (p := ⟨w.heap.size + 1, 0, none⟩) (by show w.heap.size ≤ w.heap.size + 1; omega) (.int .i64 s)).setCell (p := ⟨w.heap.size + 1, 1, none⟩) (by show w.heap.size ≤ w.heap.size + 1; omega) (.string (B t))).setCell (p := ⟨w.heap.size + 1, 2, none⟩) (by show w.heap.size ≤ w.heap.size + 1; omega) (.slice ra k.length rc))
    clear hne hX hR
    go_wp2_with fail
    refine bodyPost_ret (v := .agg #[.int .i64 s, .string (B t), .slice ra k.length rc]) (by simp [results, Tryz.results44, go_sem, x0, x1, x2]) rfl ⟨⟨_, _, rfl, unhide HO⟩, unhide HE⟩
  ·
    -- HB6 what is below the last world; HR6 the row of kids
    have hR := (unhide HR).below (unhide HB6)
    have hne := own_ne3 hR (unhide HR6) (by decide)
    have hX := at3_put hR (.int .i64 s) (.string (B t)) (.slice ra k.length rc)
    have x0 := hX.n0
    have x1 := hX.n1
    have x2 := hX.n2
    have HO := hide (own_base (own_set3 (i := 0) (u := .int .i64 s) (v := .string (B t)) (t := .slice ra k.length rc) (unhide HR6) hne) (unhide HB).size)
    have HE := hide ((((step_b (unhide HB) (unhide HB6)).setCell (p := ⟨w.heap.size + 1, 0, none⟩) (by show w.heap.size ≤ w.heap.size + 1; omega) (.int .i64 s)).setCell (p := ⟨w.heap.size + 1, 1, none⟩) (by show w.heap.size ≤ w.heap.size + 1; omega) (.string (B t))).setCell (p := ⟨w.heap.size + 1, 2, none⟩) (by show w.heap.size ≤ w.heap.size + 1; omega) (.slice ra k.length rc))
    clear hne hX hR
    go_wp2_with fail
    refine bodyPost_ret (v := .agg #[.int .i64 s, .string (B t), .slice ra k.length rc]) (by simp [results, Tryz.results44, go_sem, x0, x1, x2]) rfl ⟨⟨_, _, rfl, unhide HO⟩, unhide HE⟩
end Go.Proofs.YtpbnmhnbkfnaeaaGreatDoor
/- Plain: the order of trees: it may be turned round, and is transitive, as the order of labels is. -/
namespace Go.Proofs.YtpbnmhnbkfnaeaaGreatDoor

/-- an order of labels -/
structure Pre {L : Type} (cmp : L → L → Int) : Prop where
  neg : ∀ x y, cmp y x = - cmp x y
  le : ∀ x y z, cmp x y ≤ 0 → cmp y z ≤ 0 → cmp x z ≤ 0
theorem Pre.zero {L : Type} {cmp : L → L → Int} (h : Pre cmp) {x y z : L} (h1 : cmp x y = 0) (h2 : cmp y z = 0) : cmp x z = 0 := by
  have a := h.le x y z (by omega) (by omega)
  have b := h.le z y x (by have := h.neg y z; omega) (by have := h.neg x y; omega)
  have := h.neg x z
  omega
theorem Pre.lt {L : Type} {cmp : L → L → Int} (h : Pre cmp) {x y z : L} (h1 : cmp x y ≤ 0) (h2 : cmp y z ≤ 0) (hs : cmp x y < 0 ∨ cmp y z < 0) : cmp x z < 0 := by
  have a := h.le x y z h1 h2
  rcases Int.lt_or_eq_of_le a with e | e
  · exact e
  · exfalso
    have n1 := h.neg x z
    rcases hs with hs | hs
    · have := h.le y z x h2 (by omega)
      have := h.neg x y
      omega
    · have := h.le z x y (by omega) h1
      have := h.neg y z
      omega
section
variable {L : Type} {cmp : L → L → Int} {ar : L → Nat} {D E F : Dat L} {a b d : Int}
theorem lb_some {t : Nat} (hl : (D.que a t).length = (E.que b t).length) : (D.lb a t = none ∧ E.lb b t = none) ∨ ∃ x y, D.lb a t = some x ∧ E.lb b t = some y := by
  unfold Dat.lb
  cases e : (D.que a t)[t]? with
  | none =>
    have : (E.que b t)[t]? = none := by rw [List.getElem?_eq_none_iff] at e ⊢; omega
    rw [this]
    exact .inl ⟨rfl, rfl⟩
  | some x =>
    have hlt := (List.getElem?_eq_some_iff.1 e).1
    rw [List.getElem?_eq_getElem (show t < (E.que b t).length by omega)]
    exact .inr ⟨_, _, rfl, rfl⟩
/-- at a place ahead of which all three are alike -/
theorem point (hp : Pre cmp) (hD : ∀ x, (D.kids x).length = ar (D.lab x)) (hE : ∀ x, (E.kids x).length = ar (E.lab x)) (hF : ∀ x, (F.kids x).length = ar (F.lab x)) (hc : ∀ x y, cmp x y = 0 → ar x = ar y) {t : Nat}
    (h1 : ∀ s, s < t → cO cmp (D.lb a s) (E.lb b s) = 0) (h2 : ∀ s, s < t → cO cmp (E.lb b s) (F.lb d s) = 0) (l1 : cO cmp (D.lb a t) (E.lb b t) ≤ 0) (l2 : cO cmp (E.lb b t) (F.lb d t) ≤ 0) :
    (cO cmp (D.lb a t) (E.lb b t) = 0 → cO cmp (E.lb b t) (F.lb d t) = 0 → cO cmp (D.lb a t) (F.lb d t) = 0) ∧
    (cO cmp (D.lb a t) (E.lb b t) < 0 ∨ cO cmp (E.lb b t) (F.lb d t) < 0 → cO cmp (D.lb a t) (F.lb d t) < 0) := by
  rcases lb_some (que_len hD hE hc t h1) with ⟨e1, e2⟩ | ⟨x, y, e1, e2⟩
  · rw [e1, e2]
    exact ⟨fun _ _ => rfl, fun h => by rcases h with h | h <;> exact absurd h (by simp [cO])⟩
  · rcases lb_some (que_len hE hF hc t h2) with ⟨e3, e4⟩ | ⟨y', z, e3, e4⟩
    · rw [e2] at e3; cases e3
    · rw [e2] at e3
      obtain rfl := Option.some.inj e3
      rw [e1, e2] at l1
      rw [e2, e4] at l2
      rw [e1, e2, e4]
      exact ⟨fun g1 g2 => hp.zero g1 g2, fun g => hp.lt l1 l2 g⟩
theorem all_zero (hp : Pre cmp) (hD : ∀ x, (D.kids x).length = ar (D.lab x)) (hE : ∀ x, (E.kids x).length = ar (E.lab x)) (hF : ∀ x, (F.kids x).length = ar (F.lab x)) (hc : ∀ x y, cmp x y = 0 → ar x = ar y) {t : Nat}
    (h1 : ∀ s, s < t → cO cmp (D.lb a s) (E.lb b s) = 0) (h2 : ∀ s, s < t → cO cmp (E.lb b s) (F.lb d s) = 0) : ∀ s, s < t → cO cmp (D.lb a s) (F.lb d s) = 0 := fun s hs =>
  (point hp hD hE hF hc (t := s) (fun u hu => h1 u (by omega)) (fun u hu => h2 u (by omega)) (by rw [h1 s hs]; omega) (by rw [h2 s hs]; omega)).1 (h1 s hs) (h2 s hs)
/-- no greater, and no greater: no greater; less, where one of them is less -/
theorem tree_le (hp : Pre cmp) (hD : ∀ x, (D.kids x).length = ar (D.lab x)) (hE : ∀ x, (E.kids x).length = ar (E.lab x)) (hF : ∀ x, (F.kids x).length = ar (F.lab x)) (hc : ∀ x y, cmp x y = 0 → ar x = ar y) {r1 r2 r3 : Int}
    (i1 : IsFirst (fun s => cO cmp (D.lb a s) (E.lb b s)) r1) (i2 : IsFirst (fun s => cO cmp (E.lb b s) (F.lb d s)) r2) (i3 : IsFirst (fun s => cO cmp (D.lb a s) (F.lb d s)) r3) (l1 : r1 ≤ 0) (l2 : r2 ≤ 0) :
    r3 ≤ 0 ∧ (r1 < 0 ∨ r2 < 0 → r3 < 0) := by
  -- the first place where one of the two differs
  have key : ∀ t, (∀ s, s < t → cO cmp (D.lb a s) (E.lb b s) = 0) → (∀ s, s < t → cO cmp (E.lb b s) (F.lb d s) = 0) → cO cmp (D.lb a t) (E.lb b t) ≠ 0 ∨ cO cmp (E.lb b t) (F.lb d t) ≠ 0 → r3 < 0 := by
    intro t h1 h2 hne
    have m1 : cO cmp (D.lb a t) (E.lb b t) ≤ 0 := by
      by_cases e : cO cmp (D.lb a t) (E.lb b t) = 0
      · omega
      · have := i1.at h1 e; omega
    have m2 : cO cmp (E.lb b t) (F.lb d t) ≤ 0 := by
      by_cases e : cO cmp (E.lb b t) (F.lb d t) = 0
      · omega
      · have := i2.at h2 e; omega
    have h3 := (point hp hD hE hF hc h1 h2 m1 m2).2 (by omega)
    have := i3.at (all_zero hp hD hE hF hc h1 h2) (by omega)
    omega
  rcases i1 with ⟨e1, z1⟩ | ⟨t1, g1, n1, e1⟩
  · rcases i2 with ⟨e2, z2⟩ | ⟨t2, g2, n2, e2⟩
    · have h3 := i3.zero (fun s => all_zero hp hD hE hF hc (t := s + 1) (fun u _ => z1 u) (fun u _ => z2 u) s (by omega))
      omega
    · have := key t2 (fun s _ => z1 s) g2 (.inr n2)
      omega
  · rcases i2 with ⟨e2, z2⟩ | ⟨t2, g2, n2, e2⟩
    · have := key t1 g1 (fun s _ => z2 s) (.inl n1)
      omega
    · by_cases h : t1 ≤ t2
      · have := key t1 g1 (fun s hs => g2 s (by omega)) (.inl n1)
        omega
      · have := key t2 (fun s hs => g1 s (by omega)) g2 (.inr n2)
        omega
/-- turned round -/
theorem tree_neg (hp : Pre cmp) {r1 r2 : Int} (i1 : IsFirst (fun s => cO cmp (D.lb a s) (E.lb b s)) r1) (i2 : IsFirst (fun s => cO cmp (E.lb b s) (D.lb a s)) r2) : r2 = - r1 := by
  have hn : ∀ s, cO cmp (E.lb b s) (D.lb a s) = - cO cmp (D.lb a s) (E.lb b s) := fun s => by
    cases D.lb a s with
    | none => cases E.lb b s <;> rfl
    | some x => cases E.lb b s with
      | none => rfl
      | some y => exact hp.neg x y
  rcases i1 with ⟨e1, z1⟩ | ⟨t1, g1, n1, e1⟩
  · rw [i2.zero (fun s => by simp only [hn, z1 s]; rfl), e1]; rfl
  · simp only at g1 n1 e1
    rw [i2.at (t := t1) (fun s hs => by simp only [hn, g1 s hs]; rfl) (by simp only [hn]; omega), hn, e1]
end
end Go.Proofs.YtpbnmhnbkfnaeaaGreatDoor
/- Plain: two lists in order, with the same of each kind in the same order, are one list: so stable sorts agree. -/
namespace Go.Proofs.YtpbnmhnbkfnaeaaGreatDoor

theorem stable_one {α : Type} {r : α → α → Int} (hp : Pre r) : ∀ {l m : List α}, l.Pairwise (fun x y => r x y ≤ 0) → m.Pairwise (fun x y => r x y ≤ 0) → (∀ x, l.filter (fun y => decide (r x y = 0)) = m.filter (fun y => decide (r x y = 0))) → l = m := by
  have h0 : ∀ x, r x x = 0 := fun x => by have := hp.neg x x; omega
  have hmem : ∀ {l m : List α}, (∀ x, l.filter (fun y => decide (r x y = 0)) = m.filter (fun y => decide (r x y = 0))) → ∀ x ∈ l, x ∈ m := fun {l m} h x hx => by
    have h1 : x ∈ l.filter (fun y => decide (r x y = 0)) := List.mem_filter.2 ⟨hx, by simp [h0]⟩
    rw [h x] at h1
    exact (List.mem_filter.1 h1).1
  intro l
  induction l with
  | nil =>
    intro m _ _ h
    cases m with
    | nil => rfl
    | cons b t => exact absurd (hmem (fun x => (h x).symm) b List.mem_cons_self) (by simp)
  | cons a t ih =>
    intro m hl hm h
    cases m with
    | nil => exact absurd (hmem h a List.mem_cons_self) (by simp)
    | cons b u =>
      have hb := hmem (fun x => (h x).symm) b List.mem_cons_self
      have ha := hmem h a List.mem_cons_self
      rw [List.pairwise_cons] at hl hm
      have l1 : r a b ≤ 0 := by
        rcases List.mem_cons.1 hb with e | e
        · rw [e, h0]; omega
        · exact hl.1 b e
      have l2 : r b a ≤ 0 := by
        rcases List.mem_cons.1 ha with e | e
        · rw [e, h0]; omega
        · exact hm.1 a e
      have e0 : r a b = 0 := by have := hp.neg a b; omega
      have h1 := h a
      rw [List.filter_cons_of_pos (by simp [h0]), List.filter_cons_of_pos (by simp [e0])] at h1
      injection h1 with e1 _
      subst e1
      rw [ih hl.2 hm.2 (fun x => ?_)]
      have h2 := h x
      rw [List.filter_cons, List.filter_cons] at h2
      split at h2
      · injection h2
      · exact h2
end Go.Proofs.YtpbnmhnbkfnaeaaGreatDoor
/- Plain: putting one in behind those that are not greater keeps a list in order, and each kind as it was. -/
namespace Go.Proofs.YtpbnmhnbkfnaeaaGreatDoor

def insF {α : Type} (r : α → α → Int) (x : α) : List α → List α
  | [] => [x]
  | y :: t => if r y x ≤ 0 then y :: insF r x t else x :: y :: t
theorem insF_mem {α : Type} {r : α → α → Int} {x z : α} : ∀ {l : List α}, z ∈ insF r x l ↔ z = x ∨ z ∈ l
  | [] => by simp [insF]
  | y :: t => by
    unfold insF
    split
    · rw [List.mem_cons, insF_mem, List.mem_cons]
      constructor
      · rintro (h | h | h)
        · exact .inr (.inl h)
        · exact .inl h
        · exact .inr (.inr h)
      · rintro (h | h | h)
        · exact .inr (.inl h)
        · exact .inl h
        · exact .inr (.inr h)
    · rw [List.mem_cons]
theorem insF_sorted {α : Type} {r : α → α → Int} (hp : Pre r) {x : α} : ∀ {l : List α}, l.Pairwise (fun x y => r x y ≤ 0) → (insF r x l).Pairwise (fun x y => r x y ≤ 0)
  | [], _ => by simp [insF]
  | y :: t, h => by
    rw [List.pairwise_cons] at h
    unfold insF
    split
    · rename_i e
      rw [List.pairwise_cons]
      refine ⟨fun z hz => ?_, insF_sorted hp h.2⟩
      rcases insF_mem.1 hz with hz | hz
      · rw [hz]; exact e
      · exact h.1 z hz
    · rename_i e
      have hxy : r x y ≤ 0 := by have := hp.neg y x; omega
      rw [List.pairwise_cons, List.pairwise_cons]
      refine ⟨fun z hz => ?_, h⟩
      rcases List.mem_cons.1 hz with hz | hz
      · rw [hz]; exact hxy
      · exact hp.le x y z hxy (h.1 z hz)
theorem insF_kind {α : Type} {r : α → α → Int} (hp : Pre r) {x z : α} : ∀ {l : List α}, l.Pairwise (fun x y => r x y ≤ 0) →
    (insF r x l).filter (fun y => decide (r z y = 0)) = l.filter (fun y => decide (r z y = 0)) ++ [x].filter (fun y => decide (r z y = 0))
  | [], _ => by simp [insF]
  | y :: t, h => by
    rw [List.pairwise_cons] at h
    unfold insF
    split
    · rw [List.filter_cons, List.filter_cons (xs := t), insF_kind hp h.2]
      split <;> rfl
    · rename_i e
      by_cases hz : r z x = 0
      · have hno : ∀ u ∈ y :: t, r z u ≠ 0 := fun u hu hzu => by
          have h1 : r y u ≤ 0 := by
            rcases List.mem_cons.1 hu with hu | hu
            · have := hp.neg y y; rw [hu]; omega
            · exact h.1 u hu
          have h2 : r u x ≤ 0 := hp.le u z x (by have := hp.neg z u; omega) (by omega)
          exact e (hp.le y u x h1 h2)
        have : (y :: t).filter (fun y => decide (r z y = 0)) = [] := by
          rw [List.filter_eq_nil_iff]
          intro u hu
          simpa using hno u hu
        rw [List.filter_cons, this]
        simp [hz]
      · rw [List.filter_cons]
        simp [hz]
end Go.Proofs.YtpbnmhnbkfnaeaaGreatDoor
/- Plain: one list of two that are in order: in order, and each kind as it was. -/
namespace Go.Proofs.YtpbnmhnbkfnaeaaGreatDoor

def mrg {α : Type} (r : α → α → Int) : Nat → List α → List α → List α
  | 0, a, b => a ++ b
  | _ + 1, [], b => b
  | _ + 1, x :: a, [] => x :: a
  | f + 1, x :: a, y :: b => if r x y ≤ 0 then x :: mrg r f a (y :: b) else y :: mrg r f (x :: a) b
theorem mrg_mem {α : Type} {r : α → α → Int} {z : α} : ∀ {f : Nat} {a b : List α}, z ∈ mrg r f a b ↔ z ∈ a ∨ z ∈ b
  | 0, a, b => by simp [mrg]
  | _ + 1, [], b => by simp [mrg]
  | _ + 1, x :: a, [] => by simp [mrg]
  | f + 1, x :: a, y :: b => by
    unfold mrg
    split
    · rw [List.mem_cons, mrg_mem, List.mem_cons (b := x)]
      exact ⟨fun h => by rcases h with h | h | h <;> simp [h], fun h => by rcases h with (h | h) | h <;> simp [h]⟩
    · rw [List.mem_cons, mrg_mem, List.mem_cons (b := y)]
      exact ⟨fun h => by rcases h with h | h | h <;> simp [h], fun h => by rcases h with h | h | h <;> simp [h]⟩
theorem mrg_sorted {α : Type} {r : α → α → Int} (hp : Pre r) : ∀ {f : Nat} {a b : List α}, a.length + b.length ≤ f → a.Pairwise (fun x y => r x y ≤ 0) → b.Pairwise (fun x y => r x y ≤ 0) → (mrg r f a b).Pairwise (fun x y => r x y ≤ 0)
  | 0, a, b, hf, ha, hb => by
    have : a = [] := List.eq_nil_of_length_eq_zero (by omega)
    subst this
    simpa [mrg] using hb
  | _ + 1, [], b, _, _, hb => by simpa [mrg] using hb
  | _ + 1, x :: a, [], _, ha, _ => by simpa [mrg] using ha
  | f + 1, x :: a, y :: b, hf, ha, hb => by
    simp only [List.length_cons] at hf
    unfold mrg
    have ha' := List.pairwise_cons.1 ha
    have hb' := List.pairwise_cons.1 hb
    split
    · rename_i e
      rw [List.pairwise_cons]
      refine ⟨fun z hz => ?_, mrg_sorted hp (by simp; omega) ha'.2 hb⟩
      rcases mrg_mem.1 hz with hz | hz
      · exact ha'.1 z hz
      · rcases List.mem_cons.1 hz with hz | hz
        · rw [hz]; exact e
        · exact hp.le x y z e (hb'.1 z hz)
    · rename_i e
      have hyx : r y x ≤ 0 := by have := hp.neg x y; omega
      rw [List.pairwise_cons]
      refine ⟨fun z hz => ?_, mrg_sorted hp (by simp; omega) ha hb'.2⟩
      rcases mrg_mem.1 hz with hz | hz
      · rcases List.mem_cons.1 hz with hz | hz
        · rw [hz]; exact hyx
        · exact hp.le y x z hyx (ha'.1 z hz)
      · exact hb'.1 z hz
theorem mrg_kind {α : Type} {r : α → α → Int} (hp : Pre r) {z : α} : ∀ {f : Nat} {a b : List α}, a.Pairwise (fun x y => r x y ≤ 0) →
    (mrg r f a b).filter (fun y => decide (r z y = 0)) = a.filter (fun y => decide (r z y = 0)) ++ b.filter (fun y => decide (r z y = 0))
  | 0, a, b, _ => by simp [mrg]
  | _ + 1, [], b, _ => by simp [mrg]
  | _ + 1, x :: a, [], _ => by simp [mrg]
  | f + 1, x :: a, y :: b, ha => by
    have ha' := List.pairwise_cons.1 ha
    unfold mrg
    split
    · rw [List.filter_cons, mrg_kind hp ha'.2, List.filter_cons (xs := a)]
      split <;> rfl
    · rename_i e
      rw [List.filter_cons, mrg_kind hp ha, List.filter_cons (xs := b)]
      by_cases hz : r z y = 0
      · have hno : (x :: a).filter (fun y => decide (r z y = 0)) = [] := by
          rw [List.filter_eq_nil_iff]
          intro u hu hzu
          have hzu : r z u = 0 := by simpa using hzu
          have h1 : r x u ≤ 0 := by
            rcases List.mem_cons.1 hu with hu | hu
            · have := hp.neg x x; rw [hu]; omega
            · exact ha'.1 u hu
          exact e (hp.le x u y h1 (hp.le u z y (by have := hp.neg z u; omega) (by omega)))
        rw [hno]
        simp [hz]
      · simp [hz]
end Go.Proofs.YtpbnmhnbkfnaeaaGreatDoor
/- Plain: a list put in order, each behind those that are not greater; two such put together are one such. -/
namespace Go.Proofs.YtpbnmhnbkfnaeaaGreatDoor

def srt {α : Type} (r : α → α → Int) (l : List α) : List α := l.foldl (fun m x => insF r x m) []
section
variable {α : Type} {r : α → α → Int}
theorem srt_from (hp : Pre r) : ∀ {l m : List α}, m.Pairwise (fun x y => r x y ≤ 0) → (l.foldl (fun m x => insF r x m) m).Pairwise (fun x y => r x y ≤ 0) ∧
    (∀ z, (l.foldl (fun m x => insF r x m) m).filter (fun y => decide (r z y = 0)) = m.filter (fun y => decide (r z y = 0)) ++ l.filter (fun y => decide (r z y = 0))) ∧ (∀ z, z ∈ l.foldl (fun m x => insF r x m) m ↔ z ∈ m ∨ z ∈ l)
  | [], m, h => ⟨h, fun z => by simp, fun z => by simp⟩
  | x :: l, m, h => by
    obtain ⟨h1, h2, h3⟩ := srt_from hp (l := l) (insF_sorted hp (x := x) h)
    refine ⟨h1, fun z => ?_, fun z => ?_⟩
    · show (l.foldl (fun m x => insF r x m) (insF r x m)).filter _ = _
      rw [h2, insF_kind hp h, List.append_assoc, ← List.filter_append]
      rfl
    · show z ∈ l.foldl (fun m x => insF r x m) (insF r x m) ↔ _
      rw [h3, insF_mem, List.mem_cons]
      constructor
      · rintro ((h | h) | h) <;> simp [h]
      · rintro (h | h | h) <;> simp [h]
theorem srt_sorted (hp : Pre r) (l : List α) : (srt r l).Pairwise (fun x y => r x y ≤ 0) := (srt_from hp List.Pairwise.nil).1
theorem srt_kind (hp : Pre r) (l : List α) (z : α) : (srt r l).filter (fun y => decide (r z y = 0)) = l.filter (fun y => decide (r z y = 0)) := by
  have := (srt_from hp (l := l) List.Pairwise.nil).2.1 z
  simpa [srt] using this
theorem srt_mem (hp : Pre r) (l : List α) (z : α) : z ∈ srt r l ↔ z ∈ l := by
  have := (srt_from hp (l := l) List.Pairwise.nil).2.2 z
  simpa [srt] using this
theorem insF_len {x : α} : ∀ {l : List α}, (insF r x l).length = l.length + 1
  | [] => rfl
  | y :: t => by
    unfold insF
    split
    · simp [insF_len (l := t)]
    · simp
theorem srt_len' : ∀ {l m : List α}, (l.foldl (fun m x => insF r x m) m).length = m.length + l.length
  | [], m => by simp
  | x :: l, m => by
    show (l.foldl (fun m x => insF r x m) (insF r x m)).length = _
    rw [srt_len', insF_len, List.length_cons]
    omega
theorem srt_len (l : List α) : (srt r l).length = l.length := by simp [srt, srt_len']
theorem srt_snoc (l : List α) (x : α) : srt r (l ++ [x]) = insF r x (srt r l) := by simp [srt]
theorem srt_one (x : α) : srt r [x] = [x] := rfl
theorem srt_small {l : List α} (h : l.length < 2) : srt r l = l := by
  match l, h with
  | [], _ => rfl
  | [x], _ => rfl
theorem mrg_srt (hp : Pre r) (a b : List α) {f : Nat} (hf : a.length + b.length ≤ f) : mrg r f (srt r a) (srt r b) = srt r (a ++ b) := by
  refine stable_one hp (mrg_sorted hp (by rw [srt_len, srt_len]; exact hf) (srt_sorted hp a) (srt_sorted hp b)) (srt_sorted hp _) (fun x => ?_)
  rw [mrg_kind hp (srt_sorted hp a), srt_kind hp, srt_kind hp, srt_kind hp, List.filter_append]
/-- where one is put in: behind the last that is not greater -/
theorem insF_at (hp : Pre r) {x : α} : ∀ {l : List α} {k : Nat}, l.Pairwise (fun x y => r x y ≤ 0) → k ≤ l.length → (∀ j y, l[j]? = some y → k ≤ j → 0 < r y x) → (∀ y, l[k - 1]? = some y → 0 < k → r y x ≤ 0) → insF r x l = l.take k ++ [x] ++ l.drop k
  | [], k, _, hk, _, _ => by simp [insF]
  | y :: t, 0, _, _, h1, _ => by
    have := h1 0 y rfl (Nat.le_refl _)
    unfold insF
    rw [if_neg (by omega)]
    rfl
  | y :: t, k + 1, hs, hk, h1, h2 => by
    rw [List.pairwise_cons] at hs
    have hy : r y x ≤ 0 := by
      by_cases e : k = 0
      · subst e; exact h2 y rfl (by omega)
      · obtain ⟨z, hz⟩ : ∃ z, (y :: t)[k]? = some z := ⟨_, List.getElem?_eq_getElem (by simp at hk ⊢; omega)⟩
        have hzx := h2 z hz (by omega)
        obtain ⟨k', rfl⟩ : ∃ k', k = k' + 1 := ⟨k - 1, by omega⟩
        have hzt : z ∈ t := List.mem_of_getElem? (i := k') (by simpa using hz)
        exact hp.le y z x (hs.1 z hzt) hzx
    unfold insF
    rw [if_pos hy, insF_at hp (k := k) hs.2 (by simp at hk; omega) (fun j z hj hkj => h1 (j + 1) z (by simpa using hj) (by omega)) (fun z hz h0 => by
      obtain ⟨k', rfl⟩ : ∃ k', k = k' + 1 := ⟨k - 1, by omega⟩
      exact h2 z (by simpa using hz) (by omega))]
    rfl
end
end Go.Proofs.YtpbnmhnbkfnaeaaGreatDoor
namespace Go.Proofs.YtpbnmhnbkfnaeaaGreatDoor
open Go.RowKit Nt


theorem gr_word {n : Nat} (h : n ≤ 9223372036854775808) : (gr n).length ≤ 3 := dg_len_le (by omega) (Nat.lt_of_le_of_lt h (by decide))

end Go.Proofs.YtpbnmhnbkfnaeaaGreatDoor
namespace Go.Proofs.YtpbnmhnbkfnaeaaGreatDoor
open Go.RowKit Nt

theorem indexByte_find (c : UInt8) (l : List UInt8) : Lib.indexByte l c = findI c l := by
  unfold findI
  induction l with
  | nil => rfl
  | cons d r ih =>
    unfold Lib.indexByte findB
    by_cases h : d = c
    · simp [h]
    · simp only [h, if_false]
      cases hf : findB c r with
      | none => rw [hf] at ih; simp_all
      | some k => rw [hf] at ih; simp_all; try omega

set_option maxRecDepth 100000 in
set_option maxHeartbeats 4000000 in
theorem indexByte_c (l : List UInt8) (c : UInt8) (w : World) :
    Calls Tryz.prog 221 #[.string (B l), .int .u8 c.toNat] w fun e w' => e = .returned (.int .i64 (findI c l)) ∧ w' = w := by
  go_enter Tryz.func221, Tryz.ntmps221
  go_wp2
  rw [run_callFunc_extern Tryz.func226 (by kernel_rfl) (by kernel_rfl) (by kernel_rfl) (e := Extern.BytealgIndexByte.indexByte) (by kernel_rfl), Lib.run_indexByteString]
  simp only [Result.andThen]
  rw [Oper.upon_value]
  go_wp2
  go_ret
  refine ⟨?_, rfl⟩
  exact ret_int (by rw [B_data, indexByte_find])

set_option maxRecDepth 100000 in
set_option maxHeartbeats 4000000 in
theorem index_c (l : List UInt8) (c : UInt8) (w : World) :
    Calls Tryz.prog 217 #[.string (B l), .string (B [c])] w fun e w' => e = .returned (.int .i64 (findI c l)) ∧ w' = w := by
  have hs1 : (B [c]).size = 1 := rfl
  have hg : (B [c])[0].toNat = c.toNat := rfl
  by_cases hl : [c] = l
  · have he : ((B [c]).toList == (B l).toList) = true := by rw [B_tl, B_tl, hl]; simp
    have Hf : Hid (findI c l = 0) := by show _ = _; rw [← hl]; simp [findI, findB]
    clear hl
    go_enter Tryz.func217, Tryz.ntmps217
    go_wp2
    go_ret
    exact ⟨ret_int (unhide Hf).symm, rfl⟩
  · have he : ((B [c]).toList == (B l).toList) = false := by rw [B_tl, B_tl, beq_eq_false_iff_ne]; exact hl
    clear hl
    go_enter Tryz.func217, Tryz.ntmps217
    go_wp2_with fail
    refine (indexByte_c l c _).mono ?_
    rintro e w1 ⟨rfl, rfl⟩
    go_wp2
    go_ret
    exact ⟨rfl, rfl⟩

/-- a text cut in two at a byte -/
def cutM (c : UInt8) (l : List UInt8) : List UInt8 × List UInt8 × Bool := match findB c l with | some k => (l.take k, l.drop (k + 1), true) | none => (l, [], false)

set_option maxRecDepth 100000 in
set_option maxHeartbeats 4000000 in
theorem cutIn_c (l : List UInt8) (c : UInt8) (w : World) (hs : l.length ≤ 1000000000) :
    Calls Tryz.prog 199 #[.string (B l), .string (B [c])] w fun e w' => e = .returned (.tuple #[.string (B (cutM c l).1), .string (B (cutM c l).2.1), .bool (cutM c l).2.2]) ∧ Below w.heap.size w w' := by
  have hs1 : (B [c]).size = 1 := rfl
  have hsz : (B l).size ≤ 1000000000 := by rw [B_size]; exact hs
  have hix := fun w => index_c l c w
  unfold cutM
  cases hf : findB c l with
  | none =>
    have hi : findI c l = -1 := by unfold findI; rw [hf]
    rw [hi] at hix
    have Hix := hide hix
    clear hix hi hf
    go_enter Tryz.func199, Tryz.ntmps199
    go_wp2_with fail
    refine (unhide Hix _).mono ?_
    rintro e w1 ⟨rfl, rfl⟩
    go_wp2
    go_ret3
    exact ⟨rfl, Below.refl _ _⟩
  | some k =>
    have hk := findB_lt hf
    have hi : findI c l = k := by unfold findI; rw [hf]
    rw [hi] at hix
    have Hix := hide hix
    have hk2 : k < (B l).size := by rw [B_size]; exact hk
    clear hix hi hf
    have c1 : (0 : Int) ≤ ↑k := by omega
    have c2 : (↑k : Int) ≤ ↑(B l).size := by omega
    have c3 : (0 : Int) ≤ ↑k + ↑(B [c]).size := by omega
    have c4 : (↑k + ↑(B [c]).size : Int) ≤ ↑(B l).size := by omega
    have c5 : (0 : Int) ≤ ↑k + 1 := by omega
    have c6 : (↑k + 1 : Int) ≤ ↑(B l).size := by omega
    have w1 := wi64 ((k : Int) + 1) (by omega) (by omega)
    go_enter Tryz.func199, Tryz.ntmps199
    go_wp2_with fail
    refine (unhide Hix _).mono ?_
    rintro e w1 ⟨rfl, rfl⟩
    go_wp2
    go_region
    go_wp2
    go_ret3
    have e1 : (B l).extract 0 k = B (l.take k) := by rw [B_extract]; rfl
    have e2 : (B l).extract (k + 1) (B l).size = B (l.drop (k + 1)) := by rw [B_extract, B_size, List.take_length]
    rw [← e1, ← e2]
    exact ⟨rfl, (Below.refl _ _).drew⟩

set_option maxRecDepth 100000 in
set_option maxHeartbeats 4000000 in
theorem cut_c (l : List UInt8) (c : UInt8) (w : World) (hs : l.length ≤ 1000000000) :
    Calls Tryz.prog 179 #[.string (B l), .string (B [c])] w fun e w' => e = .returned (.tuple #[.string (B (cutM c l).1), .string (B (cutM c l).2.1), .bool (cutM c l).2.2]) ∧ Below w.heap.size w w' := by
  go_enter Tryz.func179, Tryz.ntmps179
  go_wp2_with fail
  refine (cutIn_c l c _ hs).mono ?_
  rintro e w1 ⟨rfl, hb1⟩
  go_wp2
  go_ret3
  exact ⟨rfl, hb1⟩

set_option maxRecDepth 100000 in
set_option maxHeartbeats 4000000 in
theorem prefixIn_c (l : List UInt8) (c : UInt8) (w : World) :
    Calls Tryz.prog 178 #[.string (B l), .string (B [c])] w fun e w' => e = .returned (.bool (l.head? == some c)) ∧ w' = w := by
  have hs1 : (B [c]).size = 1 := rfl
  cases l with
  | nil =>
    have hz : (B []).size = 0 := rfl
    go_enter Tryz.func178, Tryz.ntmps178
    go_wp2
    go_ret
    exact ⟨rfl, rfl⟩
  | cons d r =>
    have hz : (B (d :: r)).size = r.length + 1 := by rw [B_size]; rfl
    have he : (((B (d :: r)).extract 0 1).toList == (B [c]).toList) = ((d :: r).head? == some c) := by
      rw [B_extract, B_tl, B_tl]; simp
    go_enter Tryz.func178, Tryz.ntmps178
    go_wp2
    go_ret
    exact ⟨ret_bool (by simp), rfl⟩

set_option maxRecDepth 100000 in
set_option maxHeartbeats 4000000 in
theorem prefix_c (l : List UInt8) (c : UInt8) (w : World) :
    Calls Tryz.prog 156 #[.string (B l), .string (B [c])] w fun e w' => e = .returned (.bool (l.head? == some c)) ∧ w' = w := by
  go_enter Tryz.func156, Tryz.ntmps156
  go_wp2_with fail
  refine (prefixIn_c l c _).mono ?_
  rintro e w1 ⟨rfl, rfl⟩
  go_wp2
  go_ret
  exact ⟨rfl, rfl⟩

set_option maxRecDepth 100000 in
set_option maxHeartbeats 4000000 in
theorem known_c (r : Int) (w : World) :
    Calls Tryz.prog 155 #[.int .i64 r] w fun e w' => e = .returned (.bool (isRadix r)) ∧ w' = w := by
  unfold isRadix
  by_cases h2 : (r == 2) = true
  · go_enter Tryz.func155, Tryz.ntmps155
    go_wp2
    go_ret
    exact ⟨ret_bool (by simp [h2]), rfl⟩
  · have h2' : (r == 2) = false := by simpa using h2
    clear h2
    by_cases h8 : (r == 8) = true
    · go_enter Tryz.func155, Tryz.ntmps155
      go_wp2
      go_ret
      exact ⟨ret_bool (by simp [h8, h2']), rfl⟩
    · have h8' : (r == 8) = false := by simpa using h8
      clear h8
      by_cases h10 : (r == 10) = true
      · go_enter Tryz.func155, Tryz.ntmps155
        go_wp2
        go_ret
        exact ⟨ret_bool (by simp [h8', h2', h10]), rfl⟩
      · have h10' : (r == 10) = false := by simpa using h10
        clear h10
        by_cases h16 : (r == 16) = true
        · go_enter Tryz.func155, Tryz.ntmps155
          go_wp2
          go_ret
          exact ⟨ret_bool (by simp [h8', h2', h10', h16]), rfl⟩
        · have h16' : (r == 16) = false := by simpa using h16
          clear h16
          go_enter Tryz.func155, Tryz.ntmps155
          go_wp2
          go_ret
          exact ⟨ret_bool (by simp [h8', h2', h10', h16']), rfl⟩
end Go.Proofs.YtpbnmhnbkfnaeaaGreatDoor
namespace Go.Proofs.YtpbnmhnbkfnaeaaGreatDoor
open Go.RowKit Nt

/-- what a rune stands for as a digit: 99, if for nothing -/
def digI (x : Int) : Int := if 48 ≤ x ∧ x ≤ 57 then x - 48 else if 97 ≤ x ∧ x ≤ 102 then x - 87 else 99
def digU (x : Int) : Int := if digI x = 99 then 0 else digI x

theorem digI_byte (c : UInt8) : digI (c.toNat : Int) = (digN c : Nat) := by
  unfold digI digN
  by_cases h1 : 48 ≤ c.toNat ∧ c.toNat ≤ 57
  · rw [if_pos h1, if_pos (by omega)]; omega
  · rw [if_neg h1, if_neg (by omega)]
    by_cases h2 : 97 ≤ c.toNat ∧ c.toNat ≤ 102
    · rw [if_pos h2, if_pos (by omega)]; omega
    · rw [if_neg h2, if_neg (by omega)]; rfl

set_option maxRecDepth 100000 in
set_option maxHeartbeats 4000000 in
theorem value_c (x : Int) (b : Nat) (w : World) (hb : b ≤ 16) :
    Calls Tryz.prog 200 #[.int .i64 b, .int .i32 x] w fun e w' => e = .returned (.tuple #[.int .u64 (digU x), .bool (decide (digI x < b))]) ∧ w' = w := by
  by_cases h1 : 48 ≤ x ∧ x ≤ 57
  · have hf : digI x = x - 48 := by unfold digI; rw [if_pos h1]
    have hu : digU x = x - 48 := by unfold digU; rw [hf, if_neg (by omega)]
    rw [hf, hu]
    have e1 : IntKind.wrap .i32 (x - 48) = x - 48 := by rw [IntKind.wrap_i32]; omega
    have e2 := wu64 (x - 48) (by omega) (by omega)
    have e3 := wi64 (x - 48) (by omega) (by omega)
    obtain ⟨h1a, h1b⟩ := h1
    clear hf hu
    go_enter Tryz.func200, Tryz.ntmps200
    go_wp2
    go_ret2
    exact ⟨rfl, rfl⟩
  · by_cases h2 : 97 ≤ x ∧ x ≤ 102
    · have hf : digI x = x - 87 := by unfold digI; rw [if_neg h1, if_pos h2]
      have hu : digU x = x - 87 := by unfold digU; rw [hf, if_neg (by omega)]
      rw [hf, hu]
      have e1 : IntKind.wrap .i32 (x - 87) = x - 87 := by rw [IntKind.wrap_i32]; omega
      have e2 := wu64 (x - 87) (by omega) (by omega)
      have e3 := wi64 (x - 87) (by omega) (by omega)
      have a1 : 48 ≤ x := by omega
      have a2 : ¬ x ≤ 57 := by omega
      obtain ⟨h2a, h2b⟩ := h2
      clear hf hu h1
      go_enter Tryz.func200, Tryz.ntmps200
      go_wp2
      go_ret2
      exact ⟨rfl, rfl⟩
    · have hf : digI x = 99 := by unfold digI; rw [if_neg h1, if_neg h2]
      have hu : digU x = 0 := by unfold digU; rw [hf, if_pos rfl]
      have hd : decide (digI x < b) = false := by rw [hf]; exact decide_eq_false (by omega)
      rw [hd, hu]
      clear hf hu hd
      by_cases a1 : 48 ≤ x
      · have a2 : ¬ x ≤ 57 := by omega
        by_cases a3 : 97 ≤ x
        · have a4 : ¬ x ≤ 102 := by omega
          clear h1 h2
          go_enter Tryz.func200, Tryz.ntmps200
          go_wp2
          go_ret2
          exact ⟨rfl, rfl⟩
        · clear h1 h2
          go_enter Tryz.func200, Tryz.ntmps200
          go_wp2
          go_ret2
          exact ⟨rfl, rfl⟩
      · have a3 : ¬ 97 ≤ x := by omega
        clear h1 h2
        go_enter Tryz.func200, Tryz.ntmps200
        go_wp2
        go_ret2
        exact ⟨rfl, rfl⟩

/-- the rune at a place: the byte, where it is ASCII; else no digit -/
theorem rune_hex (l : List UInt8) (pos : Nat) (h : pos < l.length) :
    ((l[pos]).toNat < 128 ∧ Utf8.decode (B l) pos = ((l[pos]).toNat, 1)) ∨ (digN (l[pos]) = 99 ∧ 128 ≤ (Utf8.decode (B l) pos).1) := by
  have h2 : pos < (B l).size := by rw [B_size]; exact h
  have hg : ((B l)[pos]'h2) = l[pos]'h := B_get l pos h2
  by_cases ha : (l[pos]).toNat < 128
  · have := decode_ascii (B l) pos h2 (by rw [hg]; exact ha)
    rw [hg] at this
    exact .inl ⟨ha, this⟩
  · have := decode_high (B l) pos h2 (by rw [hg]; omega)
    refine .inr ⟨?_, this.1⟩
    unfold digN; rw [if_neg (by omega), if_neg (by omega)]

theorem own_notBlock {w : World} {base : Nat} {e : TypeId} {size : Nat} {v : Value} {n : Nat} {xs : List Value} (h : w.ownsRow base e size v n xs) {k : Nat} (hk : k < base) : v.ownBlock ≠ some k := by
  intro hh
  have := (h.lt _ hh).1
  omega

theorem nat_made (w : World) : isNat (w.alloc (.cells #[] 173)) (.slice (some ⟨w.heap.size, 0, none⟩) 0 0) 0 := by
  unfold isNat
  rw [gr_zero]
  exact own_base (World.ownsRow_made w #[] 0 (Nat.le_refl _) (by decide) (by simp)) (Nat.zero_le _)

set_option maxRecDepth 100000 in
set_option maxHeartbeats 4000000 in
theorem read_c (l : List UInt8) (b : Nat) (w : World) (hb2 : 2 ≤ b) (hb16 : b ≤ 16) (hs : l.length ≤ 10000) :
    Calls Tryz.prog 180 #[.int .i64 b, .string (B l)] w fun e w' => (∃ v', e = .returned (.tuple #[v', .bool (okN b l)]) ∧ isNat w' v' (natV b l)) ∧ Below w.heap.size w w' := by
  go_enter Tryz.func180, Tryz.ntmps180
  go_wp2
  go_loopw [6, 8, 9, 10] (fun v _ _ _ wr => ∃ pos : Nat, pos ≤ l.length ∧ wr.heap[w.heap.size + 1]? = some (.stringIter (B l) pos) ∧ isNat wr v (rdN b (l.take pos)) ∧ v.ownBlock ≠ some (w.heap.size + 1) ∧ Below w.heap.size w wr ∧ w.heap.size + 2 ≤ wr.heap.size ∧ Hid (∀ c ∈ l.take pos, digN c < b))
    (fun _ _ _ _ wr => l.length - wr.iterPos (w.heap.size + 1))
  case atStart =>
    refine ⟨0, Nat.zero_le _, ?_, ?_, ?_, ?_, ?_, hide (by simp)⟩
    · simpa using World.iter_heap (w.alloc (.cells #[] 173)) (B l) 0
    · exact own_below (nat_made w) ((Below.refl _ _).alloc (Nat.le_refl _) _)
    · simp [Value.ownBlock]
    · exact ((Below.refl _ _).alloc (Nat.le_refl _) _).alloc (by simp) _
    · simp [World.iter]
  case round =>
    obtain ⟨pos, hpl, hit, hown, hob, hb, hsz, hdg⟩ := hrel
    have hpos0 := iterPos_of hit
    by_cases hlt : pos < l.length
    · have hlt2 : pos < (B l).size := by rw [B_size]; exact hlt
      have hnx := fun ty => Lib.run_next_any_at (P := Tryz.prog) wr (w.heap.size + 1) (B l) pos ty hit hlt2
      have hbad := @okN_bad b l pos hlt
      rcases rune_hex l pos hlt with ⟨h1, h3⟩ | ⟨h1, h2⟩
      · rw [h3] at hnx
        have hit2 := Lib.iterAt_heap wr (w.heap.size + 1) (B l) pos (pos + 1) hit
        have hb2 := Lib.below_iterAt hb (k := w.heap.size + 1) (by omega) (B l) (pos + 1)
        have hown2 : isNat _ _ _ := own_iterAt hown hob (B l) (pos + 1)
        have hpos2 := iterPos_of hit2
        have hsn := take_snoc' l pos hlt
        have hlk := rdN_lt b (l.take pos) (unhide hdg)
        rw [List.length_take, Nat.min_eq_left hpl] at hlk
        have hsk := dec_size_pow hb16 hlk
        have hgk := dec_gr (n := 2 * pos + 1) hsk
        have hdI := digI_byte (l[pos]'hlt)
        have hsz2 : w.heap.size + 2 ≤ (wr.iterAt (w.heap.size + 1) (B l) (pos + 1)).heap.size := by rw [Lib.iterAt_size]; exact hsz
        obtain ⟨W1, hW1⟩ : ∃ W1, W1 = wr.iterAt (w.heap.size + 1) (B l) (pos + 1) := ⟨_, rfl⟩
        rw [← hW1] at hnx hit2 hb2 hown2 hpos2 hsz2
        have hsnN := congrArg (rdN b) hsn
        rw [rdN_snoc] at hsnN
        generalize hnn : rdN b (l.take pos) = n at *
        generalize hcc : l[pos]'hlt = c at *
        have hvc := fun w => value_c (c.toNat : Int) b w hb16
        rw [hdI] at hvc
        by_cases hge : b ≤ digN c
        · have Hf := hide (hbad hge)
          rw [decide_eq_false (by omega)] at hvc
          have Hv := hide hvc
          clear hbad hsnN hsn hlk hnn hcc hit hpos0 h3 h1 hW1 hvc hdI
          go_wp2_with fail
          refine (unhide Hv _).mono ?_
          rintro e w1 ⟨rfl, rfl⟩
          go_wp2
          go_ret2
          refine ⟨⟨.slice (some ⟨w1.heap.size, 0, none⟩) 0 0, by rw [unhide Hf]; rfl, ?_⟩, hb2.alloc hb2.size _⟩
          unfold natV
          rw [unhide Hf]
          exact nat_made w1
        · have hd16 : digN c < 16 := by omega
          have hdu : digU (c.toNat : Int) = digN c := by unfold digU; rw [hdI, if_neg (by omega)]
          rw [hdu, decide_eq_true (by omega)] at hvc
          have Hv := hide hvc
          have Hit2 := hide hit2
          have Hp0 := hide hpos0
          have Hp2 := hide hpos2
          have Hn := hide hsnN
          have Hdg2 : Hid (∀ x ∈ l.take (pos + 1), digN x < b) := by
            intro x hx
            rw [hsn] at hx
            rcases List.mem_append.1 hx with hx | hx
            · exact unhide hdg x hx
            · simp only [List.mem_singleton] at hx; subst hx; omega
          have e1 := wu64 (b : Int) (by omega) (by omega)
          generalize digN c = d at *
          clear hbad hsnN hsn hlk hnn hcc hit hit2 hpos0 hpos2 h3 h1 hW1 hvc hdI hdu
          go_wp2_with fail
          refine (unhide Hv _).mono ?_
          rintro e w1 ⟨rfl, rfl⟩
          go_wp2_with fail
          refine (timesPlus_c n b d _ _ hown2 (by omega) (by omega) (by omega)).mono ?_
          rintro e w2 ⟨⟨v2, rfl, hv2⟩, hbw⟩
          have hlt3 : w.heap.size + 1 < w1.heap.size := by omega
          have Hit3 : Hid (w2.heap[w.heap.size + 1]? = some (.stringIter (B l) (pos + 1))) := by
            show _ = _
            rw [hbw.block _ hlt3]; exact unhide Hit2
          have Hp3 := hide (iterPos_of (unhide Hit3))
          have hob2 := own_notBlock hv2 hlt3
          have hbs := hbw.size
          go_wp2
          go_roundw
          case rel => exact ⟨pos + 1, by omega, unhide Hit3, by rw [unhide Hn]; exact hv2.nat, hob2, hb2.trans (hbw.mono hb2.size), by omega, Hdg2⟩
          case measure => rw [unhide Hp0, unhide Hp3]; omega
      · have hb2 := Lib.below_iterAt hb (k := w.heap.size + 1) (by omega) (B l) (pos + (Utf8.decode (B l) pos).2)
        have hf := hbad (by omega)
        have Hf := hide hf
        generalize Utf8.decode (B l) pos = rw_ at *
        have hdI : digI (rw_.1 : Int) = 99 := by unfold digI; rw [if_neg (by omega), if_neg (by omega)]
        have hvc := fun w => value_c (rw_.1 : Int) b w hb16
        rw [hdI, decide_eq_false (by omega)] at hvc
        have Hv := hide hvc
        clear hbad hf h1 h2 hit hpos0 hdI hvc
        go_wp2_with fail
        refine (unhide Hv _).mono ?_
        rintro e w1 ⟨rfl, rfl⟩
        go_wp2
        go_ret2
        refine ⟨⟨.slice (some ⟨(wr.iterAt (w.heap.size + 1) (B l) (pos + rw_.2)).heap.size, 0, none⟩) 0 0, by rw [unhide Hf]; rfl, ?_⟩, hb2.alloc hb2.size _⟩
        unfold natV
        rw [unhide Hf]
        exact nat_made _
    · have hlt2 : ¬ pos < (B l).size := by rw [B_size]; exact hlt
      have hnx := fun ty => Lib.run_next_end_at (P := Tryz.prog) wr (w.heap.size + 1) (B l) pos ty hit hlt2
      have htk : l.take pos = l := List.take_of_length_le (by omega)
      rw [htk] at hown
      have hall := unhide hdg
      rw [htk] at hall
      have hok : okN b l = !l.isEmpty := by
        cases l with
        | nil => rfl
        | cons c r => rw [okN_good (by simp) hall]; rfl
      have hnv : natV b l = rdN b l := by
        unfold natV
        cases l with
        | nil => simp [rdN]
        | cons c r => rw [if_pos (okN_good (by simp) hall)]
      have Hok := hide hok
      have Hnv := hide hnv
      clear hok hnv hall htk
      go_wp2
      go_ret2
      refine ⟨⟨u6, ?_, by rw [unhide Hnv]; exact hown⟩, hb⟩
      show Ending.returned (.tuple #[u6, .bool (!(B l).toList.isEmpty)]) = _
      rw [B_tl, unhide Hok]
end Go.Proofs.YtpbnmhnbkfnaeaaGreatDoor
namespace Go.Proofs.YtpbnmhnbkfnaeaaGreatDoor
open Go.RowKit Nt

theorem gr_ten (p : Nat) : gr (10 ^ p) = (List.replicate (p / 9 + 1) 0).set (p / 9) (10 ^ (p % 9)) := by
  have hpow : 10 ^ (p % 9) ≤ 100000000 := by
    have : (10 : Nat) ^ (p % 9) ≤ 10 ^ 8 := Nat.pow_le_pow_right (by omega) (by omega)
    exact this
  have hpos : 10 ^ (p % 9) ≠ 0 := by have := Nat.pow_pos (n := p % 9) (show 0 < 10 by omega); omega
  have hset : (List.replicate (p / 9 + 1) 0).set (p / 9) (10 ^ (p % 9)) = List.replicate (p / 9) 0 ++ [10 ^ (p % 9)] := by
    rw [List.replicate_succ', List.set_append_right _ _ (by simp)]
    simp
  rw [hset]
  have h1 := strip_snoc_pos (List.replicate (p / 9) 0) (10 ^ (p % 9)) hpos
  have h2 : ∀ d ∈ List.replicate (p / 9) 0 ++ [10 ^ (p % 9)], d < 1000000000 := by
    intro d hd
    rcases List.mem_append.1 hd with h | h
    · have := List.eq_of_mem_replicate h; omega
    · simp only [List.mem_singleton] at h; omega
  have h3 := gr_strip h2
  rw [h1, ofd_snoc, ofd_replicate_zero, List.length_replicate, pow_group, Nat.zero_add] at h3
  exact h3.symm

set_option maxRecDepth 100000 in
set_option maxHeartbeats 4000000 in
theorem natTen_c (p : Nat) (w : World) (hp : p ≤ 10000) (hT : Tens w) :
    Calls Tryz.prog 181 #[.int .i64 p] w fun e w' => (∃ v', e = .returned v' ∧ isNat w' v' (10 ^ p)) ∧ Below w.heap.size w w' := by
  obtain ⟨i0, hi, hz0, hz1, hz2⟩ := info_parts Tryz.infoU64
  obtain ⟨q, hq⟩ : ∃ q, p / 9 = q := ⟨_, rfl⟩
  obtain ⟨r, hr⟩ : ∃ r, p % 9 = r := ⟨_, rfl⟩
  have hG : (p : Int) / 9 + 1 = ((q + 1 : Nat) : Int) := by omega
  have e1 : (p : Int).tdiv 9 = q := by rw [Int.tdiv_eq_ediv_of_nonneg (by omega)]; omega
  have e2 : (p : Int).tmod 9 = r := by rw [Int.tmod_eq_emod_of_nonneg (by omega)]; omega
  have e3 := wi64 (q : Int) (by omega) (by omega)
  have hg := gr_ten p
  rw [hq, hr] at hg
  obtain ⟨t, ht⟩ : ∃ t, 10 ^ r = t := ⟨_, rfl⟩
  rw [ht] at hg
  have Hg := hide hg
  have HT := hide hT
  clear hg hT
  go_enter Tryz.func181, Tryz.ntmps181
  go_wp2_with (refine wpList_make_full _ rfl (.tmp 6) (.tmp 6) 178 rfl w.heap.size 173 i0 (.int .u64 0) 1 Tryz.underlying178 hi hz0 hz1 .i64 .i64 (q + 1) (q + 1) (q + 1) rfl rfl (by go_num) (by go_num) (by rw [hz2]; omega) (by unfold maxLen; omega) (Nat.le_refl _) ?_; intro w1 hown1 hg1; have hown0 : w1.ownsRow w.heap.size 173 1 (.slice (some ⟨w.heap.size, 0, none⟩) (q + 1) (q + 1)) (q + 1) (u64s (List.replicate (q + 1) 0)) := (by simpa [Value.cells, toList_madeCells_one, u64s_zero] using hown1); have hb1 : Below w.heap.size w w1 := (Below.refl _ _).grown hg1 (Nat.le_refl _) (fun _ h => by cases h); have hT2 := ((unhide HT).belowB hb1 (unhide HT).lt) r (by omega); rw [ht] at hT2; have hcx : w1.cell? ⟨w.heap.size, q, none⟩ = some (.int .u64 0) := (by have h := hown0.cellAt q (by omega); rw [u64s_get _ _ (by simp)] at h; simpa using h); have hfr := hown0.frozenAt q; have hst2 := hown0.stored q (.int .u64 (t : Int)); rw [u64s_set _ _ t _ rfl, ← unhide Hg] at hst2; have Hst2 := hide hst2; clear hst2 hown1 hg1)
  go_ret
  refine ⟨⟨_, rfl, ?_⟩, hb1.setCell (by simp) _⟩
  have h1 := (unhide Hst2).1
  unfold isNat
  have hl : (gr (10 ^ p)).length = q + 1 := by rw [unhide Hg]; simp
  rw [hl]
  exact own_base h1 (Nat.zero_le _)
end Go.Proofs.YtpbnmhnbkfnaeaaGreatDoor
namespace Go.Proofs.YtpbnmhnbkfnaeaaGreatDoor
open Go.RowKit Nt

/-- what stands above and below a text that has no sign -/
def partsM (b : Nat) (l : List UInt8) : Nat × Nat × Bool :=
  match findB 47 l with
  | some k => (natV b (l.take k), natV b (l.drop (k + 1)), okN b (l.take k) && okN b (l.drop (k + 1)))
  | none => match findB 46 l with
    | some k => if b = 10 then (natV 10 (l.take k ++ l.drop (k + 1)), 10 ^ (l.drop (k + 1)).length, okN 10 (l.take k ++ l.drop (k + 1))) else (0, 0, false)
    | none => (natV b l, 1, okN b l)

theorem findB_get {c : UInt8} : ∀ {l : List UInt8} {k : Nat}, findB c l = some k → l[k]? = some c := by
  intro l
  induction l with
  | nil => intro k h; simp [findB] at h
  | cons d r ih =>
    intro k h
    simp only [findB] at h
    split at h
    · rename_i hd; simp at h; subst h; simp [hd]
    · cases hr : findB c r with
      | none => rw [hr] at h; simp at h
      | some j => rw [hr] at h; simp at h; subst h; simpa using ih hr

theorem lowest_none (neg : Bool) (u : Nat) : lowest neg u 0 = none := by simp [lowest]

theorem body_parts (neg : Bool) {b : Nat} (hb : b ≤ 16) (l : List UInt8) : bodyM neg b l = if (partsM b l).2.2 then lowest neg (partsM b l).1 (partsM b l).2.1 else none := by
  unfold bodyM partsM
  cases h47 : findB 47 l with
  | some k =>
    show overM neg b _ _ = if (okN b _ && okN b _) = true then lowest neg (natV b _) (natV b _) else none
    unfold overM
    by_cases h : (okN b (l.take k) && okN b (l.drop (k + 1))) = true
    · rw [if_pos h, if_pos h]
      simp only [Bool.and_eq_true] at h
      unfold natV
      rw [if_pos h.1, if_pos h.2]
    · rw [if_neg h, if_neg h]
  | none =>
    cases h46 : findB 46 l with
    | some k =>
      by_cases h10 : b = 10
      · simp only [h10, if_true]
        unfold pointM natV
        by_cases h : okN 10 (l.take k ++ l.drop (k + 1)) = true
        · rw [if_pos h, if_pos h, if_pos h]
        · rw [if_neg h, if_neg h]
      · simp only [h10, if_false]
        unfold plainM
        have hlt := findB_lt h46
        have hg := findB_get h46
        rw [List.getElem?_eq_getElem hlt] at hg
        have hc : l[k] = 46 := by simpa using hg
        rw [okN_bad k hlt (by rw [hc]; show b ≤ 99; omega)]
        rfl
    | none =>
      show plainM neg b l = if okN b l = true then lowest neg (natV b l) 1 else none
      unfold plainM natV
      by_cases h : okN b l = true
      · rw [if_pos h, if_pos h, if_pos h]
      · rw [if_neg h, if_neg h]

set_option maxRecDepth 100000 in
set_option maxHeartbeats 4000000 in
theorem readParts_c (l : List UInt8) (b : Nat) (w : World) (hb2 : 2 ≤ b) (hb16 : b ≤ 16) (hs : l.length ≤ 1000) (hT : Tens w) :
    Calls Tryz.prog 157 #[.int .i64 b, .string (B l)] w fun e w' => (∃ vu vd, e = .returned (.tuple #[vu, vd, .bool (partsM b l).2.2]) ∧ isNat w' vu (partsM b l).1 ∧ isNat w' vd (partsM b l).2.1) ∧ Below w.heap.size w w' := by
  have HT := hide hT
  clear hT
  have hc := fun w => cut_c l 47 w (by omega)
  unfold cutM at hc
  unfold partsM
  cases h47 : findB 47 l with
  | some k =>
    rw [h47] at hc
    dsimp only at hc
    have Hc := hide hc
    have hl1 : (l.take k).length ≤ 10000 := by rw [List.length_take]; omega
    have hl2 : (l.drop (k + 1)).length ≤ 10000 := by rw [List.length_drop]; omega
    dsimp only
    generalize l.take k = x at *
    generalize l.drop (k + 1) = y at *
    clear hc h47
    go_enter Tryz.func157, Tryz.ntmps157
    go_wp2_with fail
    refine (unhide Hc _).mono ?_
    rintro e w1 ⟨rfl, hb1⟩
    go_wp2_with fail
    have h := read_c x b w1 hb2 hb16 hl1
    refine h.mono ?_
    clear h
    rintro e w2 ⟨⟨v2, rfl, hv2⟩, hbb2⟩
    clear Hc
    have hb2w := hb1.trans (hbb2.mono hb1.size)
    have Hv2 := hide hv2
    clear hv2
    go_wp2_with fail
    have h := read_c y b w2 hb2 hb16 hl2
    refine h.mono ?_
    clear h
    rintro e w3 ⟨⟨v3, rfl, hv3⟩, hbb3⟩
    have hb3w := hb2w.trans (hbb3.mono hb2w.size)
    have Hv3 := hide hv3
    have Hv2' := hide (isNat_below (unhide Hv2) hbb3)
    clear hv3
    cases hx : okN b x with
    | true =>
      go_wp2
      go_ret3
      exact ⟨⟨v2, v3, by rw [hx]; rfl, unhide Hv2', unhide Hv3⟩, hb3w⟩
    | false =>
      go_wp2
      go_ret3
      exact ⟨⟨v2, v3, by rw [hx]; rfl, unhide Hv2', unhide Hv3⟩, hb3w⟩
  | none =>
    rw [h47] at hc
    have Hc := hide hc
    have hc2 := fun w => cut_c l 46 w (by omega)
    unfold cutM at hc2
    cases h46 : findB 46 l with
    | some k =>
      rw [h46] at hc2
      dsimp only at hc hc2
      have Hc2 := hide hc2
      by_cases h10 : b = 10
      · subst h10
        have hl1 : (l.take k ++ l.drop (k + 1)).length ≤ 10000 := by rw [List.length_append, List.length_take, List.length_drop]; omega
        have hly : (l.drop (k + 1)).length ≤ 1000 := by rw [List.length_drop]; omega
        have hlx : (l.take k).length ≤ 1000 := by rw [List.length_take]; omega
        dsimp only
        rw [if_pos rfl]
        generalize l.take k = x at *
        generalize l.drop (k + 1) = y at *
        have hap := B_append x y
        have hszx : ¬ 9223372036854775807 < (B x).size + (B y).size := by rw [B_size, B_size]; omega
        have hszy : ((B y).size : Int) = (y.length : Int) := by rw [B_size]
        clear hc hc2 h47 h46
        go_enter Tryz.func157, Tryz.ntmps157
        go_wp2_with fail
        refine (unhide Hc _).mono ?_
        rintro e w1 ⟨rfl, hb1⟩
        go_wp2_with fail
        refine (unhide Hc2 _).mono ?_
        rintro e w2 ⟨rfl, hbb2⟩
        have hb2w := hb1.trans (hbb2.mono hb1.size)
        clear Hc Hc2 hbb2
        go_wp2_with fail
        have h := read_c (x ++ y) 10 w2 (by omega) (by omega) hl1
        refine h.mono ?_
        clear h
        rintro e w3 ⟨⟨v3, rfl, hv3⟩, hbb3⟩
        have hb3w := hb2w.trans (hbb3.mono hb2w.size)
        have Hv3 := hide hv3
        clear hv3
        go_wp2_with fail
        have h := natTen_c y.length w3 (by omega) ((unhide HT).below hb3w)
        refine h.mono ?_
        clear h
        rintro e w4 ⟨⟨v4, rfl, hv4⟩, hbb4⟩
        have hb4w := hb3w.trans (hbb4.mono hb3w.size)
        have Hv4 := hide hv4
        have Hv3' := hide (isNat_below (unhide Hv3) hbb4)
        clear hv4
        go_wp2
        go_ret3
        exact ⟨⟨v3, v4, rfl, unhide Hv3', unhide Hv4⟩, hb4w⟩
      · have hnb : ((b : Int) == 10) = false := by rw [beq_eq_false_iff_ne]; omega
        dsimp only
        rw [if_neg h10]
        generalize l.take k = x at *
        generalize l.drop (k + 1) = y at *
        clear hc hc2 h47 h46
        go_enter Tryz.func157, Tryz.ntmps157
        go_wp2_with fail
        refine (unhide Hc _).mono ?_
        rintro e w1 ⟨rfl, hb1⟩
        go_wp2_with fail
        refine (unhide Hc2 _).mono ?_
        rintro e w2 ⟨rfl, hbb2⟩
        have hb2w := hb1.trans (hbb2.mono hb1.size)
        clear Hc Hc2 hbb2
        go_wp2
        go_ret3
        refine ⟨⟨.slice (some ⟨w2.heap.size, 0, none⟩) 0 0, .slice (some ⟨w2.heap.size + 1, 0, none⟩) 0 0, rfl, ?_, ?_⟩, ?_⟩
        · exact isNat_below (nat_made w2) ((Below.refl _ _).alloc (Nat.le_refl _) _)
        · have h := nat_made (w2.alloc (.cells #[] 173))
          simpa using h
        · exact (hb2w.alloc hb2w.size _).alloc (by have := hb2w.size; simp; omega) _
    | none =>
      rw [h46] at hc2
      dsimp only at hc hc2
      have Hc2 := hide hc2
      have hap : B l ++ B [] = B l := by rw [B_append, List.append_nil]
      have hszx : ¬ 9223372036854775807 < (B l).size + (B []).size := by rw [B_size, B_size]; simp; omega
      have hszy : ((B []).size : Int) = ((0 : Nat) : Int) := rfl
      clear hc hc2 h47 h46
      go_enter Tryz.func157, Tryz.ntmps157
      go_wp2_with fail
      refine (unhide Hc _).mono ?_
      rintro e w1 ⟨rfl, hb1⟩
      go_wp2_with fail
      refine (unhide Hc2 _).mono ?_
      rintro e w2 ⟨rfl, hbb2⟩
      have hb2w := hb1.trans (hbb2.mono hb1.size)
      clear Hc Hc2 hbb2
      go_wp2_with fail
      have h := read_c l b w2 (by omega) (by omega) (by omega)
      refine h.mono ?_
      clear h
      rintro e w3 ⟨⟨v3, rfl, hv3⟩, hbb3⟩
      have hb3w := hb2w.trans (hbb3.mono hb2w.size)
      have Hv3 := hide hv3
      clear hv3
      go_wp2_with fail
      have h := natTen_c 0 w3 (by omega) ((unhide HT).below hb3w)
      refine h.mono ?_
      clear h
      rintro e w4 ⟨⟨v4, rfl, hv4⟩, hbb4⟩
      have hb4w := hb3w.trans (hbb4.mono hb3w.size)
      have Hv4 := hide hv4
      have Hv3' := hide (isNat_below (unhide Hv3) hbb4)
      clear hv4
      go_wp2
      go_ret3
      exact ⟨⟨v3, v4, rfl, unhide Hv3', unhide Hv4⟩, hb4w⟩
end Go.Proofs.YtpbnmhnbkfnaeaaGreatDoor
namespace Go.Proofs.YtpbnmhnbkfnaeaaGreatDoor
open Go.RowKit Nt

theorem natV_gr {b : Nat} (hb : b ≤ 16) (l : List UInt8) : (gr (natV b l)).length ≤ 2 * l.length + 1 := by
  unfold natV
  by_cases h : okN b l = true
  · rw [if_pos h]; exact dec_gr (rdN_size hb h)
  · rw [if_neg h, gr_zero]; simp

theorem parts_gr {b : Nat} (hb : b ≤ 16) (l : List UInt8) (hl : l.length ≤ 240) : (gr (partsM b l).1).length ≤ 1000 ∧ (gr (partsM b l).2.1).length ≤ 1000 := by
  unfold partsM
  cases h47 : findB 47 l with
  | some k =>
    dsimp only
    refine ⟨Nat.le_trans (natV_gr hb _) ?_, Nat.le_trans (natV_gr hb _) ?_⟩
    · rw [List.length_take]; omega
    · rw [List.length_drop]; omega
  | none =>
    cases h46 : findB 46 l with
    | some k =>
      dsimp only
      by_cases h10 : b = 10
      · rw [if_pos h10]
        refine ⟨Nat.le_trans (natV_gr (by omega) _) ?_, ?_⟩
        · rw [List.length_append, List.length_take, List.length_drop]; omega
        · rw [gr_ten, List.length_set, List.length_replicate, List.length_drop]; omega
      · rw [if_neg h10, gr_zero]; simp
    | none =>
      dsimp only
      refine ⟨Nat.le_trans (natV_gr hb _) (by omega), ?_⟩
      have := gr_ten 0
      rw [Nat.pow_zero] at this
      rw [this, List.length_set, List.length_replicate]; omega


set_option maxRecDepth 100000 in
set_option maxHeartbeats 4000000 in
theorem implNumParse_bare (l : List UInt8) (b : Nat) (w : World) (hb4 : b = 2 ∨ b = 8 ∨ b = 10 ∨ b = 16) (hl : l.length ≤ 240) (h45 : (l.head? == some 45) = false) (h43 : (l.head? == some 43) = false) (hT : Tens w) :
    Calls Tryz.prog 128 #[.string (B l), .int .i64 b] w fun e w' => e = .returned (numAns (parseM l b)) ∧ Below w.heap.size w w' := by
  have hr : isRadix (b : Int) = true := by rcases hb4 with rfl | rfl | rfl | rfl <;> rfl
  have Hm : Hid (parseM l (b : Int) = bodyM false b l) := by
    show _ = _
    rw [parse_yes l b hb4 hl]
    cases l with
    | nil => rfl
    | cons c t =>
      show (if c = 45 then bodyM true b t else if c = 43 then bodyM false b t else bodyM false b (c :: t)) = _
      rw [if_neg (by simpa using h45), if_neg (by simpa using h43)]
  have hsz : ¬ (240 : Int) < ((B l).size : Int) := by rw [B_size]; omega
  have h1 := fun w => known_c (b : Int) w
  have h2 := fun w => prefix_c l 45 w
  have h3 := fun w => prefix_c l 43 w
  rw [hr] at h1
  rw [h45] at h2
  rw [h43] at h3
  have H1 := hide h1
  have H2 := hide h2
  have H3 := hide h3
  have HT := hide hT
  clear h1 h2 h3 hT hr h45 h43
  go_enter Tryz.func128, Tryz.ntmps128
  go_wp2_with fail
  refine (unhide H1 _).mono ?_
  rintro e w1 ⟨rfl, rfl⟩
  go_wp2_with fail
  refine (unhide H2 _).mono ?_
  rintro e w1 ⟨rfl, rfl⟩
  go_wp2_with fail
  refine (unhide H3 _).mono ?_
  rintro e w1 ⟨rfl, rfl⟩
  clear H1 H2 H3
  -- false: the sign as a Bool; l: the text behind it; wants hb4, htl : its length ≤ 240, Hm : Hid (parseM .. = bodyM false b l), HT
  have Hpb : Hid (parseM l (b : Int) = if (partsM b l).2.2 then lowest false (partsM b l).1 (partsM b l).2.1 else none) := hide ((unhide Hm).trans (body_parts false (by omega) l))
  have hgs := parts_gr (b := b) (by omega) l (by omega)
  clear Hm
  go_wp2_with fail
  have h := readParts_c l b (w.alloc (.cells #[.bool false, .string ⟨#[]⟩, .string ⟨#[]⟩] 79)) (by omega) (by omega) (by omega) ((unhide HT).below ((Below.refl _ _).alloc (Nat.le_refl _) _))
  refine h.mono ?_
  clear h
  rintro e w2 ⟨⟨vu, vd, rfl, hvu, hvd⟩, hb2⟩
  have hb0 := below_alloc_size hb2
  have hz0 : w.heap.size + 1 ≤ w2.heap.size := by have := hb2.size; simpa using this
  have HT2 := hide ((unhide HT).below (below_new hb0))
  generalize (partsM b l).1 = pu at *
  generalize (partsM b l).2.1 = pd at *
  generalize (partsM b l).2.2 = po at *
  obtain ⟨pp, cp, hvs⟩ := own_slice hvd
  subst hvs
  have Hvu := hide hvu
  have Hvd := hide hvd
  clear hvu hvd hb2
  cases po with
  | false =>
    have c0 := newcell hb0 0
    have c1 := newcell hb0 1
    have c2 := newcell hb0 2
    have f0 := newfree hb0 0
    have f1 := newfree hb0 1
    have f2 := newfree hb0 2
    have hbX := below_new hb0
    simp at c0 c1 c2
    clear hb0
    go_wp2
    refine bodyPost_ret (v := numAns none) (by simp [results, Tryz.results128, go_sem, numAns, numO, noNum, numV, c0, c1, c2]) rfl ⟨by rw [unhide Hpb]; rfl, ?_⟩
    exact below_three hbX _ (Nat.le_refl _) _ _ _
  | true =>
    by_cases hd : pd = 0
    · have hl0 : (((gr pd).length : Int) == 0) = true := by rw [hd, gr_zero]; rfl
      have Hf : Hid (parseM l (b : Int) = none) := by show _ = _; rw [unhide Hpb, hd, if_pos rfl, lowest_none]
      clear hd
      have c0 := newcell hb0 0
      have c1 := newcell hb0 1
      have c2 := newcell hb0 2
      have f0 := newfree hb0 0
      have f1 := newfree hb0 1
      have f2 := newfree hb0 2
      have hbX := below_new hb0
      simp at c0 c1 c2
      clear hb0
      go_wp2
      refine bodyPost_ret (v := numAns none) (by simp [results, Tryz.results128, go_sem, numAns, numO, noNum, numV, c0, c1, c2]) rfl ⟨by rw [unhide Hf], ?_⟩
      exact below_three hbX _ (Nat.le_refl _) _ _ _
    · have hl0 : (((gr pd).length : Int) == 0) = false := by rw [beq_eq_false_iff_ne]; have := mt gr_len0.1 hd; omega
      have Hov2 : Hid (parseM l (b : Int) = lowest false pu pd) := by show _ = _; rw [unhide Hpb, if_pos rfl]
      have hdp : 0 < pd := by omega
      clear hd
      go_wp2_with fail
      have h := numLowest_c false pu pd vu _ w2 (unhide Hvu) (unhide Hvd) hdp (by omega) (by omega) (unhide HT2)
      refine h.mono ?_
      clear h
      rintro e w3 ⟨rfl, hb3⟩
      have hn3 := below_next hb0 hz0 hb3
      have c0 := newcell hn3.1 0
      have c1 := newcell hn3.1 1
      have c2 := newcell hn3.1 2
      have f0 := newfree hn3.1 0
      have f1 := newfree hn3.1 1
      have f2 := newfree hn3.1 2
      have hbX := below_new hn3.1
      simp at c0 c1 c2
      clear hb3 hb0 hn3 hl0 hdp
      -- behind l2Make's contract: 128 the function; the struct is stored and told. Wants: Hov2 : Hid (M = lowest ..), c0 c1 c2 f0 f1 f2 hbX, the answer's option lowest false pu pd
      generalize lowest false pu pd = o at *
      unfold numAns
      obtain ⟨n3, u3, d3, ho⟩ : ∃ n3 u3 d3, numO o = numV n3 u3 d3 := by
        cases o with
        | none => exact ⟨_, _, _, rfl⟩
        | some p => exact ⟨_, _, _, rfl⟩
      have Ho := hide ho
      rw [ho]
      unfold numV
      clear ho
      go_wp2
      refine bodyPost_ret (v := numAns o) (by simp [results, Tryz.results128, go_sem, numAns, unhide Ho, numV, c0, c1, c2]) rfl ⟨by rw [unhide Hov2], ?_⟩
      exact below_three hbX _ (Nat.le_refl _) _ _ _
set_option maxRecDepth 100000 in
set_option maxHeartbeats 4000000 in
theorem implNumParse_minus (t : List UInt8) (b : Nat) (w : World) (hb4 : b = 2 ∨ b = 8 ∨ b = 10 ∨ b = 16) (hlen : (45 :: t).length ≤ 240) (hT : Tens w) :
    Calls Tryz.prog 128 #[.string (B (45 :: t)), .int .i64 b] w fun e w' => e = .returned (numAns (parseM (45 :: t) b)) ∧ Below w.heap.size w w' := by
  have hr : isRadix (b : Int) = true := by rcases hb4 with rfl | rfl | rfl | rfl <;> rfl
  obtain ⟨l, hl⟩ : ∃ l : List UInt8, l = 45 :: t := ⟨_, rfl⟩
  rw [← hl]
  rw [← hl] at hlen
  have Hm : Hid (parseM l (b : Int) = bodyM true b t) := by
    show _ = _
    rw [parse_yes l b hb4 hlen, hl]
    rfl
  have htl : t.length ≤ 240 := by rw [hl] at hlen; simp at hlen; omega
  have hsz : ¬ (240 : Int) < ((B l).size : Int) := by rw [B_size]; omega
  have hcut : (B l).extract 1 (B l).size = B t := by rw [B_extract, B_size, List.take_length, hl]; rfl
  have hszp : (1 : Int) ≤ ((B l).size : Int) := by rw [B_size, hl]; simp; omega
  have h1 := fun w => known_c (b : Int) w
  have h2 := fun w => prefix_c l 45 w
  rw [hr] at h1
  rw [show (l.head? == some 45) = true from by rw [hl]; rfl] at h2
  have H1 := hide h1
  have H2 := hide h2
  have HT := hide hT
  clear h1 h2  hT hr hl
  go_enter Tryz.func128, Tryz.ntmps128
  go_wp2_with fail
  refine (unhide H1 _).mono ?_
  rintro e w1 ⟨rfl, rfl⟩
  go_wp2_with fail
  refine (unhide H2 _).mono ?_
  rintro e w1 ⟨rfl, rfl⟩
  clear H1 H2 
  -- true: the sign as a Bool; t: the text behind it; wants hb4, htl : its length ≤ 240, Hm : Hid (parseM .. = bodyM true b t), HT
  have Hpb : Hid (parseM l (b : Int) = if (partsM b t).2.2 then lowest true (partsM b t).1 (partsM b t).2.1 else none) := hide ((unhide Hm).trans (body_parts true (by omega) t))
  have hgs := parts_gr (b := b) (by omega) t (by omega)
  clear Hm
  go_wp2_with fail
  have h := readParts_c t b (w.alloc (.cells #[.bool false, .string ⟨#[]⟩, .string ⟨#[]⟩] 79)) (by omega) (by omega) (by omega) ((unhide HT).below ((Below.refl _ _).alloc (Nat.le_refl _) _))
  refine h.mono ?_
  clear h
  rintro e w2 ⟨⟨vu, vd, rfl, hvu, hvd⟩, hb2⟩
  have hb0 := below_alloc_size hb2
  have hz0 : w.heap.size + 1 ≤ w2.heap.size := by have := hb2.size; simpa using this
  have HT2 := hide ((unhide HT).below (below_new hb0))
  generalize (partsM b t).1 = pu at *
  generalize (partsM b t).2.1 = pd at *
  generalize (partsM b t).2.2 = po at *
  obtain ⟨pp, cp, hvs⟩ := own_slice hvd
  subst hvs
  have Hvu := hide hvu
  have Hvd := hide hvd
  clear hvu hvd hb2
  cases po with
  | false =>
    have c0 := newcell hb0 0
    have c1 := newcell hb0 1
    have c2 := newcell hb0 2
    have f0 := newfree hb0 0
    have f1 := newfree hb0 1
    have f2 := newfree hb0 2
    have hbX := below_new hb0
    simp at c0 c1 c2
    clear hb0
    go_wp2
    refine bodyPost_ret (v := numAns none) (by simp [results, Tryz.results128, go_sem, numAns, numO, noNum, numV, c0, c1, c2]) rfl ⟨by rw [unhide Hpb]; rfl, ?_⟩
    exact below_three hbX _ (Nat.le_refl _) _ _ _
  | true =>
    by_cases hd : pd = 0
    · have hl0 : (((gr pd).length : Int) == 0) = true := by rw [hd, gr_zero]; rfl
      have Hf : Hid (parseM l (b : Int) = none) := by show _ = _; rw [unhide Hpb, hd, if_pos rfl, lowest_none]
      clear hd
      have c0 := newcell hb0 0
      have c1 := newcell hb0 1
      have c2 := newcell hb0 2
      have f0 := newfree hb0 0
      have f1 := newfree hb0 1
      have f2 := newfree hb0 2
      have hbX := below_new hb0
      simp at c0 c1 c2
      clear hb0
      go_wp2
      refine bodyPost_ret (v := numAns none) (by simp [results, Tryz.results128, go_sem, numAns, numO, noNum, numV, c0, c1, c2]) rfl ⟨by rw [unhide Hf], ?_⟩
      exact below_three hbX _ (Nat.le_refl _) _ _ _
    · have hl0 : (((gr pd).length : Int) == 0) = false := by rw [beq_eq_false_iff_ne]; have := mt gr_len0.1 hd; omega
      have Hov2 : Hid (parseM l (b : Int) = lowest true pu pd) := by show _ = _; rw [unhide Hpb, if_pos rfl]
      have hdp : 0 < pd := by omega
      clear hd
      go_wp2_with fail
      have h := numLowest_c true pu pd vu _ w2 (unhide Hvu) (unhide Hvd) hdp (by omega) (by omega) (unhide HT2)
      refine h.mono ?_
      clear h
      rintro e w3 ⟨rfl, hb3⟩
      have hn3 := below_next hb0 hz0 hb3
      have c0 := newcell hn3.1 0
      have c1 := newcell hn3.1 1
      have c2 := newcell hn3.1 2
      have f0 := newfree hn3.1 0
      have f1 := newfree hn3.1 1
      have f2 := newfree hn3.1 2
      have hbX := below_new hn3.1
      simp at c0 c1 c2
      clear hb3 hb0 hn3 hl0 hdp
      -- behind l2Make's contract: 128 the function; the struct is stored and told. Wants: Hov2 : Hid (M = lowest ..), c0 c1 c2 f0 f1 f2 hbX, the answer's option lowest true pu pd
      generalize lowest true pu pd = o at *
      unfold numAns
      obtain ⟨n3, u3, d3, ho⟩ : ∃ n3 u3 d3, numO o = numV n3 u3 d3 := by
        cases o with
        | none => exact ⟨_, _, _, rfl⟩
        | some p => exact ⟨_, _, _, rfl⟩
      have Ho := hide ho
      rw [ho]
      unfold numV
      clear ho
      go_wp2
      refine bodyPost_ret (v := numAns o) (by simp [results, Tryz.results128, go_sem, numAns, unhide Ho, numV, c0, c1, c2]) rfl ⟨by rw [unhide Hov2], ?_⟩
      exact below_three hbX _ (Nat.le_refl _) _ _ _

set_option maxRecDepth 100000 in
set_option maxHeartbeats 4000000 in
theorem implNumParse_plus (t : List UInt8) (b : Nat) (w : World) (hb4 : b = 2 ∨ b = 8 ∨ b = 10 ∨ b = 16) (hlen : (43 :: t).length ≤ 240) (hT : Tens w) :
    Calls Tryz.prog 128 #[.string (B (43 :: t)), .int .i64 b] w fun e w' => e = .returned (numAns (parseM (43 :: t) b)) ∧ Below w.heap.size w w' := by
  have hr : isRadix (b : Int) = true := by rcases hb4 with rfl | rfl | rfl | rfl <;> rfl
  obtain ⟨l, hl⟩ : ∃ l : List UInt8, l = 43 :: t := ⟨_, rfl⟩
  rw [← hl]
  rw [← hl] at hlen
  have Hm : Hid (parseM l (b : Int) = bodyM false b t) := by
    show _ = _
    rw [parse_yes l b hb4 hlen, hl]
    rfl
  have htl : t.length ≤ 240 := by rw [hl] at hlen; simp at hlen; omega
  have hsz : ¬ (240 : Int) < ((B l).size : Int) := by rw [B_size]; omega
  have hcut : (B l).extract 1 (B l).size = B t := by rw [B_extract, B_size, List.take_length, hl]; rfl
  have hszp : (1 : Int) ≤ ((B l).size : Int) := by rw [B_size, hl]; simp; omega
  have h1 := fun w => known_c (b : Int) w
  have h2 := fun w => prefix_c l 45 w
  have h3 := fun w => prefix_c l 43 w
  rw [hr] at h1
  rw [show (l.head? == some 45) = false from by rw [hl]; rfl] at h2
  rw [show (l.head? == some 43) = true from by rw [hl]; rfl] at h3
  have H1 := hide h1
  have H2 := hide h2
  have H3 := hide h3
  have HT := hide hT
  clear h1 h2 h3 hT hr hl
  go_enter Tryz.func128, Tryz.ntmps128
  go_wp2_with fail
  refine (unhide H1 _).mono ?_
  rintro e w1 ⟨rfl, rfl⟩
  go_wp2_with fail
  refine (unhide H2 _).mono ?_
  rintro e w1 ⟨rfl, rfl⟩
  go_wp2_with fail
  refine (unhide H3 _).mono ?_
  rintro e w1 ⟨rfl, rfl⟩
  clear H1 H2 H3
  -- false: the sign as a Bool; t: the text behind it; wants hb4, htl : its length ≤ 240, Hm : Hid (parseM .. = bodyM false b t), HT
  have Hpb : Hid (parseM l (b : Int) = if (partsM b t).2.2 then lowest false (partsM b t).1 (partsM b t).2.1 else none) := hide ((unhide Hm).trans (body_parts false (by omega) t))
  have hgs := parts_gr (b := b) (by omega) t (by omega)
  clear Hm
  go_wp2_with fail
  have h := readParts_c t b (w.alloc (.cells #[.bool false, .string ⟨#[]⟩, .string ⟨#[]⟩] 79)) (by omega) (by omega) (by omega) ((unhide HT).below ((Below.refl _ _).alloc (Nat.le_refl _) _))
  refine h.mono ?_
  clear h
  rintro e w2 ⟨⟨vu, vd, rfl, hvu, hvd⟩, hb2⟩
  have hb0 := below_alloc_size hb2
  have hz0 : w.heap.size + 1 ≤ w2.heap.size := by have := hb2.size; simpa using this
  have HT2 := hide ((unhide HT).below (below_new hb0))
  generalize (partsM b t).1 = pu at *
  generalize (partsM b t).2.1 = pd at *
  generalize (partsM b t).2.2 = po at *
  obtain ⟨pp, cp, hvs⟩ := own_slice hvd
  subst hvs
  have Hvu := hide hvu
  have Hvd := hide hvd
  clear hvu hvd hb2
  cases po with
  | false =>
    have c0 := newcell hb0 0
    have c1 := newcell hb0 1
    have c2 := newcell hb0 2
    have f0 := newfree hb0 0
    have f1 := newfree hb0 1
    have f2 := newfree hb0 2
    have hbX := below_new hb0
    simp at c0 c1 c2
    clear hb0
    go_wp2
    refine bodyPost_ret (v := numAns none) (by simp [results, Tryz.results128, go_sem, numAns, numO, noNum, numV, c0, c1, c2]) rfl ⟨by rw [unhide Hpb]; rfl, ?_⟩
    exact below_three hbX _ (Nat.le_refl _) _ _ _
  | true =>
    by_cases hd : pd = 0
    · have hl0 : (((gr pd).length : Int) == 0) = true := by rw [hd, gr_zero]; rfl
      have Hf : Hid (parseM l (b : Int) = none) := by show _ = _; rw [unhide Hpb, hd, if_pos rfl, lowest_none]
      clear hd
      have c0 := newcell hb0 0
      have c1 := newcell hb0 1
      have c2 := newcell hb0 2
      have f0 := newfree hb0 0
      have f1 := newfree hb0 1
      have f2 := newfree hb0 2
      have hbX := below_new hb0
      simp at c0 c1 c2
      clear hb0
      go_wp2
      refine bodyPost_ret (v := numAns none) (by simp [results, Tryz.results128, go_sem, numAns, numO, noNum, numV, c0, c1, c2]) rfl ⟨by rw [unhide Hf], ?_⟩
      exact below_three hbX _ (Nat.le_refl _) _ _ _
    · have hl0 : (((gr pd).length : Int) == 0) = false := by rw [beq_eq_false_iff_ne]; have := mt gr_len0.1 hd; omega
      have Hov2 : Hid (parseM l (b : Int) = lowest false pu pd) := by show _ = _; rw [unhide Hpb, if_pos rfl]
      have hdp : 0 < pd := by omega
      clear hd
      go_wp2_with fail
      have h := numLowest_c false pu pd vu _ w2 (unhide Hvu) (unhide Hvd) hdp (by omega) (by omega) (unhide HT2)
      refine h.mono ?_
      clear h
      rintro e w3 ⟨rfl, hb3⟩
      have hn3 := below_next hb0 hz0 hb3
      have c0 := newcell hn3.1 0
      have c1 := newcell hn3.1 1
      have c2 := newcell hn3.1 2
      have f0 := newfree hn3.1 0
      have f1 := newfree hn3.1 1
      have f2 := newfree hn3.1 2
      have hbX := below_new hn3.1
      simp at c0 c1 c2
      clear hb3 hb0 hn3 hl0 hdp
      -- behind l2Make's contract: 128 the function; the struct is stored and told. Wants: Hov2 : Hid (M = lowest ..), c0 c1 c2 f0 f1 f2 hbX, the answer's option lowest false pu pd
      generalize lowest false pu pd = o at *
      unfold numAns
      obtain ⟨n3, u3, d3, ho⟩ : ∃ n3 u3 d3, numO o = numV n3 u3 d3 := by
        cases o with
        | none => exact ⟨_, _, _, rfl⟩
        | some p => exact ⟨_, _, _, rfl⟩
      have Ho := hide ho
      rw [ho]
      unfold numV
      clear ho
      go_wp2
      refine bodyPost_ret (v := numAns o) (by simp [results, Tryz.results128, go_sem, numAns, unhide Ho, numV, c0, c1, c2]) rfl ⟨by rw [unhide Hov2], ?_⟩
      exact below_three hbX _ (Nat.le_refl _) _ _ _

set_option maxRecDepth 100000 in
set_option maxHeartbeats 4000000 in
theorem implNumParse_no (l : List UInt8) (r : Int) (w : World) (hs : l.length ≤ 1000000000) (h : isRadix r = false ∨ 240 < l.length) :
    Calls Tryz.prog 128 #[.string (B l), .int .i64 r] w fun e w' => e = .returned (numAns (parseM l r)) ∧ Below w.heap.size w w' := by
  rw [parse_bad l r h]
  have hsz : (B l).size ≤ 1000000000 := by rw [B_size]; exact hs
  by_cases hr : isRadix r = false
  · clear h
    go_enter Tryz.func128, Tryz.ntmps128
    go_wp2_with fail
    refine (known_c r _).mono ?_
    rintro e w1 ⟨rfl, rfl⟩
    rw [hr]
    go_wp2
    refine bodyPost_ret (v := numAns none) (by simp [results, Tryz.results128, go_sem, numAns, numO, noNum, numV]) rfl ⟨rfl, ?_⟩
    exact (Below.refl _ _).alloc (Nat.le_refl _) _
  · have hr' : isRadix r = true := by simpa using hr
    have hl : (240 : Int) < ((B l).size : Int) := by rw [B_size]; rcases h with h | h; exact absurd h hr; omega
    clear h hr
    go_enter Tryz.func128, Tryz.ntmps128
    go_wp2_with fail
    refine (known_c r _).mono ?_
    rintro e w1 ⟨rfl, rfl⟩
    rw [hr']
    go_wp2
    refine bodyPost_ret (v := numAns none) (by simp [results, Tryz.results128, go_sem, numAns, numO, noNum, numV]) rfl ⟨rfl, ?_⟩
    exact (Below.refl _ _).alloc (Nat.le_refl _) _

theorem implNumParse_c (l : List UInt8) (r : Int) (w : World) (hs : l.length ≤ 1000000000) (hT : Tens w) :
    Calls Tryz.prog 128 #[.string (B l), .int .i64 r] w fun e w' => e = .returned (numAns (parseM l r)) ∧ Below w.heap.size w w' := by
  by_cases h : isRadix r = false ∨ 240 < l.length
  · exact implNumParse_no l r w hs h
  · have hr : isRadix r = true := by
      cases hh : isRadix r with
      | true => rfl
      | false => exact absurd (.inl hh) h
    have hl : l.length ≤ 240 := by
      apply Decidable.byContradiction
      intro hh
      exact h (.inr (by omega))
    obtain ⟨b, rfl, hb4⟩ := isRadix_nat hr
    cases l with
    | nil => exact implNumParse_bare [] b w hb4 hl rfl rfl hT
    | cons c t =>
      by_cases h45 : c = 45
      · subst h45; exact implNumParse_minus t b w hb4 hl hT
      · by_cases h43 : c = 43
        · subst h43; exact implNumParse_plus t b w hb4 hl hT
        · exact implNumParse_bare (c :: t) b w hb4 hl (by simpa using h45) (by simpa using h43) hT
end Go.Proofs.YtpbnmhnbkfnaeaaGreatDoor
namespace Go.Proofs.YtpbnmhnbkfnaeaaGreatDoor
open Go.RowKit Nt

theorem hex_sg (d : Nat) (h : d < 16) : ((⟨#[48, 49, 50, 51, 52, 53, 54, 55, 56, 57, 97, 98, 99, 100, 101, 102]⟩ : ByteArray)[d]'h).toNat = (sg d).toNat := by
  rcases d with _ | _ | _ | _ | _ | _ | _ | _ | _ | _ | _ | _ | _ | _ | _ | _ | d
  all_goals first | rfl | omega

set_option maxRecDepth 100000 in
set_option maxHeartbeats 4000000 in
theorem write_c (x b : Nat) (v : Value) (w : World) (hx : isNat w v x) (hs : (gr x).length ≤ 100000) (hb2 : 2 ≤ b) (hb16 : b ≤ 16) (hsd : (dg b x).length ≤ 1000000) :
    Calls Tryz.prog 251 #[.int .i64 b, v] w fun e w' => e = .returned (.string (txt b x)) ∧ Below w.heap.size w w' := by
  obtain ⟨i0, hi, hz0, hz1, hz2⟩ := info_parts Tryz.infoByte
  obtain ⟨p, cap, hv⟩ := own_slice hx
  subst hv
  by_cases hz : x = 0
  · subst hz
    have h0 : txt b 0 = ⟨#[48]⟩ := by unfold txt; rw [txl_zero]; rfl
    rw [gr_zero, h0]
    clear hx hs
    go_enter Tryz.func251, Tryz.ntmps251
    go_wp2
    go_ret
    exact ⟨rfl, Below.refl _ _⟩
  · have hn0 : 0 < (gr x).length := by have := mt gr_len0.1 hz; omega
    have hnI : (((gr x).length : Int) == 0) = false := by rw [beq_eq_false_iff_ne]; omega
    have e1 := wu64 (b : Int) (by omega) (by omega)
    have Hx := hide hx
    have Hz := hide hz
    clear hx hz
    go_enter Tryz.func251, Tryz.ntmps251
    go_wp2
    go_loopw [1, 5, 6, 7] (fun n out _ _ wr => ∃ (k : Nat) (ls : List Nat), k ≤ x ∧ isNat wr n k ∧ wr.ownsRow w.heap.size 5 1 out ls.length ((ls.map sg).map u8v) ∧ Below w.heap.size w wr ∧ Hid (dg b x = ls ++ dg b k))
      (fun _ out _ _ _ => (dg b x).length - lenV out)
    case atStart =>
      exact ⟨x, [], Nat.le_refl _, own_below (unhide Hx) ((Below.refl _ _).alloc (Nat.le_refl _) _), World.ownsRow_made w #[] 0 (Nat.le_refl _) (by decide) (by simp), (Below.refl _ _).alloc (Nat.le_refl _) _, hide (by simp)⟩
    case round =>
      obtain ⟨k, ls, hk, hnat, hown, hb, hdg⟩ := hrel
      obtain ⟨pk, ck, hvk⟩ := own_slice hnat
      subst hvk
      obtain ⟨po, co, hvo⟩ := own_slice hown
      subst hvo
      by_cases hk0 : k = 0
      · have hl0 : ¬ (0 : Int) < ((gr k).length : Int) := by rw [hk0, gr_zero]; simp
        have hfin : ls = dg b x := by rw [unhide hdg, hk0, dg_zero, List.append_nil]
        have hls : 0 < ls.length := by
          rcases Nat.eq_zero_or_pos ls.length with h | h
          · have h' : ls = [] := List.eq_nil_of_length_eq_zero h
            rw [h'] at hfin
            exact absurd ((dg_eq_nil hb2).1 hfin.symm) (unhide Hz)
          · exact h
        have hsl : ls.length ≤ 1000000 := by rw [hfin]; exact hsd
        obtain ⟨g, cap', hvv, hcc, hbg, hgw⟩ := own_some hown hls
        simp only [Value.slice.injEq, true_and] at hvv
        obtain ⟨rfl, rfl⟩ := hvv
        have Hfin := hide hfin
        have hrv := reverse_c (ls.map sg) g co w.heap.size wr (by rw [List.length_map]; omega) (by rw [List.length_map]; exact hown)
        rw [List.length_map] at hrv
        have Hrv := hide hrv
        clear hrv hown hfin
        go_wp2_with fail
        refine (unhide Hrv).mono ?_
        rintro e w3 ⟨rfl, hown3, hg3⟩
        have hbX := hb.grown hg3 hb.size (fun k hk => by cases hk; omega)
        have hconv := run_conv_bytes (dst := 9) Tryz.underlying22 Tryz.underlying5 Tryz.underlying9 hown3
        have hfin2 : B (ls.map sg).reverse = txt b x := by unfold txt; rw [txl_pos (unhide Hz), ← unhide Hfin]
        rw [hfin2] at hconv
        clear hfin2 hown3 hg3 Hrv
        go_wp2
        go_ret
        exact ⟨rfl, hbX⟩
      · have hl0 : (0 : Int) < ((gr k).length : Int) := by have := mt gr_len0.1 hk0; omega
        have hgk := gr_len_le hk
        have hpos := dg_pos (b := b) hb2 (show 0 < k by omega)
        have hdl : k % b < 16 := Nat.lt_of_lt_of_le (Nat.mod_lt _ (by omega)) hb16
        have hqk : k / b ≤ x := Nat.le_trans (Nat.div_le_self _ _) hk
        have hdg2 : dg b x = (ls ++ [k % b]) ++ dg b (k / b) := by rw [unhide hdg, hpos]; simp
        have Hdg2 := hide hdg2
        have hll := congrArg List.length hdg2
        rw [List.length_append, List.length_append] at hll
        clear hpos hdg2
        go_wp2_with fail
        have h := overWordB_c k b _ wr hnat (by omega) (by omega) (by omega)
        refine h.mono ?_
        clear h
        rintro e w2 ⟨⟨v2, rfl, hv2⟩, hb2'⟩
        have hown2 := own_below hown hb2'
        have hbw := hb.trans (hb2'.mono hb.size)
        have hhex := hex_sg (k % b) hdl
        unfold isNatB at hv2
        have hne : v2.ownBlock = none ∨ v2.ownBlock ≠ (Value.slice po ls.length co).ownBlock := by
          by_cases hh : v2.ownBlock = none
          · exact .inl hh
          · refine .inr (fun he => ?_)
            obtain ⟨g, hg⟩ := Option.ne_none_iff_exists'.1 hh
            have h1 := (hv2.lt g hg).1
            have h2 := (hown.lt g (he ▸ hg)).2
            omega
        have Hne := hide hne
        clear hne
        have Hv2 := hide hv2
        generalize k % b = d at *
        have hw := hbw.size
        have e8 : (sg d).toNat < 256 := (sg d).toNat_lt
        clear hv2 hnat hown
        go_wp2_with (at_builtin; refine wpList_append_own _ rfl (.tmp 22) (.tmp 25) 22 rfl w.heap.size 5 i0 (.int .u8 0) 1 1 Tryz.underlying22 hi hz0 hz1 hz2 rfl (by decide) _ _ _ rfl (hown2.alloc _) ⟨w2.heap.size, 0, none⟩ 1 1 [.int .u8 ((sg d).toNat : Int)] rfl rfl (cell_one_new _ _ _) (by intro u hu; simp at hu; subst hu; rfl) (by unfold maxLen; omega) (by omega) (by simp; omega) ?_; intro v3 w3 hown3 hg3 _)
        have hbX := below_grown (hbw.alloc hw _) (hown2.alloc _) hg3 (by simp <;> omega)
        obtain ⟨p3, c3, hv3⟩ := own_slice hown3
        subst hv3
        go_roundw
        case rel =>
          refine ⟨k / b, ls ++ [d], hqk, ?_, ?_, hbX, Hdg2⟩
          · exact own_base (((unhide Hv2).alloc _).kept hg3 (unhide Hne)) (Nat.zero_le _)
          · rw [List.length_append, List.map_append, List.map_append]
            exact hown3
        case measure =>
          show (dg b x).length - (ls.length + 1) < (dg b x).length - ls.length
          simp at hll
          omega
end Go.Proofs.YtpbnmhnbkfnaeaaGreatDoor
namespace Go.Proofs.YtpbnmhnbkfnaeaaGreatDoor
open Go.RowKit Nt

theorem dg_txl (b x : Nat) : (dg b x).length ≤ (txl b x).length := by
  unfold txl
  by_cases h : x = 0
  · rw [if_pos h, h, dg_zero]; simp
  · rw [if_neg h]; simp

set_option maxRecDepth 100000 in
set_option maxHeartbeats 4000000 in
theorem implNumPrint_no (neg : Bool) (u d : List UInt8) (r : Int) (w : World) (hsu : u.length ≤ 1000000000) (hsd : d.length ≤ 1000000000) (h : (okM neg u d && isRadix r) = false) (hT : Tens w) :
    Calls Tryz.prog 249 #[numB neg u d, .int .i64 r] w fun e w' => e = .returned (.string (B (printM neg u d r))) ∧ Below w.heap.size w w' := by
  have Hf : Hid (B (printM neg u d r) = ⟨#[]⟩) := by show _ = _; unfold printM; rw [h]; rfl
  have h1 := fun w hT => implNumOk_c neg u d w hsu hsd hT
  have HT := hide hT
  unfold numB at *
  clear hT
  cases hr : isRadix r with
  | false =>
    clear h h1
    go_enter Tryz.func249, Tryz.ntmps249
    go_wp2_with fail
    refine (known_c r _).mono ?_
    rintro e w2 ⟨rfl, rfl⟩
    rw [hr]
    go_wp2
    go_ret
    exact ⟨ret_str (unhide Hf).symm, (Below.refl _ _).alloc (Nat.le_refl _) _⟩
  | true =>
    rw [hr, Bool.and_true] at h
    rw [h] at h1
    have H1 := hide h1
    clear h h1
    go_enter Tryz.func249, Tryz.ntmps249
    go_wp2_with fail
    refine (known_c r _).mono ?_
    rintro e w2 ⟨rfl, rfl⟩
    rw [hr]
    go_wp2_with fail
    refine (unhide H1 _ ((unhide HT).below ((Below.refl _ _).alloc (Nat.le_refl _) _))).mono ?_
    rintro e w1 ⟨rfl, hb1⟩
    have hb0 := below_alloc_size hb1
    go_wp2
    go_ret
    exact ⟨ret_str (unhide Hf).symm, below_new hb0⟩


set_option maxRecDepth 100000 in
set_option maxHeartbeats 4000000 in
theorem implNumPrint_yes (neg : Bool) (u d : List UInt8) (b : Nat) (w : World) (hok : okM neg u d = true) (hb4 : b = 2 ∨ b = 8 ∨ b = 10 ∨ b = 16) (hT : Tens w) :
    Calls Tryz.prog 249 #[numB neg u d, .int .i64 b] w fun e w' => e = .returned (.string (B (printM neg u d b))) ∧ Below w.heap.size w w' := by
  have hr : isRadix (b : Int) = true := by rcases hb4 with rfl | rfl | rfl | rfl <;> rfl
  obtain ⟨h3, h4, hu, hd, hd0, hn0, _⟩ := ok_parts hok
  have h1 := fun w hT => implNumOk_c neg u d w (by omega) (by omega) hT
  rw [hok] at h1
  have Hf : Hid (printM neg u d b = prM neg (valDec u) (valDec d) b) := by show _ = _; unfold printM; rw [hok, hr]; simp
  have Bu : B u = dec (valDec u) := by unfold dec txt; rw [← isDec_val h3]
  have Bd : B d = dec (valDec d) := by unfold dec txt; rw [← isDec_val h4]
  have hau := B_size u
  have had := B_size d
  unfold numB at *
  rw [Bu, Bd] at h1
  rw [Bu] at hau
  rw [Bd] at had
  rw [Bu, Bd]
  generalize valDec u = a at *
  generalize valDec d = q at *
  have hau60 : (dec a).size ≤ 60 := by omega
  have had60 : (dec q).size ≤ 60 := by omega
  have hq1 := dec_is1 q
  have hta := txt_size (b := b) (by omega) hau60
  have htq := txt_size (b := b) (by omega) had60
  have hta' : (txl b a).length ≤ 240 := by unfold txt at hta; rwa [B_size] at hta
  have htq' : (txl b q).length ≤ 240 := by unfold txt at htq; rwa [B_size] at htq
  have hda := dg_txl b a
  have hdq := dg_txl b q
  have hga := dec_gr hau60
  have hgq := dec_gr had60
  have H1 := hide h1
  have HT := hide hT
  clear h1 Bu Bd h3 h4 hok hau had hn0 hT
  go_enter Tryz.func249, Tryz.ntmps249
  go_wp2_with fail
  refine (known_c b _).mono ?_
  rintro e w2 ⟨rfl, rfl⟩
  rw [hr]
  go_wp2_with fail
  refine (unhide H1 _ ((unhide HT).below ((Below.refl _ _).alloc (Nat.le_refl _) _))).mono ?_
  rintro e w1 ⟨rfl, hb1⟩
  have hb0 := below_alloc_size hb1
  have hz0 : w.heap.size + 1 ≤ w1.heap.size := by have := hb1.size; simpa using this
  have c0 := newcell hb0 0
  have c1 := newcell hb0 1
  have c2 := newcell hb0 2
  simp at c0 c1 c2
  go_wp2_with fail
  have h := natRead_c a w1 (by omega) ((unhide HT).below (below_new hb0))
  refine h.mono ?_
  clear h
  rintro e w2 ⟨⟨v2, rfl, hv2⟩, hb2⟩
  have hn2 := below_next hb0 hz0 hb2
  have Hv2 := hide hv2
  clear hv2
  go_wp2_with fail
  have h := write_c a b v2 w2 (unhide Hv2) (by omega) (by omega) (by omega) (by omega)
  refine h.mono ?_
  clear h
  rintro e w3 ⟨rfl, hb3⟩
  have hn3 := below_next hn2.1 hn2.2 hb3
  clear c0 c1 c2 hb1 hb0 hz0 hb2 hn2 hb3
  have c0 := newcell hn3.1 0
  have c1 := newcell hn3.1 1
  have c2 := newcell hn3.1 2
  simp at c0 c1 c2
  have hs47 : (⟨#[47]⟩ ++ txt b q : ByteArray).size = 1 + (txt b q).size := by rw [ByteArray.size_append]; rfl
  by_cases hone : q = 1
  · rw [decide_eq_true hone] at hq1
    cases neg with
    | false =>
      have Hf2 : Hid (B (printM false u d b) = txt b a) := by show _ = _; rw [unhide Hf]; simp [prM, hone, txt]
      clear hone
      go_wp2
      go_ret
      exact ⟨ret_str (unhide Hf2).symm, below_new hn3.1⟩
    | true =>
      have Hf2 : Hid (B (printM true u d b) = ⟨#[45]⟩ ++ txt b a) := by
        show _ = _; rw [unhide Hf, show (⟨#[45]⟩ : ByteArray) = B [45] from rfl]; unfold txt; rw [B_append]; simp [prM, hone]
      have hns : ¬ 9223372036854775807 < 1 + (txt b a).size := by omega
      clear hone
      go_wp2
      go_ret
      exact ⟨ret_str (unhide Hf2).symm, below_new hn3.1⟩
  · rw [decide_eq_false hone] at hq1
    cases neg with
    | false =>
      have Hf2 : Hid (B (printM false u d b) = txt b a ++ (⟨#[47]⟩ ++ txt b q)) := by
        show _ = _; rw [unhide Hf, show (⟨#[47]⟩ : ByteArray) = B [47] from rfl]; unfold txt; rw [B_append, B_append]; simp [prM, hone]
      clear hone
      -- the second number: behind hn3 (the frame), c0 c1 c2
      go_wp2_with fail
      have h := natRead_c q w3 (by omega) ((unhide HT).below (below_new hn3.1))
      refine h.mono ?_
      clear h
      rintro e w4 ⟨⟨v4, rfl, hv4⟩, hb4'⟩
      have hn4 := below_next hn3.1 hn3.2 hb4'
      have Hv4 := hide hv4
      clear hv4
      go_wp2_with fail
      have h := write_c q b v4 w4 (unhide Hv4) (by omega) (by omega) (by omega) (by omega)
      refine h.mono ?_
      clear h
      rintro e w5 ⟨rfl, hb5⟩
      have hn5 := below_next hn4.1 hn4.2 hb5
      go_wp2
      go_ret
      exact ⟨ret_str (unhide Hf2).symm, below_new hn5.1⟩
    | true =>
      have Hf2 : Hid (B (printM true u d b) = (⟨#[45]⟩ ++ txt b a) ++ (⟨#[47]⟩ ++ txt b q)) := by
        show _ = _; rw [unhide Hf, show (⟨#[47]⟩ : ByteArray) = B [47] from rfl, show (⟨#[45]⟩ : ByteArray) = B [45] from rfl]; unfold txt; rw [B_append, B_append, B_append]; simp [prM, hone]
      have hns : ¬ 9223372036854775807 < 1 + (txt b a).size := by omega
      clear hone
      -- the second number: behind hn3 (the frame), c0 c1 c2
      go_wp2_with fail
      have h := natRead_c q w3 (by omega) ((unhide HT).below (below_new hn3.1))
      refine h.mono ?_
      clear h
      rintro e w4 ⟨⟨v4, rfl, hv4⟩, hb4'⟩
      have hn4 := below_next hn3.1 hn3.2 hb4'
      have Hv4 := hide hv4
      clear hv4
      go_wp2_with fail
      have h := write_c q b v4 w4 (unhide Hv4) (by omega) (by omega) (by omega) (by omega)
      refine h.mono ?_
      clear h
      rintro e w5 ⟨rfl, hb5⟩
      have hn5 := below_next hn4.1 hn4.2 hb5
      go_wp2
      go_ret
      exact ⟨ret_str (unhide Hf2).symm, below_new hn5.1⟩

theorem implNumPrint_c (neg : Bool) (u d : List UInt8) (r : Int) (w : World) (hsu : u.length ≤ 1000000000) (hsd : d.length ≤ 1000000000) (hT : Tens w) :
    Calls Tryz.prog 249 #[numB neg u d, .int .i64 r] w fun e w' => e = .returned (.string (B (printM neg u d r))) ∧ Below w.heap.size w w' := by
  cases h : okM neg u d && isRadix r with
  | false => exact implNumPrint_no neg u d r w hsu hsd h hT
  | true =>
    simp only [Bool.and_eq_true] at h
    obtain ⟨b, rfl, hb4⟩ := isRadix_nat h.2
    exact implNumPrint_yes neg u d b w h.1 hb4 hT
end Go.Proofs.YtpbnmhnbkfnaeaaGreatDoor
