/- A part of the proof, put together out of smaller texts: each piece says what it is for. -/
import Derived.Test.YtcnnicbaeicboaaDoorM2
import Derived.Deep.RegionHeld
import Derived.Deep.CutRange
namespace Go.Proofs.YtcnnicbaeicboaaDoor
open Go.RowKit Nt

theorem own_ints_at {w : World} {base : Nat} {v : Value} {n : Nat} {xs : List Int} (h : w.ownsRow base 3 1 v n (iv xs)) (hn : xs.length = n) : IntsAt w v xs := by
  subst hn; exact owns_ints h

set_option maxRecDepth 100000 in
set_option maxHeartbeats 8000000 in
theorem l14Groups_c (v : Value) (ns : List Nd) (w : World) (h : NodesAt w v ns) (hs : ns.length ≤ 1048576) (hr : ∀ nd ∈ ns, ∀ x ∈ nd.2.2, 0 ≤ x ∧ x < ns.length) :
    Calls Tryd.prog 70 #[v] w fun e w' => (∃ gv, e = .returned gv ∧ w'.ownsRow w.heap.size 3 1 gv ns.length (iv (grpM ns))) ∧ Below w.heap.size w w' := by
  obtain ⟨i0, hi, hz0, hz1, hz2⟩ := info_parts Tryd.infoInt
  obtain ⟨a, cap, rfl, h1, h2⟩ := h.form0
  unfold maxLen at h2
  have H := hide h
  have HR := hide hr
  clear h hr
  go_enter Tryd.func70, Tryd.ntmps70
  go_wp2_with (refine wpList_make_full _ rfl (.tmp 11) (.tmp 11) 41 rfl w.heap.size 3 i0 (.int .i64 0) 1 Tryd.underlying41 hi hz0 hz1 .i64 .i64 ns.length ns.length ns.length rfl rfl rfl rfl (by rw [hz2]; omega) (by unfold maxLen; omega) (Nat.le_refl _) ?_; intro w1 hown1 hg1)
  have hown1' : w1.ownsRow w.heap.size 3 1 (.slice (some ⟨w.heap.size, 0, none⟩) ns.length ns.length) ns.length (iv (itG ns 0)) := by
    simpa [Value.cells, toList_madeCells_one, iv, itG] using hown1
  have HO1 := hide hown1'
  have HB1 := hide ((Below.refl w.heap.size w).grown hg1 (Nat.le_refl _) (fun _ h => by cases h))
  clear hown1 hg1 hown1'
  -- rounds of splitting
  go_loopw [3, 4] (fun gv nv wr => ∃ (n g c : Nat), n ≤ ns.length + 1 ∧ nv = .int .i64 n ∧ gv = .slice (some ⟨g, 0, none⟩) ns.length c ∧ Hid (wr.ownsRow w.heap.size 3 1 (.slice (some ⟨g, 0, none⟩) ns.length c) ns.length (iv (itG ns n))) ∧ Below w.heap.size w wr)
    (fun _ nv _ => ns.length + 1 - (intOf nv).toNat)
  case atStart => exact ⟨0, _, _, by omega, rfl, rfl, HO1, unhide HB1⟩
  case round =>
    clear HO1 HB1
    obtain ⟨n, g, c, hn, rfl, rfl, hown, hbl⟩ := hrel
    obtain ⟨W, hW⟩ : ∃ W, W = wr := ⟨_, rfl⟩
    subst hW
    have hsz := hbl.size
    have hc := (show ns.length ≤ c by
      rcases (unhide hown).2 with ⟨e, _⟩ | ⟨_, _, _, e, _, _, h3, _⟩
      · cases e
      · injection e with _ _ e; omega)
    have hcm := (show c ≤ maxLen by
      rcases (unhide hown).2 with ⟨e, _⟩ | ⟨_, _, _, e, _, _, _, h4, _⟩
      · cases e
      · injection e with _ _ e; omega)
    unfold maxLen at hcm
    by_cases hlt : n ≤ ns.length
    · go_wp2_with (refine wpList_make_full _ rfl (.tmp 20) (.tmp 20) 41 rfl W.heap.size 3 i0 (.int .i64 0) 1 Tryd.underlying41 hi hz0 hz1 .i64 .i64 ns.length ns.length ns.length rfl rfl rfl rfl (by rw [hz2]; omega) (by unfold maxLen; omega) (Nat.le_refl _) ?_; intro w2 hown2 hg2)
      have HG := hide (own_ints_at (unhide hown) (itG_len ns n))
      have HN := hide ((unhide H).below hbl)
      have hgW := ((unhide hown).lt g rfl).2
      have hSl := stepG_len ns (itG ns n)
      obtain ⟨S, hS⟩ : ∃ S, S = stepG ns (itG ns n) := ⟨_, rfl⟩
      rw [← hS] at hSl
      have hown2' : w2.ownsRow W.heap.size 3 1 (.slice (some ⟨W.heap.size, 0, none⟩) ns.length ns.length) ns.length (iv (upTo S 0)) := by
        rw [upTo_zero, hSl]
        simpa [Value.cells, toList_madeCells_one, iv] using hown2
      have HO2 := hide hown2'
      have HB2 := hide ((Below.refl W.heap.size W).grown hg2 (Nat.le_refl _) (fun _ h => by cases h))
      have HS := hide hS
      clear hown2 hg2 hown2' hS
      -- node by node
      go_loopw [6] (fun iv' wr => ∃ i : Nat, i ≤ ns.length ∧ iv' = .int .i64 i ∧ Hid (wr.ownsRow W.heap.size 3 1 (.slice (some ⟨W.heap.size, 0, none⟩) ns.length ns.length) ns.length (iv (upTo S i))) ∧ Below W.heap.size W wr)
        (fun iv' _ => ns.length - (intOf iv').toNat)
      case atStart => exact ⟨0, by omega, rfl, HO2, unhide HB2⟩
      case round =>
        clear HO2 HB2
        obtain ⟨i, hile, rfl, hownS, hbW⟩ := hrel
        obtain ⟨W2, hW2⟩ : ∃ W2, W2 = wr := ⟨_, rfl⟩
        subst hW2
        by_cases hil : i < ns.length
        · obtain ⟨nd, hnd⟩ : ∃ nd, ns[i]? = some nd := ⟨_, List.getElem?_eq_getElem hil⟩
          obtain ⟨b, off, rfl, hba⟩ := (unhide H).addr (by omega)
          have hgi : (itG ns n)[i]? = some (gAt (itG ns n) (i : Int)) := by
            have := gAt_get (g := itG ns n) (x := (i : Int)) (by omega) (by rw [itG_len]; omega)
            simpa using this
          obtain ⟨v0, hv0⟩ := own_cell_some (unhide hownS) i (by omega)
          have hfr := (unhide hownS).frozenAt i
          have hst := (unhide hownS).stored i (.int .i64 ((i : Nat) : Int))
          rw [iv_set] at hst
          have HST := hide hst.1
          have HBS := hide (hbW.setCell (p := ⟨W.heap.size, i, none⟩) (Nat.le_refl _) (.int .i64 ((i : Nat) : Int)))
          have HGI := hide (And.intro hnd hgi)
          clear hst hnd hgi hownS hbW
          go_wp2
          clear hv0 hfr
          -- the nodes ahead of it
          go_loopw [7] (fun kv wr => ∃ (m : Nat) (t : Int), m ≤ i ∧ kv = .int .i64 t ∧ Hid (t = (i : Int) - 1 - m) ∧ -1 ≤ t ∧ t < i ∧ Hid (wr.ownsRow W.heap.size 3 1 (.slice (some ⟨W.heap.size, 0, none⟩) ns.length ns.length) ns.length (iv ((upTo S i).set i ((seek (pG ns (itG ns n) i) i m : Nat) : Int)))) ∧ Below W.heap.size W wr)
            (fun kv _ => (intOf kv + 1).toNat)
          case atStart => exact ⟨0, _, by omega, rfl, hide (by simp), by omega, by omega, HST, unhide HBS⟩
          case round =>
            clear HST HBS
            obtain ⟨m, t, hm, rfl, ht, ht0, ht1, hownS, hbW⟩ := hrel
            obtain ⟨W3, hW3⟩ : ∃ W3, W3 = wr := ⟨_, rfl⟩
            subst hW3
            by_cases hpos : 0 ≤ t
            · obtain ⟨kk, rfl⟩ := Int.eq_ofNat_of_zero_le hpos
              have hkk : kk = i - (m + 1) ∧ m < i := by have := unhide ht; omega
              obtain ⟨ndk, hndk⟩ : ∃ nd, ns[kk]? = some nd := ⟨_, List.getElem?_eq_getElem (by omega)⟩
              have hgk : (itG ns n)[kk]? = some (gAt (itG ns n) (kk : Int)) := by
                have := gAt_get (g := itG ns n) (x := (kk : Int)) (by omega) (by rw [itG_len]; omega)
                simpa using this
              have hrow := own_below (unhide hown) hbW
              have g1 := hrow.cellAt i (by omega)
              rw [iv_get, (unhide HGI).2] at g1
              have g2 := hrow.cellAt kk (by omega)
              rw [iv_get, hgk] at g2
              simp only [Option.map_some] at g1 g2
              have hnW := (unhide HN).below hbW
              obtain ⟨kv1, c10, c11, c12, l1, k1⟩ := hnW.node (unhide HGI).1
              obtain ⟨kv2, c20, c21, c22, l2, k2⟩ := hnW.node hndk
              have HA1 := hide (⟨kv1, rfl, l1, k1⟩ : NdAt W3 (.agg #[.int .i64 nd.1, .string (B nd.2.1), kv1]) nd)
              have HA2 := hide (⟨kv2, rfl, l2, k2⟩ : NdAt W3 (.agg #[.int .i64 ndk.1, .string (B ndk.2.1), kv2]) ndk)
              have HGW := hide ((unhide HG).below hbW)
              have HR1 := hide (fun x hx => (unhide HR) nd (List.mem_of_getElem? (unhide HGI).1) x hx)
              have HR2 := hide (fun x hx => (unhide HR) ndk (List.mem_of_getElem? hndk) x hx)
              have hpg : pG ns (itG ns n) i kk = (decide (gAt (itG ns n) (i : Int) = gAt (itG ns n) (kk : Int)) && alikeM nd ndk (itG ns n)) := by
                unfold pG; rw [ndAt_get (unhide HGI).1, ndAt_get hndk]
              have HPG := hide hpg
              have HKK := hide hkk
              have hkl : kk < ns.length := by omega
              have HBW := hide hbW
              clear hrow hnW k1 k2 l1 l2 hpg hndk hgk hkk hbW
              obtain ⟨x, hx⟩ : ∃ x, gAt (itG ns n) (i : Int) = x := ⟨_, rfl⟩
              obtain ⟨y, hy⟩ : ∃ y, gAt (itG ns n) (kk : Int) = y := ⟨_, rfl⟩
              rw [hx] at g1
              rw [hy] at g2
              rw [hx, hy] at HPG
              clear hx hy
              go_upto_region 13 with fail
              go_cut [58] from 38 to 58 (fun s wx => s = .bool (pG ns (itG ns n) i kk) ∧ Below W3.heap.size W3 wx)
              case first =>
                by_cases hxy : x = y
                · subst hxy
                  have hpv : Hid (pG ns (itG ns n) i kk = alikeM nd ndk (itG ns n)) := by show _ = _; rw [unhide HPG]; simp
                  go_region_held3 (fun w' => w'.cell? ⟨g, i, none⟩ = some (.int .i64 x) ∧ w'.cell? ⟨g, kk, none⟩ = some (.int .i64 x) ∧ w'.cell? ⟨b, off + i * 3, none⟩ = some (.int .i64 nd.1) ∧ w'.cell? ⟨b, off + i * 3 + 1, none⟩ = some (.string (B nd.2.1)) ∧ w'.cell? ⟨b, off + i * 3 + 2, none⟩ = some kv1 ∧ w'.cell? ⟨b, off + kk * 3, none⟩ = some (.int .i64 ndk.1) ∧ w'.cell? ⟨b, off + kk * 3 + 1, none⟩ = some (.string (B ndk.2.1)) ∧ w'.cell? ⟨b, off + kk * 3 + 2, none⟩ = some kv2) (((try dsimp only); (repeat' apply And.intro) <;> (first | with_reducible assumption | exact g1 | exact g2 | exact c10 | exact c11 | exact c12 | exact c20 | exact c21 | exact c22))) ((go_at_call 111; refine (l14Alike_c _ _ _ nd ndk (itG ns n) W3.drew (by exact unhide HA1) (by exact unhide HA2) (by exact unhide HGW) (by rw [itG_len]; exact unhide HR1) (by rw [itG_len]; exact unhide HR2)).mono ?_; rintro e w5 ⟨rfl, hb5⟩; have HB5 : Hid (Below W3.heap.size W3 w5) := (Below.refl W3.heap.size W3).drew.trans hb5; have d1 := (unhide HB5).cell (p := ⟨g, i, none⟩) (World.block_lt_of_cell? _ _ g1); have d2 := (unhide HB5).cell (p := ⟨g, kk, none⟩) (World.block_lt_of_cell? _ _ g2); have e0 := (unhide HB5).cell (p := ⟨b, off + i * 3, none⟩) (World.block_lt_of_cell? _ _ c10); have e1 := (unhide HB5).cell (p := ⟨b, off + i * 3 + 1, none⟩) (World.block_lt_of_cell? _ _ c11); have e2 := (unhide HB5).cell (p := ⟨b, off + i * 3 + 2, none⟩) (World.block_lt_of_cell? _ _ c12); have f0 := (unhide HB5).cell (p := ⟨b, off + kk * 3, none⟩) (World.block_lt_of_cell? _ _ c20); have f1 := (unhide HB5).cell (p := ⟨b, off + kk * 3 + 1, none⟩) (World.block_lt_of_cell? _ _ c21); have f2 := (unhide HB5).cell (p := ⟨b, off + kk * 3 + 2, none⟩) (World.block_lt_of_cell? _ _ c22); rw [g1] at d1; rw [g2] at d2; rw [c10] at e0; rw [c11] at e1; rw [c12] at e2; rw [c20] at f0; rw [c21] at f1; rw [c22] at f2; clear hb5))
                  go_wp2_with fail
                  go_meet
                  exact ⟨by rw [unhide hpv], unhide HB5⟩
                · have hpv : Hid (pG ns (itG ns n) i kk = false) := by show _ = _; rw [unhide HPG]; simp [hxy]
                  have hdx : decide (x = y) = false := decide_eq_false hxy
                  go_quiet (fail)
                  go_wp2_with fail
                  go_meet
                  exact ⟨by rw [unhide hpv], below_drewN (Below.refl _ _) _⟩
              case rest =>
              obtain ⟨rfl, hbc⟩ := hcut
              rename World => W4
              have hown4 := own_below (unhide hownS) hbc
              have hb4 := (unhide HBW).trans (hbc.mono (unhide HBW).size)
              have hik := (unhide HKK).1
              have hml := (unhide HKK).2
              have hseek : seek (pG ns (itG ns n) i) i (m + 1) = if pG ns (itG ns n) i kk then kk else seek (pG ns (itG ns n) i) i m := by
                show (if pG ns (itG ns n) i (i - (m + 1)) then i - (m + 1) else _) = _
                rw [← hik]
              have hti : ((kk : Int) - 1 = (i : Int) - 1 - (m + 1 : Nat)) := by omega
              have HTI := hide hti
              cases hP : pG ns (itG ns n) i kk with
              | true =>
                rw [hP, if_pos rfl] at hseek
                obtain ⟨v4, hv4⟩ := own_cell_some hown4 i (by omega)
                have hfr4 := hown4.frozenAt i
                have hst := hown4.stored i (.int .i64 ((kk : Nat) : Int))
                rw [iv_set, setset'] at hst
                have HST : Hid ((W4.setCell ⟨W.heap.size, i, none⟩ (.int .i64 ((kk : Nat) : Int))).ownsRow W.heap.size 3 1 (.slice (some ⟨W.heap.size, 0, none⟩) ns.length ns.length) ns.length (iv ((upTo S i).set i ((seek (pG ns (itG ns n) i) i (m + 1) : Nat) : Int)))) := by
                  show World.ownsRow _ _ _ _ _ _ _
                  rw [hseek]; exact hst.1
                have HBS := hide (hb4.setCell (p := ⟨W.heap.size, i, none⟩) (Nat.le_refl _) (.int .i64 ((kk : Nat) : Int)))
                clear hst hseek hti hown4 hb4 hbc hP hik
                go_wp2
                go_roundw
                case rel => exact ⟨m + 1, (kk : Int) - 1, by omega, by first | rfl | go_num, HTI, by omega, by omega, HST, unhide HBS⟩
                case measure => first | (simp [intOf]; done) | (simp [intOf]; omega)
              | false =>
                rw [hP, if_neg (by decide)] at hseek
                rw [← hseek] at hown4
                have HST := hide hown4
                have HBS := hide hb4
                clear hseek hti hown4 hb4 hbc hP hik
                go_wp2
                go_roundw
                case rel => exact ⟨m + 1, (kk : Int) - 1, by omega, by first | rfl | go_num, HTI, by omega, by omega, HST, unhide HBS⟩
                case measure => first | (simp [intOf]; done) | (simp [intOf]; omega)
            · have hmi : m = i := by have := unhide ht; omega
              subst hmi
              have hSi : S[m]? = some ((seek (pG ns (itG ns n) m) m m : Nat) : Int) := by rw [unhide HS]; exact stepG_get hil
              have hrow := unhide hownS
              rw [upTo_done hSi] at hrow
              have HROW := hide hrow
              clear hSi hrow hownS
              go_wp2
              go_roundw
              case rel => exact ⟨m + 1, by omega, by go_num, HROW, hbW⟩
              case measure => simp [intOf]; omega
        · have hie : i = ns.length := by omega
          subst hie
          have hrow := unhide hownS
          rw [show upTo S ns.length = S from by rw [← hSl]; exact upTo_all S] at hrow
          have HROW := hide hrow
          have hrg := own_below (unhide hown) hbW
          have HRG := hide hrg
          have hgl := itG_len ns n
          clear hrow hownS hrg
          go_wp2
          -- has anything changed
          go_loopw [8, 9] (fun sv jv wr => ∃ (j : Nat), j ≤ ns.length ∧ jv = .int .i64 j ∧ sv = .bool (agree S (itG ns n) j) ∧ Below W2.heap.size W2 wr)
            (fun _ jv _ => ns.length - (intOf jv).toNat)
          case atStart => exact ⟨0, by omega, rfl, by rw [agree_zero], Below.refl _ _⟩
          case round =>
            obtain ⟨j, hj, rfl, rfl, hb2⟩ := hrel
            by_cases hjl : j < ns.length
            · obtain ⟨x, hx⟩ : ∃ x, S[j]? = some x := ⟨_, List.getElem?_eq_getElem (by omega)⟩
              obtain ⟨y, hy⟩ : ∃ y, (itG ns n)[j]? = some y := ⟨_, List.getElem?_eq_getElem (by omega)⟩
              have hag := agree_step hx hy
              have g1 := (own_below (unhide HROW) hb2).cellAt j (by omega)
              rw [iv_get, hx] at g1
              have g2 := (own_below (unhide HRG) hb2).cellAt j (by omega)
              rw [iv_get, hy] at g2
              simp only [Option.map_some] at g1 g2
              have HAG := hide hag
              have HB2 := hide hb2
              clear hx hy hag hb2
              cases hag0 : agree S (itG ns n) j with
              | true =>
                rw [hag0, Bool.true_and] at HAG
                clear hag0
                go_wp2
                go_quiet (fail)
                go_wp2
                go_roundw
                case rel => exact ⟨j + 1, by omega, by go_num, by rw [unhide HAG]; first | rfl | rw [show (x == y) = decide (x = y) from by by_cases h : x = y <;> simp [h]], below_drewN (unhide HB2) _⟩
                case measure => simp [intOf]; omega
              | false =>
                rw [hag0, Bool.false_and] at HAG
                clear hag0
                go_wp2
                go_quiet (fail)
                go_wp2
                go_roundw
                case rel => exact ⟨j + 1, by omega, by go_num, by rw [unhide HAG], below_drewN (unhide HB2) _⟩
                case measure => simp [intOf]; omega
            · have hje : j = ns.length := by omega
              subst hje
              have hall : agree S (itG ns n) ns.length = decide (itG ns (n + 1) = itG ns n) := by
                rw [agree_all hSl hgl, unhide HS]; rfl
              have hrow3 := own_below (unhide HROW) hb2
              rw [unhide HS] at hrow3
              have HROW3 := hide (hrow3 : World.ownsRow _ _ _ _ _ _ (iv (itG ns (n + 1))))
              have HB3 := hide ((hbl.trans (hbW.mono hsz)).trans (hb2.mono (Nat.le_trans hsz hbW.size)))
              clear hrow3 hb2
              rw [hall]
              by_cases hst : itG ns (n + 1) = itG ns n
              · rw [decide_eq_true hst]
                have HST := hide hst
                clear hst hall
                by_cases hn0 : n = 0
                · subst hn0
                  go_wp2
                  go_roundw
                  case rel => exact ⟨1, W.heap.size, ns.length, by omega, by first | rfl | go_num, rfl, hide (own_base (unhide HROW3) hsz), unhide HB3⟩
                  case measure => first | (simp [intOf]; done) | (simp [intOf]; omega)
                · have hn1 : (0 : Int) < n := by omega
                  go_wp2
                  go_ret
                  refine ⟨⟨_, rfl, ?_⟩, unhide HB3⟩
                  rw [← grp_of_stable hlt (unhide HST)]
                  exact own_base (unhide HROW3) hsz
              · rw [decide_eq_false hst]
                clear hst hall
                go_wp2
                go_roundw
                case rel => exact ⟨n + 1, W.heap.size, ns.length, by omega, by first | rfl | go_num, rfl, hide (own_base (unhide HROW3) hsz), unhide HB3⟩
                case measure => first | (simp [intOf]; done) | (simp [intOf]; omega)
    · go_wp2
      go_ret
      have hn1 : n = ns.length + 1 := by omega
      subst hn1
      exact ⟨⟨_, rfl, unhide hown⟩, hbl⟩
end Go.Proofs.YtcnnicbaeicboaaDoor
/- The walk over groups, plain, and places in a list. -/
namespace Go.Proofs.YtcnnicbaeicboaaDoor
open Go.RowKit Nt

def walkM (ns : List Nd) (gs : List Int) : Nat → Int → List Int → List Int
  | 0, _, o => o
  | f + 1, at', o => if gAt gs at' ∈ o then o else (ndAt ns (gAt gs at').toNat).2.2.foldl (fun o k => walkM ns gs f k o) (o ++ [gAt gs at'])

def InR (n : Nat) (o : List Int) : Prop := o.Nodup ∧ ∀ x ∈ o, 0 ≤ x ∧ x < n
theorem InR.len {n : Nat} {o : List Int} (h : InR n o) : o.length ≤ n := by
  induction n generalizing o with
  | zero =>
    cases o with
    | nil => exact Nat.le_refl _
    | cons x r => have := h.2 x (by simp); omega
  | succ n ih =>
    by_cases hm : (n : Int) ∈ o
    · have h1 : InR n (o.erase (n : Int)) := by
        refine ⟨h.1.erase _, fun x hx => ?_⟩
        have := (h.1.mem_erase_iff).1 hx
        have h2 := h.2 x this.2
        have h3 := this.1
        omega
      have := ih h1
      rw [List.length_erase_of_mem hm] at this
      omega
    · have h1 : InR n o := ⟨h.1, fun x hx => by
        have h2 := h.2 x hx
        have h3 : x ≠ (n : Int) := fun e => hm (e ▸ hx)
        omega⟩
      have := ih h1
      omega
theorem InR.snoc {n : Nat} {o : List Int} {g : Int} (h : InR n o) (h0 : 0 ≤ g ∧ g < n) (hg : g ∉ o) : InR n (o ++ [g]) := by
  refine ⟨?_, fun x hx => ?_⟩
  · rw [List.nodup_append]
    refine ⟨h.1, by simp, fun a ha b hb => ?_⟩
    simp at hb
    subst hb
    exact fun e => hg (e ▸ ha)
  · rw [List.mem_append] at hx
    rcases hx with hx | hx
    · exact h.2 x hx
    · simp at hx; subst hx; exact h0

/-- all groups are places -/
def GsOk (n : Nat) (gs : List Int) : Prop := ∀ k : Int, 0 ≤ k → k < n → 0 ≤ gAt gs k ∧ gAt gs k < n
def KidsR (ns : List Nd) : Prop := ∀ nd ∈ ns, ∀ x ∈ nd.2.2, 0 ≤ x ∧ x < ns.length
theorem ndAt_kids {ns : List Nd} (h : KidsR ns) {k : Int} (h0 : 0 ≤ k) (h1 : k < ns.length) : ∀ x ∈ (ndAt ns k.toNat).2.2, 0 ≤ x ∧ x < ns.length := by
  have hg : ns[k.toNat]? = some (ns[k.toNat]'(by omega)) := List.getElem?_eq_getElem _
  rw [ndAt_get hg]
  exact h _ (List.getElem_mem _)

theorem walkM_ok {ns : List Nd} {gs : List Int} (hk : KidsR ns) (hg : GsOk ns.length gs) : ∀ (f : Nat) (at' : Int) (o : List Int), 0 ≤ at' → at' < ns.length → InR ns.length o → InR ns.length (walkM ns gs f at' o) ∧ o.length ≤ (walkM ns gs f at' o).length ∧ (∀ x ∈ o, x ∈ walkM ns gs f at' o) := by
  intro f
  induction f with
  | zero => intro at' o _ _ h; exact ⟨h, Nat.le_refl _, fun _ h => h⟩
  | succ f ih =>
    intro at' o h0 h1 h
    unfold walkM
    split
    · exact ⟨h, Nat.le_refl _, fun _ h => h⟩
    · rename_i hn
      have hga := hg at' h0 h1
      have key : ∀ (ks : List Int) (o' : List Int), (∀ x ∈ ks, 0 ≤ x ∧ x < ns.length) → InR ns.length o' → InR ns.length (ks.foldl (fun o k => walkM ns gs f k o) o') ∧ o'.length ≤ (ks.foldl (fun o k => walkM ns gs f k o) o').length ∧ (∀ x ∈ o', x ∈ ks.foldl (fun o k => walkM ns gs f k o) o') := by
        intro ks
        induction ks with
        | nil => intro o' _ h'; exact ⟨h', Nat.le_refl _, fun _ h => h⟩
        | cons k r ihk =>
          intro o' hks h'
          have hk0 := hks k (by simp)
          obtain ⟨a1, a2, a3⟩ := ih k o' hk0.1 hk0.2 h'
          obtain ⟨b1, b2, b3⟩ := ihk _ (fun x hx => hks x (by simp [hx])) a1
          exact ⟨b1, Nat.le_trans a2 b2, fun x hx => b3 x (a3 x hx)⟩
      obtain ⟨c1, c2, c3⟩ := key (ndAt ns (gAt gs at').toNat).2.2 (o ++ [gAt gs at']) (ndAt_kids hk hga.1 hga.2) (h.snoc hga hn)
      refine ⟨c1, ?_, fun x hx => c3 x (by simp [hx])⟩
      simp at c2; omega

/-- the place of a group -/
def placeM (o : List Int) (g : Int) : Int := match o.findIdx? (· == g) with | some i => i | none => -1
theorem findIdx_take {o : List Int} {g : Int} {j : Nat} (h : ∀ i, i < j → o[i]? ≠ some g) (hj : o[j]? = some g) : placeM o g = j := by
  unfold placeM
  have : o.findIdx? (· == g) = some j := by
    rw [List.findIdx?_eq_some_iff_getElem]
    obtain ⟨hjl, hje⟩ := List.getElem?_eq_some_iff.1 hj
    refine ⟨hjl, by simp [hje], fun i hi => ?_⟩
    have := h i hi
    rw [List.getElem?_eq_getElem (by omega)] at this
    simpa using this
  rw [this]
theorem findIdx_none {o : List Int} {g : Int} (h : ∀ i, i < o.length → o[i]? ≠ some g) : placeM o g = -1 := by
  unfold placeM
  have : o.findIdx? (· == g) = none := by
    rw [List.findIdx?_eq_none_iff]
    intro x hx
    obtain ⟨i, hi⟩ := List.getElem?_of_mem hx
    have hil := (List.getElem?_eq_some_iff.1 hi).1
    have := h i hil
    simp
    intro e
    subst e
    exact this hi
  rw [this]

set_option maxRecDepth 100000 in
set_option maxHeartbeats 1600000 in
theorem l14Place_c (v : Value) (o : List Int) (g : Int) (w : World) (h : IntsAt w v o) :
    Calls Tryd.prog 73 #[v, .int .i64 g] w fun e w' => e = .returned (.int .i64 (placeM o g)) ∧ Below w.heap.size w w' := by
  obtain ⟨a, cap, rfl, h1, h2⟩ := h.form
  unfold maxLen at h2
  have H := hide h
  clear h
  go_enter Tryd.func73, Tryd.ntmps73
  go_wp2
  go_loopw [5] (fun i wr => ∃ j : Nat, j ≤ o.length ∧ i = .int .i64 j ∧ Hid (∀ i, i < j → o[i]? ≠ some g) ∧ Below w.heap.size w wr)
    (fun i _ => o.length - (intOf i).toNat)
  case atStart => exact ⟨0, by omega, rfl, hide (fun _ h => absurd h (by omega)), Below.refl _ _⟩
  case round =>
    obtain ⟨j, hj, rfl, hno, hbl⟩ := hrel
    by_cases hlt : j < o.length
    · obtain ⟨x, hx⟩ : ∃ x, o[j]? = some x := ⟨_, List.getElem?_eq_getElem hlt⟩
      obtain ⟨b, off, rfl, hb, hc⟩ := ((unhide H).below hbl).cell hx
      by_cases hxg : x = g
      · subst hxg
        have hp := findIdx_take (unhide hno) hx
        have HP := hide hp
        clear hp hno hx
        go_wp2
        go_ret
        exact ⟨ret_int (by rw [unhide HP]), hbl⟩
      · have hno2 := hide (fun (i : Nat) (hi : i < j + 1) => (by
          rcases Nat.lt_succ_iff_lt_or_eq.1 hi with h3 | h3
          · exact unhide hno i h3
          · subst h3; rw [hx]; intro e; injection e with e; exact hxg e : o[i]? ≠ some g))
        clear hno hx
        go_wp2
        go_roundw
        case rel => exact ⟨j + 1, by omega, by go_num, hno2, hbl⟩
        case measure => simp [intOf]; omega
    · have hp := findIdx_none (o := o) (g := g) (fun i hi => unhide hno i (by omega))
      have HP := hide hp
      clear hp hno
      go_wp2
      go_ret
      exact ⟨ret_int (by rw [unhide HP]), hbl⟩
end Go.Proofs.YtcnnicbaeicboaaDoor
namespace Go.Proofs.YtcnnicbaeicboaaDoor
open Go.RowKit Nt

theorem foldl_take {ns : List Nd} {gs : List Int} {f : Nat} {ks : List Int} {j : Nat} {k : Int} {o : List Int} (h : ks[j]? = some k) : (ks.take (j + 1)).foldl (fun o k => walkM ns gs f k o) o = walkM ns gs f k ((ks.take j).foldl (fun o k => walkM ns gs f k o) o) := by
  rw [List.take_add_one, h, List.foldl_append]; rfl

set_option maxRecDepth 100000 in
set_option maxHeartbeats 3200000 in
theorem l14Walk_c (W1 : World) (nv gv : Value) (ns : List Nd) (gs : List Int) (hn : NodesAt W1 nv ns) (hg : IntsAt W1 gv gs) (hgl : gs.length = ns.length) (hk : KidsR ns) (hgo : GsOk ns.length gs) (hs : ns.length ≤ 1048576) :
    ∀ (f : Nat) (at' : Int) (o : List Int) (ov : Value) (W : World), 0 ≤ at' → at' < ns.length → InR ns.length o → ns.length < o.length + f → Below W1.heap.size W1 W → W.ownsRow W1.heap.size 3 1 ov o.length (iv o) →
    Calls Tryd.prog 72 #[nv, gv, .int .i64 at', ov] W fun e w' => (∃ ov', e = .returned ov' ∧ w'.ownsRow W1.heap.size 3 1 ov' (walkM ns gs f at' o).length (iv (walkM ns gs f at' o))) ∧ Below W1.heap.size W1 w' := by
  obtain ⟨i0, hi, hz0, hz1, hz2⟩ := info_parts Tryd.infoInt
  by_cases hn0 : 0 < ns.length
  case neg => intro f at' o ov W h0 h1; omega
  obtain ⟨bn, on, cn, rfl, hn1, hn2, hbn⟩ := hn.form hn0
  obtain ⟨ag, cg, rfl, hcg1, hcg2⟩ := hg.form
  obtain ⟨x0, hx0⟩ : ∃ x, gs[0]? = some x := ⟨_, List.getElem?_eq_getElem (by omega)⟩
  obtain ⟨bg, og, rfl, hbg, _⟩ := hg.cell hx0
  unfold maxLen at hn2 hcg2
  have HN := hide hn
  have HG := hide hg
  have HK := hide hk
  have HGO := hide hgo
  clear hn hg hk hgo hx0
  rw [hgl] at HG hcg1 ⊢
  intro f
  induction f with
  | zero => intro at' o ov W _ _ h hf _ _; have := h.len; omega
  | succ f ih =>
    intro at' o ov W h0 h1 hin hf hB hown
    obtain ⟨k, rfl⟩ := Int.eq_ofNat_of_zero_le h0
    have hga := (unhide HGO) k h0 h1
    have hgk : gs[k]? = some (gAt gs (k : Int)) := by
      have := gAt_get (g := gs) (x := (k : Int)) h0 (by omega)
      simpa using this
    obtain ⟨gn, hgn⟩ := Int.eq_ofNat_of_zero_le hga.1
    have hgnl : gn < ns.length := by omega
    obtain ⟨nd, hnd⟩ : ∃ nd, ns[gn]? = some nd := ⟨_, List.getElem?_eq_getElem hgnl⟩
    have hwm : walkM ns gs (f + 1) k o = if (gn : Int) ∈ o then o else nd.2.2.foldl (fun o k => walkM ns gs f k o) (o ++ [(gn : Int)]) := by
      show (if gAt gs k ∈ o then o else (ndAt ns (gAt gs k).toNat).2.2.foldl _ (o ++ [gAt gs k])) = _
      rw [hgn, Int.toNat_natCast, ndAt_get hnd]
    rw [hgn] at hgk
    have HWM := hide hwm
    have HIH := hide ih
    have hlen := hin.len
    have HIN := hide hin
    have HB := hide hB
    have HOWN := hide hown
    have HND := hide hnd
    obtain ⟨bg', og', e', _, hgc⟩ := ((unhide HG).below hB).cell hgk
    injection e' with e'
    injection e' with e1 e2
    subst e1 e2
    obtain ⟨oa, oc, rfl, ho1, ho2⟩ := (owns_ints hown).form
    unfold maxLen at ho2
    have hks := (unhide HK) nd (List.mem_of_getElem? hnd)
    have HKS := hide hks
    clear hga hgn hwm ih hin hB hown hnd hgk hks
    go_enter Tryd.func72, Tryd.ntmps72
    go_wp2
    go_loopw [10] (fun i wr => ∃ j : Nat, j ≤ o.length ∧ i = .int .i64 j ∧ Hid (∀ i, i < j → o[i]? ≠ some (gn : Int)) ∧ wr = W)
      (fun i _ => o.length - (intOf i).toNat)
    case atStart => exact ⟨0, by omega, rfl, hide (fun _ h => absurd h (by omega)), by first | rfl | trivial⟩
    case round =>
      obtain ⟨j, hj, rfl, hno, rfl⟩ := hrel
      by_cases hlt : j < o.length
      · obtain ⟨x, hx⟩ : ∃ x, o[j]? = some x := ⟨_, List.getElem?_eq_getElem hlt⟩
        obtain ⟨b, off, rfl, hb, hc⟩ := (owns_ints (unhide HOWN)).cell hx
        by_cases hxg : x = (gn : Int)
        · subst hxg
          have hw2 : walkM ns gs (f + 1) k o = o := by rw [unhide HWM, if_pos (List.mem_of_getElem? hx)]
          have HW2 := hide hw2
          clear hw2 hx hno
          go_wp2
          go_ret
          rw [unhide HW2]
          exact ⟨⟨_, rfl, unhide HOWN⟩, unhide HB⟩
        · have hno2 := hide (fun (i : Nat) (hi : i < j + 1) => (by
            rcases Nat.lt_succ_iff_lt_or_eq.1 hi with h3 | h3
            · exact unhide hno i h3
            · subst h3; rw [hx]; intro e; injection e with e; exact hxg e : o[i]? ≠ some (gn : Int)))
          clear hno hx
          go_wp2
          go_roundw
          case rel => exact ⟨j + 1, by omega, by go_num, hno2, by first | rfl | trivial⟩
          case measure => simp [intOf]; omega
      · have hnin : (gn : Int) ∉ o := by
          intro hm
          obtain ⟨i, hi⟩ := List.getElem?_of_mem hm
          exact unhide hno i (by have := (List.getElem?_eq_some_iff.1 hi).1; omega) hi
        have hw2 : walkM ns gs (f + 1) k o = nd.2.2.foldl (fun o k => walkM ns gs f k o) (o ++ [(gn : Int)]) := by rw [unhide HWM, if_neg hnin]
        have HW2 := hide hw2
        have HIN2 := hide ((unhide HIN).snoc (g := (gn : Int)) (by omega) hnin)
        have hsz := (unhide HB).size
        clear hw2 hno hnin hgc
        go_wp2_with (at_builtin; refine wpList_append_own _ rfl (.tmp 29) (.tmp 31) 41 rfl W1.heap.size 3 i0 (.int .i64 0) 1 8 Tryd.underlying41 hi hz0 hz1 hz2 rfl (by decide) _ _ _ rfl ((unhide HOWN).alloc _) ⟨wr.heap.size, 0, none⟩ 1 1 [.int .i64 (gn : Int)] rfl rfl (cell_one_new _ _ _) (by intro u hu; simp at hu; subst hu; rfl) (by unfold maxLen; omega) (by omega) (by simp; omega) ?_; intro v2 w2 hown2 hg2 hxx; clear hxx)
        have hown2' : w2.ownsRow W1.heap.size 3 1 v2 (o ++ [(gn : Int)]).length (iv (o ++ [(gn : Int)])) := by
          simpa [iv] using hown2
        have hb2 := below_grown ((unhide HB).alloc hsz (.cells #[.int .i64 (gn : Int)] 3)) ((unhide HOWN).alloc _) hg2 (by simp; omega)
        have HO2 := hide hown2'
        have HB2 := hide hb2
        clear hown2 hg2 hown2' hb2
        go_loopw [3, 11] (fun sv jv wr => ∃ (j : Nat) (o' : List Int), j ≤ nd.2.2.length ∧ jv = .int .i64 j ∧ Hid (o' = (nd.2.2.take j).foldl (fun o k => walkM ns gs f k o) (o ++ [(gn : Int)])) ∧ Hid (wr.ownsRow W1.heap.size 3 1 sv o'.length (iv o')) ∧ Hid (Below W1.heap.size W1 wr) ∧ Hid (InR ns.length o') ∧ o.length + 1 ≤ o'.length)
          (fun _ jv _ => nd.2.2.length - (intOf jv).toNat)
        case atStart => exact ⟨0, o ++ [(gn : Int)], by omega, rfl, hide rfl, HO2, HB2, HIN2, by simp⟩
        case round =>
          clear HO2 HB2 HIN2
          obtain ⟨j2, o2, hj2, rfl, ho2, hown2, hb2, hin2, hl2⟩ := hrel
          obtain ⟨kv, c0, c1, c2, _, hkv⟩ := ((unhide HN).below (unhide hb2)).node (unhide HND)
          obtain ⟨ka, kc, rfl, hkc1, hkc2⟩ := hkv.form
          unfold maxLen at hkc2
          by_cases hlt2 : j2 < nd.2.2.length
          · obtain ⟨x, hx⟩ : ∃ x, nd.2.2[j2]? = some x := ⟨_, List.getElem?_eq_getElem hlt2⟩
            obtain ⟨b, off, rfl, hb, hc⟩ := hkv.cell hx
            have hxr := (unhide HKS) x (List.mem_of_getElem? hx)
            have hst := foldl_take (ns := ns) (gs := gs) (f := f) (o := o ++ [(gn : Int)]) hx
            rw [← unhide ho2] at hst
            have hok := walkM_ok (unhide HK) (unhide HGO) f x o2 hxr.1 hxr.2 (unhide hin2)
            have HST := hide hst
            have HOK := hide hok
            have HXR := hide hxr
            clear hst hok hxr hx hkv ho2
            go_wp2_with fail
            have h := (unhide HIH) x o2 _ wr (unhide HXR).1 (unhide HXR).2 (unhide hin2) (by omega) (unhide hb2) (unhide hown2)
            refine h.mono ?_
            clear h
            rintro e w3 ⟨⟨ov3, rfl, hown3⟩, hb3⟩
            have HO3 := hide hown3
            have HB3 := hide hb3
            have hl3 := (unhide HOK).2.1
            clear hown3 hb3 hown2 hb2 hin2
            go_wp2
            go_roundw
            case rel => exact ⟨j2 + 1, _, by omega, by go_num, hide (unhide HST).symm, HO3, HB3, hide (unhide HOK).1, by omega⟩
            case measure => simp [intOf]; omega
          · have hfin := unhide ho2
            rw [List.take_of_length_le (by omega)] at hfin
            have HFIN := hide hfin
            clear hfin hkv ho2
            go_wp2
            go_ret
            rw [unhide HW2, ← unhide HFIN]
            exact ⟨⟨_, rfl, unhide hown2⟩, unhide hb2⟩
end Go.Proofs.YtcnnicbaeicboaaDoor
/- ReadMin, plain: as the specification has it. -/
namespace Go.Proofs.YtcnnicbaeicboaaDoor
open Go.RowKit Nt

def ordM (ns : List Nd) (gs : List Int) (rs : List Int) : List Int := rs.foldl (fun o r => walkM ns gs (ns.length + 1) r o) []
def minNd (ns : List Nd) (gs o : List Int) (g : Int) : Nd := ((ndAt ns g.toNat).1, (ndAt ns g.toNat).2.1, (ndAt ns g.toNat).2.2.map fun k => placeM o (gAt gs k))
def minOk (d : Dt) : Bool := d.1.all (kidsOk · d.1.length) && d.2.all (inR · d.1.length)
def minM (d : Dt) : Dt :=
  if minOk d then
    ((ordM d.1 (grpM d.1) d.2).map (minNd d.1 (grpM d.1) (ordM d.1 (grpM d.1) d.2)), d.2.map fun r => placeM (ordM d.1 (grpM d.1) d.2) (gAt (grpM d.1) r))
  else ([], [])

theorem inR_iff {k : Int} {n : Nat} : inR k n = true ↔ 0 ≤ k ∧ k < n := by unfold inR; simp
theorem kidsR_of {ns : List Nd} (h : ns.all (kidsOk · ns.length) = true) : KidsR ns := by
  intro nd hm x hx
  have := List.all_eq_true.1 h nd hm
  unfold kidsOk at this
  rw [Bool.and_eq_true] at this
  exact inR_iff.1 (List.all_eq_true.1 this.2 x hx)
theorem seek_lt {P : Nat → Bool} {i n m : Nat} (h : i < n) : seek P i m < n := Nat.lt_of_le_of_lt (seek_le P i m) h
theorem itG_range (ns : List Nd) (k : Nat) : ∀ x ∈ itG ns k, 0 ≤ x ∧ x < ns.length := by
  intro x hx
  cases k with
  | zero =>
    simp [itG] at hx
    have : 0 < ns.length := by
      rcases Nat.eq_zero_or_pos ns.length with h | h
      · exact absurd (List.length_eq_zero_iff.1 h) hx.1
      · exact h
    omega
  | succ k =>
    simp only [itG, stepG, List.mem_map, List.mem_range] at hx
    obtain ⟨i, hi, rfl⟩ := hx
    have := seek_lt (P := pG ns (itG ns k) i) (m := i) hi
    omega
theorem grp_len (ns : List Nd) : (grpM ns).length = ns.length := itG_len _ _
theorem grp_ok (ns : List Nd) : GsOk ns.length (grpM ns) := by
  intro k h0 h1
  have := gAt_get (g := grpM ns) h0 (by rw [grp_len]; exact h1)
  exact itG_range ns _ _ (List.mem_of_getElem? this)
theorem ordM_ok {ns : List Nd} (hk : KidsR ns) (rs : List Int) (hr : ∀ r ∈ rs, 0 ≤ r ∧ r < ns.length) : ∀ o, InR ns.length o → InR ns.length (rs.foldl (fun o r => walkM ns (grpM ns) (ns.length + 1) r o) o) := by
  induction rs with
  | nil => intro o h; exact h
  | cons r t ih =>
    intro o h
    have h0 := hr r (by simp)
    exact ih (fun x hx => hr x (by simp [hx])) _ (walkM_ok hk (grp_ok ns) (ns.length + 1) r o h0.1 h0.2 h).1
theorem inr_nil (n : Nat) : InR n [] := ⟨List.nodup_nil, fun x hx => by simp at hx⟩

/-- no list grows -/
theorem minM_small {d : Dt} (h : d.1.length ≤ 1048576 ∧ d.2.length ≤ 1048576 ∧ NsSmall d.1) : (minM d).1.length ≤ 1048576 ∧ (minM d).2.length ≤ 1048576 ∧ NsSmall (minM d).1 := by
  unfold minM
  split
  · rename_i hok
    unfold minOk at hok
    rw [Bool.and_eq_true] at hok
    have hk := kidsR_of hok.1
    have hr : ∀ r ∈ d.2, 0 ≤ r ∧ r < d.1.length := fun r hm => inR_iff.1 (List.all_eq_true.1 hok.2 r hm)
    have ho := ordM_ok hk d.2 hr [] (inr_nil _)
    refine ⟨?_, by simpa using h.2.1, ?_⟩
    · simp only [List.length_map]
      exact Nat.le_trans ho.len h.1
    · intro nd hm
      simp only [List.mem_map] at hm
      obtain ⟨g, hg, rfl⟩ := hm
      have hgr := ho.2 g hg
      have hget : d.1[g.toNat]? = some (d.1[g.toNat]'(by omega)) := List.getElem?_eq_getElem _
      unfold minNd
      rw [ndAt_get hget]
      simpa using h.2.2 _ (List.getElem_mem _)
  · exact ⟨by simp, by simp, fun nd hm => by simp at hm⟩
end Go.Proofs.YtcnnicbaeicboaaDoor
/- impl's checks of data: places of kids, numbers of kids. -/
namespace Go.Proofs.YtcnnicbaeicboaaDoor
open Go.RowKit Go.Shelf Nt
attribute [local go_sem] Oper.semAt_some

set_option maxHeartbeats 1000000 in
theorem hasPlace_c (a : Option Addr) (n c : Nat) (rv : Value) (k : Int) (w : World) :
    Calls Tryd.prog 113 #[.agg #[.slice a n c, rv], .int .i64 k] w fun e w' => e = .returned (.bool (inR k n)) ∧ Below w.heap.size w w' := by
  have HB := hide (step_a (Below.refl w.heap.size w) (.cells #[.slice a n c, rv] 47))
  by_cases h0 : 0 ≤ k
  · by_cases h1 : k < n
    · have HR : Hid (inR k n = true) := by show _ = _; unfold inR; simp [h0, h1]
      go_enter Tryd.func113, Tryd.ntmps113
      go_wp2
      go_ret
      exact ⟨by rw [unhide HR]; rfl, unhide HB⟩
    · have HR : Hid (inR k n = false) := by show _ = _; unfold inR; simp [h1]
      go_enter Tryd.func113, Tryd.ntmps113
      go_wp2
      go_ret
      exact ⟨by rw [unhide HR]; rfl, unhide HB⟩
  · have HR : Hid (inR k n = false) := by show _ = _; unfold inR; simp [h0]
    go_enter Tryd.func113, Tryd.ntmps113
    go_wp2
    go_ret
    exact ⟨by rw [unhide HR]; rfl, unhide HB⟩

set_option maxHeartbeats 1000000 in
theorem kidsFit_c (s : Int) (t : ByteArray) (a : Option Addr) (n c : Nat) (w : World) (hn : n ≤ 1048576) :
    Calls Tryd.prog 115 #[.agg #[.int .i64 s, .string t, .slice a n c]] w fun e w' => e = .returned (.bool (cntOk s n)) ∧ Below w.heap.size w w' := by
  have HB := hide (step_a (Below.refl w.heap.size w) (.cells #[.int .i64 s, .string t, .slice a n c] 93))
  by_cases h7 : s = 7
  · subst h7
    have HR : Hid (cntOk 7 n = ((n : Int) == 2)) := by
      show _ = _; unfold cntOk; rw [if_pos rfl]
      by_cases h : n = 2
      · subst h; rfl
      · rw [beq_eq_false_iff_ne.2 h, beq_eq_false_iff_ne.2 (by omega)]
    go_enter Tryd.func115, Tryd.ntmps115
    go_wp2
    go_ret
    exact ⟨by rw [unhide HR]; rfl, unhide HB⟩
  · by_cases h8 : s = 8
    · subst h8
      have HR : Hid (cntOk 8 n = decide ((n : Int) ≤ 40)) := by
        show _ = _; unfold cntOk; rw [if_neg h7, if_pos rfl]
        by_cases h : n ≤ 40
        · rw [decide_eq_true h, decide_eq_true (by omega)]
        · rw [decide_eq_false h, decide_eq_false (by omega)]
      go_enter Tryd.func115, Tryd.ntmps115
      go_wp2
      go_ret
      exact ⟨by rw [unhide HR]; rfl, unhide HB⟩
    · have HR : Hid (cntOk s n = ((n : Int) == 0)) := by
        show _ = _; unfold cntOk; rw [if_neg h7, if_neg h8]
        by_cases h : n = 0
        · subst h; rfl
        · rw [beq_eq_false_iff_ne.2 h, beq_eq_false_iff_ne.2 (by omega)]
      go_enter Tryd.func115, Tryd.ntmps115
      go_wp2
      go_ret
      exact ⟨by rw [unhide HR]; rfl, unhide HB⟩
end Go.Proofs.YtcnnicbaeicboaaDoor
/- impl.readIsPlaced: kids and roots are places. -/
namespace Go.Proofs.YtcnnicbaeicboaaDoor
open Go.RowKit Go.Shelf Nt
attribute [local go_sem] Oper.semAt_some

def kidsIn (n : Nat) (nd : Nd) : Bool := nd.2.2.all (inR · n)
def plcOk (d : Dt) : Bool := d.2.all (inR · d.1.length) && d.1.all (kidsIn d.1.length)

theorem ints_cell {W : World} {v : Value} {zs : List Int} (h : IntsAt W v zs) : ∃ a cap, v = .slice a zs.length cap ∧ zs.length ≤ cap ∧ cap ≤ maxLen ∧ ∀ j x, zs[j]? = some x → ∃ b off, a = some ⟨b, off, none⟩ ∧ b < W.heap.size ∧ W.cell? ⟨b, off + j, none⟩ = some (.int .i64 x) := by
  obtain ⟨a, cap, rfl, h1, h2, h3⟩ := h
  refine ⟨a, cap, rfl, h1, h2, fun j x hx => ?_⟩
  have hj := (List.getElem?_eq_some_iff.1 hx).1
  obtain ⟨b, off, rfl, hb, hc⟩ := h3 (by omega)
  exact ⟨b, off, rfl, hb, hc j x hx⟩

set_option maxRecDepth 100000 in
set_option maxHeartbeats 2000000 in
theorem readIsPlaced_c (nv rv : Value) (d : Dt) (w : World) (h : DataAt w (.agg #[nv, rv]) d) (hs : d.1.length ≤ 1048576 ∧ d.2.length ≤ 1048576 ∧ NsSmall d.1) :
    Calls Tryd.prog 77 #[.agg #[nv, rv]] w fun e w' => e = .returned (.bool (plcOk d)) ∧ Below w.heap.size w w' := by
  obtain ⟨nv', rv', e, hn0, hr0⟩ := h
  simp only [Value.agg.injEq, Array.mk.injEq, List.cons.injEq, and_true] at e
  obtain ⟨rfl, rfl⟩ := e
  have HN := hide hn0
  have HR := hide hr0
  obtain ⟨na, nc, rfl, hn1, hn2, _⟩ := hn0
  obtain ⟨ra, rc, rfl, hr1, hr2, _⟩ := hr0
  obtain ⟨s1, s2, s3⟩ := hs
  have HS3 := hide s3
  clear s3
  unfold maxLen at hn2 hr2
  have HB := hide (step_a (step_a (Below.refl w.heap.size w) (.cells #[.slice na d.1.length nc, .slice ra d.2.length rc] 47)) (.cells #[.bool false] 4))
  have HD := hide ((AtC2.new w (.slice na d.1.length nc) (.slice ra d.2.length rc) 47).alloc (.cells #[.bool false] 4))
  have HF := hide (Boxed.new (w.alloc (.cells #[.slice na d.1.length nc, .slice ra d.2.length rc] 47)) 4 (.bool false))
  rw [World.size_alloc] at HF
  refine (callsIn_wide (n := 3)).1 ?_
  refine callsIn_of_wp_marks Tryd.func77 rfl trivial ?_ rfl
  simp only [Tryd.ntmps77, List.size_toArray, List.length_cons, List.length_nil, Nat.reduceAdd, Nat.reduceSub, Array.replicate_succ, Array.replicate_zero, List.push_toArray, List.append_toArray, List.nil_append, List.cons_append]
  gi_wp2_with fail
  gi_loopw [11] (fun i wr => ∃ k : Nat, k ≤ d.2.length ∧ i = .int .i64 k ∧ (d.2.take k).all (inR · d.1.length) = true ∧ Below w.heap.size w wr ∧ Hid (AtC2 wr w.heap.size (.slice na d.1.length nc) (.slice ra d.2.length rc) 47) ∧ Hid (Boxed wr (w.heap.size + 1) 4 (.bool false)))
    (fun i _ => d.2.length - (intOf i).toNat)
  case atStart => exact ⟨0, by omega, rfl, by simp, unhide HB, HD, HF⟩
  case round =>
    obtain ⟨k, hk, rfl, hall, hbl, HDk, HFk⟩ := hrel
    have d0 := (unhide HDk).n0
    have d1 := (unhide HDk).n1
    have f0 := (unhide HFk).cell
    have f1 := (unhide HFk).frozen
    by_cases hlt : k < d.2.length
    · obtain ⟨x, hx⟩ : ∃ x, d.2[k]? = some x := ⟨_, List.getElem?_eq_getElem hlt⟩
      obtain ⟨a, cap, e1, _, _, h3⟩ := ints_cell ((unhide HR).below hbl)
      injection e1 with e2 e3 e4
      obtain ⟨b, off, rfl, hb, hcx⟩ := h3 k x hx
      subst e2
      clear e4 h3
      have ht := all_take_step (p := (inR · d.1.length)) hx
      rw [hall, Bool.true_and] at ht
      have HT := hide ht
      clear ht
      gi_wp2_with fail
      refine ⟨trivial, (callsIn_wide.2 (hasPlace_c _ _ _ _ _ wr)).mono ?_⟩
      rintro e w1 ⟨rfl, hb1⟩
      have HD1 := hide ((unhide HDk).below hb1)
      have HF1 := hide (boxed_below (unhide HFk) hb1)
      have hbl1 := step_b hbl hb1
      clear d0 d1 f0 f1
      have d0 := (unhide HD1).n0
      have d1 := (unhide HD1).n1
      have f0 := (unhide HF1).cell
      have f1 := (unhide HF1).frozen
      cases hr : inR x d.1.length with
      | true =>
        gi_wp2_with fail
        go_roundw
        case rel => exact ⟨k + 1, by omega, by go_num, by rw [unhide HT]; exact hr, hbl1, HD1, HF1⟩
        case measure => simp [intOf]; omega
      | false =>
        have HP : Hid (plcOk d = false) := hide (by unfold plcOk; rw [all_false hx hr, Bool.false_and])
        have HF2 := hide ((unhide HF1).set (.bool false))
        have f2 := (unhide HF2).cell
        gi_wp2_with fail
        refine ⟨.bool false, by simp [results, Tryd.f77, go_sem, f2], by rw [unhide HP], hbl1.setCell (p := ⟨w.heap.size + 1, 0, none⟩) (Nat.le_succ _) _⟩
    · obtain rfl : k = d.2.length := by omega
      rw [List.take_of_length_le (Nat.le_refl _)] at hall
      have HALL := hide hall
      clear hall hk hlt HR HB HD HF
      gi_wp2_with fail
      refine wpIn_loop (fun a' w' => ∃ (Ds : List Nat) (k : Nat) (u6 u24 u25 u26 u27 u28 u34 : Value), a' = ⟨#[.agg #[.slice na d.1.length nc, .slice ra d.2.length rc], .pointer (some ⟨w.heap.size, 0, none⟩), .pointer (some ⟨w.heap.size + 1, 0, none⟩), undef, u4, undef, u6, undef, .pointer (some ⟨w.heap.size, 1, none⟩), .slice ra d.2.length rc, .int .i64 ↑d.2.length, .int .i64 ↑d.2.length, .bool false, u13, u14, u15, u16, u17, u18, u19, .pointer (some ⟨w.heap.size, 0, none⟩), .slice na d.1.length nc, .int .i64 ↑d.1.length, .int .i64 k, u24, u25, u26, u27, u28, undef, undef, undef, undef, undef, u34], Ds.map markD⟩ ∧
          k ≤ d.1.length ∧ (d.1.take k).all (kidsIn d.1.length) = true ∧ Below w.heap.size w w' ∧ Hid (AtC2 w' w.heap.size (.slice na d.1.length nc) (.slice ra d.2.length rc) 47) ∧ Hid (Boxed w' (w.heap.size + 1) 4 (.bool false)) ∧ Hid (Marks w.heap.size w' Ds))
        (fun a' _ => d.1.length - (intOf (a'.tmps.getD 23 undef)).toNat) ?_ ?_
      · exact ⟨[], 0, _, _, _, _, _, _, _, rfl, by omega, by simp, hbl, HDk, HFk, hide (Marks.nil _ _)⟩
      · clear HDk HFk d0 d1 f0 f1 hbl
        rintro _ wr ⟨Ds, k, u6, u24, u25, u26, u27, u28, u34, rfl, hk, hall, hbl, HDk, HFk, HMk⟩
        have d0 := (unhide HDk).n0
        have d1 := (unhide HDk).n1
        by_cases hlt : k < d.1.length
        · obtain ⟨nd, hnd⟩ : ∃ nd, d.1[k]? = some nd := ⟨_, List.getElem?_eq_getElem hlt⟩
          obtain ⟨b, off, cap, e1, _, _, hb⟩ := ((unhide HN).below hbl).form (by omega)
          injection e1 with e2 e3 e4
          subst e2
          have hnode := ((unhide HN).below hbl).node hnd
          obtain ⟨kv, c0, c1, c2, htl, hki⟩ := hnode
          have HKI := hide hki
          obtain ⟨ka, kc, rfl, hk1, hk2, _⟩ := hki
          unfold maxLen at hk2
          have hks := (unhide HS3) nd (List.mem_of_getElem? hnd)
          clear e4
          gi_wp2_with fail
          refine ⟨trivial, (callsIn_wide.2 (beside_c _ _ _ _)).mono ?_⟩
          rintro e w1 ⟨rfl, rfl⟩
          obtain ⟨X, hX⟩ : ∃ X, Obj.cells #[.int .i64 nd.1, .string (B nd.2.1), .slice ka nd.2.2.length kc] 93 = X := ⟨_, rfl⟩
          have hbox : ((wr.alloc X).alloc X).cell? ⟨wr.heap.size + 1, 2, none⟩ = some (.slice ka nd.2.2.length kc) := by
            rw [← hX]
            simp
          have HX := hide hX
          clear hX
          have hB0 := step_a (step_a (Below.refl wr.heap.size wr) X) X
          have hsz : ((wr.alloc X).alloc X).heap.size = wr.heap.size + 2 := by simp
          have hD0 := (unhide HDk).below hB0
          have hF0 := boxed_below (unhide HFk) hB0
          have hM0 := (unhide HMk).below hB0
          gi_wp2_with fail
          rw [unhide HX]
          obtain ⟨W0, hW0⟩ : ∃ W0, (wr.alloc X).alloc X = W0 := ⟨_, rfl⟩
          rw [hW0] at hbox hB0 hsz hD0 hF0 hM0 ⊢
          have hwr := hbl.size
          clear HX hW0
          refine wpIn_rangeFunc_ownG rfl (by decide) (gf := 136) (lb := #[.pointer (some ⟨wr.heap.size + 1, 0, none⟩)]) rfl trivial (enters_of Tryd.func136 (by kernel_rfl) rfl)
            (beside_stops Fence.wide 2 trivial rfl (by decide) (wr.heap.size + 1) wr.heap.size (.slice ka nd.2.2.length kc) nd.2.2 (by omega) W0 (by omega) (by omega) hbox ((unhide HKI).in.below hB0))
            belowK_t (belowK_b (by omega)) (Below.refl _ _) (fun _ => rfl)
            (fun pre W => pre.all (inR · d.1.length) = true ∧ Below W0.heap.size W0 W)
            (fun c pre W => (c = .ret ∧ ∃ last ∈ pre, inR last d.1.length = false) ∧ Boxed W (w.heap.size + 1) 4 (.bool false) ∧ Kept (fun b => b = w.heap.size + 1) W0 W)
            (OwnFrom.and (ownFrom_pure _ _) (ownFrom_below (Nat.le_refl _) (Nat.le_refl _)))
            (fun c => OwnFrom.and (ownFrom_pure _ _) (OwnFrom.and (Own.from (boxed_own _ _ _) _) (ownFrom_kept (Nat.le_refl _))))
            ⟨rfl, Below.refl _ _⟩
            (fun x => ⟨#[.agg #[.slice (some ⟨b, off, none⟩) d.1.length nc, .slice ra d.2.length rc], .pointer (some ⟨w.heap.size, 0, none⟩), .pointer (some ⟨w.heap.size + 1, 0, none⟩), undef, u4, undef, .pointer (some ⟨wr.heap.size, 0, none⟩), .int .i64 x, .pointer (some ⟨w.heap.size, 1, none⟩), .slice ra d.2.length rc, .int .i64 ↑d.2.length, .int .i64 ↑d.2.length, .bool false, u13, u14, u15, u16, u17, u18, u19, .pointer (some ⟨w.heap.size, 0, none⟩), .slice (some ⟨b, off, none⟩) d.1.length nc, .int .i64 ↑d.1.length, .int .i64 ↑k, .bool true, .pointer (some ⟨b, off + k * 3, none⟩), .agg #[.int .i64 nd.1, .string (B nd.2.1), .slice ka nd.2.2.length kc], .agg #[.int .i64 nd.1, .string (B nd.2.1), .slice ka nd.2.2.length kc], .func (Fn.func 136) #[] #[.pointer (some ⟨wr.heap.size + 1, 0, none⟩)], .int .i64 x, undef, undef, undef, undef, u34], []⟩) ?assign ?body ?done ?stop
          case assign =>
            intro l x W K hK
            gi_wp2
            exact hK
          case body =>
            rintro l pre x W ⟨hpre, hbw⟩ _
            have hDw := hide (hD0.below hbw)
            have hFw := hide (boxed_below hF0 hbw)
            have d0 := (unhide hDw).n0
            have d1 := (unhide hDw).n1
            have h12 : 1 ≤ 3 - 1 - 1 := by decide
            gi_wp2_with fail
            refine ⟨trivial, (CallsIn.inRound l (callsIn_wide.2 (hasPlace_c _ _ _ _ _ W))).mono ?_⟩
            rintro e w2 ⟨rfl, hb2⟩
            have hFw2 := hide (boxed_below (unhide hFw) hb2)
            have f0 := (unhide hFw2).cell
            have f1 := (unhide hFw2).frozen
            cases hr : inR x d.1.length with
            | true =>
              gi_wp2_with fail
              exact ⟨(keepsOthers_below hb2).from _, hb2.mono (by have := hbw.size; omega), by rw [List.all_append, hpre]; simp [hr], step_b hbw hb2⟩
            | false =>
              gi_wp2_with fail
              exact ⟨((keepsOthers_below hb2).trans (KeepsOthers.setCell _ _ _)).from _, ⟨rfl, x, by simp, hr⟩, (unhide hFw2).set _, ((Kept.of_below hbw).trans (Kept.of_below hb2)).trans (Kept.set (S := fun b => b = w.heap.size + 1) (a := ⟨w.heap.size + 1, 0, none⟩) rfl _)⟩
          case done =>
            rintro D ys W hD rfl ⟨hpre, hbw⟩ hK
            have HM1 := hide (((hM0.below hbw).cons (D := D) (by have := hB0.size; omega) hK (hM0.fresh hD)))
            have HD1 := hide (hD0.below hbw)
            have HF1 := hide (boxed_below hF0 hbw)
            have HT : Hid ((d.1.take (k + 1)).all (kidsIn d.1.length) = true) := hide (by
              rw [List.take_add_one, hnd, List.all_append, hall]
              simpa [kidsIn] using hpre)
            have HB1 := hide (step_b (step_b hbl hB0) hbw)
            gi_wp2_with fail
            refine ⟨⟨D :: Ds, k + 1, _, _, _, _, _, _, _, rfl, by omega, unhide HT, unhide HB1, HD1, HF1, HM1⟩, by simp [intOf]; omega⟩
          case stop =>
            rintro D c pre W hD hpr ⟨⟨rfl, last, hl, hf⟩, hbx, hkp⟩ hK
            have hm := (hM0.kept hkp (fun D hD e => by subst e; have := (hM0.at' _ hD).2; rw [show W0.heap[w.heap.size + 1]? = _ from hF0] at this; cases this)).cons (D := D) (by have := hB0.size; omega) hK (hM0.fresh hD)
            have HP : Hid (plcOk d = false) := hide (by
              have h1 : kidsIn d.1.length nd = false := by
                unfold kidsIn
                rw [List.all_eq_false]
                exact ⟨last, List.IsPrefix.mem hl hpr, by simp [hf]⟩
              unfold plcOk
              rw [Bool.and_eq_false_iff]
              right
              rw [List.all_eq_false]
              exact ⟨nd, List.mem_of_getElem? hnd, by simp [h1]⟩)
            have HB1 := hide ((step_b hbl hB0).trans (hkp.below (base := w.heap.size) (by have := hB0.size; omega) (fun b e => by omega)))
            gi_wp2_with fail
            refine leaves_marks w.heap.size (D :: Ds) W hm (fun w' hst => ?_)
            have f2 := (still_boxed hst hbx).cell
            refine ⟨.bool false, by simp [results, Tryd.f77, go_sem, f2], by rw [unhide HP], (unhide HB1).trans hst.below⟩
        · obtain rfl : k = d.1.length := by omega
          rw [List.take_of_length_le (Nat.le_refl _)] at hall
          have HP : Hid (plcOk d = true) := hide (by unfold plcOk; rw [unhide HALL, hall]; rfl)
          have HB1 := hide (hbl.setCell (p := ⟨w.heap.size + 1, 0, none⟩) (Nat.le_succ _) (.bool true))
          have HF2 := hide ((unhide HFk).set (.bool true))
          have f1 := (unhide HFk).frozen
          have f0 := (unhide HFk).cell
          have hm := (unhide HMk).kept (Kept.set (S := fun b => b = w.heap.size + 1) (a := ⟨w.heap.size + 1, 0, none⟩) rfl (.bool true)) (fun D hD e => by subst e; have := ((unhide HMk).at' _ hD).2; rw [show wr.heap[w.heap.size + 1]? = _ from unhide HFk] at this; cases this)
          have HM := hide hm
          clear hm hall
          gi_wp2_with fail
          refine leaves_marks w.heap.size Ds _ (unhide HM) (fun w' hst => ?_)
          have f2 := (still_boxed hst (unhide HF2)).cell
          refine ⟨.bool true, by simp [results, Tryd.f77, go_sem, f2], by rw [unhide HP], (unhide HB1).trans hst.below⟩
end Go.Proofs.YtcnnicbaeicboaaDoor
/- impl.readHasKids, impl.readHolds of two checks. -/
namespace Go.Proofs.YtcnnicbaeicboaaDoor
open Go.RowKit Go.Shelf Nt

def cntsOk (d : Dt) : Bool := d.1.all fun nd => cntOk nd.1 nd.2.2.length
theorem take_all_nd {ns : List Nd} {p : Nd → Bool} {j : Nat} {x : Nd} (h : ns[j]? = some x) : (ns.take (j + 1)).all p = ((ns.take j).all p && p x) := by
  rw [List.take_add_one, h, List.all_append]; simp
theorem all_false_nd {ns : List Nd} {p : Nd → Bool} {j : Nat} {x : Nd} (h : ns[j]? = some x) (hp : p x = false) : ns.all p = false := by
  rw [List.all_eq_false]; exact ⟨x, List.mem_of_getElem? h, by simp [hp]⟩
theorem minOk_eq (d : Dt) : minOk d = (plcOk d && cntsOk d) := by
  have h : ∀ ns : List Nd, ns.all (kidsOk · d.1.length) = (ns.all (kidsIn d.1.length) && ns.all fun nd => cntOk nd.1 nd.2.2.length) := by
    intro ns
    induction ns with
    | nil => rfl
    | cons x r ih =>
      simp only [List.all_cons, ih]
      unfold kidsOk kidsIn
      cases cntOk x.1 x.2.2.length <;> cases x.2.2.all (inR · d.1.length) <;> simp
  unfold minOk plcOk cntsOk
  rw [h]
  cases d.2.all (inR · d.1.length) <;> simp

set_option maxRecDepth 100000 in
set_option maxHeartbeats 2000000 in
theorem readHasKids_c (nv rv : Value) (d : Dt) (w : World) (h : DataAt w (.agg #[nv, rv]) d) (hs : d.1.length ≤ 1048576 ∧ d.2.length ≤ 1048576 ∧ NsSmall d.1) :
    Calls Tryd.prog 78 #[.agg #[nv, rv]] w fun e w' => e = .returned (.bool (cntsOk d)) ∧ Below w.heap.size w w' := by
  obtain ⟨nv', rv', e, hn0, hr0⟩ := h
  simp only [Value.agg.injEq, Array.mk.injEq, List.cons.injEq, and_true] at e
  obtain ⟨rfl, rfl⟩ := e
  have HN := hide hn0
  obtain ⟨na, nc, rfl, hn1, hn2, _⟩ := hn0
  obtain ⟨ra, rc, rfl, hr1, hr2, _⟩ := hr0
  obtain ⟨s1, s2, s3⟩ := hs
  have HS3 := hide s3
  clear s3
  unfold maxLen at hn2 hr2
  have HB := hide (step_a (Below.refl w.heap.size w) (.cells #[.slice na d.1.length nc, .slice ra d.2.length rc] 47))
  have HD := hide (AtC2.new w (.slice na d.1.length nc) (.slice ra d.2.length rc) 47)
  go_enter Tryd.func78, Tryd.ntmps78
  go_wp2_with fail
  go_loopw [8] (fun i wr => ∃ k : Nat, k ≤ d.1.length ∧ i = .int .i64 k ∧ ((d.1.take k).all fun nd => cntOk nd.1 nd.2.2.length) = true ∧ Below w.heap.size w wr)
    (fun i _ => d.1.length - (intOf i).toNat)
  case atStart => exact ⟨0, by omega, rfl, by simp, unhide HB⟩
  case round =>
    obtain ⟨k, hk, rfl, hall, hbl⟩ := hrel
    by_cases hlt : k < d.1.length
    · obtain ⟨nd, hnd⟩ : ∃ nd, d.1[k]? = some nd := ⟨_, List.getElem?_eq_getElem hlt⟩
      obtain ⟨b, off, cap, e1, _, _, hb⟩ := ((unhide HN).below hbl).form (by omega)
      injection e1 with e2 e3 e4
      subst e2
      obtain ⟨kv, c0, c1, c2, htl, hki⟩ := ((unhide HN).below hbl).node hnd
      obtain ⟨ka, kc, rfl, hk1, hk2, _⟩ := hki
      have hks := (unhide HS3) nd (List.mem_of_getElem? hnd)
      have HT := hide (take_all_nd (p := fun nd => cntOk nd.1 nd.2.2.length) hnd)
      have HL := hide hall
      clear e4 hall
      go_wp2_with fail
      have h := kidsFit_c nd.1 (B nd.2.1) ka nd.2.2.length kc (wr.alloc (.cells #[.int .i64 nd.1, .string (B nd.2.1), .slice ka nd.2.2.length kc] 93)) hks.2
      refine h.mono ?_
      clear h
      rintro e w1 ⟨rfl, hb1⟩
      have HB1 := hide (step_b (step_a hbl (.cells #[.int .i64 nd.1, .string (B nd.2.1), .slice ka nd.2.2.length kc] 93)) hb1)
      cases hr : cntOk nd.1 nd.2.2.length with
      | true =>
        go_wp2_with fail
        go_roundw
        case rel => exact ⟨k + 1, by omega, by go_num, by rw [unhide HT, unhide HL, hr]; rfl, unhide HB1⟩
        case measure => simp [intOf]; omega
      | false =>
        have HP : Hid (cntsOk d = false) := hide (by unfold cntsOk; exact all_false_nd hnd hr)
        go_wp2_with fail
        go_ret
        exact ⟨by rw [unhide HP]; rfl, unhide HB1⟩
    · obtain rfl : k = d.1.length := by omega
      rw [List.take_of_length_le (Nat.le_refl _)] at hall
      have HP : Hid (cntsOk d = true) := hide hall
      clear hall
      go_wp2_with fail
      go_ret
      exact ⟨by rw [unhide HP]; rfl, hbl⟩

set_option maxRecDepth 100000 in
set_option maxHeartbeats 2000000 in
theorem readHolds_c (nv rv : Value) (d : Dt) (g : Nat) (T : TypeId) (w : World) (h : DataAt w (.agg #[nv, rv]) d) (hs : d.1.length ≤ 1048576 ∧ d.2.length ≤ 1048576 ∧ NsSmall d.1)
    (hg : AtC2 w g (.func (.func 77) #[] #[]) (.func (.func 78) #[] #[]) T) :
    Calls Tryd.prog 76 #[.agg #[nv, rv], .slice (some ⟨g, 0, none⟩) 2 2] w fun e w' => e = .returned (.bool (minOk d)) ∧ Below w.heap.size w w' := by
  have HDT := hide h
  obtain ⟨nv', rv', e, hn0, hr0⟩ := h
  simp only [Value.agg.injEq, Array.mk.injEq, List.cons.injEq, and_true] at e
  obtain ⟨rfl, rfl⟩ := e
  obtain ⟨na, nc, rfl, hn1, hn2, _⟩ := hn0
  obtain ⟨ra, rc, rfl, hr1, hr2, _⟩ := hr0
  have HS := hide hs
  have HG := hide hg
  clear hs hg
  unfold maxLen at hn2 hr2
  have HB := hide (step_a (Below.refl w.heap.size w) (.cells #[.slice na d.1.length nc, .slice ra d.2.length rc] 47))
  have HD := hide (AtC2.new w (.slice na d.1.length nc) (.slice ra d.2.length rc) 47)
  go_enter Tryd.func76, Tryd.ntmps76
  go_wp2_with fail
  refine wp_loop_rounds 3 ?_
  rw [rounds_succ]
  have g0 := ((unhide HG).alloc (.cells #[.slice na d.1.length nc, .slice ra d.2.length rc] 47)).n0
  have d0 := (unhide HD).n0
  have d1 := (unhide HD).n1
  go_wp2_with fail
  have h := readIsPlaced_c _ _ d (w.alloc (.cells #[.slice na d.1.length nc, .slice ra d.2.length rc] 47)) ((unhide HDT).below (unhide HB)) (unhide HS)
  refine h.mono ?_
  clear h
  rintro e w1 ⟨rfl, hb1⟩
  have HB1 := hide (step_b (unhide HB) hb1)
  have HD1 := hide ((unhide HD).below hb1)
  clear g0 d0 d1
  cases hp : plcOk d with
  | false =>
    have HP : Hid (minOk d = false) := hide (by rw [minOk_eq, hp]; rfl)
    go_wp2_with fail
    go_ret
    exact ⟨by rw [unhide HP]; rfl, unhide HB1⟩
  | true =>
    go_wp2_with fail
    rw [rounds_succ]
    have g1 := (((unhide HG).alloc (.cells #[.slice na d.1.length nc, .slice ra d.2.length rc] 47)).below hb1).n1
    have d0 := (unhide HD1).n0
    have d1 := (unhide HD1).n1
    go_wp2_with fail
    have h := readHasKids_c _ _ d w1 ((unhide HDT).below (unhide HB1)) (unhide HS)
    refine h.mono ?_
    clear h
    rintro e w2 ⟨rfl, hb2⟩
    have HB2 := hide (step_b (unhide HB1) hb2)
    clear g1 d0 d1
    cases hc : cntsOk d with
    | false =>
      have HP : Hid (minOk d = false) := hide (by rw [minOk_eq, hp, hc]; rfl)
      go_wp2_with fail
      go_ret
      exact ⟨by rw [unhide HP]; rfl, unhide HB2⟩
    | true =>
      have HP : Hid (minOk d = true) := hide (by rw [minOk_eq, hp, hc]; rfl)
      go_wp2_with fail
      rw [rounds_succ]
      go_wp2_with fail
      go_ret
      exact ⟨by rw [unhide HP]; rfl, unhide HB2⟩
end Go.Proofs.YtcnnicbaeicboaaDoor
/- Groups: what is the same, by groups that look alike; the specification's are the greatest such. -/
namespace Go.Proofs.YtcnnicbaeicboaaDoor
open Go.RowKit Nt

/-! Groups: what splits nodes that look alike, and is the greatest such. -/
def Stab (ns : List Nd) (g : List Int) : Prop := ∀ i j : Nat, i < ns.length → j < ns.length → gAt g i = gAt g j → alikeM (ndAt ns i) (ndAt ns j) g = true
def Coarse (ns : List Nd) (g : List Int) : Prop := ∀ h, Stab ns h → ∀ i j : Nat, i < ns.length → j < ns.length → gAt h i = gAt h j → gAt g i = gAt g j
theorem same_groups {ns : List Nd} {g h : List Int} (g1 : Stab ns g) (g2 : Coarse ns g) (h1 : Stab ns h) (h2 : Coarse ns h) {i j : Nat} (hi : i < ns.length) (hj : j < ns.length) : gAt g i = gAt g j ↔ gAt h i = gAt h j :=
  ⟨h2 g g1 i j hi hj, g2 h h1 i j hi hj⟩
theorem alike_iff {a b : Nd} {g : List Int} : alikeM a b g = true ↔ a.1 = b.1 ∧ a.2.1 = b.2.1 ∧ a.2.2.map (gAt g) = b.2.2.map (gAt g) := by
  unfold alikeM; simp [and_assoc]
theorem alike_refl (a : Nd) (g : List Int) : alikeM a a g = true := alike_iff.2 ⟨rfl, rfl, rfl⟩
theorem alike_symm {a b : Nd} {g : List Int} (h : alikeM a b g = true) : alikeM b a g = true := by
  rw [alike_iff] at h ⊢; exact ⟨h.1.symm, h.2.1.symm, h.2.2.symm⟩
theorem alike_trans {a b c : Nd} {g : List Int} (h : alikeM a b g = true) (k : alikeM b c g = true) : alikeM a c g = true := by
  rw [alike_iff] at h k ⊢; exact ⟨h.1.trans k.1, h.2.1.trans k.2.1, h.2.2.trans k.2.2⟩
def KidsRg (n : Nat) (ks : List Int) : Prop := ∀ x ∈ ks, 0 ≤ x ∧ x < n
theorem map_refine {n : Nat} {g h : List Int} (hr : ∀ i j : Nat, i < n → j < n → gAt h i = gAt h j → gAt g i = gAt g j) :
    ∀ {cs bs : List Int}, KidsRg n cs → KidsRg n bs → cs.map (gAt h) = bs.map (gAt h) → cs.map (gAt g) = bs.map (gAt g)
  | [], [], _, _, _ => rfl
  | [], _ :: _, _, _, e => by simp at e
  | _ :: _, [], _, _, e => by simp at e
  | a :: cs, b :: bs, ha, hb, e => by
    simp only [List.map_cons, List.cons.injEq] at e ⊢
    have h1 := ha a (by simp)
    have h2 := hb b (by simp)
    refine ⟨?_, map_refine hr (fun x hx => ha x (by simp [hx])) (fun x hx => hb x (by simp [hx])) e.2⟩
    have := hr a.toNat b.toNat (by omega) (by omega)
    rw [show ((a.toNat : Nat) : Int) = a by omega, show ((b.toNat : Nat) : Int) = b by omega] at this
    exact this e.1
theorem alike_refine {n : Nat} {g h : List Int} (hr : ∀ i j : Nat, i < n → j < n → gAt h i = gAt h j → gAt g i = gAt g j) {a b : Nd} (ha : KidsRg n a.2.2) (hb : KidsRg n b.2.2)
    (e : alikeM a b h = true) : alikeM a b g = true := by
  rw [alike_iff] at e ⊢; exact ⟨e.1, e.2.1, map_refine hr ha hb e.2.2⟩
def KidsR' (ns : List Nd) : Prop := ∀ i : Nat, i < ns.length → KidsRg ns.length (ndAt ns i).2.2

/-! the specification's groups -/
theorem seek_spec (P : Nat → Bool) (i : Nat) : ∀ m, m ≤ i → (P (seek P i m) = true ∧ seek P i m < i ∧ ∀ k, i - m ≤ k → k < seek P i m → P k = false) ∨ (seek P i m = i ∧ ∀ k, i - m ≤ k → k < i → P k = false)
  | 0, _ => .inr ⟨rfl, fun k h1 h2 => by omega⟩
  | m + 1, hm => by
    unfold seek
    by_cases h : P (i - (m + 1)) = true
    · rw [if_pos h]; exact .inl ⟨h, by omega, fun k h1 h2 => by omega⟩
    · rw [if_neg h]
      have hf : ∀ k, i - (m + 1) ≤ k → k < i - m → P k = false := fun k h1 h2 => by
        have : k = i - (m + 1) := by omega
        subst this; simpa using h
      rcases seek_spec P i m (by omega) with ⟨a, b, c⟩ | ⟨a, c⟩
      · exact .inl ⟨a, b, fun k h1 h2 => by by_cases hk : k < i - m; exact hf k h1 hk; exact c k (by omega) h2⟩
      · exact .inr ⟨a, fun k h1 h2 => by by_cases hk : k < i - m; exact hf k h1 hk; exact c k (by omega) h2⟩
/-- the class of a node in the next step is its first one that looks the same -/
theorem pG_iff {ns : List Nd} {g : List Int} {i k : Nat} : pG ns g i k = true ↔ gAt g i = gAt g k ∧ alikeM (ndAt ns i) (ndAt ns k) g = true := by
  unfold pG; simp
theorem pG_self (ns : List Nd) (g : List Int) (i : Nat) : pG ns g i i = true := pG_iff.2 ⟨rfl, alike_refl _ _⟩
theorem pG_symm {ns : List Nd} {g : List Int} {i k : Nat} (h : pG ns g i k = true) : pG ns g k i = true := by
  rw [pG_iff] at h ⊢; exact ⟨h.1.symm, alike_symm h.2⟩
theorem pG_trans {ns : List Nd} {g : List Int} {i j k : Nat} (h : pG ns g i j = true) (h2 : pG ns g j k = true) : pG ns g i k = true := by
  rw [pG_iff] at h h2 ⊢; exact ⟨h.1.trans h2.1, alike_trans h.2 h2.2⟩
theorem seekG (ns : List Nd) (g : List Int) (i : Nat) : pG ns g i (seek (pG ns g i) i i) = true ∧ seek (pG ns g i) i i ≤ i ∧ ∀ k, pG ns g i k = true → seek (pG ns g i) i i ≤ k := by
  rcases seek_spec (pG ns g i) i i (Nat.le_refl _) with ⟨a, b, c⟩ | ⟨a, c⟩
  · refine ⟨a, by omega, fun k hk => ?_⟩
    apply Nat.le_of_not_lt; intro hlt
    rw [c k (by omega) hlt] at hk; cases hk
  · rw [a]
    refine ⟨pG_self _ _ _, Nat.le_refl _, fun k hk => ?_⟩
    apply Nat.le_of_not_lt; intro hlt
    rw [c k (by omega) hlt] at hk; cases hk
theorem seekG_eq {ns : List Nd} {g : List Int} {i j : Nat} (h : pG ns g i j = true) : seek (pG ns g i) i i = seek (pG ns g j) j j := by
  obtain ⟨a1, a2, a3⟩ := seekG ns g i
  obtain ⟨b1, b2, b3⟩ := seekG ns g j
  have := a3 _ (pG_trans h b1)
  have := b3 _ (pG_trans (pG_symm h) a1)
  omega
theorem gAt_nat {g : List Int} {i : Nat} {x : Int} (h : g[i]? = some x) : gAt g i = x := by
  unfold gAt; rw [List.getD_eq_getElem?_getD, show ((i : Nat) : Int).toNat = i by omega, h]; rfl
theorem stepG_at {ns : List Nd} {g : List Int} {i : Nat} (h : i < ns.length) : gAt (stepG ns g) i = ((seek (pG ns g i) i i : Nat) : Int) := gAt_nat (stepG_get h)
theorem stepG_iff {ns : List Nd} {g : List Int} {i j : Nat} (hi : i < ns.length) (hj : j < ns.length) : gAt (stepG ns g) i = gAt (stepG ns g) j ↔ pG ns g i j = true := by
  rw [stepG_at hi, stepG_at hj]
  constructor
  · intro h
    have h' : seek (pG ns g i) i i = seek (pG ns g j) j j := by omega
    have a := (seekG ns g i).1
    have b := (seekG ns g j).1
    rw [h'] at a
    exact pG_trans a (pG_symm b)
  · intro h; rw [seekG_eq h]
theorem coarse_step {ns : List Nd} {g : List Int} (hk : KidsR' ns) (h : Coarse ns g) : Coarse ns (stepG ns g) := by
  intro h' hs i j hi hj e
  rw [stepG_iff hi hj, pG_iff]
  exact ⟨h h' hs i j hi hj e, alike_refine (h h' hs) (hk i hi) (hk j hj) (hs i j hi hj e)⟩
theorem coarse_it {ns : List Nd} (hk : KidsR' ns) : ∀ k, Coarse ns (itG ns k)
  | 0 => fun h _ i j hi hj _ => by
    have : ∀ i : Nat, i < ns.length → gAt (itG ns 0) i = 0 := fun i hi => gAt_nat (by simp [itG, hi])
    rw [this i hi, this j hj]
  | k + 1 => coarse_step hk (coarse_it hk k)
/-- firsts of their classes -/
def fixs (ns : List Nd) (g : List Int) : List Nat := (List.range ns.length).filter fun i => decide (gAt g i = (i : Int))
theorem mem_fixs {ns : List Nd} {g : List Int} {i : Nat} : i ∈ fixs ns g ↔ i < ns.length ∧ gAt g i = (i : Int) := by unfold fixs; simp
theorem fixs_nodup (ns : List Nd) (g : List Int) : (fixs ns g).Nodup := List.Nodup.sublist List.filter_sublist List.nodup_range
theorem nodup_len {α : Type} [BEq α] [LawfulBEq α] : ∀ {l m : List α}, l.Nodup → (∀ x ∈ l, x ∈ m) → l.length ≤ m.length
  | [], _, _, _ => Nat.zero_le _
  | x :: l, m, h, hs => by
    have hx := hs x (by simp)
    rw [List.nodup_cons] at h
    have := nodup_len (l := l) (m := m.erase x) h.2 (fun y hy => by
      have := hs y (by simp [hy])
      rw [List.mem_erase_of_ne]
      · exact this
      · intro e; subst e; exact h.1 hy)
    rw [List.length_erase_of_mem hx] at this
    have : 0 < m.length := List.length_pos_of_mem hx
    simp; omega
theorem nodup_all {α : Type} [BEq α] [LawfulBEq α] {l m : List α} (h : l.Nodup) (hs : ∀ x ∈ l, x ∈ m) (hl : m.length ≤ l.length) : ∀ x ∈ m, x ∈ l := by
  intro x hx
  apply Classical.byContradiction
  intro hn
  have := nodup_len (l := x :: l) (m := m) (List.nodup_cons.2 ⟨hn, h⟩) (fun y hy => by rcases List.mem_cons.1 hy with rfl | hy; exact hx; exact hs y hy)
  simp at this; omega
theorem fixs_le (ns : List Nd) (g : List Int) : (fixs ns g).length ≤ ns.length := by
  have := nodup_len (fixs_nodup ns g) (m := List.range ns.length) (fun x hx => by simp; exact (mem_fixs.1 hx).1)
  simpa using this
/-- a step's classes are firsts -/
structure Firsts (ns : List Nd) (g : List Int) : Prop where
  len : g.length = ns.length
  at' : ∀ i : Nat, i < ns.length → ∃ k : Nat, gAt g i = (k : Int) ∧ k ≤ i ∧ gAt g k = (k : Int)
theorem firsts_step (ns : List Nd) (g : List Int) : Firsts ns (stepG ns g) := by
  refine ⟨stepG_len _ _, fun i hi => ⟨seek (pG ns g i) i i, stepG_at hi, (seekG ns g i).2.1, ?_⟩⟩
  have h1 := (seekG ns g i).1
  have h2 := (seekG ns g i).2.1
  exact ((stepG_iff hi (by omega)).2 h1).symm.trans (stepG_at hi)
theorem firsts_it (ns : List Nd) : ∀ k, Firsts ns (itG ns k)
  | 0 => by
    have : ∀ i : Nat, i < ns.length → gAt (itG ns 0) i = 0 := fun i hi => gAt_nat (by simp [itG, hi])
    exact ⟨by simp [itG], fun i hi => ⟨0, this i hi, Nat.zero_le _, this 0 (by omega)⟩⟩
  | k + 1 => firsts_step ns _
theorem list_ext_gAt {a b : List Int} (hl : a.length = b.length) (h : ∀ i : Nat, i < a.length → gAt a i = gAt b i) : a = b := by
  apply List.ext_getElem hl
  intro i h1 h2
  have := h i h1
  rwa [gAt_nat (List.getElem?_eq_getElem h1), gAt_nat (List.getElem?_eq_getElem h2)] at this
theorem grow_or_same {ns : List Nd} {g : List Int} (hf : Firsts ns g) : stepG ns g = g ∨ (fixs ns g).length < (fixs ns (stepG ns g)).length := by
  have hsub : ∀ x ∈ fixs ns g, x ∈ fixs ns (stepG ns g) := by
    intro i hx
    obtain ⟨hi, e⟩ := mem_fixs.1 hx
    refine mem_fixs.2 ⟨hi, ?_⟩
    rw [stepG_at hi]
    obtain ⟨a, b, _⟩ := seekG ns g i
    have a1 := (pG_iff.1 a).1
    obtain ⟨k, hk1, hk2, _⟩ := hf.at' (seek (pG ns g i) i i) (by omega)
    omega
  by_cases hlt : (fixs ns g).length < (fixs ns (stepG ns g)).length
  · exact .inr hlt
  · refine .inl ?_
    have hall := nodup_all (fixs_nodup ns g) hsub (by omega)
    have hS := firsts_step ns g
    refine list_ext_gAt (by rw [hS.len, hf.len]) (fun i hi => ?_)
    have hi' : i < ns.length := by rw [← hS.len]; exact hi
    obtain ⟨k, h1, h2, h3⟩ := hS.at' i hi'
    have hk := (mem_fixs.1 (hall k (mem_fixs.2 ⟨by omega, h3⟩))).2
    rw [h1, ← hk]
    have := (stepG_iff hi' (by omega : k < ns.length)).1 (h1.trans h3.symm)
    exact (pG_iff.1 this).1.symm
theorem it_grows (ns : List Nd) : ∀ k, itG ns (k + 1) = itG ns k ∨ k ≤ (fixs ns (itG ns k)).length
  | 0 => .inr (Nat.zero_le _)
  | k + 1 => by
    rcases it_grows ns k with h | h
    · exact .inl (itG_stable h 1 |>.trans (by rw [← h]) |> fun e => by show stepG ns (itG ns (k + 1)) = _; rw [h]; exact h)
    · rcases grow_or_same (firsts_it ns k) with e | e
      · left; show stepG ns (stepG ns (itG ns k)) = stepG ns (itG ns k); rw [e, e]
      · right; show k + 1 ≤ (fixs ns (stepG ns (itG ns k))).length; omega
theorem grp_fix (ns : List Nd) : stepG ns (grpM ns) = grpM ns := by
  show itG ns (ns.length + 1 + 1) = itG ns (ns.length + 1)
  rcases it_grows ns (ns.length + 1) with h | h
  · exact h
  · have := fixs_le ns (itG ns (ns.length + 1)); omega
theorem stab_grp (ns : List Nd) : Stab ns (grpM ns) := by
  intro i j hi hj e
  rw [← grp_fix ns, stepG_iff hi hj, pG_iff] at e
  exact e.2
theorem coarse_grp {ns : List Nd} (hk : KidsR' ns) : Coarse ns (grpM ns) := coarse_it hk _
end Go.Proofs.YtcnnicbaeicboaaDoor
/- Splitting groups by parts, plain, as the program does. -/
namespace Go.Proofs.YtcnnicbaeicboaaDoor
open Go.RowKit Nt

/-! Splitting groups by parts, as the program does. -/
def setAll (of : List Int) (p : List Int) (m : Int) : List Int := p.foldl (fun o x => o.set x.toNat m) of
def remOf (of : List Int) (ps : List (List Int)) (g : Int) : Nat := ((ps.filter fun q => decide (gAt of (q.headD 0) = g)).map List.length).sum
def splitRun (of0 : List Int) : List (List Int) → List Int → List Int → List Int → List Int × List Int × List Int
  | [], of, sz, gone => (of, sz, gone)
  | p :: ps, of, sz, gone =>
    if ((remOf of0 (p :: ps) (gAt of (p.headD 0)) : Nat) : Int) = gAt sz (gAt of (p.headD 0)) then splitRun of0 ps of sz gone
    else splitRun of0 ps (setAll of p sz.length) (sz.set (gAt of (p.headD 0)).toNat (gAt sz (gAt of (p.headD 0)) - p.length) ++ [(p.length : Int)]) (gone ++ p)

theorem gAt_lt {g : List Int} {x : Int} (h1 : x.toNat < g.length) : g[x.toNat]? = some (gAt g x) := by
  unfold gAt; rw [List.getD_eq_getElem?_getD, List.getElem?_eq_getElem h1]; rfl
theorem setAll_len (of p : List Int) (m : Int) : (setAll of p m).length = of.length := by
  unfold setAll
  induction p generalizing of with
  | nil => rfl
  | cons x r ih => rw [List.foldl_cons, ih]; simp
theorem gAt_set {of : List Int} {x y m : Int} (hx : 0 ≤ x ∧ x < of.length) (hy : 0 ≤ y) : gAt (of.set x.toNat m) y = if y = x then m else gAt of y := by
  unfold gAt
  rw [List.getD_eq_getElem?_getD, List.getD_eq_getElem?_getD, List.getElem?_set]
  by_cases h : y = x
  · subst h; rw [if_pos rfl, if_pos rfl, if_pos (by omega)]; rfl
  · rw [if_neg h, if_neg (by omega)]
theorem setAll_at {p : List Int} {m : Int} : ∀ {of : List Int}, (∀ x ∈ p, 0 ≤ x ∧ x < of.length) → ∀ {y : Int}, 0 ≤ y → gAt (setAll of p m) y = if y ∈ p then m else gAt of y := by
  induction p with
  | nil => intro of _ y _; simp [setAll]
  | cons x r ih =>
    intro of h y hy
    have h0 := h x (by simp)
    have := ih (of := of.set x.toNat m) (fun z hz => by simpa using h z (by simp [hz])) hy
    show gAt (setAll (of.set x.toNat m) r m) y = _
    rw [this, gAt_set h0 hy]
    by_cases h1 : y ∈ r
    · rw [if_pos h1, if_pos (by simp [h1])]
    · rw [if_neg h1]
      by_cases h2 : y = x
      · subst h2; simp
      · rw [if_neg h2, if_neg (by simp [h1, h2])]
theorem count_set' {l : List Int} {i : Nat} {b x : Int} (h : l[i]? = some x) (a : Int) : (l.set i b).count a + (if x = a then 1 else 0) = l.count a + (if b = a then 1 else 0) := by
  induction l generalizing i with
  | nil => simp at h
  | cons y r ih =>
    cases i with
    | zero =>
      simp at h; subst h
      simp only [List.set_cons_zero, List.count_cons, beq_iff_eq]
      omega
    | succ i =>
      simp only [List.getElem?_cons_succ] at h
      have := ih h
      simp only [List.set_cons_succ, List.count_cons, beq_iff_eq]
      omega
theorem setAll_count {g m : Int} (hgm : g ≠ m) (a : Int) : ∀ {p of : List Int}, p.Nodup → (∀ x ∈ p, (0 ≤ x ∧ x < of.length) ∧ gAt of x = g) →
    (setAll of p m).count a + (if a = g then p.length else 0) = of.count a + (if a = m then p.length else 0) := by
  intro p
  induction p with
  | nil => intro of _ _; simp [setAll]
  | cons x r ih =>
    intro of hn h
    rw [List.nodup_cons] at hn
    obtain ⟨h0, hg⟩ := h x (by simp)
    have hx : of[x.toNat]? = some g := by rw [gAt_lt (by omega), hg]
    have h1 := count_set' (b := m) hx a
    have := ih (of := of.set x.toNat m) hn.2 (fun y hy => by
      obtain ⟨b1, b2⟩ := h y (by simp [hy])
      refine ⟨by simpa using b1, ?_⟩
      rw [gAt_set h0 b1.1, if_neg (fun e => hn.1 (by rw [← e]; exact hy)), b2])
    show (setAll (of.set x.toNat m) r m).count a + _ = _
    simp only [List.length_cons]
    by_cases ha : a = g
    · subst ha
      rw [if_pos rfl] at this ⊢
      rw [if_pos rfl, if_neg (fun e => hgm e.symm)] at h1
      rw [if_neg hgm] at this ⊢
      omega
    · rw [if_neg ha] at this ⊢
      rw [if_neg (fun e => ha e.symm)] at h1
      by_cases hm : a = m
      · subst hm; rw [if_pos rfl] at this h1 ⊢; omega
      · rw [if_neg hm] at this ⊢; rw [if_neg (fun e => hm e.symm)] at h1; omega
/-- those of a group -/
def memb (n : Nat) (of : List Int) (g : Int) : List Int := ((List.range n).filter fun (i : Nat) => decide (gAt of (i : Int) = g)).map fun (i : Nat) => (i : Int)
theorem mem_memb {n : Nat} {of : List Int} {g x : Int} : x ∈ memb n of g ↔ 0 ≤ x ∧ x < n ∧ gAt of x = g := by
  unfold memb
  simp only [List.mem_map, List.mem_filter, List.mem_range, decide_eq_true_eq]
  constructor
  · rintro ⟨i, ⟨h1, h2⟩, rfl⟩; exact ⟨by omega, by omega, h2⟩
  · rintro ⟨h1, h2, h3⟩; exact ⟨x.toNat, ⟨by omega, by rw [show ((x.toNat : Nat) : Int) = x by omega]; exact h3⟩, by omega⟩
theorem memb_len {n : Nat} {of : List Int} (h : of.length = n) (g : Int) : (memb n of g).length = of.count g := by
  unfold memb
  rw [List.length_map]
  have e : of = (List.range n).map fun (i : Nat) => gAt of (i : Int) := by
    apply List.ext_getElem (by simp [h])
    intro i h1 h2
    simp only [List.getElem_map, List.getElem_range]
    exact (gAt_nat (List.getElem?_eq_getElem h1)).symm
  have h2 : of.count g = (List.range n).countP (fun (i : Nat) => decide (gAt of (i : Int) = g)) := by
    rw [List.count]
    conv => lhs; rw [e]
    rw [List.countP_map]
    congr 1
  rw [h2, List.countP_eq_length_filter]

/-- parts of what is asked: each in one group, none empty, none twice -/
structure Parts (n : Nat) (of : List Int) (ps : List (List Int)) : Prop where
  nd : ps.flatten.Nodup
  rng : ∀ p ∈ ps, ∀ x ∈ p, 0 ≤ x ∧ x < n
  ne : ∀ p ∈ ps, p ≠ []
  one : ∀ p ∈ ps, ∀ x ∈ p, ∀ y ∈ p, gAt of x = gAt of y
theorem head_mem {p : List Int} (h : p ≠ []) : p.headD 0 ∈ p := by
  cases p with
  | nil => exact absurd rfl h
  | cons a b => simp
theorem sub_flatten {ps : List (List Int)} {P : List Int → Bool} : ((ps.filter P).flatten).Sublist ps.flatten := by
  induction ps with
  | nil => simp
  | cons a r ih =>
    rw [List.filter_cons]
    split
    · simp only [List.flatten_cons]; exact List.Sublist.append (List.Sublist.refl _) ih
    · simp only [List.flatten_cons]; exact ih.trans (List.sublist_append_right _ _)
theorem rem_mem {n : Nat} {of : List Int} {ps : List (List Int)} (hp : Parts n of ps) (g : Int) {x : Int} :
    x ∈ (ps.filter fun q => decide (gAt of (q.headD 0) = g)).flatten ↔ x ∈ ps.flatten ∧ gAt of x = g := by
  simp only [List.mem_flatten, List.mem_filter, decide_eq_true_eq]
  constructor
  · rintro ⟨q, ⟨h1, h2⟩, h3⟩; exact ⟨⟨q, h1, h3⟩, (hp.one q h1 x h3 _ (head_mem (hp.ne q h1))).trans h2⟩
  · rintro ⟨⟨q, h1, h2⟩, h3⟩; exact ⟨q, ⟨h1, (hp.one q h1 _ (head_mem (hp.ne q h1)) x h2).trans h3⟩, h2⟩
theorem rem_le {n : Nat} {of : List Int} (hl : of.length = n) {ps : List (List Int)} (hp : Parts n of ps) (g : Int) :
    remOf of ps g ≤ of.count g ∧ (remOf of ps g = of.count g → ∀ x : Int, 0 ≤ x → x < n → gAt of x = g → x ∈ ps.flatten) := by
  have e : remOf of ps g = ((ps.filter fun q => decide (gAt of (q.headD 0) = g)).flatten).length := by
    unfold remOf; rw [List.length_flatten]
  have hn : ((ps.filter fun q => decide (gAt of (q.headD 0) = g)).flatten).Nodup := List.Nodup.sublist sub_flatten hp.nd
  have hs : ∀ x ∈ (ps.filter fun q => decide (gAt of (q.headD 0) = g)).flatten, x ∈ memb n of g := by
    intro x hx
    obtain ⟨h1, h2⟩ := (rem_mem hp g).1 hx
    obtain ⟨q, hq, hxq⟩ := List.mem_flatten.1 h1
    have := hp.rng q hq x hxq
    exact mem_memb.2 ⟨this.1, this.2, h2⟩
  rw [e, ← memb_len hl g]
  refine ⟨nodup_len hn hs, fun h x h0 h1 h2 => ?_⟩
  have := nodup_all hn hs (by omega) x (mem_memb.2 ⟨h0, h1, h2⟩)
  exact ((rem_mem hp g).1 this).1
theorem rem_cong {of of' : List Int} {ps : List (List Int)} (h : ∀ p ∈ ps, gAt of (p.headD 0) = gAt of' (p.headD 0)) (g : Int) : remOf of ps g = remOf of' ps g := by
  unfold remOf
  congr 2
  apply List.filter_congr
  intro q hq; rw [h q hq]

/-- what holds while parts are gone through -/
structure SpInv (n : Nat) (of0 : List Int) (ps1 ps2 : List (List Int)) (m0 : Nat) (of sz gone : List Int) : Prop where
  len : of.length = n
  rng : ∀ x : Int, 0 ≤ x → x < n → 0 ≤ gAt of x ∧ gAt of x < sz.length
  cnt : ∀ g : Int, 0 ≤ g → g < sz.length → gAt sz g = of.count g ∧ 1 ≤ gAt sz g
  keep : ∀ x : Int, 0 ≤ x → x < n → x ∉ ps1.flatten → gAt of x = gAt of0 x
  old : ∀ x y : Int, 0 ≤ x → x < n → 0 ≤ y → y < n → gAt of x = gAt of y → gAt of0 x = gAt of0 y
  gn : ∀ x : Int, 0 ≤ x → x < n → (x ∈ gone ↔ gAt of x ≠ gAt of0 x)
  gr : ∀ x ∈ gone, 0 ≤ x ∧ x < n
  gl : m0 ≤ sz.length ∧ (gone ≠ [] → m0 < sz.length)
  gn1 : gone.length ≤ ps1.flatten.length
  low : ∀ x : Int, 0 ≤ x → x < n → x ∉ gone → gAt of x < m0
  tog : ∀ p ∈ ps1 ++ ps2, ∀ x ∈ p, ∀ y ∈ p, gAt of x = gAt of y
  key : ∀ x ∈ ps1.flatten, ∀ y : Int, 0 ≤ y → y < n → gAt of y = gAt of x → (∃ p ∈ ps1, x ∈ p ∧ y ∈ p) ∨ y ∈ ps2.flatten

theorem sp_start {n : Nat} {of0 sz : List Int} {ps : List (List Int)} (hl : of0.length = n) (hp : Parts n of0 ps) (hr : ∀ x : Int, 0 ≤ x → x < n → 0 ≤ gAt of0 x ∧ gAt of0 x < sz.length)
    (hc : ∀ g : Int, 0 ≤ g → g < sz.length → gAt sz g = of0.count g ∧ 1 ≤ gAt sz g) : SpInv n of0 [] ps sz.length of0 sz [] where
  len := hl
  rng := hr
  cnt := hc
  keep := fun _ _ _ _ => rfl
  old := fun _ _ _ _ _ _ h => h
  gn := fun x _ _ => by simp
  gr := fun x h => by simp at h
  gl := ⟨Nat.le_refl _, fun h => absurd rfl h⟩
  gn1 := Nat.zero_le _
  low := fun x h0 h1 _ => (hr x h0 h1).2
  tog := fun p h => hp.one p (by simpa using h)
  key := fun x hx => by simp at hx
theorem parts_tail {n : Nat} {of : List Int} {p : List Int} {ps : List (List Int)} (h : Parts n of (p :: ps)) : Parts n of ps where
  nd := by have := h.nd; rw [List.flatten_cons, List.nodup_append] at this; exact this.2.1
  rng := fun q hq => h.rng q (by simp [hq])
  ne := fun q hq => h.ne q (by simp [hq])
  one := fun q hq => h.one q (by simp [hq])
theorem nodup_apart {a b : List Int} (h : (a ++ b).Nodup) {x : Int} (h1 : x ∈ a) (h2 : x ∈ b) : False := by
  rw [List.nodup_append] at h; exact h.2.2 x h1 x h2 rfl

section
variable {n : Nat} {of0 : List Int} {ps1 ps2 : List (List Int)} {p : List Int} {m0 : Nat} {of sz gone : List Int}
theorem sp_parts (hp : Parts n of0 (ps1 ++ p :: ps2)) (h : SpInv n of0 ps1 (p :: ps2) m0 of sz gone) : Parts n of (p :: ps2) where
  nd := by have := hp.nd; rw [List.flatten_append, List.nodup_append] at this; exact this.2.1
  rng := fun q hq => hp.rng q (by rw [List.mem_append]; exact .inr hq)
  ne := fun q hq => hp.ne q (by rw [List.mem_append]; exact .inr hq)
  one := fun q hq => h.tog q (by rw [List.mem_append]; exact .inr hq)
theorem sp_late (hp : Parts n of0 (ps1 ++ p :: ps2)) (h : SpInv n of0 ps1 (p :: ps2) m0 of sz gone) {q : List Int} (hq : q ∈ p :: ps2) {x : Int} (hx : x ∈ q) : gAt of x = gAt of0 x := by
  have hr := hp.rng q (by rw [List.mem_append]; exact .inr hq) x hx
  refine h.keep x hr.1 hr.2 (fun h1 => ?_)
  have := hp.nd
  rw [List.flatten_append] at this
  exact nodup_apart this h1 (List.mem_flatten.2 ⟨q, hq, hx⟩)
theorem sp_rem (hp : Parts n of0 (ps1 ++ p :: ps2)) (h : SpInv n of0 ps1 (p :: ps2) m0 of sz gone) (g : Int) : remOf of0 (p :: ps2) g = remOf of (p :: ps2) g :=
  rem_cong (fun q hq => (sp_late hp h hq (head_mem (hp.ne q (by rw [List.mem_append]; exact .inr hq)))).symm) g
/-- a part that stays -/
theorem sp_stay (hp : Parts n of0 (ps1 ++ p :: ps2)) (h : SpInv n of0 ps1 (p :: ps2) m0 of sz gone)
    (he : ((remOf of0 (p :: ps2) (gAt of (p.headD 0)) : Nat) : Int) = gAt sz (gAt of (p.headD 0))) : SpInv n of0 (ps1 ++ [p]) ps2 m0 of sz gone := by
  have hP := sp_parts hp h
  have hne := hP.ne p (by simp)
  have hh := head_mem hne
  have hr0 := hP.rng p (by simp) _ hh
  have hg := h.rng _ hr0.1 hr0.2
  have hcn := h.cnt _ hg.1 hg.2
  rw [sp_rem hp h] at he
  have hall := (rem_le h.len hP (gAt of (p.headD 0))).2 (by omega)
  have hnd := hp.nd
  rw [List.flatten_append] at hnd
  refine { h with keep := ?_, tog := ?_, key := ?_, gn1 := ?_ }
  · intro x h0 h1 h2; exact h.keep x h0 h1 (fun h3 => h2 (by simp [h3]))
  · have := h.gn1; rw [List.flatten_append, List.length_append]; omega
  · intro q hq; exact h.tog q (by simp at hq ⊢; exact hq)
  · intro x hx y y0 y1 hxy
    rw [List.flatten_append, List.mem_append] at hx
    rcases hx with hx | hx
    · rcases h.key x hx y y0 y1 hxy with ⟨q, q1, q2, q3⟩ | hy
      · exact .inl ⟨q, by simp [q1], q2, q3⟩
      · rw [List.flatten_cons, List.mem_append] at hy
        rcases hy with hy | hy
        · exfalso
          have e1 : gAt of x = gAt of (p.headD 0) := hxy.symm.trans (hP.one p (by simp) y hy _ hh)
          obtain ⟨q, q1, q2⟩ := List.mem_flatten.1 hx
          have hxr := hp.rng q (by simp [q1]) x q2
          exact nodup_apart hnd hx (hall x hxr.1 hxr.2 e1)
        · exact .inr hy
    · have hx : x ∈ p := by simpa using hx
      have e1 : gAt of y = gAt of (p.headD 0) := hxy.trans (hP.one p (by simp) x hx _ hh)
      have := hall y y0 y1 e1
      rw [List.flatten_cons, List.mem_append] at this
      rcases this with hy | hy
      · exact .inl ⟨p, by simp, hx, hy⟩
      · exact .inr hy
/-- a part that goes -/
theorem sp_go (hp : Parts n of0 (ps1 ++ p :: ps2)) (h : SpInv n of0 ps1 (p :: ps2) m0 of sz gone)
    (he : ((remOf of0 (p :: ps2) (gAt of (p.headD 0)) : Nat) : Int) ≠ gAt sz (gAt of (p.headD 0))) :
    SpInv n of0 (ps1 ++ [p]) ps2 m0 (setAll of p sz.length) (sz.set (gAt of (p.headD 0)).toNat (gAt sz (gAt of (p.headD 0)) - p.length) ++ [(p.length : Int)]) (gone ++ p) := by
  have hP := sp_parts hp h
  have hne := hP.ne p (by simp)
  have hh := head_mem hne
  have hr0 := hP.rng p (by simp) _ hh
  have hg := h.rng _ hr0.1 hr0.2
  have hcn := h.cnt _ hg.1 hg.2
  rw [sp_rem hp h] at he
  have hle := (rem_le h.len hP (gAt of (p.headD 0))).1
  have hnd := hp.nd
  rw [List.flatten_append, List.flatten_cons] at hnd
  have hpnd : p.Nodup := by
    rw [List.nodup_append] at hnd
    have := hnd.2.1
    rw [List.nodup_append] at this; exact this.1
  obtain ⟨G, hG⟩ : ∃ G, gAt of (p.headD 0) = G := ⟨_, rfl⟩
  rw [hG] at hg hcn he hle ⊢
  have hlen : p.length ≤ remOf of (p :: ps2) G := by
    unfold remOf
    rw [List.filter_cons, if_pos (by simpa using hG)]
    simp
  have hpG : ∀ x ∈ p, (0 ≤ x ∧ x < of.length) ∧ gAt of x = G := fun x hx => ⟨by have := hP.rng p (by simp) x hx; rw [h.len]; exact this, (hP.one p (by simp) x hx _ hh).trans hG⟩
  have hset : ∀ y, 0 ≤ y → gAt (setAll of p sz.length) y = if y ∈ p then (sz.length : Int) else gAt of y := fun y hy => setAll_at (fun x hx => (hpG x hx).1) hy
  have hcount := fun a => setAll_count (m := (sz.length : Int)) (g := G) (by omega) a hpnd hpG
  have hszl : (sz.set G.toNat (gAt sz G - p.length) ++ [(p.length : Int)]).length = sz.length + 1 := by simp
  have hpl : 0 < p.length := by rcases p with _ | _; exact absurd rfl hne; simp
  have hfresh : of.count (sz.length : Int) = 0 := by
    rw [List.count_eq_zero]
    intro hm
    obtain ⟨i, hi⟩ := List.getElem?_of_mem hm
    have hil := (List.getElem?_eq_some_iff.1 hi).1
    have := (h.rng (i : Int) (by omega) (by rw [← h.len]; omega)).2
    rw [gAt_nat hi] at this; omega
  have hlow := h.rng
  have gltm : G < m0 := by
    rw [← hG]
    have hng : p.headD 0 ∉ gone := by
      intro hm
      have := (h.gn _ hr0.1 hr0.2).1 hm
      exact this (sp_late hp h (by simp) hh)
    exact h.low _ hr0.1 hr0.2 hng
  have hx0 : ∀ x ∈ p, gAt of x = gAt of0 x := fun x hx => sp_late hp h (by simp) hx
  exact {
    len := by rw [setAll_len]; exact h.len
    rng := fun x h0 h1 => by
      rw [hset x h0, hszl]
      split
      · omega
      · have := h.rng x h0 h1; omega
    cnt := fun g h0 h1 => by
      rw [hszl] at h1
      have hc := hcount g
      have e : gAt (sz.set G.toNat (gAt sz G - p.length) ++ [(p.length : Int)]) g = if g = sz.length then (p.length : Int) else if g = G then gAt sz G - p.length else gAt sz g := by
        unfold gAt
        rw [List.getD_eq_getElem?_getD, List.getElem?_append, List.length_set]
        by_cases e1 : g = sz.length
        · subst e1; rw [if_pos rfl, if_neg (by omega)]; simp
        · rw [if_neg e1, if_pos (by omega), ← List.getD_eq_getElem?_getD]
          have := gAt_set (of := sz) (x := G) (y := g) (m := gAt sz G - p.length) (by omega) h0
          unfold gAt at this
          exact this
      rw [e]
      by_cases e1 : g = sz.length
      · subst e1
        rw [if_pos rfl]
        rw [if_neg (by omega), if_pos rfl, hfresh] at hc
        omega
      · rw [if_neg e1]
        rw [if_neg e1] at hc
        by_cases e2 : g = G
        · subst e2; rw [if_pos rfl]; rw [if_pos rfl] at hc; omega
        · rw [if_neg e2]; rw [if_neg e2] at hc
          have := h.cnt g h0 (by omega)
          omega
    keep := fun x h0 h1 h2 => by
      simp only [List.flatten_append, List.flatten_cons, List.flatten_nil, List.append_nil, List.mem_append, not_or] at h2
      rw [hset x h0, if_neg h2.2]
      exact h.keep x h0 h1 h2.1
    old := fun x y x0 x1 y0 y1 hxy => by
      rw [hset x x0, hset y y0] at hxy
      have rx := h.rng x x0 x1
      have ry := h.rng y y0 y1
      by_cases hx : x ∈ p
      · by_cases hy : y ∈ p
        · rw [← hx0 x hx, ← hx0 y hy, (hpG x hx).2, (hpG y hy).2]
        · rw [if_pos hx, if_neg hy] at hxy; omega
      · by_cases hy : y ∈ p
        · rw [if_neg hx, if_pos hy] at hxy; omega
        · rw [if_neg hx, if_neg hy] at hxy; exact h.old x y x0 x1 y0 y1 hxy
    gn := fun x h0 h1 => by
      rw [hset x h0, List.mem_append]
      by_cases hx : x ∈ p
      · rw [if_pos hx]
        have := h.rng x h0 h1
        have e := hx0 x hx
        exact ⟨fun _ => by omega, fun _ => .inr hx⟩
      · rw [if_neg hx]
        have := h.gn x h0 h1
        simp [hx, this]
    gr := fun x hx => by
      rw [List.mem_append] at hx
      rcases hx with hx | hx
      · exact h.gr x hx
      · exact hP.rng p (by simp) x hx
    gl := by rw [hszl]; have := h.gl.1; exact ⟨by omega, fun _ => by omega⟩
    gn1 := by have := h.gn1; rw [List.flatten_append, List.length_append, List.length_append]; simp only [List.flatten_cons, List.flatten_nil, List.append_nil]; omega
    low := fun x h0 h1 h2 => by
      rw [List.mem_append, not_or] at h2
      rw [hset x h0, if_neg h2.2]
      exact h.low x h0 h1 h2.1
    tog := fun q hq x hx y hy => by
      have hq' : q ∈ ps1 ++ p :: ps2 := by simpa using hq
      have rx := hp.rng q hq' x hx
      have ry := hp.rng q hq' y hy
      rw [hset x rx.1, hset y ry.1]
      have key : ∀ z ∈ q, z ∈ p → q = p := by
        intro z hzq hzp
        apply Classical.byContradiction
        intro hqp
        rcases List.mem_append.1 hq' with h1 | h1
        · have a1 : z ∈ ps1.flatten := List.mem_flatten.2 ⟨q, h1, hzq⟩
          exact nodup_apart hnd a1 (List.mem_append.2 (.inl hzp))
        · rcases List.mem_cons.1 h1 with h1 | h1
          · exact hqp h1
          · have a1 : z ∈ ps2.flatten := List.mem_flatten.2 ⟨q, h1, hzq⟩
            rw [List.nodup_append] at hnd
            exact nodup_apart hnd.2.1 hzp a1
      by_cases h1 : x ∈ p
      · have := key x hx h1; subst this; rw [if_pos h1, if_pos hy]
      · by_cases h2 : y ∈ p
        · have := key y hy h2; subst this; exact absurd hx h1
        · rw [if_neg h1, if_neg h2]; exact h.tog q hq' x hx y hy
    key := fun x hx y y0 y1 hxy => by
      rw [List.flatten_append, List.mem_append] at hx
      rw [hset y y0] at hxy
      rcases hx with hx | hx
      · obtain ⟨q, q1, q2⟩ := List.mem_flatten.1 hx
        have rx := hp.rng q (by simp [q1]) x q2
        have hxp : x ∉ p := fun e => nodup_apart hnd hx (List.mem_append.2 (.inl e))
        rw [hset x rx.1, if_neg hxp] at hxy
        have rx2 := h.rng x rx.1 rx.2
        by_cases hy : y ∈ p
        · rw [if_pos hy] at hxy; omega
        · rw [if_neg hy] at hxy
          rcases h.key x hx y y0 y1 hxy with ⟨q', a1, a2, a3⟩ | h3
          · exact .inl ⟨q', by simp [a1], a2, a3⟩
          · rw [List.flatten_cons, List.mem_append] at h3
            rcases h3 with h3 | h3
            · exact absurd h3 hy
            · exact .inr h3
      · have hx : x ∈ p := by simpa using hx
        have rx := (hpG x hx).1
        rw [hset x rx.1, if_pos hx] at hxy
        by_cases hy : y ∈ p
        · exact .inl ⟨p, by simp, hx, hy⟩
        · rw [if_neg hy] at hxy
          have := h.rng y y0 y1
          omega
  }
end
theorem sp_run {n : Nat} {of0 : List Int} {m0 : Nat} : ∀ (ps2 ps1 : List (List Int)) (of sz gone : List Int), Parts n of0 (ps1 ++ ps2) → SpInv n of0 ps1 ps2 m0 of sz gone →
    SpInv n of0 (ps1 ++ ps2) [] m0 (splitRun of0 ps2 of sz gone).1 (splitRun of0 ps2 of sz gone).2.1 (splitRun of0 ps2 of sz gone).2.2
  | [], ps1, of, sz, gone, _, h => by simpa [splitRun] using h
  | p :: ps2, ps1, of, sz, gone, hp, h => by
    unfold splitRun
    by_cases he : ((remOf of0 (p :: ps2) (gAt of (p.headD 0)) : Nat) : Int) = gAt sz (gAt of (p.headD 0))
    · rw [if_pos he]
      have := sp_run ps2 (ps1 ++ [p]) of sz gone (by simpa using hp) (sp_stay hp h he)
      simpa using this
    · rw [if_neg he]
      have := sp_run ps2 (ps1 ++ [p]) _ _ _ (by simpa using hp) (sp_go hp h he)
      simpa using this
end Go.Proofs.YtcnnicbaeicboaaDoor
/- Parts of places by what they look like; rounds of splitting come to the specification's groups. -/
namespace Go.Proofs.YtcnnicbaeicboaaDoor
open Go.RowKit Nt

/-! Parts of places by what they look like; rounds. -/
section
variable {K : Type} [DecidableEq K]
def keysOf (look : Int → K) (ps : List Int) : List K := ps.foldl (fun ks x => if look x ∈ ks then ks else ks ++ [look x]) []
def partsOf (look : Int → K) (ps : List Int) : List (List Int) := (keysOf look ps).map fun k => ps.filter fun x => decide (look x = k)
theorem keysOf_snoc (look : Int → K) (ps : List Int) (x : Int) : keysOf look (ps ++ [x]) = if look x ∈ keysOf look ps then keysOf look ps else keysOf look ps ++ [look x] := by
  unfold keysOf; rw [List.foldl_append]; rfl
theorem snoc_ind {α : Type} {P : List α → Prop} (h0 : P []) (h1 : ∀ l x, P l → P (l ++ [x])) (l : List α) : P l := by
  have : ∀ l : List α, P l.reverse := by
    intro l
    induction l with
    | nil => exact h0
    | cons x r ih => rw [List.reverse_cons]; exact h1 _ _ ih
  have := this l.reverse
  rwa [List.reverse_reverse] at this
theorem keysOf_ok (look : Int → K) (ps : List Int) : (keysOf look ps).Nodup ∧ ∀ k, k ∈ keysOf look ps ↔ ∃ x ∈ ps, look x = k := by
  induction ps using snoc_ind with
  | h0 => exact ⟨List.nodup_nil, fun k => by simp [keysOf]⟩
  | h1 l x ih =>
    rw [keysOf_snoc]
    by_cases h : look x ∈ keysOf look l
    · rw [if_pos h]
      refine ⟨ih.1, fun k => ?_⟩
      rw [ih.2]
      constructor
      · rintro ⟨y, a, b⟩; exact ⟨y, by simp [a], b⟩
      · rintro ⟨y, a, b⟩
        rcases List.mem_append.1 a with a | a
        · exact ⟨y, a, b⟩
        · have : y = x := by simpa using a
          subst this; subst b; exact (ih.2 _).1 h
    · rw [if_neg h]
      refine ⟨?_, fun k => ?_⟩
      · rw [List.nodup_append]
        refine ⟨ih.1, by simp, fun a ha b hb => ?_⟩
        have : b = look x := by simpa using hb
        subst this; exact fun e => h (e ▸ ha)
      · rw [List.mem_append, ih.2]
        constructor
        · rintro (⟨y, a, b⟩ | a)
          · exact ⟨y, by simp [a], b⟩
          · exact ⟨x, by simp, by have : k = look x := by simpa using a
                                  exact this.symm⟩
        · rintro ⟨y, a, b⟩
          rcases List.mem_append.1 a with a | a
          · exact .inl ⟨y, a, b⟩
          · have : y = x := by simpa using a
            subst this; exact .inr (by simp [b])
/-- the part of a key grows -/
theorem partsOf_old {look : Int → K} {ps : List Int} {x : Int} {t : Nat} (h : (keysOf look ps)[t]? = some (look x)) :
    partsOf look (ps ++ [x]) = (partsOf look ps).set t ((ps.filter fun y => decide (look y = look x)) ++ [x]) ∧ keysOf look (ps ++ [x]) = keysOf look ps := by
  have hk : keysOf look (ps ++ [x]) = keysOf look ps := by rw [keysOf_snoc, if_pos (List.mem_of_getElem? h)]
  refine ⟨?_, hk⟩
  obtain ⟨htl, hte⟩ := List.getElem?_eq_some_iff.1 h
  unfold partsOf
  rw [hk]
  apply List.ext_getElem (by simp)
  intro i h1 h2
  have hi : i < (keysOf look ps).length := by simpa using h1
  rw [List.getElem_set, List.getElem_map]
  by_cases hit : t = i
  · subst hit; rw [if_pos rfl, hte]; simp [List.filter_append]
  · rw [if_neg hit, List.getElem_map, List.filter_append]
    have : look x ≠ (keysOf look ps)[i] := by
      intro e
      have hnd := (keysOf_ok look ps).1
      exact hit ((List.getElem_inj hnd).1 (hte.trans e))
    simp [this]
theorem partsOf_new {look : Int → K} {ps : List Int} {x : Int} (h : look x ∉ keysOf look ps) :
    partsOf look (ps ++ [x]) = partsOf look ps ++ [[x]] ∧ keysOf look (ps ++ [x]) = keysOf look ps ++ [look x] := by
  have hk : keysOf look (ps ++ [x]) = keysOf look ps ++ [look x] := by rw [keysOf_snoc, if_neg h]
  refine ⟨?_, hk⟩
  unfold partsOf
  rw [hk, List.map_append]
  congr 1
  · apply List.map_congr_left
    intro k hk'
    rw [List.filter_append]
    have : look x ≠ k := fun e => h (e ▸ hk')
    simp [this]
  · have : ps.filter (fun y => decide (look y = look x)) = [] := by
      rw [List.filter_eq_nil_iff]
      intro y hy; simp
      intro e; exact h (((keysOf_ok look ps).2 _).2 ⟨y, hy, e⟩)
    simp [List.filter_append, this]
theorem mem_partsOf {look : Int → K} {ps : List Int} {p : List Int} : p ∈ partsOf look ps ↔ ∃ k ∈ keysOf look ps, p = ps.filter fun x => decide (look x = k) := by
  unfold partsOf; simp only [List.mem_map]
  constructor
  · rintro ⟨k, a, b⟩; exact ⟨k, a, b.symm⟩
  · rintro ⟨k, a, b⟩; exact ⟨k, a, b.symm⟩
theorem flatten_nd {look : Int → K} {ps : List Int} (hn : ps.Nodup) : ∀ {ks : List K}, ks.Nodup → ((ks.map fun k => ps.filter fun x => decide (look x = k)).flatten).Nodup
  | [], _ => by simp
  | k :: ks, h => by
    rw [List.nodup_cons] at h
    rw [List.map_cons, List.flatten_cons, List.nodup_append]
    refine ⟨List.Nodup.sublist List.filter_sublist hn, flatten_nd hn h.2, ?_⟩
    intro a ha b hb e
    subst e
    have h1 : look a = k := by simpa using (List.mem_filter.1 ha).2
    obtain ⟨q, hq, haq⟩ := List.mem_flatten.1 hb
    obtain ⟨k', hk', rfl⟩ := List.mem_map.1 hq
    have h2 : look a = k' := by simpa using (List.mem_filter.1 haq).2
    exact h.1 (by rw [← h1, h2]; exact hk')
/-- what parts any order of these are -/
theorem partsOf_ok {n : Nat} {of : List Int} {look : Int → K} {A : List Int} (hA : A.Nodup) (hr : ∀ x ∈ A, 0 ≤ x ∧ x < n) (hl : ∀ x ∈ A, ∀ y ∈ A, look x = look y → gAt of x = gAt of y)
    {ps : List (List Int)} (hp : ps.Perm (partsOf look A)) : Parts n of ps ∧ (∀ x, x ∈ ps.flatten ↔ x ∈ A) ∧ (∀ x ∈ A, ∀ y ∈ A, (∃ p ∈ ps, x ∈ p ∧ y ∈ p) ↔ look x = look y) := by
  have hm : ∀ p, p ∈ ps ↔ ∃ k ∈ keysOf look A, p = A.filter fun x => decide (look x = k) := fun p => by rw [hp.mem_iff, mem_partsOf]
  refine ⟨⟨?_, ?_, ?_, ?_⟩, ?_, ?_⟩
  · exact hp.flatten.nodup_iff.2 (flatten_nd hA (keysOf_ok look A).1)
  · intro p h x hx
    obtain ⟨k, _, rfl⟩ := (hm p).1 h
    exact hr x (List.mem_filter.1 hx).1
  · intro p h
    obtain ⟨k, hk, rfl⟩ := (hm p).1 h
    obtain ⟨x, hx, e⟩ := ((keysOf_ok look A).2 k).1 hk
    exact List.ne_nil_of_mem (List.mem_filter.2 ⟨hx, by simpa using e⟩)
  · intro p h x hx y hy
    obtain ⟨k, _, rfl⟩ := (hm p).1 h
    rw [List.mem_filter] at hx hy
    exact hl x hx.1 y hy.1 ((by simpa using hx.2 : look x = k).trans (by simpa using hy.2 : look y = k).symm)
  · intro x
    rw [List.mem_flatten]
    constructor
    · rintro ⟨p, h1, h2⟩
      obtain ⟨k, _, rfl⟩ := (hm p).1 h1
      exact (List.mem_filter.1 h2).1
    · intro h
      exact ⟨_, (hm _).2 ⟨look x, ((keysOf_ok look A).2 _).2 ⟨x, h, rfl⟩, rfl⟩, List.mem_filter.2 ⟨h, by simp⟩⟩
  · intro x hx y hy
    constructor
    · rintro ⟨p, h1, h2, h3⟩
      obtain ⟨k, _, rfl⟩ := (hm p).1 h1
      rw [List.mem_filter] at h2 h3
      exact (by simpa using h2.2 : look x = k).trans (by simpa using h3.2 : look y = k).symm
    · intro e
      exact ⟨_, (hm _).2 ⟨look x, ((keysOf_ok look A).2 _).2 ⟨x, hx, rfl⟩, rfl⟩, List.mem_filter.2 ⟨hx, by simp⟩, List.mem_filter.2 ⟨hy, by simp [e]⟩⟩
end

/-- groups and their sizes -/
structure GrpOk (n : Nat) (of sz : List Int) : Prop where
  len : of.length = n
  rng : ∀ x : Int, 0 ≤ x → x < n → 0 ≤ gAt of x ∧ gAt of x < sz.length
  cnt : ∀ g : Int, 0 ≤ g → g < sz.length → gAt sz g = of.count g ∧ 1 ≤ gAt sz g
theorem GrpOk.few {n : Nat} {of sz : List Int} (h : GrpOk n of sz) : sz.length ≤ n := by
  have key : ∀ i : Nat, i < sz.length → ∃ j : Nat, j < n ∧ gAt of (j : Int) = (i : Int) := by
    intro i hi
    have := h.cnt (i : Int) (by omega) (by omega)
    have hp : 0 < of.count (i : Int) := by omega
    obtain ⟨j, hj⟩ := List.getElem?_of_mem (List.count_pos_iff.1 hp)
    exact ⟨j, by rw [← h.len]; exact (List.getElem?_eq_some_iff.1 hj).1, gAt_nat hj⟩
  have h2 := nodup_len (l := (List.range sz.length).map fun (i : Nat) => (i : Int)) (m := (List.range n).map fun (j : Nat) => gAt of (j : Int))
    (by rw [List.nodup_iff_pairwise_ne, List.pairwise_map]; exact List.Pairwise.imp (fun h e => h (by omega)) (List.nodup_iff_pairwise_ne.1 List.nodup_range))
    (fun x hx => by
      obtain ⟨i, hi, rfl⟩ := List.mem_map.1 hx
      obtain ⟨j, hj, e⟩ := key i (by simpa using hi)
      exact List.mem_map.2 ⟨j, by simpa using hj, e⟩)
  simpa using h2
/-- what a split comes to -/
structure SplitTo {K : Type} (n : Nat) (of0 sz0 : List Int) (A : List Int) (look : Int → K) (of sz gone : List Int) : Prop where
  ok : GrpOk n of sz
  tog : ∀ x ∈ A, ∀ y ∈ A, look x = look y → gAt of x = gAt of y
  apart : ∀ x y : Int, 0 ≤ x → x < n → 0 ≤ y → y < n → gAt of x = gAt of y → gAt of0 x = gAt of0 y ∧ ((x ∈ A ∧ y ∈ A ∧ look x = look y) ∨ (x ∉ A ∧ y ∉ A))
  stay : ∀ x : Int, 0 ≤ x → x < n → x ∉ A → gAt of x = gAt of0 x
  gn : ∀ x : Int, 0 ≤ x → x < n → (x ∈ gone ↔ gAt of x ≠ gAt of0 x)
  gr : ∀ x ∈ gone, 0 ≤ x ∧ x < n
  gl : sz0.length ≤ sz.length ∧ (gone ≠ [] → sz0.length < sz.length)
  gn1 : gone.length ≤ A.length
theorem split_to {K : Type} [DecidableEq K] {n : Nat} {of sz A : List Int} {look : Int → K} (hg : GrpOk n of sz) (hA : A.Nodup) (hr : ∀ x ∈ A, 0 ≤ x ∧ x < n)
    (hl : ∀ x ∈ A, ∀ y ∈ A, look x = look y → gAt of x = gAt of y) {ps : List (List Int)} (hp : ps.Perm (partsOf look A)) :
    SplitTo n of sz A look (splitRun of ps of sz []).1 (splitRun of ps of sz []).2.1 (splitRun of ps of sz []).2.2 := by
  obtain ⟨h1, h2, h3⟩ := partsOf_ok hA hr hl hp
  have hS := sp_run ps [] of sz [] (by simpa using h1) (sp_start (ps := ps) hg.len h1 hg.rng hg.cnt)
  rw [List.nil_append] at hS
  obtain ⟨of', e1⟩ : ∃ o, (splitRun of ps of sz []).1 = o := ⟨_, rfl⟩
  obtain ⟨sz', e2⟩ : ∃ o, (splitRun of ps of sz []).2.1 = o := ⟨_, rfl⟩
  obtain ⟨gone', e3⟩ : ∃ o, (splitRun of ps of sz []).2.2 = o := ⟨_, rfl⟩
  rw [e1, e2, e3] at hS ⊢
  have hAl : ps.flatten.length = A.length := by
    have a := nodup_len h1.nd (m := A) (fun x hx => (h2 x).1 hx)
    have b := nodup_len hA (m := ps.flatten) (fun x hx => (h2 x).2 hx)
    omega
  refine ⟨⟨hS.len, hS.rng, hS.cnt⟩, ?_, ?_, ?_, hS.gn, hS.gr, hS.gl, by rw [← hAl]; exact hS.gn1⟩
  · intro x hx y hy e
    obtain ⟨p, p1, p2, p3⟩ := (h3 x hx y hy).2 e
    exact hS.tog p (by simpa using p1) x p2 y p3
  · intro x y x0 x1 y0 y1 e
    refine ⟨hS.old x y x0 x1 y0 y1 e, ?_⟩
    by_cases hx : x ∈ A
    · rcases hS.key x ((h2 x).2 hx) y y0 y1 e.symm with ⟨p, p1, p2, p3⟩ | h
      · have hy := (h2 y).1 (List.mem_flatten.2 ⟨p, p1, p3⟩)
        exact .inl ⟨hx, hy, (h3 x hx y hy).1 ⟨p, p1, p2, p3⟩⟩
      · simp at h
    · by_cases hy : y ∈ A
      · rcases hS.key y ((h2 y).2 hy) x x0 x1 e with ⟨p, p1, p2, p3⟩ | h
        · exact absurd ((h2 x).1 (List.mem_flatten.2 ⟨p, p1, p3⟩)) hx
        · simp at h
      · exact .inr ⟨hx, hy⟩
  · intro x h0 h1' hx
    exact hS.keep x h0 h1' (fun h => hx ((h2 x).1 h))

/-- between two rounds -/
structure RoundOk (ns : List Nd) (old of sz gone : List Int) : Prop where
  ok : GrpOk ns.length of sz
  c0 : Coarse ns old
  c1 : Coarse ns of
  al : ∀ i j : Nat, i < ns.length → j < ns.length → gAt of i = gAt of j → alikeM (ndAt ns i) (ndAt ns j) old = true
  gn : ∀ x : Int, 0 ≤ x → x < ns.length → (x ∈ gone ↔ gAt of x ≠ gAt old x)
  gr : ∀ x ∈ gone, 0 ≤ x ∧ x < ns.length
  gn1 : gone.length ≤ ns.length
/-- the look of a node: its face -/
def faceM (ns : List Nd) (x : Int) : Int × List UInt8 × Nat := ((ndAt ns x.toNat).1, (ndAt ns x.toNat).2.1, (ndAt ns x.toNat).2.2.length)
/-- the look of a node: its turn -/
def turnM (ns : List Nd) (of : List Int) (x : Int) : Int × List Int := (gAt of x, (ndAt ns x.toNat).2.2.map (gAt of))
theorem zeros_at (n : Nat) (x : Int) : gAt (List.replicate n 0) x = 0 := by
  unfold gAt
  rw [List.getD_eq_getElem?_getD, List.getElem?_replicate]
  split <;> rfl
theorem map_zeros (n : Nat) : ∀ ks : List Int, ks.map (gAt (List.replicate n 0)) = List.replicate ks.length 0
  | [] => rfl
  | k :: ks => by rw [List.map_cons, map_zeros n ks, zeros_at]; rfl
theorem toNat_nat (i : Nat) : ((i : Nat) : Int).toNat = i := by omega
theorem round_first {ns : List Nd} {A of sz gone : List Int} (hall : ∀ x : Int, x ∈ A ↔ 0 ≤ x ∧ x < ns.length) (hAl : A.length ≤ ns.length)
    (h : SplitTo ns.length (List.replicate ns.length 0) [(ns.length : Int)] A (faceM ns) of sz gone) : RoundOk ns (List.replicate ns.length 0) of sz gone where
  ok := h.ok
  c0 := fun _ _ i j _ _ _ => by rw [zeros_at, zeros_at]
  c1 := fun k hk i j hi hj e => by
    have := alike_iff.1 (hk i j hi hj e)
    refine h.tog i ((hall i).2 (by omega)) j ((hall j).2 (by omega)) ?_
    unfold faceM
    rw [toNat_nat, toNat_nat, this.1, this.2.1]
    have hl := congrArg List.length this.2.2
    rw [List.length_map, List.length_map] at hl
    rw [hl]
  al := fun i j hi hj e => by
    rcases (h.apart i j (by omega) (by omega) (by omega) (by omega) e).2 with ⟨_, _, hf⟩ | ⟨hx, _⟩
    · unfold faceM at hf
      rw [toNat_nat, toNat_nat] at hf
      simp only [Prod.mk.injEq] at hf
      exact alike_iff.2 ⟨hf.1, hf.2.1, by rw [map_zeros, map_zeros, hf.2.2]⟩
    · exact absurd ((hall i).2 (by omega)) hx
  gn := h.gn
  gr := h.gr
  gn1 := Nat.le_trans h.gn1 hAl
theorem map_gone {n : Nat} {of old gone : List Int} (hg : ∀ x : Int, 0 ≤ x → x < n → (x ∈ gone ↔ gAt of x ≠ gAt old x)) {ks : List Int} (hk : KidsRg n ks) (h : ∀ k ∈ ks, k ∉ gone) : ks.map (gAt of) = ks.map (gAt old) := by
  apply List.map_congr_left
  intro k hm
  apply Classical.byContradiction
  intro hne
  exact h k hm ((hg k (hk k hm).1 (hk k hm).2).2 hne)
theorem gone_too {of old gone : List Int} {n : Nat} (hg : ∀ x : Int, 0 ≤ x → x < n → (x ∈ gone ↔ gAt of x ≠ gAt old x)) :
    ∀ {cs bs : List Int}, KidsRg n cs → KidsRg n bs → cs.map (gAt of) = bs.map (gAt of) → cs.map (gAt old) = bs.map (gAt old) → (∃ k ∈ cs, k ∈ gone) → ∃ k ∈ bs, k ∈ gone
  | [], _, _, _, _, _, h => by obtain ⟨k, hk, _⟩ := h; simp at hk
  | _ :: _, [], _, _, e, _, _ => by simp at e
  | a :: cs, b :: bs, ha, hb, e1, e2, h => by
    simp only [List.map_cons, List.cons.injEq] at e1 e2
    obtain ⟨k, hk, hkg⟩ := h
    rcases List.mem_cons.1 hk with rfl | hk
    · have r1 := ha k (by simp)
      have r2 := hb b (by simp)
      have := (hg k r1.1 r1.2).1 hkg
      exact ⟨b, by simp, (hg b r2.1 r2.2).2 (by rw [← e1.1, ← e2.1]; exact this)⟩
    · obtain ⟨k', a1, a2⟩ := gone_too hg (fun x hx => ha x (by simp [hx])) (fun x hx => hb x (by simp [hx])) e1.2 e2.2 ⟨k, hk, hkg⟩
      exact ⟨k', by simp [a1], a2⟩
theorem round_next {ns : List Nd} {old of sz gone A of' sz' gone' : List Int} (hk : KidsR' ns) (h : RoundOk ns old of sz gone)
    (hA : ∀ x : Int, x ∈ A ↔ (0 ≤ x ∧ x < ns.length) ∧ ∃ k ∈ (ndAt ns x.toNat).2.2, k ∈ gone) (hAl : A.length ≤ ns.length)
    (h' : SplitTo ns.length of sz A (turnM ns of) of' sz' gone') : RoundOk ns of of' sz' gone' where
  ok := h'.ok
  c0 := h.c1
  c1 := fun g hg i j hi hj e => by
    have e1 := h.c1 g hg i j hi hj e
    have ha := hg i j hi hj e
    have m1 := (alike_iff.1 (alike_refine (h.c1 g hg) (hk i hi) (hk j hj) ha)).2.2
    have m0 := (alike_iff.1 (alike_refine (h.c0 g hg) (hk i hi) (hk j hj) ha)).2.2
    by_cases hiA : (i : Int) ∈ A
    · have hjA : (j : Int) ∈ A := by
        have := ((hA i).1 hiA).2
        rw [toNat_nat] at this
        exact (hA j).2 ⟨by omega, by rw [toNat_nat]; exact gone_too h.gn (hk i hi) (hk j hj) m1 m0 this⟩
      refine h'.tog i hiA j hjA ?_
      unfold turnM
      rw [toNat_nat, toNat_nat, e1, m1]
    · have hjA : (j : Int) ∉ A := fun hjA => by
        have := ((hA j).1 hjA).2
        rw [toNat_nat] at this
        exact hiA ((hA i).2 ⟨by omega, by rw [toNat_nat]; exact gone_too h.gn (hk j hj) (hk i hi) m1.symm m0.symm this⟩)
      rw [h'.stay i (by omega) (by omega) hiA, h'.stay j (by omega) (by omega) hjA, e1]
  al := fun i j hi hj e => by
    obtain ⟨e0, h2⟩ := h'.apart i j (by omega) (by omega) (by omega) (by omega) e
    have ha := alike_iff.1 (h.al i j hi hj e0)
    rcases h2 with ⟨_, _, ht⟩ | ⟨hx, hy⟩
    · unfold turnM at ht
      rw [toNat_nat, toNat_nat] at ht
      simp only [Prod.mk.injEq] at ht
      exact alike_iff.2 ⟨ha.1, ha.2.1, ht.2⟩
    · have n1 : ∀ k ∈ (ndAt ns i).2.2, k ∉ gone := fun k h1 h2 => hx ((hA i).2 ⟨by omega, by rw [toNat_nat]; exact ⟨k, h1, h2⟩⟩)
      have n2 : ∀ k ∈ (ndAt ns j).2.2, k ∉ gone := fun k h1 h2 => hy ((hA j).2 ⟨by omega, by rw [toNat_nat]; exact ⟨k, h1, h2⟩⟩)
      exact alike_iff.2 ⟨ha.1, ha.2.1, by rw [map_gone h.gn (hk i hi) n1, map_gone h.gn (hk j hj) n2]; exact ha.2.2⟩
  gn := h'.gn
  gr := h'.gr
  gn1 := Nat.le_trans h'.gn1 hAl
/-- nothing has moved: the groups are those of the specification -/
theorem round_last {ns : List Nd} {old of sz : List Int} (hk : KidsR' ns) (h : RoundOk ns old of sz []) : ∀ i j : Nat, i < ns.length → j < ns.length → (gAt of i = gAt of j ↔ gAt (grpM ns) i = gAt (grpM ns) j) := by
  have hs : Stab ns of := by
    intro i j hi hj e
    have ha := alike_iff.1 (h.al i j hi hj e)
    refine alike_iff.2 ⟨ha.1, ha.2.1, ?_⟩
    rw [map_gone (gone := []) h.gn (hk i hi) (fun k _ hm => by simp at hm), map_gone (gone := []) h.gn (hk j hj) (fun k _ hm => by simp at hm)]
    exact ha.2.2
  exact fun i j hi hj => same_groups hs h.c1 (stab_grp ns) (coarse_grp hk) hi hj
end Go.Proofs.YtcnnicbaeicboaaDoor
