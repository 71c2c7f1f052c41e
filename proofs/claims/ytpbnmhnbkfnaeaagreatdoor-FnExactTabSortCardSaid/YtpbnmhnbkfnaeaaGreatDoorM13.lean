/- PROVED: for every datum (nodes with a sort, a text and a list of kids, and roots, all whatever they are), and whatever lies in memory besides three tables (two of unicode/utf8 and the program's table of tens), which read as their texts lay them, laws.FnExactTabSort returns true and leaves the datum and the table of tens as they were. The only conditions are the row's own: the three tables; the card ties them to their texts. -/
import Derived.Test.YtpbnmhnbkfnaeaaGreatDoorM12
import Derived.Test.YtpbnmhnbkfnaeaaGreatDoorCards
import Derived.Test.YtpbnmhnbkfnaeaaGreatDoorTie
import Derived.ProofKit
import Derived.OpenShut
import Derived.ShutString
import Derived.Lib.SmallJoins
import Derived.Lib.LaidU8
import Derived.Lib.LaidU8T
import Derived.Lib.LaidTab
import Derived.PinnedBridge
import Derived.ChangeOld
import Derived.ChangeVars
import Derived.Lay
import Derived.LaidOnce
import Derived.JoinedOf
import Derived.Handy
import Derived.SevenTiedAt
/- The specification's TabSort: one by one, each behind those that are not greater. -/
namespace Go.Proofs.YtpbnmhnbkfnaeaaGreatDoor
open Go.RowKit Nt

theorem far_box {w : World} {g b i : Nat} {T : TypeId} {z : Int} {a1 a2 : Option Addr} {n1 c1 n2 c2 : Nat} (hA : AtC2 w g (.slice a1 n1 c1) (.slice a2 n2 c2) T) (h : w.cell? ⟨b, i, none⟩ = some (.int .i64 z)) : b ≠ g := by
  rintro rfl
  unfold AtC2 at hA
  unfold World.cell? at h
  simp only [hA] at h
  match i, h with
  | 0, h => simp at h
  | 1, h => simp at h
  | i + 2, h => simp at h
theorem IntsAt.box {w : World} {g : Nat} {v : Value} {T : TypeId} {xs : List Int} {a1 a2 : Option Addr} {n1 c1 n2 c2 : Nat} (h : IntsAt w v xs) (hA : AtC2 w g (.slice a1 n1 c1) (.slice a2 n2 c2) T) (i : Nat) (u : Value) : IntsAt (w.setCell ⟨g, i, none⟩ u) v xs := by
  obtain ⟨a, cap, rfl, h1, h2, h3⟩ := h
  refine ⟨a, cap, rfl, h1, h2, fun h0 => ?_⟩
  obtain ⟨b, off, rfl, hb, hc⟩ := h3 h0
  refine ⟨b, off, rfl, by simpa using hb, fun j x hx => ?_⟩
  have hne := far_box hA (hc j x hx)
  rw [World.cell?_setCell_far _ _ _ _ (Ne.symm hne)]
  exact hc j x hx
theorem NodesAt.box {w : World} {g : Nat} {v : Value} {T : TypeId} {ns : List Nd} {a1 a2 : Option Addr} {n1 c1 n2 c2 : Nat} (h : NodesAt w v ns) (hA : AtC2 w g (.slice a1 n1 c1) (.slice a2 n2 c2) T) (i : Nat) (u : Value) : NodesAt (w.setCell ⟨g, i, none⟩ u) v ns := by
  obtain ⟨a, cap, rfl, h1, h2, h3⟩ := h
  refine ⟨a, cap, rfl, h1, h2, fun h0 => ?_⟩
  obtain ⟨b, off, rfl, hb, hc⟩ := h3 h0
  refine ⟨b, off, rfl, by simpa using hb, fun j nd hx => ?_⟩
  obtain ⟨k0, k1, hl, kv, k2, hk⟩ := hc j nd hx
  have hne := far_box hA k0
  refine ⟨?_, ?_, hl, kv, ?_, hk.box hA i u⟩
  · rw [World.cell?_setCell_far _ _ _ _ (Ne.symm hne)]; exact k0
  · rw [World.cell?_setCell_far _ _ _ _ (Ne.symm hne)]; exact k1
  · rw [World.cell?_setCell_far _ _ _ _ (Ne.symm hne)]; exact k2
theorem srt_in {r : Int → Int → Int} (hp : Pre r) {rs m : List Int} {k i : Nat} {z : Int} (hm : m = srt r (rs.take k)) (hz : m[i]? = some z) : z ∈ rs :=
  List.mem_of_mem_take ((srt_mem hp _ _).1 (by rw [← hm]; exact List.mem_of_getElem? hz))
theorem insAt {r : Int → Int → Int} (hp : Pre r) {rs m : List Int} {k j : Nat} {x : Int} (hx : rs[k]? = some x) (hm : m = srt r (rs.take k)) (hj : j ≤ m.length)
    (h1 : ∀ (t : Nat) (z : Int), m[t]? = some z → j ≤ t → 0 < r z x) (h2 : ∀ z, m[j - 1]? = some z → 0 < j → r z x ≤ 0) : srt r (rs.take (k + 1)) = m.take j ++ [x] ++ m.drop j := by
  rw [List.take_add_one, hx]
  show srt r (rs.take k ++ [x]) = _
  rw [srt_snoc, ← hm]
  exact insF_at hp (by rw [hm]; exact srt_sorted hp _) hj h1 h2
theorem ints_cell1 {w : World} {g : Nat} {x : Int} (h : w.cell? ⟨g, 0, none⟩ = some (.int .i64 x)) (hg : g < w.heap.size) : IntsAt w (.slice (some ⟨g, 0, none⟩) 1 1) [x] := by
  refine ⟨_, 1, rfl, Nat.le_refl _, by unfold maxLen; omega, fun _ => ⟨g, 0, rfl, hg, fun j y hj => ?_⟩⟩
  match j, hj with
  | 0, hj =>
    simp at hj
    subst hj
    exact h
set_option maxRecDepth 100000 in
set_option maxHeartbeats 8000000 in
theorem specTabSort_c (d : Dt) (u : Value) (w : World) (h : DataAt w u d) (hs : d.1.length ≤ 1048576 ∧ d.2.length ≤ 1048576 ∧ NsSmall d.1) :
    Calls Tryz.prog 17 #[u] w fun e W' => (∃ mn mr, e = .returned (.agg #[mn, mr]) ∧ DataAt W' (.agg #[mn, mr]) (sortM d)) ∧ Below w.heap.size w W' := by
  obtain ⟨ns, rs⟩ := d
  have HD := hide h
  obtain ⟨nv, rv, rfl, hn, hr⟩ := h
  simp only at hn hr hs
  have HN := hide hn
  have HR := hide hr
  obtain ⟨an, cn, rfl, hn1, hn2⟩ := hn.form0
  obtain ⟨ar, cr, rfl, hr1, hr2⟩ := hr.form
  unfold maxLen at hn2 hr2
  have HS := hide hs
  have HB := hide (step_a (step_a (Below.refl w.heap.size w) (.cells #[.slice an ns.length cn, .slice ar rs.length cr] 26)) (.cells #[.slice none 0 0, .slice none 0 0] 26))
  have HP := hide ((AtC2.new w (.slice an ns.length cn) (.slice ar rs.length cr) 26).alloc (.cells #[.slice none 0 0, .slice none 0 0] 26))
  have HQ := hide (AtC2.new (w.alloc (.cells #[.slice an ns.length cn, .slice ar rs.length cr] 26)) (.slice none 0 0) (.slice none 0 0) 26)
  rw [World.size_alloc] at HQ
  obtain ⟨M, hM⟩ : ∃ M, sortM (ns, rs) = M := ⟨_, rfl⟩
  rw [hM]
  have HM := hide hM
  clear hn hr hs hM
  go_enter Tryz.func17, Tryz.ntmps17
  go_wp2_with fail
  obtain ⟨W, hW⟩ : ∃ W, (w.alloc (.cells #[.slice an ns.length cn, .slice ar rs.length cr] 26)).alloc (.cells #[.slice none 0 0, .slice none 0 0] 26) = W := ⟨_, rfl⟩
  rw [hW] at HB HP HQ ⊢
  clear hW
  have p0 := (unhide HP).n0
  have p1 := (unhide HP).n1
  go_wp2_with fail
  have h := specReadOk_c (ns, rs) _ W ((unhide HD).below (unhide HB)) (unhide HS)
  refine h.mono ?_
  clear h
  rintro e' W1 ⟨rfl, hb1⟩
  have HB1 := hide (step_b (unhide HB) hb1)
  have HP1 := hide ((unhide HP).below hb1)
  have HQ1 := hide ((unhide HQ).below hb1)
  clear hb1 HB HP HQ p0 p1
  rcases Bool.eq_false_or_eq_true (okD (ns, rs)) with ho | ho
  · rw [ho]
    obtain ⟨l1, l2, k1, j1⟩ := ok_parts_d ho
    obtain ⟨r, hpre, hsr, hro⟩ := ord_of k1 j1
    obtain rfl : M = (ns, srt r rs) := by rw [← unhide HM, sort_yes ho, hsr]
    have HK := hide (And.intro k1 j1)
    have HO := hide (And.intro hpre hro)
    have p0 := (unhide HP1).n0
    have p1 := (unhide HP1).n1
    clear ho k1 j1 hpre hsr hro HM
    go_wp2_with fail
    have h := l12Copy_c (ns, rs) _ W1 ((unhide HD).below (unhide HB1)) ⟨by simp only; omega, by simp only; omega, (unhide HS).2.2⟩
    refine h.mono ?_
    clear h
    rintro e' W3 ⟨⟨ma, mc, rb, rc, rfl, hcp⟩, hb3⟩
    simp only at hcp
    have HCP := hide hcp
    have HB3 := hide (step_b (unhide HB1) hb3)
    have HP3 := hide ((unhide HP1).below hb3)
    have HQ3 := hide ((unhide HQ1).below hb3)
    clear hcp hb3 p0 p1 HB1 HP1 HQ1
    go_wp2_with fail
    have h5 := step_a (step_a (Below.refl W3.heap.size W3) (.cells #[.slice ma ns.length mc, .slice rb rs.length rc] 26)) (.cells #[] 3)
    have HB5 := hide (step_b (unhide HB3) h5)
    have HP5 := hide ((unhide HP3).below h5)
    have HQ5 := hide ((unhide HQ3).below h5)
    have HC5 := hide ((unhide HCP).below h5)
    have HT5 := hide ((AtC2.new W3 (.slice ma ns.length mc) (.slice rb rs.length rc) 26).alloc (.cells #[] 3))
    have hI := owns_ints (rowI_made (W3.alloc (.cells #[.slice ma ns.length mc, .slice rb rs.length rc] 26)))
    rw [World.size_alloc] at hI
    have HI5 := hide hI
    have hwl : w.heap.size + 1 < W3.heap.size := (unhide HQ3).lt
    have hs5 : ((W3.alloc (.cells #[.slice ma ns.length mc, .slice rb rs.length rc] 26)).alloc (.cells #[] 3)).heap.size = W3.heap.size + 1 + 1 := by simp
    obtain ⟨W5, hW5⟩ : ∃ W5, (W3.alloc (.cells #[.slice ma ns.length mc, .slice rb rs.length rc] 26)).alloc (.cells #[] 3) = W5 := ⟨_, rfl⟩
    rw [hW5] at HB5 HP5 HQ5 HC5 HT5 HI5 hs5 ⊢
    clear h5 hI hW5 HB3 HP3 HQ3 HCP
    go_loopw [4, 5] (fun o i wr => ∃ (k : Nat) (m : List Int) (ob oo oc : Nat), k ≤ rs.length ∧ i = .int .i64 k ∧ o = .slice (some ⟨ob, oo, none⟩) m.length oc ∧ Hid (IntsAt wr (.slice (some ⟨ob, oo, none⟩) m.length oc) m) ∧ Hid (m = srt r (rs.take k)) ∧ Below W5.heap.size W5 wr)
      (fun _ i _ => rs.length - (intOf i).toNat)
    case atStart => exact ⟨0, [], _, _, _, by omega, rfl, rfl, HI5, hide rfl, Below.refl _ _⟩
    case round =>
      clear HI5
      obtain ⟨k, m, ob, oo, oc, hk, rfl, rfl, HIm, HMm, hbl⟩ := hrel
      have hml : m.length = k := by rw [unhide HMm, srt_len, List.length_take]; omega
      have hml12 : m.length ≤ 12 := by omega
      have HML := hide hml
      clear hml
      obtain ⟨a', c', e, hoc1, hoc2⟩ := (unhide HIm).form
      injection e with e1 _ e3
      subst e1 e3
      unfold maxLen at hoc2
      have HPW := hide ((unhide HP5).below hbl)
      have p0 := (unhide HPW).n0
      have p1 := (unhide HPW).n1
      have HBL := hide hbl
      by_cases hlt : k < rs.length
      · obtain ⟨x, hx⟩ : ∃ x, rs[k]? = some x := ⟨_, List.getElem?_eq_getElem hlt⟩
        have hrW := ((unhide HR).below (unhide HB5)).below hbl
        obtain ⟨ab, ao, rfl, _, u0⟩ := hrW.cell hx
        obtain ⟨W6, hW6⟩ : ∃ W6, W6 = wr := ⟨_, rfl⟩
        subst hW6
        have HU := hide u0
        clear hrW hbl u0
        go_wp2_with fail
        go_loopw [6] (fun q wr => ∃ j : Nat, j ≤ m.length ∧ q = .int .i64 j ∧ Below W6.heap.size W6 wr ∧ Hid (∀ (i : Nat) (y : Int), m[i]? = some y → j ≤ i → 0 < cmpAt ns ns y x))
          (fun q _ => (intOf q).toNat)
        case atStart => exact ⟨m.length, Nat.le_refl _, rfl, Below.refl _ _, hide (fun i y hi hj => by have := (List.getElem?_eq_some_iff.1 hi).1; omega)⟩
        case round =>
          obtain ⟨j, hj, rfl, hb6, HJ⟩ := hrel
          have HPX := hide ((unhide HPW).below hb6)
          have p0 := (unhide HPX).n0
          have p1 := (unhide HPX).n1
          have u0 := cell_below hb6 (unhide HU)
          by_cases hj0 : j = 0
          · have k0 : decide (0 < j) = false := decide_eq_false (by omega)
            have HJZ := hide hj0
            clear hj0
            go_wp2_with fail
            go_region
            go_wp2_with fail
            have HIW := hide (((unhide HIm).below hb6).below (Below.refl wr.heap.size wr).drew)
            have HALL2 := hide (And.intro (show wr.drew.cell? ⟨w.heap.size, 1, none⟩ = some (.slice (some ⟨ab, ao, none⟩) rs.length cr) from p1) (show wr.drew.cell? ⟨ab, ao + k, none⟩ = some (.int .i64 x) from u0))
            have HBW := hide hb6.drew
            have HINS : Hid (srt r (rs.take (k + 1)) = m.take j ++ [x] ++ m.drop j) := hide (insAt (unhide HO).1 hx (unhide HMm) hj (fun t z hz ht => by
              rw [(unhide HO).2 z (srt_in (unhide HO).1 (unhide HMm) hz) x (List.mem_of_getElem? hx)]
              exact unhide HJ t z hz ht) (fun z _ h0 => absurd h0 (by rw [unhide HJZ]; omega)))
            clear p0 p1 u0
            -- wr.drew the world; .int .i64 ↑j, .bool false, .bool false, undef, undef, undef, undef, undef, undef, undef, undef, undef, undef, undef, undef, undef, undef, undef, undef, .bool false, u43, u44 the slots 23 to 44
            have HPX1 := hide (IntsAt.take (k := j) (unhide HIW) (by omega))
            obtain ⟨p, hp⟩ : ∃ p, m.take j = p := ⟨_, rfl⟩
            obtain ⟨q, hq⟩ : ∃ q, m.drop j = q := ⟨_, rfl⟩
            have hpl : p.length = j := by rw [← hp, List.length_take]; omega
            have hql : q.length = m.length - j := by rw [← hq, List.length_drop]
            obtain ⟨qa, hqa, hqI⟩ : ∃ qa : Option Addr, (qa = if oc = j then some ⟨ob, oo, none⟩ else some ⟨ob, oo + j, none⟩) ∧ IntsAt wr.drew (.slice qa (m.length - j) (oc - j)) q := by
              refine ⟨_, rfl, ?_⟩
              by_cases cj : oc = j
              · rw [if_pos cj]
                have : q = [] := List.length_eq_zero_iff.1 (by omega)
                subst this
                exact ⟨_, oc - j, by rw [show m.length - j = 0 by omega]; rfl, by simp, by unfold maxLen; omega, fun h => absurd h (by simp)⟩
              · rw [if_neg cj]
                have := (unhide HIW).drop (k := j) (by omega) rfl
                rw [hq] at this
                have e : (⟨ob, oo, none⟩ : Addr).add j = ⟨ob, oo + j, none⟩ := by unfold Addr.add; split <;> simp_all
                rwa [e] at this
            have HQ1 := hide hqI
            rw [hp] at HPX1
            have HNS : Hid (srt r (rs.take (k + 1)) = p ++ [x] ++ q) := hide (by rw [← hp, ← hq]; exact unhide HINS)
            have HQA := hide hqa
            have hjm : (j : Int) ≤ (m.length : Int) := by omega
            have hjo : (j : Int) ≤ (oc : Int) := by omega
            have hj00 : (0 : Int) ≤ (j : Int) := by omega
            have hki : (k : Int) < (rs.length : Int) := by omega
            clear hp hq hqI hqa
            have HPL := hide hpl
            have HQL := hide hql
            have hpq : p.length + q.length ≤ 12 := by omega
            clear hpl hql
            obtain ⟨v, hv⟩ : ∃ v : Nat → Value, v = fun t => match t with
              | 1 => .slice (some ⟨ob, oo, none⟩) m.length oc
              | 2 => .int .i64 (j : Int)
              | 3 => .slice (some ⟨ob, oo, none⟩) j oc
              | 5 => .pointer (some ⟨w.heap.size, 1, none⟩)
              | 6 => .slice (some ⟨ab, ao, none⟩) rs.length cr
              | 7 => .int .i64 (k : Int)
              | 8 => .pointer (some ⟨ab, ao + k, none⟩)
              | 9 => .int .i64 x
              | 12 => .slice (some ⟨ob, oo, none⟩) m.length oc
              | 13 => .int .i64 (j : Int)
              | 14 => .slice qa (m.length - j) (oc - j)
              | 16 => .slice (some ⟨ob, oo, none⟩) m.length oc
              | _ => undef := ⟨_, rfl⟩
            have v1 : v 1 = .slice (some ⟨ob, oo, none⟩) m.length oc := by subst hv; rfl
            have v2 : v 2 = .int .i64 (j : Int) := by subst hv; rfl
            have v3 : v 3 = .slice (some ⟨ob, oo, none⟩) j oc := by subst hv; rfl
            have v5 : v 5 = .pointer (some ⟨w.heap.size, 1, none⟩) := by subst hv; rfl
            have v6 : v 6 = .slice (some ⟨ab, ao, none⟩) rs.length cr := by subst hv; rfl
            have v7 : v 7 = .int .i64 (k : Int) := by subst hv; rfl
            have v8 : v 8 = .pointer (some ⟨ab, ao + k, none⟩) := by subst hv; rfl
            have v9 : v 9 = .int .i64 x := by subst hv; rfl
            have v12 : v 12 = .slice (some ⟨ob, oo, none⟩) m.length oc := by subst hv; rfl
            have v13 : v 13 = .int .i64 (j : Int) := by subst hv; rfl
            have v14 : v 14 = .slice qa (m.length - j) (oc - j) := by subst hv; rfl
            have v16 : v 16 = .slice (some ⟨ob, oo, none⟩) m.length oc := by subst hv; rfl
            clear hv
            refine wp_region_any (by kernel_rfl) ?_
            change wpAny _ _ _ _ _ _ _ (World.drew _)
            refine wpAny_inv (fun l a' w' => ∃ (z f : Nat → Value), a' = ⟨#[.agg #[.slice an ns.length cn, .slice (some ⟨ab, ao, none⟩) rs.length cr], .pointer (some ⟨w.heap.size, 0, none⟩), .pointer (some ⟨w.heap.size + 1, 0, none⟩), .pointer (some ⟨W3.heap.size, 0, none⟩), f 16, .int .i64 ↑k, .int .i64 ↑j, .agg #[.slice an ns.length cn, .slice (some ⟨ab, ao, none⟩) rs.length cr], .bool true, .bool false, undef, .agg #[.slice an ns.length cn, .slice (some ⟨ab, ao, none⟩) rs.length cr], .agg #[.slice ma ns.length mc, .slice rb rs.length rc], .slice (some ⟨W3.heap.size + 1, 0, none⟩) 0 0, .int .i64 ↑k, .pointer (some ⟨w.heap.size, 1, none⟩), .slice (some ⟨ab, ao, none⟩) rs.length cr, .int .i64 ↑rs.length, .bool true, u19, u20, .slice (some ⟨ob, oo, none⟩) m.length oc, .int .i64 ↑m.length, z 0, z 1, z 2, z 3, z 4, z 5, z 6, z 7, z 8, z 9, z 10, z 11, z 12, z 13, z 14, z 15, z 16, z 17, z 18, z 19, z 20, z 21, f 0, f 1, f 2, f 3, f 4, f 5, f 6, f 7, f 8, f 9, f 10, f 11, f 12, f 13, f 14, f 15, undef, undef, undef], []⟩ ∧ InS wr.drew v x p q l f w') ?hsz ?hend ?hstep ?hgo _ _ _ _ ?h0 ?hc
            case hsz =>
              rintro l a' w' ⟨z, f, _, h⟩
              exact h.sz
            case h0 => exact ⟨fun t => [.int .i64 ↑j, .bool false, .bool false, undef, undef, undef, undef, undef, undef, undef, undef, undef, undef, undef, undef, undef, undef, undef, undef, .bool false, u43, u44].getD t undef, fun t => [u45, u46, u47, u48, u49, u50, u51, u52, u53, u54, u55, u56, u57, u58, u59, u60, .slice (some ⟨ob, oo, none⟩) m.length oc].getD t undef, rfl, InS.start rfl (Below.refl _ _).drew v16.symm⟩
            case hc => exact Nat.le_of_eq rfl
            case hgo =>
              rintro l a' w' ⟨z, f, rfl, h⟩ hr t ht
              have k0 : l[0]? = some true := LL_ready hr 0 (by simp) (by rw [h.sz]; rfl) (by simp [Region.binds, Array.getD_eq_getD_getElem?])
              have k1 : l[1]? = some true := LL_ready hr 1 (by simp) (by rw [h.sz]; rfl) (by simp [Region.binds, Array.getD_eq_getD_getElem?])
              have k2 : l[2]? = some true := LL_ready hr 2 (by simp) (by rw [h.sz]; rfl) (by simp [Region.binds, Array.getD_eq_getD_getElem?])
              have k3 : l[3]? = some true := LL_ready hr 3 (by simp) (by rw [h.sz]; rfl) (by simp [Region.binds, Array.getD_eq_getD_getElem?, k1, k2])
              have k4 : l[4]? = some true := LL_ready hr 4 (by simp) (by rw [h.sz]; rfl) (by simp [Region.binds, Array.getD_eq_getD_getElem?, k0, k3])
              have k5 : l[5]? = some true := LL_ready hr 5 (by simp) (by rw [h.sz]; rfl) (by simp [Region.binds, Array.getD_eq_getD_getElem?])
              have k6 : l[6]? = some true := LL_ready hr 6 (by simp) (by rw [h.sz]; rfl) (by simp [Region.binds, Array.getD_eq_getD_getElem?, k5])
              have k7 : l[7]? = some true := LL_ready hr 7 (by simp) (by rw [h.sz]; rfl) (by simp [Region.binds, Array.getD_eq_getD_getElem?])
              have k8 : l[8]? = some true := LL_ready hr 8 (by simp) (by rw [h.sz]; rfl) (by simp [Region.binds, Array.getD_eq_getD_getElem?, k6, k7])
              have k9 : l[9]? = some true := LL_ready hr 9 (by simp) (by rw [h.sz]; rfl) (by simp [Region.binds, Array.getD_eq_getD_getElem?, k8])
              have k10 : l[10]? = some true := LL_ready hr 10 (by simp) (by rw [h.sz]; rfl) (by simp [Region.binds, Array.getD_eq_getD_getElem?, k9])
              have k11 : l[11]? = some true := LL_ready hr 11 (by simp) (by rw [h.sz]; rfl) (by simp [Region.binds, Array.getD_eq_getD_getElem?, k4, k10])
              have k12 : l[12]? = some true := LL_ready hr 12 (by simp) (by rw [h.sz]; rfl) (by simp [Region.binds, Array.getD_eq_getD_getElem?])
              have k13 : l[13]? = some true := LL_ready hr 13 (by simp) (by rw [h.sz]; rfl) (by simp [Region.binds, Array.getD_eq_getD_getElem?])
              have k14 : l[14]? = some true := LL_ready hr 14 (by simp) (by rw [h.sz]; rfl) (by simp [Region.binds, Array.getD_eq_getD_getElem?, k12, k13])
              have k15 : l[15]? = some true := LL_ready hr 15 (by simp) (by rw [h.sz]; rfl) (by simp [Region.binds, Array.getD_eq_getD_getElem?, k11, k14])
              have k16 : l[16]? = some true := LL_ready hr 16 (by simp) (by rw [h.sz]; rfl) (by simp [Region.binds, Array.getD_eq_getD_getElem?, k0, k1, k2, k3, k4, k5, k6, k7, k8, k9, k10, k11, k12, k13, k14, k15])
              have ht : t < 17 := by simpa using ht
              rcases (by omega : t = 0 ∨ t = 1 ∨ t = 2 ∨ t = 3 ∨ t = 4 ∨ t = 5 ∨ t = 6 ∨ t = 7 ∨ t = 8 ∨ t = 9 ∨ t = 10 ∨ t = 11 ∨ t = 12 ∨ t = 13 ∨ t = 14 ∨ t = 15 ∨ t = 16) with rfl | rfl | rfl | rfl | rfl | rfl | rfl | rfl | rfl | rfl | rfl | rfl | rfl | rfl | rfl | rfl | rfl
              all_goals assumption
            case hstep =>
              rintro l a' w' t ⟨z, f, rfl, h⟩ hi
              have hi2 := hi
              unfold Region.ready at hi2
              rw [List.mem_filter] at hi2
              obtain ⟨hjj, hi3⟩ := hi2
              have hjj : t < 17 := by simpa using hjj
              have hjl : ¬ LL l t := fun e => by
                unfold LL at e
                simp [Array.getD_eq_getD_getElem?, e] at hi3
              clear hi
              rcases (by omega : t = 0 ∨ t = 1 ∨ t = 2 ∨ t = 3 ∨ t = 4 ∨ t = 5 ∨ t = 6 ∨ t = 7 ∨ t = 8 ∨ t = 9 ∨ t = 10 ∨ t = 11 ∨ t = 12 ∨ t = 13 ∨ t = 14 ∨ t = 15 ∨ t = 16) with rfl | rfl | rfl | rfl | rfl | rfl | rfl | rfl | rfl | rfl | rfl | rfl | rfl | rfl | rfl | rfl | rfl
              · clear hi3
                refine wpOp_step rfl (fun K hK => ?_)
                go_simp
                exact hK _ _ ⟨z, _, by simp, h.s0 hjl⟩
              · clear hi3
                have n16 : ¬ LL l 16 := fun e => hjl (h.c16 e 1 (by omega))
                have w16 := (h.o16 n16).trans v16
                refine wpOp_step rfl (fun K hK => ?_)
                go_simp
                exact hK _ _ ⟨z, _, by simp [w16, v1], h.read 1 rfl (by omega) hjl (v 1) rfl⟩
              · clear hi3
                refine wpOp_step rfl (fun K hK => ?_)
                go_simp
                exact hK _ _ ⟨z, _, by simp [v2], h.read 2 rfl (by omega) hjl (v 2) rfl⟩
              · have l1 : LL l 1 := LL_of (by simp [Region.binds, Array.getD_eq_getD_getElem?] at hi3; simp [hi3])
                have l2 : LL l 2 := LL_of (by simp [Region.binds, Array.getD_eq_getD_getElem?] at hi3; simp [hi3])
                clear hi3
                have w1 := (h.val 1 rfl l1).trans v1
                have w2 := (h.val 2 rfl l2).trans v2
                refine wpOp_step rfl (fun K hK => ?_)
                go_simp
                exact hK _ _ ⟨z, _, by simp [w1, w2, v3], h.read 3 rfl (by omega) hjl (v 3) rfl⟩
              · have l0 : LL l 0 := LL_of (by simp [Region.binds, Array.getD_eq_getD_getElem?] at hi3; simp [hi3])
                have l3 : LL l 3 := LL_of (by simp [Region.binds, Array.getD_eq_getD_getElem?] at hi3; simp [hi3])
                clear hi3
                have w3 := (h.val 3 rfl l3).trans v3
                obtain ⟨⟨g, e0⟩, hk0⟩ := h.k0 l0 hjl
                rw [e0] at hk0
                refine wpOp_step rfl (fun K hK => ?_)
                refine step_append_ints rfl _ _ rfl (wr.drew).heap.size (.slice (some ⟨g, 0, none⟩) 0 0) (.slice (some ⟨ob, oo, none⟩) j oc) [] p (by exact e0) (by exact w3) hk0 ((unhide HPX1).below h.bw) (by simp only [List.length_nil]; omega) h.bw.size (some 49) rfl ?_
                intro v6 w6 hr6 hg6 hat
                obtain ⟨ra', rc', rfl⟩ := own_form' hr6
                exact hK _ _ ⟨z, _, by simp [Act.put, e0, w3], h.s4 hjl l0 hr6 (by rw [e0]; exact hg6) (by rw [e0]; exact hat)⟩
              · clear hi3
                refine wpOp_step rfl (fun K hK => ?_)
                go_simp
                exact hK _ _ ⟨z, _, by simp [v5], h.read 5 rfl (by omega) hjl (v 5) rfl⟩
              · have l5 : LL l 5 := LL_of (by simp [Region.binds, Array.getD_eq_getD_getElem?] at hi3; simp [hi3])
                clear hi3
                obtain ⟨q1, u1⟩ := unhide HALL2
                have q1 := cell_below_' h.bw q1
                have u1 := cell_below_' h.bw u1
                have w5 := (h.val 5 rfl l5).trans v5
                refine wpOp_step rfl (fun K hK => ?_)
                go_simp
                exact hK _ _ ⟨z, _, by simp [w5, v6], h.read 6 rfl (by omega) hjl (v 6) rfl⟩
              · clear hi3
                refine wpOp_step rfl (fun K hK => ?_)
                go_simp
                exact hK _ _ ⟨z, _, by simp [v7], h.read 7 rfl (by omega) hjl (v 7) rfl⟩
              · have l6 : LL l 6 := LL_of (by simp [Region.binds, Array.getD_eq_getD_getElem?] at hi3; simp [hi3])
                have l7 : LL l 7 := LL_of (by simp [Region.binds, Array.getD_eq_getD_getElem?] at hi3; simp [hi3])
                clear hi3
                have w6 := (h.val 6 rfl l6).trans v6
                have w7 := (h.val 7 rfl l7).trans v7
                refine wpOp_step rfl (fun K hK => ?_)
                go_simp
                exact hK _ _ ⟨z, _, by simp [w6, w7, v8], h.read 8 rfl (by omega) hjl (v 8) rfl⟩
              · have l8 : LL l 8 := LL_of (by simp [Region.binds, Array.getD_eq_getD_getElem?] at hi3; simp [hi3])
                clear hi3
                obtain ⟨q1, u1⟩ := unhide HALL2
                have q1 := cell_below_' h.bw q1
                have u1 := cell_below_' h.bw u1
                have w8 := (h.val 8 rfl l8).trans v8
                refine wpOp_step rfl (fun K hK => ?_)
                go_simp
                exact hK _ _ ⟨z, _, by simp [w8, v9], h.read 9 rfl (by omega) hjl (v 9) rfl⟩
              · have l9 : LL l 9 := LL_of (by simp [Region.binds, Array.getD_eq_getD_getElem?] at hi3; simp [hi3])
                clear hi3
                have w9 := (h.val 9 rfl l9).trans v9
                have HSS := hide (h.s10 hjl)
                refine wpOp_step rfl (fun K hK => ?_)
                go_simp
                exact hK _ _ ⟨z, _, by simp [w9], unhide HSS⟩
              · have l4 : LL l 4 := LL_of (by simp [Region.binds, Array.getD_eq_getD_getElem?] at hi3; simp [hi3])
                have l10 : LL l 10 := LL_of (by simp [Region.binds, Array.getD_eq_getD_getElem?] at hi3; simp [hi3])
                clear hi3
                obtain ⟨ra, rc', e4⟩ := h.k4 l4
                have hr4 := h.r4 l4 hjl
                obtain ⟨g, e10, hc10, hg10, _, _⟩ := h.n10 l10 hjl
                rw [e4] at hr4
                refine wpOp_step rfl (fun K hK => ?_)
                refine step_append_ints rfl _ _ rfl (wr.drew).heap.size (.slice ra p.length rc') (.slice (some ⟨g, 0, none⟩) 1 1) p [x] (by exact e4) (by exact e10) hr4 (ints_cell1 hc10 hg10) (by simp only [List.length_cons, List.length_nil]; omega) h.bw.size (some 56) rfl ?_
                intro v6 w6 hr6 hg6 _
                obtain ⟨sa, sc, rfl⟩ := own_form' hr6
                have hr6' := rowI_snoc hr6
                exact hK _ _ ⟨z, _, by simp [Act.put, e4, e10], h.s11 hjl l4 l10 hr6' (by rw [e4]; exact hg6)⟩
              · clear hi3
                have n16 : ¬ LL l 16 := fun e => hjl (h.c16 e 12 (by omega))
                have w16 := (h.o16 n16).trans v16
                refine wpOp_step rfl (fun K hK => ?_)
                go_simp
                exact hK _ _ ⟨z, _, by simp [w16, v12], h.read 12 rfl (by omega) hjl (v 12) rfl⟩
              · clear hi3
                refine wpOp_step rfl (fun K hK => ?_)
                go_simp
                exact hK _ _ ⟨z, _, by simp [v13], h.read 13 rfl (by omega) hjl (v 13) rfl⟩
              · have l12 : LL l 12 := LL_of (by simp [Region.binds, Array.getD_eq_getD_getElem?] at hi3; simp [hi3])
                have l13 : LL l 13 := LL_of (by simp [Region.binds, Array.getD_eq_getD_getElem?] at hi3; simp [hi3])
                clear hi3
                have w12 := (h.val 12 rfl l12).trans v12
                have w13 := (h.val 13 rfl l13).trans v13
                refine wpOp_step rfl (fun K hK => ?_)
                by_cases cj : oc = j
                · have hqa : qa = some ⟨ob, oo, none⟩ := by rw [unhide HQA, if_pos cj]
                  subst cj
                  go_simp
                  exact hK _ _ ⟨z, _, (by simp [w12, w13, v14, hqa]; try omega), h.read 14 rfl (by omega) hjl (v 14) rfl⟩
                · have hqa : qa = some ⟨ob, oo + j, none⟩ := by rw [unhide HQA, if_neg cj]
                  go_simp
                  exact hK _ _ ⟨z, _, by simp [w12, w13, v14, hqa], h.read 14 rfl (by omega) hjl (v 14) rfl⟩
              · have l11 : LL l 11 := LL_of (by simp [Region.binds, Array.getD_eq_getD_getElem?] at hi3; simp [hi3])
                have l14 : LL l 14 := LL_of (by simp [Region.binds, Array.getD_eq_getD_getElem?] at hi3; simp [hi3])
                clear hi3
                have w14 := (h.val 14 rfl l14).trans v14
                obtain ⟨ra, rc', e11⟩ := h.k11 l11
                have hr11 := h.r11 l11 hjl
                rw [e11] at hr11
                refine wpOp_step rfl (fun K hK => ?_)
                refine step_append_ints rfl _ _ rfl (wr.drew).heap.size (.slice ra (p.length + 1) rc') (.slice qa (m.length - j) (oc - j)) (p ++ [x]) q (by exact e11) (by exact w14) hr11 ((unhide HQ1).below h.bw) (by simp only [List.length_append, List.length_cons, List.length_nil]; omega) h.bw.size (some 60) rfl ?_
                intro v6 w6 hr6 hg6 _
                obtain ⟨sa, sc, rfl⟩ := own_form' hr6
                exact hK _ _ ⟨z, _, by simp [Act.put, e11, w14], h.s15 hjl l11 hr6 (by rw [e11]; exact hg6)⟩
              · have l0 : LL l 0 := LL_of (by simp [Region.binds, Array.getD_eq_getD_getElem?] at hi3; simp [hi3])
                have l1 : LL l 1 := LL_of (by simp [Region.binds, Array.getD_eq_getD_getElem?] at hi3; simp [hi3])
                have l2 : LL l 2 := LL_of (by simp [Region.binds, Array.getD_eq_getD_getElem?] at hi3; simp [hi3])
                have l3 : LL l 3 := LL_of (by simp [Region.binds, Array.getD_eq_getD_getElem?] at hi3; simp [hi3])
                have l4 : LL l 4 := LL_of (by simp [Region.binds, Array.getD_eq_getD_getElem?] at hi3; simp [hi3])
                have l5 : LL l 5 := LL_of (by simp [Region.binds, Array.getD_eq_getD_getElem?] at hi3; simp [hi3])
                have l6 : LL l 6 := LL_of (by simp [Region.binds, Array.getD_eq_getD_getElem?] at hi3; simp [hi3])
                have l7 : LL l 7 := LL_of (by simp [Region.binds, Array.getD_eq_getD_getElem?] at hi3; simp [hi3])
                have l8 : LL l 8 := LL_of (by simp [Region.binds, Array.getD_eq_getD_getElem?] at hi3; simp [hi3])
                have l9 : LL l 9 := LL_of (by simp [Region.binds, Array.getD_eq_getD_getElem?] at hi3; simp [hi3])
                have l10 : LL l 10 := LL_of (by simp [Region.binds, Array.getD_eq_getD_getElem?] at hi3; simp [hi3])
                have l11 : LL l 11 := LL_of (by simp [Region.binds, Array.getD_eq_getD_getElem?] at hi3; simp [hi3])
                have l12 : LL l 12 := LL_of (by simp [Region.binds, Array.getD_eq_getD_getElem?] at hi3; simp [hi3])
                have l13 : LL l 13 := LL_of (by simp [Region.binds, Array.getD_eq_getD_getElem?] at hi3; simp [hi3])
                have l14 : LL l 14 := LL_of (by simp [Region.binds, Array.getD_eq_getD_getElem?] at hi3; simp [hi3])
                have l15 : LL l 15 := LL_of (by simp [Region.binds, Array.getD_eq_getD_getElem?] at hi3; simp [hi3])
                clear hi3
                have hall : ∀ j, j < 16 → LL l j := fun t ht => by
                  rcases (by omega : t = 0 ∨ t = 1 ∨ t = 2 ∨ t = 3 ∨ t = 4 ∨ t = 5 ∨ t = 6 ∨ t = 7 ∨ t = 8 ∨ t = 9 ∨ t = 10 ∨ t = 11 ∨ t = 12 ∨ t = 13 ∨ t = 14 ∨ t = 15) with rfl | rfl | rfl | rfl | rfl | rfl | rfl | rfl | rfl | rfl | rfl | rfl | rfl | rfl | rfl | rfl
                  all_goals assumption
                have HSS := hide (h.s16 hjl hall (f 15) rfl)
                refine wpOp_step rfl (fun K hK => ?_)
                go_simp
                exact hK _ _ ⟨z, _, by simp, unhide HSS⟩
            case hend =>
              rintro l a' w' ⟨z, f, rfl, h⟩ hall
              have l16 : LL l 16 := hall 16 (by decide)
              have l15 : LL l 15 := hall 15 (by decide)
              have e16 := h.a16 l16
              obtain ⟨⟨ra, rc', e15⟩, hr15⟩ := h.r15 l15
              rw [e15] at e16 hr15
              have HRR15 := hide hr15
              have hbw' := h.bw
              clear h hall l16 l15 hr15
              obtain ⟨gb, go, rfl⟩ : ∃ gb go, ra = some ⟨gb, go, none⟩ := by
                obtain ⟨a, c, e, _, _, h3⟩ := owns_ints (unhide HRR15)
                injection e with e1 _ _
                obtain ⟨b, o, e2, _⟩ := h3 (by simp; omega)
                exact ⟨b, o, by rw [e1, e2]⟩
              have HI2 := hide (owns_ints (unhide HRR15))
              obtain ⟨L, hL⟩ : ∃ L, (p ++ [x] ++ q).length = L := ⟨_, rfl⟩
              have HLL := hide hL
              have HB2 := hide (step_b (step_b (unhide HBL) (unhide HBW)) hbw')
              rw [hL] at e16
              rw [e16]
              clear hL hbw' e16 e15
              go_wp2_with fail
              go_roundw
              case rel => exact ⟨k + 1, p ++ [x] ++ q, gb, go, rc', by omega, by go_num, by rw [unhide HLL], HI2, hide (unhide HNS).symm, unhide HB2⟩
              case measure => simp [intOf]; omega
          · obtain ⟨i, hij⟩ : ∃ i, j = i + 1 := ⟨j - 1, by omega⟩
            obtain ⟨y, hy⟩ : ∃ y, m[i]? = some y := ⟨_, List.getElem?_eq_getElem (by omega)⟩
            have hyr : y ∈ rs := List.mem_of_mem_take ((srt_mem (unhide HO).1 _ _).1 (by rw [← unhide HMm]; exact List.mem_of_getElem? hy))
            have hxr := List.mem_of_getElem? hx
            obtain ⟨b', o', e, _, v0⟩ := ((unhide HIm).below hb6).cell hy
            injection e with e
            injection e with e1 e2 _
            subst e1 e2
            have hw : wrap64 ((j : Int) - 1) = (i : Int) := by rw [hij]; unfold wrap64; omega
            have hw3 : IntKind.i64.wrap ((j : Int) - 1) = (i : Int) := by rw [wi64 _ (by omega) (by omega)]; omega
            have k0 : decide (0 < j) = true := decide_eq_true (by omega)
            have hi0 : (0 : Int) ≤ (i : Int) := by omega
            have hi1 : (i : Int) < (m.length : Int) := by omega
            have hi1n : i < m.length := by omega
            have HCM : Hid (∀ X, Below W6.heap.size W6 X → Calls Tryz.prog 33 #[.slice an ns.length cn, .int .i64 y, .slice an ns.length cn, .int .i64 x] X fun r W' => r = .returned (.int .i64 (cmpAt ns ns y x)) ∧ Below X.heap.size X W') := hide (fun X hX => by
              have hnX := (((unhide HN).below (unhide HB5)).below (unhide HBL)).below hX
              exact l21Cmp_c ns ns y x _ _ X hnX hnX (unhide HK).1 (unhide HK).1 ⟨(unhide HK).2 y hyr, (unhide HK).2 x hxr⟩ (unhide HS).2.2 (unhide HS).2.2 l1 l1)
            obtain ⟨R, hR⟩ : ∃ R, cmpAt ns ns y x = R := ⟨_, rfl⟩
            rw [hR] at HCM
            have HRR := hide hR
            have d0 : wr.drew.cell? ⟨w.heap.size, 0, none⟩ = some (.slice an ns.length cn) := p0
            have d1 : wr.drew.cell? ⟨w.heap.size, 1, none⟩ = some (.slice (some ⟨ab, ao, none⟩) rs.length cr) := p1
            have d2 : wr.drew.cell? ⟨ab, ao + k, none⟩ = some (.int .i64 x) := u0
            have d3 : wr.drew.cell? ⟨ob, oo + i, none⟩ = some (.int .i64 y) := v0
            have HIJ := hide hij
            clear hyr hxr hR hij hj0
            go_wp2_with fail
            go_region_held3 (fun w' => w'.cell? ⟨w.heap.size, 0, none⟩ = some (.slice an ns.length cn) ∧ w'.cell? ⟨w.heap.size, 1, none⟩ = some (.slice (some ⟨ab, ao, none⟩) rs.length cr) ∧ w'.cell? ⟨ab, ao + k, none⟩ = some (.int .i64 x) ∧ w'.cell? ⟨ob, oo + i, none⟩ = some (.int .i64 y)) (((try dsimp only); (repeat' apply And.intro) <;> (with_reducible assumption))) ((go_at_call 33; refine (unhide HCM wr.drew (by exact hb6.drew)).mono ?_; rintro e w7 ⟨rfl, hb7⟩; have HB7 : Hid (Below wr.heap.size wr w7) := (Below.refl _ _).drew.trans hb7; have e0 := cell_below (unhide HB7) p0; have e1 := cell_below (unhide HB7) p1; have e2 := cell_below (unhide HB7) u0; have e3 := cell_below (unhide HB7) v0; clear hb7))
            by_cases hR0 : 0 < R
            · have k3 : decide (0 < R) = true := decide_eq_true hR0
              have HJ2 : Hid (∀ (t : Nat) (z : Int), m[t]? = some z → i ≤ t → 0 < cmpAt ns ns z x) := hide (fun t z hz ht => by
                by_cases e : t = i
                · subst e
                  rw [hy] at hz
                  obtain rfl := Option.some.inj hz
                  rw [unhide HRR]; exact hR0
                · exact unhide HJ t z hz (by have := unhide HIJ; omega))
              have hji : i ≤ m.length := by omega
              have HBX := hide (step_b hb6 (unhide HB7))
              clear d0 d1 d2 d3 e0 e1 e2 e3
              go_wp2_with fail
              go_roundw
              case rel => exact ⟨i, hji, by go_num, unhide HBX, HJ2⟩
              case measure => have := unhide HIJ; simp [intOf]; omega
            · have k3 : decide (0 < R) = false := decide_eq_false hR0
              have HIW := hide (((unhide HIm).below hb6).below (unhide HB7))
              have HALL2 := hide (And.intro e1 e2)
              have HBW := hide (step_b hb6 (unhide HB7))
              have HINS : Hid (srt r (rs.take (k + 1)) = m.take j ++ [x] ++ m.drop j) := hide (insAt (unhide HO).1 hx (unhide HMm) hj (fun t z hz ht => by
                rw [(unhide HO).2 z (srt_in (unhide HO).1 (unhide HMm) hz) x (List.mem_of_getElem? hx)]
                exact unhide HJ t z hz ht) (fun z hz _ => by
                rw [unhide HIJ, Nat.add_sub_cancel, hy] at hz
                obtain rfl := Option.some.inj hz
                rw [(unhide HO).2 y (srt_in (unhide HO).1 (unhide HMm) hy) x (List.mem_of_getElem? hx), unhide HRR]
                omega))
              clear p0 p1 u0 v0 d0 d1 d2 d3
              go_wp2_with fail
              clear e0 e1 e2 e3 hw hw3 k3 hR0
              -- w7 the world; .int .i64 ↑j, .bool true, .bool true, .pointer (some ⟨w.heap.size, 0, none⟩), .slice an ns.length cn, .slice (some ⟨ob, oo, none⟩) m.length oc, .int .i64 ↑j, .int .i64 ↑i, .pointer (some ⟨ob, oo + i, none⟩), .int .i64 y, .pointer (some ⟨w.heap.size, 0, none⟩), .slice an ns.length cn, .pointer (some ⟨w.heap.size, 1, none⟩), .slice (some ⟨ab, ao, none⟩) rs.length cr, .int .i64 ↑k, .pointer (some ⟨ab, ao + k, none⟩), .int .i64 x, .int .i64 R, .bool false, .bool false, u43, u44 the slots 23 to 44
              have HPX1 := hide (IntsAt.take (k := j) (unhide HIW) (by omega))
              obtain ⟨p, hp⟩ : ∃ p, m.take j = p := ⟨_, rfl⟩
              obtain ⟨q, hq⟩ : ∃ q, m.drop j = q := ⟨_, rfl⟩
              have hpl : p.length = j := by rw [← hp, List.length_take]; omega
              have hql : q.length = m.length - j := by rw [← hq, List.length_drop]
              obtain ⟨qa, hqa, hqI⟩ : ∃ qa : Option Addr, (qa = if oc = j then some ⟨ob, oo, none⟩ else some ⟨ob, oo + j, none⟩) ∧ IntsAt w7 (.slice qa (m.length - j) (oc - j)) q := by
                refine ⟨_, rfl, ?_⟩
                by_cases cj : oc = j
                · rw [if_pos cj]
                  have : q = [] := List.length_eq_zero_iff.1 (by omega)
                  subst this
                  exact ⟨_, oc - j, by rw [show m.length - j = 0 by omega]; rfl, by simp, by unfold maxLen; omega, fun h => absurd h (by simp)⟩
                · rw [if_neg cj]
                  have := (unhide HIW).drop (k := j) (by omega) rfl
                  rw [hq] at this
                  have e : (⟨ob, oo, none⟩ : Addr).add j = ⟨ob, oo + j, none⟩ := by unfold Addr.add; split <;> simp_all
                  rwa [e] at this
              have HQ1 := hide hqI
              rw [hp] at HPX1
              have HNS : Hid (srt r (rs.take (k + 1)) = p ++ [x] ++ q) := hide (by rw [← hp, ← hq]; exact unhide HINS)
              have HQA := hide hqa
              have hjm : (j : Int) ≤ (m.length : Int) := by omega
              have hjo : (j : Int) ≤ (oc : Int) := by omega
              have hj00 : (0 : Int) ≤ (j : Int) := by omega
              have hki : (k : Int) < (rs.length : Int) := by omega
              clear hp hq hqI hqa
              have HPL := hide hpl
              have HQL := hide hql
              have hpq : p.length + q.length ≤ 12 := by omega
              clear hpl hql
              obtain ⟨v, hv⟩ : ∃ v : Nat → Value, v = fun t => match t with
                | 1 => .slice (some ⟨ob, oo, none⟩) m.length oc
                | 2 => .int .i64 (j : Int)
                | 3 => .slice (some ⟨ob, oo, none⟩) j oc
                | 5 => .pointer (some ⟨w.heap.size, 1, none⟩)
                | 6 => .slice (some ⟨ab, ao, none⟩) rs.length cr
                | 7 => .int .i64 (k : Int)
                | 8 => .pointer (some ⟨ab, ao + k, none⟩)
                | 9 => .int .i64 x
                | 12 => .slice (some ⟨ob, oo, none⟩) m.length oc
                | 13 => .int .i64 (j : Int)
                | 14 => .slice qa (m.length - j) (oc - j)
                | 16 => .slice (some ⟨ob, oo, none⟩) m.length oc
                | _ => undef := ⟨_, rfl⟩
              have v1 : v 1 = .slice (some ⟨ob, oo, none⟩) m.length oc := by subst hv; rfl
              have v2 : v 2 = .int .i64 (j : Int) := by subst hv; rfl
              have v3 : v 3 = .slice (some ⟨ob, oo, none⟩) j oc := by subst hv; rfl
              have v5 : v 5 = .pointer (some ⟨w.heap.size, 1, none⟩) := by subst hv; rfl
              have v6 : v 6 = .slice (some ⟨ab, ao, none⟩) rs.length cr := by subst hv; rfl
              have v7 : v 7 = .int .i64 (k : Int) := by subst hv; rfl
              have v8 : v 8 = .pointer (some ⟨ab, ao + k, none⟩) := by subst hv; rfl
              have v9 : v 9 = .int .i64 x := by subst hv; rfl
              have v12 : v 12 = .slice (some ⟨ob, oo, none⟩) m.length oc := by subst hv; rfl
              have v13 : v 13 = .int .i64 (j : Int) := by subst hv; rfl
              have v14 : v 14 = .slice qa (m.length - j) (oc - j) := by subst hv; rfl
              have v16 : v 16 = .slice (some ⟨ob, oo, none⟩) m.length oc := by subst hv; rfl
              clear hv
              refine wp_region_any (by kernel_rfl) ?_
              change wpAny _ _ _ _ _ _ _ (World.drew _)
              refine wpAny_inv (fun l a' w' => ∃ (z f : Nat → Value), a' = ⟨#[.agg #[.slice an ns.length cn, .slice (some ⟨ab, ao, none⟩) rs.length cr], .pointer (some ⟨w.heap.size, 0, none⟩), .pointer (some ⟨w.heap.size + 1, 0, none⟩), .pointer (some ⟨W3.heap.size, 0, none⟩), f 16, .int .i64 ↑k, .int .i64 ↑j, .agg #[.slice an ns.length cn, .slice (some ⟨ab, ao, none⟩) rs.length cr], .bool true, .bool false, undef, .agg #[.slice an ns.length cn, .slice (some ⟨ab, ao, none⟩) rs.length cr], .agg #[.slice ma ns.length mc, .slice rb rs.length rc], .slice (some ⟨W3.heap.size + 1, 0, none⟩) 0 0, .int .i64 ↑k, .pointer (some ⟨w.heap.size, 1, none⟩), .slice (some ⟨ab, ao, none⟩) rs.length cr, .int .i64 ↑rs.length, .bool true, u19, u20, .slice (some ⟨ob, oo, none⟩) m.length oc, .int .i64 ↑m.length, z 0, z 1, z 2, z 3, z 4, z 5, z 6, z 7, z 8, z 9, z 10, z 11, z 12, z 13, z 14, z 15, z 16, z 17, z 18, z 19, z 20, z 21, f 0, f 1, f 2, f 3, f 4, f 5, f 6, f 7, f 8, f 9, f 10, f 11, f 12, f 13, f 14, f 15, undef, undef, undef], []⟩ ∧ InS w7 v x p q l f w') ?hsz ?hend ?hstep ?hgo _ _ _ _ ?h0 ?hc
              case hsz =>
                rintro l a' w' ⟨z, f, _, h⟩
                exact h.sz
              case h0 => exact ⟨fun t => [.int .i64 ↑j, .bool true, .bool true, .pointer (some ⟨w.heap.size, 0, none⟩), .slice an ns.length cn, .slice (some ⟨ob, oo, none⟩) m.length oc, .int .i64 ↑j, .int .i64 ↑i, .pointer (some ⟨ob, oo + i, none⟩), .int .i64 y, .pointer (some ⟨w.heap.size, 0, none⟩), .slice an ns.length cn, .pointer (some ⟨w.heap.size, 1, none⟩), .slice (some ⟨ab, ao, none⟩) rs.length cr, .int .i64 ↑k, .pointer (some ⟨ab, ao + k, none⟩), .int .i64 x, .int .i64 R, .bool false, .bool false, u43, u44].getD t undef, fun t => [u45, u46, u47, u48, u49, u50, u51, u52, u53, u54, u55, u56, u57, u58, u59, u60, .slice (some ⟨ob, oo, none⟩) m.length oc].getD t undef, rfl, InS.start rfl (Below.refl _ _).drew v16.symm⟩
              case hc => exact Nat.le_of_eq rfl
              case hgo =>
                rintro l a' w' ⟨z, f, rfl, h⟩ hr t ht
                have k0 : l[0]? = some true := LL_ready hr 0 (by simp) (by rw [h.sz]; rfl) (by simp [Region.binds, Array.getD_eq_getD_getElem?])
                have k1 : l[1]? = some true := LL_ready hr 1 (by simp) (by rw [h.sz]; rfl) (by simp [Region.binds, Array.getD_eq_getD_getElem?])
                have k2 : l[2]? = some true := LL_ready hr 2 (by simp) (by rw [h.sz]; rfl) (by simp [Region.binds, Array.getD_eq_getD_getElem?])
                have k3 : l[3]? = some true := LL_ready hr 3 (by simp) (by rw [h.sz]; rfl) (by simp [Region.binds, Array.getD_eq_getD_getElem?, k1, k2])
                have k4 : l[4]? = some true := LL_ready hr 4 (by simp) (by rw [h.sz]; rfl) (by simp [Region.binds, Array.getD_eq_getD_getElem?, k0, k3])
                have k5 : l[5]? = some true := LL_ready hr 5 (by simp) (by rw [h.sz]; rfl) (by simp [Region.binds, Array.getD_eq_getD_getElem?])
                have k6 : l[6]? = some true := LL_ready hr 6 (by simp) (by rw [h.sz]; rfl) (by simp [Region.binds, Array.getD_eq_getD_getElem?, k5])
                have k7 : l[7]? = some true := LL_ready hr 7 (by simp) (by rw [h.sz]; rfl) (by simp [Region.binds, Array.getD_eq_getD_getElem?])
                have k8 : l[8]? = some true := LL_ready hr 8 (by simp) (by rw [h.sz]; rfl) (by simp [Region.binds, Array.getD_eq_getD_getElem?, k6, k7])
                have k9 : l[9]? = some true := LL_ready hr 9 (by simp) (by rw [h.sz]; rfl) (by simp [Region.binds, Array.getD_eq_getD_getElem?, k8])
                have k10 : l[10]? = some true := LL_ready hr 10 (by simp) (by rw [h.sz]; rfl) (by simp [Region.binds, Array.getD_eq_getD_getElem?, k9])
                have k11 : l[11]? = some true := LL_ready hr 11 (by simp) (by rw [h.sz]; rfl) (by simp [Region.binds, Array.getD_eq_getD_getElem?, k4, k10])
                have k12 : l[12]? = some true := LL_ready hr 12 (by simp) (by rw [h.sz]; rfl) (by simp [Region.binds, Array.getD_eq_getD_getElem?])
                have k13 : l[13]? = some true := LL_ready hr 13 (by simp) (by rw [h.sz]; rfl) (by simp [Region.binds, Array.getD_eq_getD_getElem?])
                have k14 : l[14]? = some true := LL_ready hr 14 (by simp) (by rw [h.sz]; rfl) (by simp [Region.binds, Array.getD_eq_getD_getElem?, k12, k13])
                have k15 : l[15]? = some true := LL_ready hr 15 (by simp) (by rw [h.sz]; rfl) (by simp [Region.binds, Array.getD_eq_getD_getElem?, k11, k14])
                have k16 : l[16]? = some true := LL_ready hr 16 (by simp) (by rw [h.sz]; rfl) (by simp [Region.binds, Array.getD_eq_getD_getElem?, k0, k1, k2, k3, k4, k5, k6, k7, k8, k9, k10, k11, k12, k13, k14, k15])
                have ht : t < 17 := by simpa using ht
                rcases (by omega : t = 0 ∨ t = 1 ∨ t = 2 ∨ t = 3 ∨ t = 4 ∨ t = 5 ∨ t = 6 ∨ t = 7 ∨ t = 8 ∨ t = 9 ∨ t = 10 ∨ t = 11 ∨ t = 12 ∨ t = 13 ∨ t = 14 ∨ t = 15 ∨ t = 16) with rfl | rfl | rfl | rfl | rfl | rfl | rfl | rfl | rfl | rfl | rfl | rfl | rfl | rfl | rfl | rfl | rfl
                all_goals assumption
              case hstep =>
                rintro l a' w' t ⟨z, f, rfl, h⟩ hi
                have hi2 := hi
                unfold Region.ready at hi2
                rw [List.mem_filter] at hi2
                obtain ⟨hjj, hi3⟩ := hi2
                have hjj : t < 17 := by simpa using hjj
                have hjl : ¬ LL l t := fun e => by
                  unfold LL at e
                  simp [Array.getD_eq_getD_getElem?, e] at hi3
                clear hi
                rcases (by omega : t = 0 ∨ t = 1 ∨ t = 2 ∨ t = 3 ∨ t = 4 ∨ t = 5 ∨ t = 6 ∨ t = 7 ∨ t = 8 ∨ t = 9 ∨ t = 10 ∨ t = 11 ∨ t = 12 ∨ t = 13 ∨ t = 14 ∨ t = 15 ∨ t = 16) with rfl | rfl | rfl | rfl | rfl | rfl | rfl | rfl | rfl | rfl | rfl | rfl | rfl | rfl | rfl | rfl | rfl
                · clear hi3
                  refine wpOp_step rfl (fun K hK => ?_)
                  go_simp
                  exact hK _ _ ⟨z, _, by simp, h.s0 hjl⟩
                · clear hi3
                  have n16 : ¬ LL l 16 := fun e => hjl (h.c16 e 1 (by omega))
                  have w16 := (h.o16 n16).trans v16
                  refine wpOp_step rfl (fun K hK => ?_)
                  go_simp
                  exact hK _ _ ⟨z, _, by simp [w16, v1], h.read 1 rfl (by omega) hjl (v 1) rfl⟩
                · clear hi3
                  refine wpOp_step rfl (fun K hK => ?_)
                  go_simp
                  exact hK _ _ ⟨z, _, by simp [v2], h.read 2 rfl (by omega) hjl (v 2) rfl⟩
                · have l1 : LL l 1 := LL_of (by simp [Region.binds, Array.getD_eq_getD_getElem?] at hi3; simp [hi3])
                  have l2 : LL l 2 := LL_of (by simp [Region.binds, Array.getD_eq_getD_getElem?] at hi3; simp [hi3])
                  clear hi3
                  have w1 := (h.val 1 rfl l1).trans v1
                  have w2 := (h.val 2 rfl l2).trans v2
                  refine wpOp_step rfl (fun K hK => ?_)
                  go_simp
                  exact hK _ _ ⟨z, _, by simp [w1, w2, v3], h.read 3 rfl (by omega) hjl (v 3) rfl⟩
                · have l0 : LL l 0 := LL_of (by simp [Region.binds, Array.getD_eq_getD_getElem?] at hi3; simp [hi3])
                  have l3 : LL l 3 := LL_of (by simp [Region.binds, Array.getD_eq_getD_getElem?] at hi3; simp [hi3])
                  clear hi3
                  have w3 := (h.val 3 rfl l3).trans v3
                  obtain ⟨⟨g, e0⟩, hk0⟩ := h.k0 l0 hjl
                  rw [e0] at hk0
                  refine wpOp_step rfl (fun K hK => ?_)
                  refine step_append_ints rfl _ _ rfl (w7).heap.size (.slice (some ⟨g, 0, none⟩) 0 0) (.slice (some ⟨ob, oo, none⟩) j oc) [] p (by exact e0) (by exact w3) hk0 ((unhide HPX1).below h.bw) (by simp only [List.length_nil]; omega) h.bw.size (some 49) rfl ?_
                  intro v6 w6 hr6 hg6 hat
                  obtain ⟨ra', rc', rfl⟩ := own_form' hr6
                  exact hK _ _ ⟨z, _, by simp [Act.put, e0, w3], h.s4 hjl l0 hr6 (by rw [e0]; exact hg6) (by rw [e0]; exact hat)⟩
                · clear hi3
                  refine wpOp_step rfl (fun K hK => ?_)
                  go_simp
                  exact hK _ _ ⟨z, _, by simp [v5], h.read 5 rfl (by omega) hjl (v 5) rfl⟩
                · have l5 : LL l 5 := LL_of (by simp [Region.binds, Array.getD_eq_getD_getElem?] at hi3; simp [hi3])
                  clear hi3
                  obtain ⟨q1, u1⟩ := unhide HALL2
                  have q1 := cell_below_' h.bw q1
                  have u1 := cell_below_' h.bw u1
                  have w5 := (h.val 5 rfl l5).trans v5
                  refine wpOp_step rfl (fun K hK => ?_)
                  go_simp
                  exact hK _ _ ⟨z, _, by simp [w5, v6], h.read 6 rfl (by omega) hjl (v 6) rfl⟩
                · clear hi3
                  refine wpOp_step rfl (fun K hK => ?_)
                  go_simp
                  exact hK _ _ ⟨z, _, by simp [v7], h.read 7 rfl (by omega) hjl (v 7) rfl⟩
                · have l6 : LL l 6 := LL_of (by simp [Region.binds, Array.getD_eq_getD_getElem?] at hi3; simp [hi3])
                  have l7 : LL l 7 := LL_of (by simp [Region.binds, Array.getD_eq_getD_getElem?] at hi3; simp [hi3])
                  clear hi3
                  have w6 := (h.val 6 rfl l6).trans v6
                  have w7 := (h.val 7 rfl l7).trans v7
                  refine wpOp_step rfl (fun K hK => ?_)
                  go_simp
                  exact hK _ _ ⟨z, _, by simp [w6, w7, v8], h.read 8 rfl (by omega) hjl (v 8) rfl⟩
                · have l8 : LL l 8 := LL_of (by simp [Region.binds, Array.getD_eq_getD_getElem?] at hi3; simp [hi3])
                  clear hi3
                  obtain ⟨q1, u1⟩ := unhide HALL2
                  have q1 := cell_below_' h.bw q1
                  have u1 := cell_below_' h.bw u1
                  have w8 := (h.val 8 rfl l8).trans v8
                  refine wpOp_step rfl (fun K hK => ?_)
                  go_simp
                  exact hK _ _ ⟨z, _, by simp [w8, v9], h.read 9 rfl (by omega) hjl (v 9) rfl⟩
                · have l9 : LL l 9 := LL_of (by simp [Region.binds, Array.getD_eq_getD_getElem?] at hi3; simp [hi3])
                  clear hi3
                  have w9 := (h.val 9 rfl l9).trans v9
                  have HSS := hide (h.s10 hjl)
                  refine wpOp_step rfl (fun K hK => ?_)
                  go_simp
                  exact hK _ _ ⟨z, _, by simp [w9], unhide HSS⟩
                · have l4 : LL l 4 := LL_of (by simp [Region.binds, Array.getD_eq_getD_getElem?] at hi3; simp [hi3])
                  have l10 : LL l 10 := LL_of (by simp [Region.binds, Array.getD_eq_getD_getElem?] at hi3; simp [hi3])
                  clear hi3
                  obtain ⟨ra, rc', e4⟩ := h.k4 l4
                  have hr4 := h.r4 l4 hjl
                  obtain ⟨g, e10, hc10, hg10, _, _⟩ := h.n10 l10 hjl
                  rw [e4] at hr4
                  refine wpOp_step rfl (fun K hK => ?_)
                  refine step_append_ints rfl _ _ rfl (w7).heap.size (.slice ra p.length rc') (.slice (some ⟨g, 0, none⟩) 1 1) p [x] (by exact e4) (by exact e10) hr4 (ints_cell1 hc10 hg10) (by simp only [List.length_cons, List.length_nil]; omega) h.bw.size (some 56) rfl ?_
                  intro v6 w6 hr6 hg6 _
                  obtain ⟨sa, sc, rfl⟩ := own_form' hr6
                  have hr6' := rowI_snoc hr6
                  exact hK _ _ ⟨z, _, by simp [Act.put, e4, e10], h.s11 hjl l4 l10 hr6' (by rw [e4]; exact hg6)⟩
                · clear hi3
                  have n16 : ¬ LL l 16 := fun e => hjl (h.c16 e 12 (by omega))
                  have w16 := (h.o16 n16).trans v16
                  refine wpOp_step rfl (fun K hK => ?_)
                  go_simp
                  exact hK _ _ ⟨z, _, by simp [w16, v12], h.read 12 rfl (by omega) hjl (v 12) rfl⟩
                · clear hi3
                  refine wpOp_step rfl (fun K hK => ?_)
                  go_simp
                  exact hK _ _ ⟨z, _, by simp [v13], h.read 13 rfl (by omega) hjl (v 13) rfl⟩
                · have l12 : LL l 12 := LL_of (by simp [Region.binds, Array.getD_eq_getD_getElem?] at hi3; simp [hi3])
                  have l13 : LL l 13 := LL_of (by simp [Region.binds, Array.getD_eq_getD_getElem?] at hi3; simp [hi3])
                  clear hi3
                  have w12 := (h.val 12 rfl l12).trans v12
                  have w13 := (h.val 13 rfl l13).trans v13
                  refine wpOp_step rfl (fun K hK => ?_)
                  by_cases cj : oc = j
                  · have hqa : qa = some ⟨ob, oo, none⟩ := by rw [unhide HQA, if_pos cj]
                    subst cj
                    go_simp
                    exact hK _ _ ⟨z, _, (by simp [w12, w13, v14, hqa]; try omega), h.read 14 rfl (by omega) hjl (v 14) rfl⟩
                  · have hqa : qa = some ⟨ob, oo + j, none⟩ := by rw [unhide HQA, if_neg cj]
                    go_simp
                    exact hK _ _ ⟨z, _, by simp [w12, w13, v14, hqa], h.read 14 rfl (by omega) hjl (v 14) rfl⟩
                · have l11 : LL l 11 := LL_of (by simp [Region.binds, Array.getD_eq_getD_getElem?] at hi3; simp [hi3])
                  have l14 : LL l 14 := LL_of (by simp [Region.binds, Array.getD_eq_getD_getElem?] at hi3; simp [hi3])
                  clear hi3
                  have w14 := (h.val 14 rfl l14).trans v14
                  obtain ⟨ra, rc', e11⟩ := h.k11 l11
                  have hr11 := h.r11 l11 hjl
                  rw [e11] at hr11
                  refine wpOp_step rfl (fun K hK => ?_)
                  refine step_append_ints rfl _ _ rfl (w7).heap.size (.slice ra (p.length + 1) rc') (.slice qa (m.length - j) (oc - j)) (p ++ [x]) q (by exact e11) (by exact w14) hr11 ((unhide HQ1).below h.bw) (by simp only [List.length_append, List.length_cons, List.length_nil]; omega) h.bw.size (some 60) rfl ?_
                  intro v6 w6 hr6 hg6 _
                  obtain ⟨sa, sc, rfl⟩ := own_form' hr6
                  exact hK _ _ ⟨z, _, by simp [Act.put, e11, w14], h.s15 hjl l11 hr6 (by rw [e11]; exact hg6)⟩
                · have l0 : LL l 0 := LL_of (by simp [Region.binds, Array.getD_eq_getD_getElem?] at hi3; simp [hi3])
                  have l1 : LL l 1 := LL_of (by simp [Region.binds, Array.getD_eq_getD_getElem?] at hi3; simp [hi3])
                  have l2 : LL l 2 := LL_of (by simp [Region.binds, Array.getD_eq_getD_getElem?] at hi3; simp [hi3])
                  have l3 : LL l 3 := LL_of (by simp [Region.binds, Array.getD_eq_getD_getElem?] at hi3; simp [hi3])
                  have l4 : LL l 4 := LL_of (by simp [Region.binds, Array.getD_eq_getD_getElem?] at hi3; simp [hi3])
                  have l5 : LL l 5 := LL_of (by simp [Region.binds, Array.getD_eq_getD_getElem?] at hi3; simp [hi3])
                  have l6 : LL l 6 := LL_of (by simp [Region.binds, Array.getD_eq_getD_getElem?] at hi3; simp [hi3])
                  have l7 : LL l 7 := LL_of (by simp [Region.binds, Array.getD_eq_getD_getElem?] at hi3; simp [hi3])
                  have l8 : LL l 8 := LL_of (by simp [Region.binds, Array.getD_eq_getD_getElem?] at hi3; simp [hi3])
                  have l9 : LL l 9 := LL_of (by simp [Region.binds, Array.getD_eq_getD_getElem?] at hi3; simp [hi3])
                  have l10 : LL l 10 := LL_of (by simp [Region.binds, Array.getD_eq_getD_getElem?] at hi3; simp [hi3])
                  have l11 : LL l 11 := LL_of (by simp [Region.binds, Array.getD_eq_getD_getElem?] at hi3; simp [hi3])
                  have l12 : LL l 12 := LL_of (by simp [Region.binds, Array.getD_eq_getD_getElem?] at hi3; simp [hi3])
                  have l13 : LL l 13 := LL_of (by simp [Region.binds, Array.getD_eq_getD_getElem?] at hi3; simp [hi3])
                  have l14 : LL l 14 := LL_of (by simp [Region.binds, Array.getD_eq_getD_getElem?] at hi3; simp [hi3])
                  have l15 : LL l 15 := LL_of (by simp [Region.binds, Array.getD_eq_getD_getElem?] at hi3; simp [hi3])
                  clear hi3
                  have hall : ∀ j, j < 16 → LL l j := fun t ht => by
                    rcases (by omega : t = 0 ∨ t = 1 ∨ t = 2 ∨ t = 3 ∨ t = 4 ∨ t = 5 ∨ t = 6 ∨ t = 7 ∨ t = 8 ∨ t = 9 ∨ t = 10 ∨ t = 11 ∨ t = 12 ∨ t = 13 ∨ t = 14 ∨ t = 15) with rfl | rfl | rfl | rfl | rfl | rfl | rfl | rfl | rfl | rfl | rfl | rfl | rfl | rfl | rfl | rfl
                    all_goals assumption
                  have HSS := hide (h.s16 hjl hall (f 15) rfl)
                  refine wpOp_step rfl (fun K hK => ?_)
                  go_simp
                  exact hK _ _ ⟨z, _, by simp, unhide HSS⟩
              case hend =>
                rintro l a' w' ⟨z, f, rfl, h⟩ hall
                have l16 : LL l 16 := hall 16 (by decide)
                have l15 : LL l 15 := hall 15 (by decide)
                have e16 := h.a16 l16
                obtain ⟨⟨ra, rc', e15⟩, hr15⟩ := h.r15 l15
                rw [e15] at e16 hr15
                have HRR15 := hide hr15
                have hbw' := h.bw
                clear h hall l16 l15 hr15
                obtain ⟨gb, go, rfl⟩ : ∃ gb go, ra = some ⟨gb, go, none⟩ := by
                  obtain ⟨a, c, e, _, _, h3⟩ := owns_ints (unhide HRR15)
                  injection e with e1 _ _
                  obtain ⟨b, o, e2, _⟩ := h3 (by simp; omega)
                  exact ⟨b, o, by rw [e1, e2]⟩
                have HI2 := hide (owns_ints (unhide HRR15))
                obtain ⟨L, hL⟩ : ∃ L, (p ++ [x] ++ q).length = L := ⟨_, rfl⟩
                have HLL := hide hL
                have HB2 := hide (step_b (step_b (unhide HBL) (unhide HBW)) hbw')
                rw [hL] at e16
                rw [e16]
                clear hL hbw' e16 e15
                go_wp2_with fail
                go_roundw
                case rel => exact ⟨k + 1, p ++ [x] ++ q, gb, go, rc', by omega, by go_num, by rw [unhide HLL], HI2, hide (unhide HNS).symm, unhide HB2⟩
                case measure => simp [intOf]; omega
      · obtain rfl : k = rs.length := by omega
        have hmm := unhide HMm
        rw [List.take_of_length_le (Nat.le_refl _)] at hmm
        have hT := (unhide HT5).below hbl
        have hQ := (unhide HQ5).below hbl
        obtain ⟨nv', rv', e, hn5, _⟩ := (unhide HC5).below hbl
        simp only [Value.agg.injEq, Array.mk.injEq, List.cons.injEq, and_true] at e
        obtain ⟨rfl, rfl⟩ := e
        simp only at hn5
        have hT1 := hT.st1 (.slice (some ⟨ob, oo, none⟩) m.length oc)
        have hQ1 := hQ.far (a := ⟨W3.heap.size, 1, none⟩) (by show W3.heap.size ≠ w.heap.size + 1; omega) (.slice (some ⟨ob, oo, none⟩) m.length oc)
        have hQ2 := hQ1.st0 (.slice ma ns.length mc)
        have hX := hQ2.st1 (.slice (some ⟨ob, oo, none⟩) m.length oc)
        have hN3 := ((hn5.box hT 1 (.slice (some ⟨ob, oo, none⟩) m.length oc)).box hQ1 0 (.slice ma ns.length mc)).box hQ2 1 (.slice (some ⟨ob, oo, none⟩) m.length oc)
        have hI3 := (((unhide HIm).box hT 1 (.slice (some ⟨ob, oo, none⟩) m.length oc)).box hQ1 0 (.slice ma ns.length mc)).box hQ2 1 (.slice (some ⟨ob, oo, none⟩) m.length oc)
        rw [hmm] at hI3
        have hDD : DataAt (((wr.setCell ⟨W3.heap.size, 1, none⟩ (.slice (some ⟨ob, oo, none⟩) m.length oc)).setCell ⟨w.heap.size + 1, 0, none⟩ (.slice ma ns.length mc)).setCell ⟨w.heap.size + 1, 1, none⟩ (.slice (some ⟨ob, oo, none⟩) m.length oc)) (.agg #[.slice ma ns.length mc, .slice (some ⟨ob, oo, none⟩) m.length oc]) (ns, srt r rs) := ⟨_, _, rfl, hN3, by rw [hmm]; exact hI3⟩
        have hE := (((step_b (unhide HB5) hbl).setCell (p := ⟨W3.heap.size, 1, none⟩) (by show w.heap.size ≤ W3.heap.size; omega) (.slice (some ⟨ob, oo, none⟩) m.length oc)).setCell (p := ⟨w.heap.size + 1, 0, none⟩) (by show w.heap.size ≤ w.heap.size + 1; omega) (.slice ma ns.length mc)).setCell (p := ⟨w.heap.size + 1, 1, none⟩) (by show w.heap.size ≤ w.heap.size + 1; omega) (.slice (some ⟨ob, oo, none⟩) m.length oc)
        have HDD := hide hDD
        have HEE := hide hE
        have t0 := hT.n0
        have t1 := hT.n1
        have tf := hT.f
        have s0 := hT1.n0
        have s1 := hT1.n1
        have q0 := hQ1.n0
        have q1 := hQ1.n1
        have qf := hQ1.f
        have z0 := hX.n0
        have z1 := hX.n1
        clear hDD hE hX hT hT1 hQ hQ1 hQ2 hN3 hI3 hn5 hmm
        go_wp2_with fail
        refine bodyPost_ret (v := .agg #[.slice ma ns.length mc, .slice (some ⟨ob, oo, none⟩) m.length oc]) (by simp [results, Tryz.results17, go_sem, z0, z1]) rfl ⟨⟨_, _, rfl, unhide HDD⟩, unhide HEE⟩
  · rw [ho]
    obtain rfl : M = ([], []) := by rw [← unhide HM, sort_no ho]
    clear ho
    have HRF := hide (((unhide HQ1).st0 (.slice none 0 0)).st1 (.slice none 0 0))
    have z0 := (unhide HRF).n0
    have z1 := (unhide HRF).n1
    have q0 := (unhide HQ1).n0
    have q1 := (unhide HQ1).n1
    have qf := (unhide HQ1).f
    have HBF := hide (((unhide HB1).setCell (p := ⟨w.heap.size + 1, 0, none⟩) (Nat.le_succ _) (.slice none 0 0)).setCell (p := ⟨w.heap.size + 1, 1, none⟩) (Nat.le_succ _) (.slice none 0 0))
    go_wp2_with fail
    refine bodyPost_ret (v := .agg #[.slice none 0 0, .slice none 0 0]) (by simp [results, Tryz.results17, go_sem, z0, z1]) rfl ⟨⟨_, _, rfl, (own_none _ _ (Nat.le_refl _)).at⟩, unhide HBF⟩
end Go.Proofs.YtpbnmhnbkfnaeaaGreatDoor
/- The law of TabSort: what holds if both sides answer alike. -/
namespace Go.Proofs.YtpbnmhnbkfnaeaaGreatDoor
open Go.RowKit Nt

set_option maxRecDepth 100000 in
set_option maxHeartbeats 4000000 in
theorem lawSort_main (nv rv : Value) (d M : Dt) (w : World) (h : DataAt w (.agg #[nv, rv]) d)
    (hspec : ∀ u W, Below w.heap.size w W → DataAt W u d → d.1.length ≤ 1048576 ∧ d.2.length ≤ 1048576 ∧ NsSmall d.1 → Calls Tryz.prog 17 #[u] W fun e W' => (∃ mn mr, e = .returned (.agg #[mn, mr]) ∧ DataAt W' (.agg #[mn, mr]) M) ∧ Below W.heap.size W W')
    (himpl : ∀ u W, Below w.heap.size w W → DataAt W u d → d.1.length ≤ 1048576 ∧ d.2.length ≤ 1048576 ∧ NsSmall d.1 → Calls Tryz.prog 15 #[u] W fun e W' => (∃ gn gr, e = .returned (.agg #[gn, gr]) ∧ DataOwn W' W.heap.size W'.heap.size (.agg #[gn, gr]) M) ∧ Below W.heap.size W W')
    (hM : d.1.length ≤ 1048576 ∧ d.2.length ≤ 1048576 ∧ NsSmall d.1 → M.1.length ≤ 1048576 ∧ M.2.length ≤ 1048576 ∧ NsSmall M.1) :
    Calls Tryz.prog 6 #[.agg #[nv, rv]] w fun e w' => e = .returned (.bool true) ∧ Below w.heap.size w w' := by
  have HD := hide h
  have HS := hide hspec
  have HI := hide himpl
  have HM := hide hM
  have HB := hide (step_a (Below.refl w.heap.size w) (.cells #[nv, rv] 42))
  have HbA := hide (AtC2.new w nv rv 42)
  clear h hspec himpl hM
  go_enter Tryz.func6, Tryz.ntmps6
  go_wp2_with fail
  have h := szReadData_c _ d _ ((unhide HD).below (unhide HB))
  refine h.mono ?_
  clear h
  rintro e w1 ⟨⟨r, rfl, hr⟩, hb⟩
  -- behind hb : Below of the world: every box, and what is below all
  replace HB := hide (step_b (unhide HB) hb)
  replace HbA := hide ((unhide HbA).below hb)
  clear hb
  by_cases hr0 : r < 0
  · go_wp2
    go_ret
    exact ⟨rfl, unhide HB⟩
  have hsm := hr (by omega)
  clear hr
  have HSM := hide hsm
  have hMs := (unhide HM) hsm
  have hcd := cntD_le hsm.1 hsm.2.1 hsm.2.2
  have hcM := cntD_le hMs.1 hMs.2.1 hMs.2.2
  clear hsm hMs HM
  have a0 := (unhide HbA).n0
  have a1 := (unhide HbA).n1
  -- the specification's answer
  go_wp2_with fail
  have h := toReadData_c _ d w1 ((unhide HD).below (unhide HB)) (unhide HSM)
  refine h.mono ?_
  clear h
  rintro e w2 ⟨⟨u1, rfl, hu1⟩, hb⟩
  -- behind hb : Below of the world: every box, and what is below all
  replace HB := hide (step_b (unhide HB) hb)
  replace HbA := hide ((unhide HbA).below hb)
  have HU1 := hide hu1.at
  clear hb hu1 a0 a1
  go_wp2_with fail
  have h := (unhide HS) u1 w2 (unhide HB) (unhide HU1) (unhide HSM)
  refine h.mono ?_
  clear h
  rintro e w3 ⟨⟨mn, mr, rfl, hm0⟩, hb⟩
  obtain ⟨p0, p1, p2, p3, p4, p5, rfl, rfl⟩ := hm0.slices

  -- behind hb : Below of the world: every box, and what is below all
  replace HB := hide (step_b (unhide HB) hb)
  replace HbA := hide ((unhide HbA).below hb)
  have HM0 := hide hm0
  have s03 := (unhide HB).size
  clear hb hm0 HU1 HS
  have a0 := (unhide HbA).n0
  have a1 := (unhide HbA).n1
  have al := (unhide HbA).lt
  -- the copy
  go_wp2_with fail
  replace HB := hide (step_a (unhide HB) (.cells #[.slice p0 p1 p2, .slice p3 p4 p5] 26))
  have h := toReadData_c _ d (w3.alloc (.cells #[.slice p0 p1 p2, .slice p3 p4 p5] 26)) ((unhide HD).below (unhide HB)) (unhide HSM)
  refine h.mono ?_
  clear h
  rintro e w4 ⟨⟨u2, rfl, hx0⟩, hb⟩
  obtain ⟨xn, xr, rfl⟩ := hx0.at.form
  obtain ⟨q0, q1, q2, q3, q4, q5, rfl, rfl⟩ := hx0.at.slices
  replace HB := hide (step_b (unhide HB) hb)
  replace HbA := hide (((unhide HbA).alloc _).below hb)
  have HbM := hide ((AtC2.new w3 (.slice p0 p1 p2) (.slice p3 p4 p5) 26).below hb)
  have HB3 := hide (step_b (step_a (Below.refl w3.heap.size w3) (.cells #[.slice p0 p1 p2, .slice p3 p4 p5] 26)) hb)
  have HX0 := hide hx0
  have e1 : (w3.alloc (.cells #[.slice p0 p1 p2, .slice p3 p4 p5] 26)).heap.size = w3.heap.size + 1 := by simp
  have s34 := hb.size
  clear hb hx0 a0 a1 al
  -- the program's answer
  go_wp2_with fail
  replace HB := hide (step_a (unhide HB) (.cells #[.slice q0 q1 q2, .slice q3 q4 q5] 26))
  have h := (unhide HI) _ (w4.alloc (.cells #[.slice q0 q1 q2, .slice q3 q4 q5] 26)) (unhide HB) (((unhide HX0).at).below ((Below.refl _ _).alloc (Nat.le_refl _) _)) (unhide HSM)
  refine h.mono ?_
  clear h
  rintro e w5 ⟨⟨gn, gr0, rfl, hg0⟩, hb⟩
  obtain ⟨r0, r1, r2, r3, r4, r5, rfl, rfl⟩ := hg0.at.slices
  replace HB := hide (step_b (unhide HB) hb)
  replace HB3 := hide (step_b (step_a (unhide HB3) (.cells #[.slice q0 q1 q2, .slice q3 q4 q5] 26)) hb)
  replace HbA := hide (((unhide HbA).alloc _).below hb)
  replace HbM := hide (((unhide HbM).alloc _).below hb)
  have HbX := hide ((AtC2.new w4 (.slice q0 q1 q2) (.slice q3 q4 q5) 26).below hb)
  have HX1 := hide (((unhide HX0).below ((Below.refl _ _).alloc (Nat.le_refl _) (.cells #[.slice q0 q1 q2, .slice q3 q4 q5] 26))).below hb)
  have HG0 := hide hg0
  have e2 : (w4.alloc (.cells #[.slice q0 q1 q2, .slice q3 q4 q5] 26)).heap.size = w4.heap.size + 1 := by simp
  have s45 := hb.size
  clear hb hg0 HX0
  have m0 := (unhide HbM).n0
  have m1 := (unhide HbM).n1
  have ml := (unhide HbM).lt
  go_wp2_with fail
  have h := eqReadData_c _ _ M (w5.alloc (.cells #[.slice r0 r1 r2, .slice r3 r4 r5] 26)) (((unhide HG0).at).below ((Below.refl _ _).alloc (Nat.le_refl _) _)) ((unhide HM0).below (step_a (unhide HB3) _))
  refine h.mono ?_
  clear h
  rintro e w6 ⟨rfl, hb⟩
  replace HB := hide (step_b (step_a (unhide HB) (.cells #[.slice r0 r1 r2, .slice r3 r4 r5] 26)) hb)
  replace HB3 := hide (step_b (step_a (unhide HB3) (.cells #[.slice r0 r1 r2, .slice r3 r4 r5] 26)) hb)
  replace HbA := hide (((unhide HbA).alloc _).below hb)
  replace HbM := hide (((unhide HbM).alloc _).below hb)
  replace HbX := hide (((unhide HbX).alloc _).below hb)
  have HbG := hide ((AtC2.new w5 (.slice r0 r1 r2) (.slice r3 r4 r5) 26).below hb)
  replace HX1 := hide (((unhide HX1).below ((Below.refl _ _).alloc (Nat.le_refl _) (.cells #[.slice r0 r1 r2, .slice r3 r4 r5] 26))).below hb)
  replace HG0 := hide (((unhide HG0).below ((Below.refl _ _).alloc (Nat.le_refl _) (.cells #[.slice r0 r1 r2, .slice r3 r4 r5] 26))).below hb)
  clear hb m0 m1 ml
  -- what was handed in is as it was
  have x0 := (unhide HbX).n0
  have x1 := (unhide HbX).n1
  have a0 := (unhide HbA).n0
  have a1 := (unhide HbA).n1
  go_wp2_with fail
  go_region_held3 (fun w' => w'.cell? ⟨w4.heap.size, 0, none⟩ = some (.slice q0 q1 q2) ∧ w'.cell? ⟨w4.heap.size, 1, none⟩ = some (.slice q3 q4 q5) ∧ w'.cell? ⟨w.heap.size, 0, none⟩ = some nv ∧ w'.cell? ⟨w.heap.size, 1, none⟩ = some rv) (((try dsimp only); (repeat' apply And.intro) <;> (first | with_reducible assumption | exact x0 | exact x1 | exact a0 | exact a1))) (first | (go_at_call 22; refine (toReadData_c _ d w6.drew ((unhide HD).below ((unhide HB).drew)) (unhide HSM)).mono ?_; rintro e w7 ⟨⟨u4, rfl, hu4⟩, hb7⟩; have HB7 : Hid (Below w6.heap.size w6 w7) := (Below.refl w6.heap.size w6).drew.trans hb7; have HU4 := hide hu4.at; have y0 := ((unhide HbX).below (unhide HB7)).n0; have y1 := ((unhide HbX).below (unhide HB7)).n1; have b0 := ((unhide HbA).below (unhide HB7)).n0; have b1 := ((unhide HbA).below (unhide HB7)).n1; clear hu4 hb7) | (go_at_call 23; refine (eqReadData_c _ _ d w7 (((unhide HX1).below (unhide HB7)).at) (unhide HU4)).mono ?_; rintro e w8 ⟨rfl, hb8⟩; have HB8 : Hid (Below w6.heap.size w6 w8) := step_b (unhide HB7) hb8; have z0 := ((unhide HbX).below (unhide HB8)).n0; have z1 := ((unhide HbX).below (unhide HB8)).n1; have c0 := ((unhide HbA).below (unhide HB8)).n0; have c1 := ((unhide HbA).below (unhide HB8)).n1; clear hb8))
  replace HB := hide (step_b (unhide HB) (unhide HB8))
  replace HB3 := hide (step_b (unhide HB3) (unhide HB8))
  replace HbA := hide ((unhide HbA).below (unhide HB8))
  replace HbM := hide ((unhide HbM).below (unhide HB8))
  replace HbX := hide ((unhide HbX).below (unhide HB8))
  replace HbG := hide ((unhide HbG).below (unhide HB8))
  replace HX1 := hide ((unhide HX1).below (unhide HB8))
  replace HG0 := hide ((unhide HG0).below (unhide HB8))
  clear x0 x1 a0 a1 y0 y1 b0 b1 c0 c1 HB7 HU4 HB8
  -- marks into what was handed in
  go_wp2_with fail
  have h := markReadData_c _ d 1 _ _ w8 (unhide HX1) (by omega) (by omega)
  refine h.mono ?_
  clear h
  rintro e w9 ⟨rfl, _, hk⟩
  rw [e1] at hk
  have s38 := (unhide HB3).size
  have hk3 : Below w3.heap.size w8 w9 := hk.below s38 (fun b hb => by have := hb.1; omega)
  replace HB := hide ((unhide HB).trans (hk3.mono s03))
  replace HB3 := hide ((unhide HB3).trans hk3)
  replace HbA := hide ((unhide HbA).kept hk (by unfold dataBlocks; omega))
  replace HbM := hide ((unhide HbM).kept hk (by unfold dataBlocks; omega))
  replace HbG := hide ((unhide HbG).kept hk (by unfold dataBlocks; omega))
  replace HG0 := hide (hk.data (unhide HG0) (fun b h1 _ h3 => by have := h3.2; omega))
  clear hk hk3 HbX HX1 z0 z1
  have g0 := (unhide HbG).n0
  have g1 := (unhide HbG).n1
  have m0 := (unhide HbM).n0
  have m1 := (unhide HbM).n1
  have hn : ¬ ((1 + cntD d : Nat) : Int) < 0 := by omega
  go_wp2_with fail
  have h := eqReadData_c _ _ M w9 (unhide HG0).at ((unhide HM0).below (unhide HB3))
  refine h.mono ?_
  clear h
  rintro e w10 ⟨rfl, hb⟩
  clear hn g0 g1 m0 m1
  replace HB := hide (step_b (unhide HB) hb)
  replace HB3 := hide (step_b (unhide HB3) hb)
  replace HbA := hide ((unhide HbA).below hb)
  replace HbM := hide ((unhide HbM).below hb)
  replace HbG := hide ((unhide HbG).below hb)
  replace HG0 := hide ((unhide HG0).below hb)
  clear hb
  -- marks into the answer
  have g0 := (unhide HbG).n0
  have g1 := (unhide HbG).n1
  go_wp2_with fail
  have h := markReadData_c _ M 1 _ _ w10 (unhide HG0) (by omega) (by omega)
  refine h.mono ?_
  clear h
  rintro e w11 ⟨rfl, hgm, hk⟩
  rw [e2] at hk
  have s310 := (unhide HB3).size
  have hk3 : Below w3.heap.size w10 w11 := hk.below s310 (fun b hb => by have := hb.1; omega)
  replace HB := hide ((unhide HB).trans (hk3.mono s03))
  replace HB3 := hide ((unhide HB3).trans hk3)
  replace HbA := hide ((unhide HbA).kept hk (by unfold dataBlocks; omega))
  replace HbM := hide ((unhide HbM).kept hk (by unfold dataBlocks; omega))
  replace HbG := hide ((unhide HbG).kept hk (by unfold dataBlocks; omega))
  clear HG0
  have HG0 := hide hgm
  clear hk hk3 hgm g0 g1
  have g0 := (unhide HbG).n0
  have g1 := (unhide HbG).n1
  go_wp2_with fail
  have h := heldReadData_c _ 1 M w11 (unhide HG0).at (by omega) (by omega)
  refine h.mono ?_
  clear h
  rintro e w12 ⟨rfl, hb⟩
  clear g0 g1
  replace HB := hide (step_b (unhide HB) hb)
  replace HB3 := hide (step_b (unhide HB3) hb)
  replace HbA := hide ((unhide HbA).below hb)
  replace HbM := hide ((unhide HbM).below hb)
  replace HbG := hide ((unhide HbG).below hb)
  replace HG0 := hide ((unhide HG0).below hb)
  clear hb
  have hn : ¬ ((1 + cntD M : Nat) : Int) < 0 := by omega
  have a0 := (unhide HbA).n0
  have a1 := (unhide HbA).n1
  -- once more
  go_wp2_with fail
  have h := toReadData_c _ d w12 ((unhide HD).below (unhide HB)) (unhide HSM)
  refine h.mono ?_
  clear h
  rintro e w13 ⟨⟨u5, rfl, hu5⟩, hb⟩
  clear a0 a1
  replace HB := hide (step_b (unhide HB) hb)
  replace HB3 := hide (step_b (unhide HB3) hb)
  replace HbA := hide ((unhide HbA).below hb)
  replace HbM := hide ((unhide HbM).below hb)
  replace HbG := hide ((unhide HbG).below hb)
  replace HG0 := hide ((unhide HG0).below hb)
  have HU5 := hide hu5.at
  clear hb hu5
  go_wp2_with fail
  have h := (unhide HI) u5 w13 (unhide HB) (unhide HU5) (unhide HSM)
  refine h.mono ?_
  clear h
  rintro e w14 ⟨⟨hn0, hr0', rfl, hh⟩, hb⟩
  obtain ⟨t0, t1, t2, t3, t4, t5, rfl, rfl⟩ := hh.at.slices
  replace HB := hide (step_b (unhide HB) hb)
  replace HB3 := hide (step_b (unhide HB3) hb)
  replace HbA := hide ((unhide HbA).below hb)
  replace HbM := hide ((unhide HbM).below hb)
  replace HbG := hide ((unhide HbG).below hb)
  replace HG0 := hide ((unhide HG0).below hb)
  have HH := hide hh.at
  clear hb hh HU5 HI
  have m0 := (unhide HbM).n0
  have m1 := (unhide HbM).n1
  have ml := (unhide HbM).lt
  go_wp2_with fail
  have h := eqReadData_c _ _ M (w14.alloc (.cells #[.slice t0 t1 t2, .slice t3 t4 t5] 26)) ((unhide HH).below ((Below.refl _ _).alloc (Nat.le_refl _) _)) ((unhide HM0).below (step_a (unhide HB3) _))
  refine h.mono ?_
  clear h
  rintro e w15 ⟨rfl, hb⟩
  replace HB := hide (step_b (step_a (unhide HB) (.cells #[.slice t0 t1 t2, .slice t3 t4 t5] 26)) hb)
  replace HbG := hide (((unhide HbG).alloc _).below hb)
  replace HG0 := hide (((unhide HG0).below ((Below.refl _ _).alloc (Nat.le_refl _) (.cells #[.slice t0 t1 t2, .slice t3 t4 t5] 26))).below hb)
  clear hb m0 m1 ml HH HM0 HB3 HbA HbM
  have g0 := (unhide HbG).n0
  have g1 := (unhide HbG).n1
  go_wp2_with fail
  have h := heldReadData_c _ 1 M w15 (unhide HG0).at (by omega) (by omega)
  refine h.mono ?_
  clear h
  rintro e w16 ⟨rfl, hb⟩
  replace HB := hide (step_b (unhide HB) hb)
  clear hb g0 g1
  go_wp2
  go_ret
  exact ⟨rfl, unhide HB⟩
end Go.Proofs.YtpbnmhnbkfnaeaaGreatDoor
namespace Go.Proofs.YtpbnmhnbkfnaeaaGreatDoor
open Go.ChangeShapes Go.WideShapes Go.ChangeAt Go.RowKit Go.Joins Nt

theorem sort_small (d : Dt) (h : d.1.length ≤ 1048576 ∧ d.2.length ≤ 1048576 ∧ NsSmall d.1) : (sortM d).1.length ≤ 1048576 ∧ (sortM d).2.length ≤ 1048576 ∧ NsSmall (sortM d).1 := by
  cases ho : okD d with
  | true => rw [sort_yes ho]; exact ⟨h.1, by rw [srt_len]; exact h.2.1, h.2.2⟩
  | false => rw [sort_no ho]; exact ⟨by simp, by simp, fun nd hm => by simp at hm⟩
theorem lawTabSort_c (nv rv : Value) (d : Dt) (w : World) (hd : DataAt w (.agg #[nv, rv]) d) (hT : Tabz w) (hN : Tens w) (h3 : 3 < w.heap.size) :
    Calls Tryz.prog 6 #[.agg #[nv, rv]] w fun r w' => r = .returned (.bool true) ∧ Below w.heap.size w w' :=
  lawSort_main nv rv d (sortM d) w hd (fun u W _ h1 s1 => specTabSort_c d u W h1 s1)
    (fun u W hW h1 s1 => by
      obtain ⟨n', r', rfl, k1, k2⟩ := h1
      exact implTabSort_c n' r' d W ⟨n', r', rfl, k1, k2⟩ s1 (hT.below (by omega) hW) (hN.belowB hW h3) (Nat.lt_of_lt_of_le h3 hW.size))
    (sort_small d)

theorem own : ownKnob Tryz.prog.godebug = none := by kernel_rfl
theorem laidOut : laidOutB Tryz.prog = true := by kernel_rfl
theorem cellsData : Tryz.prog.cellsOf 42 = 2 := by kernel_rfl
theorem gTens : Tryz.prog.globalNamed "loop.example/sistab/impl.natTens" = some 3 := by kernel_rfl
theorem gTensType : (Tryz.prog.globals[3]?).map (·.type) = some 238 := by kernel_rfl
theorem cellsWord : Tryz.prog.cellsOf 173 = 1 := by kernel_rfl
theorem cellsTens : Tryz.prog.cellsOf 238 = 9 := by kernel_rfl
theorem u8X : Go.Proofs.U8Extra Tryz.prog Tryz.lays196_ren := ⟨by kernel_rfl, by kernel_rfl, by kernel_rfl, by kernel_rfl, by kernel_rfl, by kernel_rfl, by kernel_rfl⟩
theorem accept_eq : (Rows.laid_unicode_utf8_acceptRanges : DataW Unit) = Lib.acceptData := by kernel_rfl
theorem tens_data : (Rows.laid_loop_example_sistab_impl_natTens : DataW Unit) = Lib.tabData .u64 [1, 10, 100, 1000, 10000, 100000, 1000000, 10000000, 100000000] := by kernel_rfl

theorem var_below {P : Program} {B g : Nat} {W W' : World} {n : String} {cs : Array Value} (h : Below B W W') (hg : P.globalNamed n = some g) (hgB : g < B) (hv : W.var? P n = some cs) : W'.var? P n = some cs := by
  unfold World.var? at hv ⊢
  simp only [hg, Option.bind_some] at hv ⊢
  rw [h.block g hgB]
  exact hv
/-- the two tables of unicode/utf8, out of the row's condition -/
theorem tabs_of_laid {W : World} (h : laidMet Tryz.prog Rows.fnExactTabSortRow.laid W) : Tabz W :=
  Go.Proofs.utf8Tabs_of_readsT (ρ := Tryz.lays196_ren) (Go.Proofs.U8Types.of196 Tryz.lays196) u8X (Pinned.utf8First_eq ▸ Lib.laidMet.reads h (.tail _ (.tail _ (.head _)))) (accept_eq ▸ Lib.laidMet.reads h (.head _))
/-- the table of tens, out of the row's condition -/
theorem tens_of_laid {W : World} (h : laidMet Tryz.prog Rows.fnExactTabSortRow.laid W) : Tens W := by
  have hT : Lib.TabIs Tryz.prog W "loop.example/sistab/impl.natTens" .u64 [1, 10, 100, 1000, 10000, 100000, 1000000, 10000000, 100000000] := by
    obtain ⟨g, t, cs, fuel, p, h1, h2, h3, h4⟩ := Lib.laidMet.reads h (.tail _ (.head _))
    obtain rfl := Option.some.inj (gTens.symm.trans h1)
    obtain rfl := Option.some.inj (gTensType.symm.trans h2)
    rw [tens_data] at h4
    have e := Lib.cells_of_tab Tryz.underlying238 Tryz.underlying173 cellsWord cellsTens h4
    unfold Lib.TabIs
    rw [h3, ← e]
  intro j hj
  have h0 := hT.cell gTens j (by simpa using hj)
  rw [h0]
  match j, hj with
  | 0, _ => rfl
  | 1, _ => rfl
  | 2, _ => rfl
  | 3, _ => rfl
  | 4, _ => rfl
  | 5, _ => rfl
  | 6, _ => rfl
  | 7, _ => rfl
  | 8, _ => rfl

set_option maxRecDepth 100000 in
theorem sort_lifted (os : Os) (started : os.Started) (H : Type) (enc : TypeId × Value → H) :
    ReturnsInHanded {} Tryz.checked os 6 .any (fun w args => (Rows.fnExactTabSortSpec.pre enc Tryz.prog Tryz.f6 [] false w args ∧ laidMetH Tryz.prog Rows.fnExactTabSortRow.laid w) ∧ sizedMet enc Tryz.prog Tryz.f6 (OpenSpec.ofChange Rows.fnExactTabSortSpec) false w args)
      (Rows.fnExactTabSortSpec.post enc Tryz.prog Tryz.f6 false true false false) := by
  refine returnsInHanded_of_change_and (C := Tryz.checked) (X := fun w _ => laidMetH Tryz.prog Rows.fnExactTabSortRow.laid w) (fun _ _ _ hh h => h.of_heap hh) own started (by kernel_rfl) Tryz.func6
    (ChangeSpec.witness_shaped (enc := enc) (C := Tryz.checked) (os := os) (X := fun w _ => laidMetH Tryz.prog Rows.fnExactTabSortRow.laid w) false (World.laidAll Tryz.prog os Rows.fnExactTabSortRow.laid) #[.agg #[.slice none 0 0, .slice none 0 0]] 8 (World.laidAll_os _ _ _)
      (World.shaped_of_ZipB (by kernel_rfl) (by kernel_rfl)) (by kernel_rfl) (by kernel_rfl) (by kernel_rfl)
      (by rw [MakeChecks.laidMetH_plain _ _ _ (by kernel_rfl)]; exact laidMet_laidAll _ (by kernel_rfl) (by kernel_rfl))) ?_
  intro W base args ds gs before hval0 hW _ _ hL _
  have hval : ∀ (j : Nat) t v, Tryz.f6.params[j]? = some t → args[j]? = some v → Value.okWide Tryz.prog W .any base t v := hval0
  have hW' := hW
  obtain ⟨p, q, hA0, hV0, rfl, _, _⟩ := hW
  have hA : DataW.TrodAll enc Tryz.prog W 0 (fun _ => true) true Tryz.f6.params.toList args.toList ds p := hA0
  have hV : DataW.TrodVars enc Tryz.prog W (fun _ => true) ["loop.example/sistab/impl.natTens"] gs q := hV0
  rw [Tryz.params6] at hA hval
  obtain ⟨v0, vs0, d0, ds0, p0, q0, hargs, rfl, rfl, h0, r0⟩ := trodAll_cons hA
  obtain ⟨rfl, rfl, rfl⟩ := trodAll_nil r0
  obtain rfl : args = #[v0] := by cases args; simp_all
  obtain ⟨g, t, cs, fuel, d, p', rfl, hg, ht, hvar, hd, rfl⟩ := trodVars_one hV
  obtain rfl := Option.some.inj (gTens.symm.trans hg)
  obtain rfl := Option.some.inj (gTensType.symm.trans ht)
  have k0 := h0
  have lt0 : ∀ x ∈ p0, x.block < W.heap.size := by obtain ⟨m, hm⟩ := k0; exact DataW.trod_lt m _ _ _ hm
  have ltv : ∀ x ∈ p', x.block < W.heap.size := DataW.trod_lt fuel _ _ _ hd
  obtain ⟨c0, c1, y0, y1, m0, rfl, hd0, hp0, hy0, hy1⟩ := open_agg2 Tryz.underlying42 (by kernel_rfl) cellsData (hval 0 42 v0 rfl rfl) h0
  obtain ⟨ns, hns, _⟩ := nodes_in hy0
  obtain ⟨rs, hrs⟩ := ints_in hy1
  have hL' := hL
  rw [MakeChecks.laidMetH_plain _ _ _ (by kernel_rfl)] at hL'
  have hT := tens_of_laid hL'
  have hZ := tabs_of_laid hL'
  have hgl : 3 < W.heap.size := World.block_lt_of_cell? W _ (hT 0 (by omega))
  clear hA0 hval0 hV0
  refine (lawTabSort_c c0 c1 (ns, rs) W ⟨c0, c1, rfl, hns, hrs⟩ hZ hT hgl).mono fun e W' ⟨he, bel⟩ => ?_
  subst he
  obtain ⟨fuel', hd'⟩ := Below.trod laidOut (by kernel_rfl) (of_decide_eq_true (by kernel_rfl)) (v := .agg cs) (⟨fuel, by simpa [Value.cells] using hd⟩ : DataW.Trod enc Tryz.prog W 0 (fun _ => true) true 238 (.agg cs) d p') bel ltv
  have hv' := trodVars_mk1 (enc := enc) (spare := fun b => decide (b < W.heap.size)) hg ht (var_below bel hg hgl hvar) (by simpa [Value.cells] using hd')
  exact ⟨_, rfl, _, _, _, [], _, _, hW', trodAll_mk1 (shut_bool Tryz.underlying4 _), (trodAll_cons_mk (Below.trod laidOut (by kernel_rfl) (of_decide_eq_true (by kernel_rfl)) k0 bel lt0) trodAll_mk0), hv', bel.frame _, fun h => by cases h⟩

theorem sort_holds : Rows.FnExactTabSortSaid :=
  OpenClaim.holds_of_wide 6 Tryz.f6 rfl rfl rfl rfl rfl rfl rfl ⟨rfl, rfl, rfl, rfl, rfl⟩ rfl rfl rfl rfl rfl (by kernel_rfl) Tryz.func6 (by kernel_rfl)
    (of_decide_eq_true (by kernel_rfl)) (by unfold Func.isWrapper; first | (rw [if_pos (by decide +kernel)]; kernel_rfl) | (rw [if_neg (by decide +kernel)]; exact ⟨rfl, rfl⟩))
    (fun os started H enc _ => sort_lifted os started H enc)
theorem fnExactTabSort_card : Rows.FnExactTabSortCardSaid :=
  Claim7.holds_tied_plain_at .later [] [.data, .data, .pinned] true Rows.fnExactTabSortCard.stood.harness false sort_holds (fun _ h => by cases h) (by kernel_rfl) (fun _ h => by cases h) fnExactTabSort_row_tie rfl ⟨rfl, rfl⟩ (by kernel_rfl) rfl
    (fun f fn hf hfn => by
      obtain rfl : f = 6 := Option.some.inj ((show Tryz.prog.funcNamed "loop.example/sistab/laws.FnExactTabSort" = some 6 by kernel_rfl).symm.trans hf) |>.symm
      obtain rfl : fn = Tryz.f6 := (Option.some.inj (Tryz.func6.symm.trans hfn)).symm
      exact ⟨by kernel_rfl, fun j t ht => by
        rw [Tryz.params6] at ht
        have hm : t ∈ [42] := by simpa using Array.mem_of_getElem? ht
        have hall : ([42].all fun u => !Tryz.prog.wantsStandIn u) = true := by kernel_rfl
        exact (show Tryz.prog.wantsStandIn t = false by simpa using List.all_eq_true.1 hall t hm)⟩)
    (by kernel_rfl)
#print axioms fnExactTabSort_card
end Go.Proofs.YtpbnmhnbkfnaeaaGreatDoor
