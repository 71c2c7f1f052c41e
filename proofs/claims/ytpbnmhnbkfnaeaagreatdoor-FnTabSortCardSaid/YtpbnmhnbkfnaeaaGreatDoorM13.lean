/- A part of the proof, put together out of smaller texts. -/
import Derived.Test.YtpbnmhnbkfnaeaaGreatDoorM12
import Derived.Deep.RegionHeld3
import Derived.Deep.CutRange
import Derived.Deep.RegionWith
set_option linter.all false
set_option maxRecDepth 100000
set_option maxHeartbeats 32000000
namespace Go.Proofs.YtpbnmhnbkfnaeaaGreatDoor
open Go.RowKit Nt
theorem YH {w : World} {g b i : Nat} {T : TypeId} {z : Int} {a1 a2 : Option Addr} {n1 c1 n2 c2 : Nat} (hA : AtC2 w g (.slice a1 n1 c1) (.slice a2 n2 c2) T) (h : w.cell? ⟨b, i, none⟩ = some (.int .i64 z)) : b ≠ g := by
 rintro rfl
 unfold AtC2 at hA
 unfold World.cell? at h
 simp only [hA] at h
 match i, h with
 | 0, h => simp at h
 | 1, h => simp at h
 | i + 2, h => simp at h
theorem IntsAt.box {w : World} {g : Nat} {v : Value} {T : TypeId} {xs : List Int} {a1 a2 : Option Addr} {n1 c1 n2 c2 : Nat} (h : IntsAt w v xs) (hA : AtC2 w g (.slice a1 n1 c1) (.slice a2 n2 c2) T) (i : Nat) (u : Value) : IntsAt (w.setCell ⟨g, i, none⟩ u) v xs := by
 obtain ⟨a, cap, rfl, h1, h2, h3⟩ := h
 refine ⟨a, cap, rfl, h1, h2, fun h0 => ?_⟩
 obtain ⟨b, off, rfl, hb, hc⟩ := h3 h0
 refine ⟨b, off, rfl, by simpa using hb, fun j x hx => ?_⟩
 have hne := YH hA (hc j x hx)
 rw [World.cell?_setCell_far _ _ _ _ (Ne.symm hne)]
 exact hc j x hx
theorem NodesAt.box {w : World} {g : Nat} {v : Value} {T : TypeId} {ns : List Nd} {a1 a2 : Option Addr} {n1 c1 n2 c2 : Nat} (h : NodesAt w v ns) (hA : AtC2 w g (.slice a1 n1 c1) (.slice a2 n2 c2) T) (i : Nat) (u : Value) : NodesAt (w.setCell ⟨g, i, none⟩ u) v ns := by
 obtain ⟨a, cap, rfl, h1, h2, h3⟩ := h
 refine ⟨a, cap, rfl, h1, h2, fun h0 => ?_⟩
 obtain ⟨b, off, rfl, hb, hc⟩ := h3 h0
 refine ⟨b, off, rfl, by simpa using hb, fun j nd hx => ?_⟩
 obtain ⟨k0, k1, hl, kv, k2, hk⟩ := hc j nd hx
 have hne := YH hA k0
 refine ⟨?_, ?_, hl, kv, ?_, hk.box hA i u⟩
 ·rw [World.cell?_setCell_far _ _ _ _ (Ne.symm hne)]; exact k0
 ·rw [World.cell?_setCell_far _ _ _ _ (Ne.symm hne)]; exact k1
 ·rw [World.cell?_setCell_far _ _ _ _ (Ne.symm hne)]; exact k2
theorem V7 {r : Int → Int → Int} (hp : Pre r) {rs m : List Int} {k i : Nat} {z : Int} (hm : m = srt r (rs.take k)) (hz : m[i]? = some z) : z ∈ rs :=
 List.mem_of_mem_take ((yM hp _ _).1 (by rw [← hm]; exact List.mem_of_getElem? hz))
theorem insAt {r : Int → Int → Int} (hp : Pre r) {rs m : List Int} {k j : Nat} {x : Int} (hx : rs[k]? = some x) (hm : m = srt r (rs.take k)) (hj : j ≤ m.length)
  (h1 : ∀ (t : Nat) (z : Int), m[t]? = some z → j ≤ t → 0 < r z x) (h2 : ∀ z, m[j - 1]? = some z → 0 < j → r z x ≤ 0) : srt r (rs.take (k + 1)) = m.take j ++ [x] ++ m.drop j := by
 rw [List.take_add_one, hx]
 show srt r (rs.take k ++ [x]) = _
 rw [X3, ← hm]
 exact YP hp (by rw [hm]; exact qL hp _) hj h1 h2
theorem ZG {w : World} {g : Nat} {x : Int} (h : w.cell? ⟨g, 0, none⟩ = some (.int .i64 x)) (hg : g < w.heap.size) : IntsAt w (.slice (some ⟨g, 0, none⟩) 1 1) [x] := by
 refine ⟨_, 1, rfl, Nat.le_refl _, by unfold maxLen; omega, fun _ => ⟨g, 0, rfl, hg, fun j y hj => ?_⟩⟩
 match j, hj with
 | 0, hj =>
  simp at hj
  subst hj
  exact h
theorem Z7 (d : Dt) (u : Value) (w : World) (h : DataAt w u d) (hs : d.1.length ≤ 1048576 ∧ d.2.length ≤ 1048576 ∧ zM d.1) :
  Calls Tryz.prog 17 #[u] w fun e W' => (∃ mn mr, e = .returned (.agg #[mn, mr]) ∧ DataAt W' (.agg #[mn, mr]) (sortM d)) ∧ Below w.heap.size w W' := by
 obtain ⟨ns, rs⟩ := d
 have HD := hide h
 obtain ⟨nv, rv, rfl, hn, hr⟩ := h
 simp only at hn hr hs
 have HN := hide hn
 have HR := hide hr
 obtain ⟨an, cn, rfl, hn1, hn2⟩ := hn.form0
 obtain ⟨ar, cr, rfl, hr1, hr2⟩ := hr.form
 unfold maxLen at hn2 hr2
 have HS := hide hs
 have HB := hide (zf (zf (Below.refl w.heap.size w) (.cells #[.slice an ns.length cn, .slice ar rs.length cr] 26)) (.cells #[.slice none 0 0, .slice none 0 0] 26))
 have HP := hide ((AtC2.new w (.slice an ns.length cn) (.slice ar rs.length cr) 26).alloc (.cells #[.slice none 0 0, .slice none 0 0] 26))
 have HQ := hide (AtC2.new (w.alloc (.cells #[.slice an ns.length cn, .slice ar rs.length cr] 26)) (.slice none 0 0) (.slice none 0 0) 26)
 rw [World.size_alloc] at HQ
 obtain ⟨M, hM⟩ : ∃ M, sortM (ns, rs) = M := ⟨_, rfl⟩
 rw [hM]
 have HM := hide hM
 clear hn hr hs hM
 go_enter Tryz.func17, Tryz.ntmps17
 go_wp2_with fail
 obtain ⟨W, hW⟩ : ∃ W, (w.alloc (.cells #[.slice an ns.length cn, .slice ar rs.length cr] 26)).alloc (.cells #[.slice none 0 0, .slice none 0 0] 26) = W := ⟨_, rfl⟩
 rw [hW] at HB HP HQ ⊢
 clear hW
 have p0 := (za HP).n0
 have p1 := (za HP).n1
 go_wp2_with fail
 have h := vQ (ns, rs) _ W ((za HD).below (za HB)) (za HS)
 refine h.mono ?_
 clear h
 rintro e' W1 ⟨rfl, hb1⟩
 have HB1 := hide (zj (za HB) hb1)
 have HP1 := hide ((za HP).below hb1)
 have HQ1 := hide ((za HQ).below hb1)
 clear hb1 HB HP HQ p0 p1
 rcases Bool.eq_false_or_eq_true (okD (ns, rs)) with ho | ho
 ·rw [ho]
  obtain ⟨l1, l2, k1, j1⟩ := qt ho
  obtain ⟨r, hpre, hsr, hro⟩ := zao k1 j1
  obtain rfl : M = (ns, srt r rs) := by rw [← za HM, jP ho, hsr]
  have HK := hide (And.intro k1 j1)
  have HO := hide (And.intro hpre hro)
  have p0 := (za HP1).n0
  have p1 := (za HP1).n1
  clear ho k1 j1 hpre hsr hro HM
  go_wp2_with fail
  have h := KX (ns, rs) _ W1 ((za HD).below (za HB1)) ⟨by simp only; omega, by simp only; omega, (za HS).2.2⟩
  refine h.mono ?_
  clear h
  rintro e' W3 ⟨⟨ma, mc, rb, rc, rfl, hcp⟩, hb3⟩
  simp only at hcp
  have HCP := hide hcp
  have HB3 := hide (zj (za HB1) hb3)
  have HP3 := hide ((za HP1).below hb3)
  have HQ3 := hide ((za HQ1).below hb3)
  clear hcp hb3 p0 p1 HB1 HP1 HQ1
  go_wp2_with fail
  have h5 := zf (zf (Below.refl W3.heap.size W3) (.cells #[.slice ma ns.length mc, .slice rb rs.length rc] 26)) (.cells #[] 3)
  have HB5 := hide (zj (za HB3) h5)
  have HP5 := hide ((za HP3).below h5)
  have HQ5 := hide ((za HQ3).below h5)
  have HC5 := hide ((za HCP).below h5)
  have HT5 := hide ((AtC2.new W3 (.slice ma ns.length mc) (.slice rb rs.length rc) 26).alloc (.cells #[] 3))
  have hI := qD (jp (W3.alloc (.cells #[.slice ma ns.length mc, .slice rb rs.length rc] 26)))
  rw [World.size_alloc] at hI
  have HI5 := hide hI
  have hwl : w.heap.size + 1 < W3.heap.size := (za HQ3).lt
  have hs5 : ((W3.alloc (.cells #[.slice ma ns.length mc, .slice rb rs.length rc] 26)).alloc (.cells #[] 3)).heap.size = W3.heap.size + 1 + 1 := by simp
  obtain ⟨W5, hW5⟩ : ∃ W5, (W3.alloc (.cells #[.slice ma ns.length mc, .slice rb rs.length rc] 26)).alloc (.cells #[] 3) = W5 := ⟨_, rfl⟩
  rw [hW5] at HB5 HP5 HQ5 HC5 HT5 HI5 hs5 ⊢
  clear h5 hI hW5 HB3 HP3 HQ3 HCP
  go_loopw [4, 5] (fun o i wr => ∃ (k : Nat) (m : List Int) (ob oo oc : Nat), k ≤ rs.length ∧ i = .int .i64 k ∧ o = .slice (some ⟨ob, oo, none⟩) m.length oc ∧ Hid (IntsAt wr (.slice (some ⟨ob, oo, none⟩) m.length oc) m) ∧ Hid (m = srt r (rs.take k)) ∧ Below W5.heap.size W5 wr)
   (fun _ i _ => rs.length - (intOf i).toNat)
  case atStart => exact ⟨0, [], _, _, _, by omega, rfl, rfl, HI5, hide rfl, Below.refl _ _⟩
  case round =>
   clear HI5
   obtain ⟨k, m, ob, oo, oc, hk, rfl, rfl, HIm, HMm, hbl⟩ := hrel
   have hml : m.length = k := by rw [za HMm, jh, List.length_take]; omega
   have hml12 : m.length ≤ 12 := by omega
   have HML := hide hml
   clear hml
   obtain ⟨a', c', e, hoc1, hoc2⟩ := (za HIm).form
   injection e with e1 _ e3
   subst e1 e3
   unfold maxLen at hoc2
   have HPW := hide ((za HP5).below hbl)
   have p0 := (za HPW).n0
   have p1 := (za HPW).n1
   have HBL := hide hbl
   by_cases hlt : k < rs.length
   ·obtain ⟨x, hx⟩ : ∃ x, rs[k]? = some x := ⟨_, List.getElem?_eq_getElem hlt⟩
    have hrW := ((za HR).below (za HB5)).below hbl
    obtain ⟨ab, ao, rfl, _, u0⟩ := hrW.cell hx
    obtain ⟨W6, hW6⟩ : ∃ W6, W6 = wr := ⟨_, rfl⟩
    subst hW6
    have HU := hide u0
    clear hrW hbl u0
    go_wp2_with fail
    go_loopw [6] (fun q wr => ∃ j : Nat, j ≤ m.length ∧ q = .int .i64 j ∧ Below W6.heap.size W6 wr ∧ Hid (∀ (i : Nat) (y : Int), m[i]? = some y → j ≤ i → 0 < cmpAt ns ns y x))
     (fun q _ => (intOf q).toNat)
    case atStart => exact ⟨m.length, Nat.le_refl _, rfl, Below.refl _ _, hide (fun i y hi hj => by have := (List.getElem?_eq_some_iff.1 hi).1; omega)⟩
    case round =>
     obtain ⟨j, hj, rfl, hb6, HJ⟩ := hrel
     have HPX := hide ((za HPW).below hb6)
     have p0 := (za HPX).n0
     have p1 := (za HPX).n1
     have u0 := zd hb6 (za HU)
     by_cases hj0 : j = 0
     ·have k0 : decide (0 < j) = false := decide_eq_false (by omega)
      have HJZ := hide hj0
      clear hj0
      go_wp2_with fail
      go_region
      go_wp2_with fail
      have HIW := hide (((za HIm).below hb6).below (Below.refl wr.heap.size wr).drew)
      have HALL2 := hide (And.intro (show wr.drew.cell? ⟨w.heap.size, 1, none⟩ = some (.slice (some ⟨ab, ao, none⟩) rs.length cr) from p1) (show wr.drew.cell? ⟨ab, ao + k, none⟩ = some (.int .i64 x) from u0))
      have HBW := hide hb6.drew
      have HINS : Hid (srt r (rs.take (k + 1)) = m.take j ++ [x] ++ m.drop j) := hide (insAt (za HO).1 hx (za HMm) hj (fun t z hz ht => by
       rw [(za HO).2 z (V7 (za HO).1 (za HMm) hz) x (List.mem_of_getElem? hx)]
       exact za HJ t z hz ht) (fun z _ h0 => absurd h0 (by rw [za HJZ]; omega)))
      clear p0 p1 u0
      have HPX1 := hide (IntsAt.take (k := j) (za HIW) (by omega))
      obtain ⟨p, hp⟩ : ∃ p, m.take j = p := ⟨_, rfl⟩
      obtain ⟨q, hq⟩ : ∃ q, m.drop j = q := ⟨_, rfl⟩
      have hpl : p.length = j := by rw [← hp, List.length_take]; omega
      have hql : q.length = m.length - j := by rw [← hq, List.length_drop]
      obtain ⟨qa, hqa, hqI⟩ : ∃ qa : Option Addr, (qa = if oc = j then some ⟨ob, oo, none⟩ else some ⟨ob, oo + j, none⟩) ∧ IntsAt wr.drew (.slice qa (m.length - j) (oc - j)) q := by
       refine ⟨_, rfl, ?_⟩
       by_cases cj : oc = j
       ·rw [if_pos cj]
        have : q = [] := List.length_eq_zero_iff.1 (by omega)
        subst this
        exact ⟨_, oc - j, by rw [show m.length - j = 0 by omega]; rfl, by simp, by unfold maxLen; omega, fun h => absurd h (by simp)⟩
       ·rw [if_neg cj]
        have := (za HIW).drop (k := j) (by omega) rfl
        rw [hq] at this
        have e : (⟨ob, oo, none⟩ : Addr).add j = ⟨ob, oo + j, none⟩ := by unfold Addr.add; split <;> simp_all
        rwa [e] at this
      have HQ1 := hide hqI
      rw [hp] at HPX1
      have HNS : Hid (srt r (rs.take (k + 1)) = p ++ [x] ++ q) := hide (by rw [← hp, ← hq]; exact za HINS)
      have HQA := hide hqa
      have hjm : (j : Int) ≤ (m.length : Int) := by omega
      have hjo : (j : Int) ≤ (oc : Int) := by omega
      have hj00 : (0 : Int) ≤ (j : Int) := by omega
      have hki : (k : Int) < (rs.length : Int) := by omega
      clear hp hq hqI hqa
      have HPL := hide hpl
      have HQL := hide hql
      have hpq : p.length + q.length ≤ 12 := by omega
      clear hpl hql
      obtain ⟨v, hv⟩ : ∃ v : Nat → Value, v = fun t => match t with
       | 1 => .slice (some ⟨ob, oo, none⟩) m.length oc
       | 2 => .int .i64 (j : Int)
       | 3 => .slice (some ⟨ob, oo, none⟩) j oc
       | 5 => .pointer (some ⟨w.heap.size, 1, none⟩)
       | 6 => .slice (some ⟨ab, ao, none⟩) rs.length cr
       | 7 => .int .i64 (k : Int)
       | 8 => .pointer (some ⟨ab, ao + k, none⟩)
       | 9 => .int .i64 x
       | 12 => .slice (some ⟨ob, oo, none⟩) m.length oc
       | 13 => .int .i64 (j : Int)
       | 14 => .slice qa (m.length - j) (oc - j)
       | 16 => .slice (some ⟨ob, oo, none⟩) m.length oc
       | _ => undef := ⟨_, rfl⟩
      have v1 : v 1 = .slice (some ⟨ob, oo, none⟩) m.length oc := by subst hv; rfl
      have v2 : v 2 = .int .i64 (j : Int) := by subst hv; rfl
      have v3 : v 3 = .slice (some ⟨ob, oo, none⟩) j oc := by subst hv; rfl
      have v5 : v 5 = .pointer (some ⟨w.heap.size, 1, none⟩) := by subst hv; rfl
      have v6 : v 6 = .slice (some ⟨ab, ao, none⟩) rs.length cr := by subst hv; rfl
      have v7 : v 7 = .int .i64 (k : Int) := by subst hv; rfl
      have v8 : v 8 = .pointer (some ⟨ab, ao + k, none⟩) := by subst hv; rfl
      have v9 : v 9 = .int .i64 x := by subst hv; rfl
      have v12 : v 12 = .slice (some ⟨ob, oo, none⟩) m.length oc := by subst hv; rfl
      have v13 : v 13 = .int .i64 (j : Int) := by subst hv; rfl
      have v14 : v 14 = .slice qa (m.length - j) (oc - j) := by subst hv; rfl
      have v16 : v 16 = .slice (some ⟨ob, oo, none⟩) m.length oc := by subst hv; rfl
      clear hv
      refine wp_region_any (by kernel_rfl) ?_
      change wpAny _ _ _ _ _ _ _ (World.drew _)
      refine vM (fun l a' w' => ∃ (z f : Nat → Value), a' = ⟨#[.agg #[.slice an ns.length cn, .slice (some ⟨ab, ao, none⟩) rs.length cr], .pointer (some ⟨w.heap.size, 0, none⟩), .pointer (some ⟨w.heap.size + 1, 0, none⟩), .pointer (some ⟨W3.heap.size, 0, none⟩), f 16, .int .i64 ↑k, .int .i64 ↑j, .agg #[.slice an ns.length cn, .slice (some ⟨ab, ao, none⟩) rs.length cr], .bool true, .bool false, undef, .agg #[.slice an ns.length cn, .slice (some ⟨ab, ao, none⟩) rs.length cr], .agg #[.slice ma ns.length mc, .slice rb rs.length rc], .slice (some ⟨W3.heap.size + 1, 0, none⟩) 0 0, .int .i64 ↑k, .pointer (some ⟨w.heap.size, 1, none⟩), .slice (some ⟨ab, ao, none⟩) rs.length cr, .int .i64 ↑rs.length, .bool true, u19, u20, .slice (some ⟨ob, oo, none⟩) m.length oc, .int .i64 ↑m.length, z 0, z 1, z 2, z 3, z 4, z 5, z 6, z 7, z 8, z 9, z 10, z 11, z 12, z 13, z 14, z 15, z 16, z 17, z 18, z 19, z 20, z 21, f 0, f 1, f 2, f 3, f 4, f 5, f 6, f 7, f 8, f 9, f 10, f 11, f 12, f 13, f 14, f 15, undef, undef, undef], []⟩ ∧ InS wr.drew v x p q l f w') ?hsz ?hend ?hstep ?hgo _ _ _ _ ?h0 ?hc
      case hsz =>
       rintro l a' w' ⟨z, f, _, h⟩
       exact h.sz
      case h0 => exact ⟨fun t => [.int .i64 ↑j, .bool false, .bool false, undef, undef, undef, undef, undef, undef, undef, undef, undef, undef, undef, undef, undef, undef, undef, undef, .bool false, u43, u44].getD t undef, fun t => [u45, u46, u47, u48, u49, u50, u51, u52, u53, u54, u55, u56, u57, u58, u59, u60, .slice (some ⟨ob, oo, none⟩) m.length oc].getD t undef, rfl, InS.start rfl (Below.refl _ _).drew v16.symm⟩
      case hc => exact Nat.le_of_eq rfl
      case hgo =>
       rintro l a' w' ⟨z, f, rfl, h⟩ hr t ht
       have k0 : l[0]? = some true := ze hr 0 (by simp) (by rw [h.sz]; rfl) (by simp [Region.binds, Array.getD_eq_getD_getElem?])
       have k1 : l[1]? = some true := ze hr 1 (by simp) (by rw [h.sz]; rfl) (by simp [Region.binds, Array.getD_eq_getD_getElem?])
       have k2 : l[2]? = some true := ze hr 2 (by simp) (by rw [h.sz]; rfl) (by simp [Region.binds, Array.getD_eq_getD_getElem?])
       have k3 : l[3]? = some true := ze hr 3 (by simp) (by rw [h.sz]; rfl) (by simp [Region.binds, Array.getD_eq_getD_getElem?, k1, k2])
       have k4 : l[4]? = some true := ze hr 4 (by simp) (by rw [h.sz]; rfl) (by simp [Region.binds, Array.getD_eq_getD_getElem?, k0, k3])
       have k5 : l[5]? = some true := ze hr 5 (by simp) (by rw [h.sz]; rfl) (by simp [Region.binds, Array.getD_eq_getD_getElem?])
       have k6 : l[6]? = some true := ze hr 6 (by simp) (by rw [h.sz]; rfl) (by simp [Region.binds, Array.getD_eq_getD_getElem?, k5])
       have k7 : l[7]? = some true := ze hr 7 (by simp) (by rw [h.sz]; rfl) (by simp [Region.binds, Array.getD_eq_getD_getElem?])
       have k8 : l[8]? = some true := ze hr 8 (by simp) (by rw [h.sz]; rfl) (by simp [Region.binds, Array.getD_eq_getD_getElem?, k6, k7])
       have k9 : l[9]? = some true := ze hr 9 (by simp) (by rw [h.sz]; rfl) (by simp [Region.binds, Array.getD_eq_getD_getElem?, k8])
       have k10 : l[10]? = some true := ze hr 10 (by simp) (by rw [h.sz]; rfl) (by simp [Region.binds, Array.getD_eq_getD_getElem?, k9])
       have k11 : l[11]? = some true := ze hr 11 (by simp) (by rw [h.sz]; rfl) (by simp [Region.binds, Array.getD_eq_getD_getElem?, k4, k10])
       have k12 : l[12]? = some true := ze hr 12 (by simp) (by rw [h.sz]; rfl) (by simp [Region.binds, Array.getD_eq_getD_getElem?])
       have k13 : l[13]? = some true := ze hr 13 (by simp) (by rw [h.sz]; rfl) (by simp [Region.binds, Array.getD_eq_getD_getElem?])
       have k14 : l[14]? = some true := ze hr 14 (by simp) (by rw [h.sz]; rfl) (by simp [Region.binds, Array.getD_eq_getD_getElem?, k12, k13])
       have k15 : l[15]? = some true := ze hr 15 (by simp) (by rw [h.sz]; rfl) (by simp [Region.binds, Array.getD_eq_getD_getElem?, k11, k14])
       have k16 : l[16]? = some true := ze hr 16 (by simp) (by rw [h.sz]; rfl) (by simp [Region.binds, Array.getD_eq_getD_getElem?, k0, k1, k2, k3, k4, k5, k6, k7, k8, k9, k10, k11, k12, k13, k14, k15])
       have ht : t < 17 := by simpa using ht
       rcases (by omega : t = 0 ∨ t = 1 ∨ t = 2 ∨ t = 3 ∨ t = 4 ∨ t = 5 ∨ t = 6 ∨ t = 7 ∨ t = 8 ∨ t = 9 ∨ t = 10 ∨ t = 11 ∨ t = 12 ∨ t = 13 ∨ t = 14 ∨ t = 15 ∨ t = 16) with rfl | rfl | rfl | rfl | rfl | rfl | rfl | rfl | rfl | rfl | rfl | rfl | rfl | rfl | rfl | rfl | rfl
       all_goals assumption
      case hstep =>
       rintro l a' w' t ⟨z, f, rfl, h⟩ hi
       have hi2 := hi
       unfold Region.ready at hi2
       rw [List.mem_filter] at hi2
       obtain ⟨hjj, hi3⟩ := hi2
       have hjj : t < 17 := by simpa using hjj
       have hjl : ¬ LL l t := fun e => by
        unfold LL at e
        simp [Array.getD_eq_getD_getElem?, e] at hi3
       clear hi
       rcases (by omega : t = 0 ∨ t = 1 ∨ t = 2 ∨ t = 3 ∨ t = 4 ∨ t = 5 ∨ t = 6 ∨ t = 7 ∨ t = 8 ∨ t = 9 ∨ t = 10 ∨ t = 11 ∨ t = 12 ∨ t = 13 ∨ t = 14 ∨ t = 15 ∨ t = 16) with rfl | rfl | rfl | rfl | rfl | rfl | rfl | rfl | rfl | rfl | rfl | rfl | rfl | rfl | rfl | rfl | rfl
       ·clear hi3
        refine wpOp_step rfl (fun K hK => ?_)
        go_simp
        exact hK _ _ ⟨z, _, by simp, h.s0 hjl⟩
       ·clear hi3
        have n16 : ¬ LL l 16 := fun e => hjl (h.c16 e 1 (by omega))
        have w16 := (h.o16 n16).trans v16
        refine wpOp_step rfl (fun K hK => ?_)
        go_simp
        exact hK _ _ ⟨z, _, by simp [w16, v1], h.read 1 rfl (by omega) hjl (v 1) rfl⟩
       ·clear hi3
        refine wpOp_step rfl (fun K hK => ?_)
        go_simp
        exact hK _ _ ⟨z, _, by simp [v2], h.read 2 rfl (by omega) hjl (v 2) rfl⟩
       ·have l1 : LL l 1 := LL_of (by simp [Region.binds, Array.getD_eq_getD_getElem?] at hi3; simp [hi3])
        have l2 : LL l 2 := LL_of (by simp [Region.binds, Array.getD_eq_getD_getElem?] at hi3; simp [hi3])
        clear hi3
        have w1 := (h.val 1 rfl l1).trans v1
        have w2 := (h.val 2 rfl l2).trans v2
        refine wpOp_step rfl (fun K hK => ?_)
        go_simp
        exact hK _ _ ⟨z, _, by simp [w1, w2, v3], h.read 3 rfl (by omega) hjl (v 3) rfl⟩
       ·have l0 : LL l 0 := LL_of (by simp [Region.binds, Array.getD_eq_getD_getElem?] at hi3; simp [hi3])
        have l3 : LL l 3 := LL_of (by simp [Region.binds, Array.getD_eq_getD_getElem?] at hi3; simp [hi3])
        clear hi3
        have w3 := (h.val 3 rfl l3).trans v3
        obtain ⟨⟨g, e0⟩, hk0⟩ := h.k0 l0 hjl
        rw [e0] at hk0
        refine wpOp_step rfl (fun K hK => ?_)
        refine zG rfl _ _ rfl (wr.drew).heap.size (.slice (some ⟨g, 0, none⟩) 0 0) (.slice (some ⟨ob, oo, none⟩) j oc) [] p (by exact e0) (by exact w3) hk0 ((za HPX1).below h.bw) (by simp only [List.length_nil]; omega) h.bw.size (some 49) rfl ?_
        intro v6 w6 hr6 hg6 hat
        obtain ⟨ra', rc', rfl⟩ := qZ hr6
        exact hK _ _ ⟨z, _, by simp [Act.put, e0, w3], h.s4 hjl l0 hr6 (by rw [e0]; exact hg6) (by rw [e0]; exact hat)⟩
       ·clear hi3
        refine wpOp_step rfl (fun K hK => ?_)
        go_simp
        exact hK _ _ ⟨z, _, by simp [v5], h.read 5 rfl (by omega) hjl (v 5) rfl⟩
       ·have l5 : LL l 5 := LL_of (by simp [Region.binds, Array.getD_eq_getD_getElem?] at hi3; simp [hi3])
        clear hi3
        obtain ⟨q1, u1⟩ := za HALL2
        have q1 := qi h.bw q1
        have u1 := qi h.bw u1
        have w5 := (h.val 5 rfl l5).trans v5
        refine wpOp_step rfl (fun K hK => ?_)
        go_simp
        exact hK _ _ ⟨z, _, by simp [w5, v6], h.read 6 rfl (by omega) hjl (v 6) rfl⟩
       ·clear hi3
        refine wpOp_step rfl (fun K hK => ?_)
        go_simp
        exact hK _ _ ⟨z, _, by simp [v7], h.read 7 rfl (by omega) hjl (v 7) rfl⟩
       ·have l6 : LL l 6 := LL_of (by simp [Region.binds, Array.getD_eq_getD_getElem?] at hi3; simp [hi3])
        have l7 : LL l 7 := LL_of (by simp [Region.binds, Array.getD_eq_getD_getElem?] at hi3; simp [hi3])
        clear hi3
        have w6 := (h.val 6 rfl l6).trans v6
        have w7 := (h.val 7 rfl l7).trans v7
        refine wpOp_step rfl (fun K hK => ?_)
        go_simp
        exact hK _ _ ⟨z, _, by simp [w6, w7, v8], h.read 8 rfl (by omega) hjl (v 8) rfl⟩
       ·have l8 : LL l 8 := LL_of (by simp [Region.binds, Array.getD_eq_getD_getElem?] at hi3; simp [hi3])
        clear hi3
        obtain ⟨q1, u1⟩ := za HALL2
        have q1 := qi h.bw q1
        have u1 := qi h.bw u1
        have w8 := (h.val 8 rfl l8).trans v8
        refine wpOp_step rfl (fun K hK => ?_)
        go_simp
        exact hK _ _ ⟨z, _, by simp [w8, v9], h.read 9 rfl (by omega) hjl (v 9) rfl⟩
       ·have l9 : LL l 9 := LL_of (by simp [Region.binds, Array.getD_eq_getD_getElem?] at hi3; simp [hi3])
        clear hi3
        have w9 := (h.val 9 rfl l9).trans v9
        have HSS := hide (h.s10 hjl)
        refine wpOp_step rfl (fun K hK => ?_)
        go_simp
        exact hK _ _ ⟨z, _, by simp [w9], za HSS⟩
       ·have l4 : LL l 4 := LL_of (by simp [Region.binds, Array.getD_eq_getD_getElem?] at hi3; simp [hi3])
        have l10 : LL l 10 := LL_of (by simp [Region.binds, Array.getD_eq_getD_getElem?] at hi3; simp [hi3])
        clear hi3
        obtain ⟨ra, rc', e4⟩ := h.k4 l4
        have hr4 := h.r4 l4 hjl
        obtain ⟨g, e10, hc10, hg10, _, _⟩ := h.n10 l10 hjl
        rw [e4] at hr4
        refine wpOp_step rfl (fun K hK => ?_)
        refine zG rfl _ _ rfl (wr.drew).heap.size (.slice ra p.length rc') (.slice (some ⟨g, 0, none⟩) 1 1) p [x] (by exact e4) (by exact e10) hr4 (ZG hc10 hg10) (by simp only [List.length_cons, List.length_nil]; omega) h.bw.size (some 56) rfl ?_
        intro v6 w6 hr6 hg6 _
        obtain ⟨sa, sc, rfl⟩ := qZ hr6
        have hr6' := jX hr6
        exact hK _ _ ⟨z, _, by simp [Act.put, e4, e10], h.s11 hjl l4 l10 hr6' (by rw [e4]; exact hg6)⟩
       ·clear hi3
        have n16 : ¬ LL l 16 := fun e => hjl (h.c16 e 12 (by omega))
        have w16 := (h.o16 n16).trans v16
        refine wpOp_step rfl (fun K hK => ?_)
        go_simp
        exact hK _ _ ⟨z, _, by simp [w16, v12], h.read 12 rfl (by omega) hjl (v 12) rfl⟩
       ·clear hi3
        refine wpOp_step rfl (fun K hK => ?_)
        go_simp
        exact hK _ _ ⟨z, _, by simp [v13], h.read 13 rfl (by omega) hjl (v 13) rfl⟩
       ·have l12 : LL l 12 := LL_of (by simp [Region.binds, Array.getD_eq_getD_getElem?] at hi3; simp [hi3])
        have l13 : LL l 13 := LL_of (by simp [Region.binds, Array.getD_eq_getD_getElem?] at hi3; simp [hi3])
        clear hi3
        have w12 := (h.val 12 rfl l12).trans v12
        have w13 := (h.val 13 rfl l13).trans v13
        refine wpOp_step rfl (fun K hK => ?_)
        by_cases cj : oc = j
        ·have hqa : qa = some ⟨ob, oo, none⟩ := by rw [za HQA, if_pos cj]
         subst cj
         go_simp
         exact hK _ _ ⟨z, _, (by simp [w12, w13, v14, hqa]; try omega), h.read 14 rfl (by omega) hjl (v 14) rfl⟩
        ·have hqa : qa = some ⟨ob, oo + j, none⟩ := by rw [za HQA, if_neg cj]
         go_simp
         exact hK _ _ ⟨z, _, by simp [w12, w13, v14, hqa], h.read 14 rfl (by omega) hjl (v 14) rfl⟩
       ·have l11 : LL l 11 := LL_of (by simp [Region.binds, Array.getD_eq_getD_getElem?] at hi3; simp [hi3])
        have l14 : LL l 14 := LL_of (by simp [Region.binds, Array.getD_eq_getD_getElem?] at hi3; simp [hi3])
        clear hi3
        have w14 := (h.val 14 rfl l14).trans v14
        obtain ⟨ra, rc', e11⟩ := h.k11 l11
        have hr11 := h.r11 l11 hjl
        rw [e11] at hr11
        refine wpOp_step rfl (fun K hK => ?_)
        refine zG rfl _ _ rfl (wr.drew).heap.size (.slice ra (p.length + 1) rc') (.slice qa (m.length - j) (oc - j)) (p ++ [x]) q (by exact e11) (by exact w14) hr11 ((za HQ1).below h.bw) (by simp only [List.length_append, List.length_cons, List.length_nil]; omega) h.bw.size (some 60) rfl ?_
        intro v6 w6 hr6 hg6 _
        obtain ⟨sa, sc, rfl⟩ := qZ hr6
        exact hK _ _ ⟨z, _, by simp [Act.put, e11, w14], h.s15 hjl l11 hr6 (by rw [e11]; exact hg6)⟩
       ·have l0 : LL l 0 := LL_of (by simp [Region.binds, Array.getD_eq_getD_getElem?] at hi3; simp [hi3])
        have l1 : LL l 1 := LL_of (by simp [Region.binds, Array.getD_eq_getD_getElem?] at hi3; simp [hi3])
        have l2 : LL l 2 := LL_of (by simp [Region.binds, Array.getD_eq_getD_getElem?] at hi3; simp [hi3])
        have l3 : LL l 3 := LL_of (by simp [Region.binds, Array.getD_eq_getD_getElem?] at hi3; simp [hi3])
        have l4 : LL l 4 := LL_of (by simp [Region.binds, Array.getD_eq_getD_getElem?] at hi3; simp [hi3])
        have l5 : LL l 5 := LL_of (by simp [Region.binds, Array.getD_eq_getD_getElem?] at hi3; simp [hi3])
        have l6 : LL l 6 := LL_of (by simp [Region.binds, Array.getD_eq_getD_getElem?] at hi3; simp [hi3])
        have l7 : LL l 7 := LL_of (by simp [Region.binds, Array.getD_eq_getD_getElem?] at hi3; simp [hi3])
        have l8 : LL l 8 := LL_of (by simp [Region.binds, Array.getD_eq_getD_getElem?] at hi3; simp [hi3])
        have l9 : LL l 9 := LL_of (by simp [Region.binds, Array.getD_eq_getD_getElem?] at hi3; simp [hi3])
        have l10 : LL l 10 := LL_of (by simp [Region.binds, Array.getD_eq_getD_getElem?] at hi3; simp [hi3])
        have l11 : LL l 11 := LL_of (by simp [Region.binds, Array.getD_eq_getD_getElem?] at hi3; simp [hi3])
        have l12 : LL l 12 := LL_of (by simp [Region.binds, Array.getD_eq_getD_getElem?] at hi3; simp [hi3])
        have l13 : LL l 13 := LL_of (by simp [Region.binds, Array.getD_eq_getD_getElem?] at hi3; simp [hi3])
        have l14 : LL l 14 := LL_of (by simp [Region.binds, Array.getD_eq_getD_getElem?] at hi3; simp [hi3])
        have l15 : LL l 15 := LL_of (by simp [Region.binds, Array.getD_eq_getD_getElem?] at hi3; simp [hi3])
        clear hi3
        have hall : ∀ j, j < 16 → LL l j := fun t ht => by
         rcases (by omega : t = 0 ∨ t = 1 ∨ t = 2 ∨ t = 3 ∨ t = 4 ∨ t = 5 ∨ t = 6 ∨ t = 7 ∨ t = 8 ∨ t = 9 ∨ t = 10 ∨ t = 11 ∨ t = 12 ∨ t = 13 ∨ t = 14 ∨ t = 15) with rfl | rfl | rfl | rfl | rfl | rfl | rfl | rfl | rfl | rfl | rfl | rfl | rfl | rfl | rfl | rfl
         all_goals assumption
        have HSS := hide (h.s16 hjl hall (f 15) rfl)
        refine wpOp_step rfl (fun K hK => ?_)
        go_simp
        exact hK _ _ ⟨z, _, by simp, za HSS⟩
      case hend =>
       rintro l a' w' ⟨z, f, rfl, h⟩ hall
       have l16 : LL l 16 := hall 16 (by decide)
       have l15 : LL l 15 := hall 15 (by decide)
       have e16 := h.a16 l16
       obtain ⟨⟨ra, rc', e15⟩, hr15⟩ := h.r15 l15
       rw [e15] at e16 hr15
       have HRR15 := hide hr15
       have hbw' := h.bw
       clear h hall l16 l15 hr15
       obtain ⟨gb, go, rfl⟩ : ∃ gb go, ra = some ⟨gb, go, none⟩ := by
        obtain ⟨a, c, e, _, _, h3⟩ := qD (za HRR15)
        injection e with e1 _ _
        obtain ⟨b, o, e2, _⟩ := h3 (by simp; omega)
        exact ⟨b, o, by rw [e1, e2]⟩
       have HI2 := hide (qD (za HRR15))
       obtain ⟨L, hL⟩ : ∃ L, (p ++ [x] ++ q).length = L := ⟨_, rfl⟩
       have HLL := hide hL
       have HB2 := hide (zj (zj (za HBL) (za HBW)) hbw')
       rw [hL] at e16
       rw [e16]
       clear hL hbw' e16 e15
       go_wp2_with fail
       go_roundw
       case rel => exact ⟨k + 1, p ++ [x] ++ q, gb, go, rc', by omega, by go_num, by rw [za HLL], HI2, hide (za HNS).symm, za HB2⟩
       case measure => simp [intOf]; omega
     ·obtain ⟨i, hij⟩ : ∃ i, j = i + 1 := ⟨j - 1, by omega⟩
      obtain ⟨y, hy⟩ : ∃ y, m[i]? = some y := ⟨_, List.getElem?_eq_getElem (by omega)⟩
      have hyr : y ∈ rs := List.mem_of_mem_take ((yM (za HO).1 _ _).1 (by rw [← za HMm]; exact List.mem_of_getElem? hy))
      have hxr := List.mem_of_getElem? hx
      obtain ⟨b', o', e, _, v0⟩ := ((za HIm).below hb6).cell hy
      injection e with e
      injection e with e1 e2 _
      subst e1 e2
      have hw : wrap64 ((j : Int) - 1) = (i : Int) := by rw [hij]; unfold wrap64; omega
      have hw3 : IntKind.i64.wrap ((j : Int) - 1) = (i : Int) := by rw [wi64 _ (by omega) (by omega)]; omega
      have k0 : decide (0 < j) = true := decide_eq_true (by omega)
      have hi0 : (0 : Int) ≤ (i : Int) := by omega
      have hi1 : (i : Int) < (m.length : Int) := by omega
      have hi1n : i < m.length := by omega
      have HCM : Hid (∀ X, Below W6.heap.size W6 X → Calls Tryz.prog 33 #[.slice an ns.length cn, .int .i64 y, .slice an ns.length cn, .int .i64 x] X fun r W' => r = .returned (.int .i64 (cmpAt ns ns y x)) ∧ Below X.heap.size X W') := hide (fun X hX => by
       have hnX := (((za HN).below (za HB5)).below (za HBL)).below hX
       exact XH ns ns y x _ _ X hnX hnX (za HK).1 (za HK).1 ⟨(za HK).2 y hyr, (za HK).2 x hxr⟩ (za HS).2.2 (za HS).2.2 l1 l1)
      obtain ⟨R, hR⟩ : ∃ R, cmpAt ns ns y x = R := ⟨_, rfl⟩
      rw [hR] at HCM
      have HRR := hide hR
      have d0 : wr.drew.cell? ⟨w.heap.size, 0, none⟩ = some (.slice an ns.length cn) := p0
      have d1 : wr.drew.cell? ⟨w.heap.size, 1, none⟩ = some (.slice (some ⟨ab, ao, none⟩) rs.length cr) := p1
      have d2 : wr.drew.cell? ⟨ab, ao + k, none⟩ = some (.int .i64 x) := u0
      have d3 : wr.drew.cell? ⟨ob, oo + i, none⟩ = some (.int .i64 y) := v0
      have HIJ := hide hij
      clear hyr hxr hR hij hj0
      go_wp2_with fail
      go_region_held3 (fun w' => w'.cell? ⟨w.heap.size, 0, none⟩ = some (.slice an ns.length cn) ∧ w'.cell? ⟨w.heap.size, 1, none⟩ = some (.slice (some ⟨ab, ao, none⟩) rs.length cr) ∧ w'.cell? ⟨ab, ao + k, none⟩ = some (.int .i64 x) ∧ w'.cell? ⟨ob, oo + i, none⟩ = some (.int .i64 y)) (((try dsimp only); (repeat' apply And.intro) <;> (with_reducible assumption))) ((go_at_call 33; refine (za HCM wr.drew (by exact hb6.drew)).mono ?_; rintro e w7 ⟨rfl, hb7⟩; have HB7 : Hid (Below wr.heap.size wr w7) := (Below.refl _ _).drew.trans hb7; have e0 := zd (za HB7) p0; have e1 := zd (za HB7) p1; have e2 := zd (za HB7) u0; have e3 := zd (za HB7) v0; clear hb7))
      by_cases hR0 : 0 < R
      ·have k3 : decide (0 < R) = true := decide_eq_true hR0
       have HJ2 : Hid (∀ (t : Nat) (z : Int), m[t]? = some z → i ≤ t → 0 < cmpAt ns ns z x) := hide (fun t z hz ht => by
        by_cases e : t = i
        ·subst e
         rw [hy] at hz
         obtain rfl := Option.some.inj hz
         rw [za HRR]; exact hR0
        ·exact za HJ t z hz (by have := za HIJ; omega))
       have hji : i ≤ m.length := by omega
       have HBX := hide (zj hb6 (za HB7))
       clear d0 d1 d2 d3 e0 e1 e2 e3
       go_wp2_with fail
       go_roundw
       case rel => exact ⟨i, hji, by go_num, za HBX, HJ2⟩
       case measure => have := za HIJ; simp [intOf]; omega
      ·have k3 : decide (0 < R) = false := decide_eq_false hR0
       have HIW := hide (((za HIm).below hb6).below (za HB7))
       have HALL2 := hide (And.intro e1 e2)
       have HBW := hide (zj hb6 (za HB7))
       have HINS : Hid (srt r (rs.take (k + 1)) = m.take j ++ [x] ++ m.drop j) := hide (insAt (za HO).1 hx (za HMm) hj (fun t z hz ht => by
        rw [(za HO).2 z (V7 (za HO).1 (za HMm) hz) x (List.mem_of_getElem? hx)]
        exact za HJ t z hz ht) (fun z hz _ => by
        rw [za HIJ, Nat.add_sub_cancel, hy] at hz
        obtain rfl := Option.some.inj hz
        rw [(za HO).2 y (V7 (za HO).1 (za HMm) hy) x (List.mem_of_getElem? hx), za HRR]
        omega))
       clear p0 p1 u0 v0 d0 d1 d2 d3
       go_wp2_with fail
       clear e0 e1 e2 e3 hw hw3 k3 hR0
       have HPX1 := hide (IntsAt.take (k := j) (za HIW) (by omega))
       obtain ⟨p, hp⟩ : ∃ p, m.take j = p := ⟨_, rfl⟩
       obtain ⟨q, hq⟩ : ∃ q, m.drop j = q := ⟨_, rfl⟩
       have hpl : p.length = j := by rw [← hp, List.length_take]; omega
       have hql : q.length = m.length - j := by rw [← hq, List.length_drop]
       obtain ⟨qa, hqa, hqI⟩ : ∃ qa : Option Addr, (qa = if oc = j then some ⟨ob, oo, none⟩ else some ⟨ob, oo + j, none⟩) ∧ IntsAt w7 (.slice qa (m.length - j) (oc - j)) q := by
        refine ⟨_, rfl, ?_⟩
        by_cases cj : oc = j
        ·rw [if_pos cj]
         have : q = [] := List.length_eq_zero_iff.1 (by omega)
         subst this
         exact ⟨_, oc - j, by rw [show m.length - j = 0 by omega]; rfl, by simp, by unfold maxLen; omega, fun h => absurd h (by simp)⟩
        ·rw [if_neg cj]
         have := (za HIW).drop (k := j) (by omega) rfl
         rw [hq] at this
         have e : (⟨ob, oo, none⟩ : Addr).add j = ⟨ob, oo + j, none⟩ := by unfold Addr.add; split <;> simp_all
         rwa [e] at this
       have HQ1 := hide hqI
       rw [hp] at HPX1
       have HNS : Hid (srt r (rs.take (k + 1)) = p ++ [x] ++ q) := hide (by rw [← hp, ← hq]; exact za HINS)
       have HQA := hide hqa
       have hjm : (j : Int) ≤ (m.length : Int) := by omega
       have hjo : (j : Int) ≤ (oc : Int) := by omega
       have hj00 : (0 : Int) ≤ (j : Int) := by omega
       have hki : (k : Int) < (rs.length : Int) := by omega
       clear hp hq hqI hqa
       have HPL := hide hpl
       have HQL := hide hql
       have hpq : p.length + q.length ≤ 12 := by omega
       clear hpl hql
       obtain ⟨v, hv⟩ : ∃ v : Nat → Value, v = fun t => match t with
        | 1 => .slice (some ⟨ob, oo, none⟩) m.length oc
        | 2 => .int .i64 (j : Int)
        | 3 => .slice (some ⟨ob, oo, none⟩) j oc
        | 5 => .pointer (some ⟨w.heap.size, 1, none⟩)
        | 6 => .slice (some ⟨ab, ao, none⟩) rs.length cr
        | 7 => .int .i64 (k : Int)
        | 8 => .pointer (some ⟨ab, ao + k, none⟩)
        | 9 => .int .i64 x
        | 12 => .slice (some ⟨ob, oo, none⟩) m.length oc
        | 13 => .int .i64 (j : Int)
        | 14 => .slice qa (m.length - j) (oc - j)
        | 16 => .slice (some ⟨ob, oo, none⟩) m.length oc
        | _ => undef := ⟨_, rfl⟩
       have v1 : v 1 = .slice (some ⟨ob, oo, none⟩) m.length oc := by subst hv; rfl
       have v2 : v 2 = .int .i64 (j : Int) := by subst hv; rfl
       have v3 : v 3 = .slice (some ⟨ob, oo, none⟩) j oc := by subst hv; rfl
       have v5 : v 5 = .pointer (some ⟨w.heap.size, 1, none⟩) := by subst hv; rfl
       have v6 : v 6 = .slice (some ⟨ab, ao, none⟩) rs.length cr := by subst hv; rfl
       have v7 : v 7 = .int .i64 (k : Int) := by subst hv; rfl
       have v8 : v 8 = .pointer (some ⟨ab, ao + k, none⟩) := by subst hv; rfl
       have v9 : v 9 = .int .i64 x := by subst hv; rfl
       have v12 : v 12 = .slice (some ⟨ob, oo, none⟩) m.length oc := by subst hv; rfl
       have v13 : v 13 = .int .i64 (j : Int) := by subst hv; rfl
       have v14 : v 14 = .slice qa (m.length - j) (oc - j) := by subst hv; rfl
       have v16 : v 16 = .slice (some ⟨ob, oo, none⟩) m.length oc := by subst hv; rfl
       clear hv
       refine wp_region_any (by kernel_rfl) ?_
       change wpAny _ _ _ _ _ _ _ (World.drew _)
       refine vM (fun l a' w' => ∃ (z f : Nat → Value), a' = ⟨#[.agg #[.slice an ns.length cn, .slice (some ⟨ab, ao, none⟩) rs.length cr], .pointer (some ⟨w.heap.size, 0, none⟩), .pointer (some ⟨w.heap.size + 1, 0, none⟩), .pointer (some ⟨W3.heap.size, 0, none⟩), f 16, .int .i64 ↑k, .int .i64 ↑j, .agg #[.slice an ns.length cn, .slice (some ⟨ab, ao, none⟩) rs.length cr], .bool true, .bool false, undef, .agg #[.slice an ns.length cn, .slice (some ⟨ab, ao, none⟩) rs.length cr], .agg #[.slice ma ns.length mc, .slice rb rs.length rc], .slice (some ⟨W3.heap.size + 1, 0, none⟩) 0 0, .int .i64 ↑k, .pointer (some ⟨w.heap.size, 1, none⟩), .slice (some ⟨ab, ao, none⟩) rs.length cr, .int .i64 ↑rs.length, .bool true, u19, u20, .slice (some ⟨ob, oo, none⟩) m.length oc, .int .i64 ↑m.length, z 0, z 1, z 2, z 3, z 4, z 5, z 6, z 7, z 8, z 9, z 10, z 11, z 12, z 13, z 14, z 15, z 16, z 17, z 18, z 19, z 20, z 21, f 0, f 1, f 2, f 3, f 4, f 5, f 6, f 7, f 8, f 9, f 10, f 11, f 12, f 13, f 14, f 15, undef, undef, undef], []⟩ ∧ InS w7 v x p q l f w') ?hsz ?hend ?hstep ?hgo _ _ _ _ ?h0 ?hc
       case hsz =>
        rintro l a' w' ⟨z, f, _, h⟩
        exact h.sz
       case h0 => exact ⟨fun t => [.int .i64 ↑j, .bool true, .bool true, .pointer (some ⟨w.heap.size, 0, none⟩), .slice an ns.length cn, .slice (some ⟨ob, oo, none⟩) m.length oc, .int .i64 ↑j, .int .i64 ↑i, .pointer (some ⟨ob, oo + i, none⟩), .int .i64 y, .pointer (some ⟨w.heap.size, 0, none⟩), .slice an ns.length cn, .pointer (some ⟨w.heap.size, 1, none⟩), .slice (some ⟨ab, ao, none⟩) rs.length cr, .int .i64 ↑k, .pointer (some ⟨ab, ao + k, none⟩), .int .i64 x, .int .i64 R, .bool false, .bool false, u43, u44].getD t undef, fun t => [u45, u46, u47, u48, u49, u50, u51, u52, u53, u54, u55, u56, u57, u58, u59, u60, .slice (some ⟨ob, oo, none⟩) m.length oc].getD t undef, rfl, InS.start rfl (Below.refl _ _).drew v16.symm⟩
       case hc => exact Nat.le_of_eq rfl
       case hgo =>
        rintro l a' w' ⟨z, f, rfl, h⟩ hr t ht
        have k0 : l[0]? = some true := ze hr 0 (by simp) (by rw [h.sz]; rfl) (by simp [Region.binds, Array.getD_eq_getD_getElem?])
        have k1 : l[1]? = some true := ze hr 1 (by simp) (by rw [h.sz]; rfl) (by simp [Region.binds, Array.getD_eq_getD_getElem?])
        have k2 : l[2]? = some true := ze hr 2 (by simp) (by rw [h.sz]; rfl) (by simp [Region.binds, Array.getD_eq_getD_getElem?])
        have k3 : l[3]? = some true := ze hr 3 (by simp) (by rw [h.sz]; rfl) (by simp [Region.binds, Array.getD_eq_getD_getElem?, k1, k2])
        have k4 : l[4]? = some true := ze hr 4 (by simp) (by rw [h.sz]; rfl) (by simp [Region.binds, Array.getD_eq_getD_getElem?, k0, k3])
        have k5 : l[5]? = some true := ze hr 5 (by simp) (by rw [h.sz]; rfl) (by simp [Region.binds, Array.getD_eq_getD_getElem?])
        have k6 : l[6]? = some true := ze hr 6 (by simp) (by rw [h.sz]; rfl) (by simp [Region.binds, Array.getD_eq_getD_getElem?, k5])
        have k7 : l[7]? = some true := ze hr 7 (by simp) (by rw [h.sz]; rfl) (by simp [Region.binds, Array.getD_eq_getD_getElem?])
        have k8 : l[8]? = some true := ze hr 8 (by simp) (by rw [h.sz]; rfl) (by simp [Region.binds, Array.getD_eq_getD_getElem?, k6, k7])
        have k9 : l[9]? = some true := ze hr 9 (by simp) (by rw [h.sz]; rfl) (by simp [Region.binds, Array.getD_eq_getD_getElem?, k8])
        have k10 : l[10]? = some true := ze hr 10 (by simp) (by rw [h.sz]; rfl) (by simp [Region.binds, Array.getD_eq_getD_getElem?, k9])
        have k11 : l[11]? = some true := ze hr 11 (by simp) (by rw [h.sz]; rfl) (by simp [Region.binds, Array.getD_eq_getD_getElem?, k4, k10])
        have k12 : l[12]? = some true := ze hr 12 (by simp) (by rw [h.sz]; rfl) (by simp [Region.binds, Array.getD_eq_getD_getElem?])
        have k13 : l[13]? = some true := ze hr 13 (by simp) (by rw [h.sz]; rfl) (by simp [Region.binds, Array.getD_eq_getD_getElem?])
        have k14 : l[14]? = some true := ze hr 14 (by simp) (by rw [h.sz]; rfl) (by simp [Region.binds, Array.getD_eq_getD_getElem?, k12, k13])
        have k15 : l[15]? = some true := ze hr 15 (by simp) (by rw [h.sz]; rfl) (by simp [Region.binds, Array.getD_eq_getD_getElem?, k11, k14])
        have k16 : l[16]? = some true := ze hr 16 (by simp) (by rw [h.sz]; rfl) (by simp [Region.binds, Array.getD_eq_getD_getElem?, k0, k1, k2, k3, k4, k5, k6, k7, k8, k9, k10, k11, k12, k13, k14, k15])
        have ht : t < 17 := by simpa using ht
        rcases (by omega : t = 0 ∨ t = 1 ∨ t = 2 ∨ t = 3 ∨ t = 4 ∨ t = 5 ∨ t = 6 ∨ t = 7 ∨ t = 8 ∨ t = 9 ∨ t = 10 ∨ t = 11 ∨ t = 12 ∨ t = 13 ∨ t = 14 ∨ t = 15 ∨ t = 16) with rfl | rfl | rfl | rfl | rfl | rfl | rfl | rfl | rfl | rfl | rfl | rfl | rfl | rfl | rfl | rfl | rfl
        all_goals assumption
       case hstep =>
        rintro l a' w' t ⟨z, f, rfl, h⟩ hi
        have hi2 := hi
        unfold Region.ready at hi2
        rw [List.mem_filter] at hi2
        obtain ⟨hjj, hi3⟩ := hi2
        have hjj : t < 17 := by simpa using hjj
        have hjl : ¬ LL l t := fun e => by
         unfold LL at e
         simp [Array.getD_eq_getD_getElem?, e] at hi3
        clear hi
        rcases (by omega : t = 0 ∨ t = 1 ∨ t = 2 ∨ t = 3 ∨ t = 4 ∨ t = 5 ∨ t = 6 ∨ t = 7 ∨ t = 8 ∨ t = 9 ∨ t = 10 ∨ t = 11 ∨ t = 12 ∨ t = 13 ∨ t = 14 ∨ t = 15 ∨ t = 16) with rfl | rfl | rfl | rfl | rfl | rfl | rfl | rfl | rfl | rfl | rfl | rfl | rfl | rfl | rfl | rfl | rfl
        ·clear hi3
         refine wpOp_step rfl (fun K hK => ?_)
         go_simp
         exact hK _ _ ⟨z, _, by simp, h.s0 hjl⟩
        ·clear hi3
         have n16 : ¬ LL l 16 := fun e => hjl (h.c16 e 1 (by omega))
         have w16 := (h.o16 n16).trans v16
         refine wpOp_step rfl (fun K hK => ?_)
         go_simp
         exact hK _ _ ⟨z, _, by simp [w16, v1], h.read 1 rfl (by omega) hjl (v 1) rfl⟩
        ·clear hi3
         refine wpOp_step rfl (fun K hK => ?_)
         go_simp
         exact hK _ _ ⟨z, _, by simp [v2], h.read 2 rfl (by omega) hjl (v 2) rfl⟩
        ·have l1 : LL l 1 := LL_of (by simp [Region.binds, Array.getD_eq_getD_getElem?] at hi3; simp [hi3])
         have l2 : LL l 2 := LL_of (by simp [Region.binds, Array.getD_eq_getD_getElem?] at hi3; simp [hi3])
         clear hi3
         have w1 := (h.val 1 rfl l1).trans v1
         have w2 := (h.val 2 rfl l2).trans v2
         refine wpOp_step rfl (fun K hK => ?_)
         go_simp
         exact hK _ _ ⟨z, _, by simp [w1, w2, v3], h.read 3 rfl (by omega) hjl (v 3) rfl⟩
        ·have l0 : LL l 0 := LL_of (by simp [Region.binds, Array.getD_eq_getD_getElem?] at hi3; simp [hi3])
         have l3 : LL l 3 := LL_of (by simp [Region.binds, Array.getD_eq_getD_getElem?] at hi3; simp [hi3])
         clear hi3
         have w3 := (h.val 3 rfl l3).trans v3
         obtain ⟨⟨g, e0⟩, hk0⟩ := h.k0 l0 hjl
         rw [e0] at hk0
         refine wpOp_step rfl (fun K hK => ?_)
         refine zG rfl _ _ rfl (w7).heap.size (.slice (some ⟨g, 0, none⟩) 0 0) (.slice (some ⟨ob, oo, none⟩) j oc) [] p (by exact e0) (by exact w3) hk0 ((za HPX1).below h.bw) (by simp only [List.length_nil]; omega) h.bw.size (some 49) rfl ?_
         intro v6 w6 hr6 hg6 hat
         obtain ⟨ra', rc', rfl⟩ := qZ hr6
         exact hK _ _ ⟨z, _, by simp [Act.put, e0, w3], h.s4 hjl l0 hr6 (by rw [e0]; exact hg6) (by rw [e0]; exact hat)⟩
        ·clear hi3
         refine wpOp_step rfl (fun K hK => ?_)
         go_simp
         exact hK _ _ ⟨z, _, by simp [v5], h.read 5 rfl (by omega) hjl (v 5) rfl⟩
        ·have l5 : LL l 5 := LL_of (by simp [Region.binds, Array.getD_eq_getD_getElem?] at hi3; simp [hi3])
         clear hi3
         obtain ⟨q1, u1⟩ := za HALL2
         have q1 := qi h.bw q1
         have u1 := qi h.bw u1
         have w5 := (h.val 5 rfl l5).trans v5
         refine wpOp_step rfl (fun K hK => ?_)
         go_simp
         exact hK _ _ ⟨z, _, by simp [w5, v6], h.read 6 rfl (by omega) hjl (v 6) rfl⟩
        ·clear hi3
         refine wpOp_step rfl (fun K hK => ?_)
         go_simp
         exact hK _ _ ⟨z, _, by simp [v7], h.read 7 rfl (by omega) hjl (v 7) rfl⟩
        ·have l6 : LL l 6 := LL_of (by simp [Region.binds, Array.getD_eq_getD_getElem?] at hi3; simp [hi3])
         have l7 : LL l 7 := LL_of (by simp [Region.binds, Array.getD_eq_getD_getElem?] at hi3; simp [hi3])
         clear hi3
         have w6 := (h.val 6 rfl l6).trans v6
         have w7 := (h.val 7 rfl l7).trans v7
         refine wpOp_step rfl (fun K hK => ?_)
         go_simp
         exact hK _ _ ⟨z, _, by simp [w6, w7, v8], h.read 8 rfl (by omega) hjl (v 8) rfl⟩
        ·have l8 : LL l 8 := LL_of (by simp [Region.binds, Array.getD_eq_getD_getElem?] at hi3; simp [hi3])
         clear hi3
         obtain ⟨q1, u1⟩ := za HALL2
         have q1 := qi h.bw q1
         have u1 := qi h.bw u1
         have w8 := (h.val 8 rfl l8).trans v8
         refine wpOp_step rfl (fun K hK => ?_)
         go_simp
         exact hK _ _ ⟨z, _, by simp [w8, v9], h.read 9 rfl (by omega) hjl (v 9) rfl⟩
        ·have l9 : LL l 9 := LL_of (by simp [Region.binds, Array.getD_eq_getD_getElem?] at hi3; simp [hi3])
         clear hi3
         have w9 := (h.val 9 rfl l9).trans v9
         have HSS := hide (h.s10 hjl)
         refine wpOp_step rfl (fun K hK => ?_)
         go_simp
         exact hK _ _ ⟨z, _, by simp [w9], za HSS⟩
        ·have l4 : LL l 4 := LL_of (by simp [Region.binds, Array.getD_eq_getD_getElem?] at hi3; simp [hi3])
         have l10 : LL l 10 := LL_of (by simp [Region.binds, Array.getD_eq_getD_getElem?] at hi3; simp [hi3])
         clear hi3
         obtain ⟨ra, rc', e4⟩ := h.k4 l4
         have hr4 := h.r4 l4 hjl
         obtain ⟨g, e10, hc10, hg10, _, _⟩ := h.n10 l10 hjl
         rw [e4] at hr4
         refine wpOp_step rfl (fun K hK => ?_)
         refine zG rfl _ _ rfl (w7).heap.size (.slice ra p.length rc') (.slice (some ⟨g, 0, none⟩) 1 1) p [x] (by exact e4) (by exact e10) hr4 (ZG hc10 hg10) (by simp only [List.length_cons, List.length_nil]; omega) h.bw.size (some 56) rfl ?_
         intro v6 w6 hr6 hg6 _
         obtain ⟨sa, sc, rfl⟩ := qZ hr6
         have hr6' := jX hr6
         exact hK _ _ ⟨z, _, by simp [Act.put, e4, e10], h.s11 hjl l4 l10 hr6' (by rw [e4]; exact hg6)⟩
        ·clear hi3
         have n16 : ¬ LL l 16 := fun e => hjl (h.c16 e 12 (by omega))
         have w16 := (h.o16 n16).trans v16
         refine wpOp_step rfl (fun K hK => ?_)
         go_simp
         exact hK _ _ ⟨z, _, by simp [w16, v12], h.read 12 rfl (by omega) hjl (v 12) rfl⟩
        ·clear hi3
         refine wpOp_step rfl (fun K hK => ?_)
         go_simp
         exact hK _ _ ⟨z, _, by simp [v13], h.read 13 rfl (by omega) hjl (v 13) rfl⟩
        ·have l12 : LL l 12 := LL_of (by simp [Region.binds, Array.getD_eq_getD_getElem?] at hi3; simp [hi3])
         have l13 : LL l 13 := LL_of (by simp [Region.binds, Array.getD_eq_getD_getElem?] at hi3; simp [hi3])
         clear hi3
         have w12 := (h.val 12 rfl l12).trans v12
         have w13 := (h.val 13 rfl l13).trans v13
         refine wpOp_step rfl (fun K hK => ?_)
         by_cases cj : oc = j
         ·have hqa : qa = some ⟨ob, oo, none⟩ := by rw [za HQA, if_pos cj]
          subst cj
          go_simp
          exact hK _ _ ⟨z, _, (by simp [w12, w13, v14, hqa]; try omega), h.read 14 rfl (by omega) hjl (v 14) rfl⟩
         ·have hqa : qa = some ⟨ob, oo + j, none⟩ := by rw [za HQA, if_neg cj]
          go_simp
          exact hK _ _ ⟨z, _, by simp [w12, w13, v14, hqa], h.read 14 rfl (by omega) hjl (v 14) rfl⟩
        ·have l11 : LL l 11 := LL_of (by simp [Region.binds, Array.getD_eq_getD_getElem?] at hi3; simp [hi3])
         have l14 : LL l 14 := LL_of (by simp [Region.binds, Array.getD_eq_getD_getElem?] at hi3; simp [hi3])
         clear hi3
         have w14 := (h.val 14 rfl l14).trans v14
         obtain ⟨ra, rc', e11⟩ := h.k11 l11
         have hr11 := h.r11 l11 hjl
         rw [e11] at hr11
         refine wpOp_step rfl (fun K hK => ?_)
         refine zG rfl _ _ rfl (w7).heap.size (.slice ra (p.length + 1) rc') (.slice qa (m.length - j) (oc - j)) (p ++ [x]) q (by exact e11) (by exact w14) hr11 ((za HQ1).below h.bw) (by simp only [List.length_append, List.length_cons, List.length_nil]; omega) h.bw.size (some 60) rfl ?_
         intro v6 w6 hr6 hg6 _
         obtain ⟨sa, sc, rfl⟩ := qZ hr6
         exact hK _ _ ⟨z, _, by simp [Act.put, e11, w14], h.s15 hjl l11 hr6 (by rw [e11]; exact hg6)⟩
        ·have l0 : LL l 0 := LL_of (by simp [Region.binds, Array.getD_eq_getD_getElem?] at hi3; simp [hi3])
         have l1 : LL l 1 := LL_of (by simp [Region.binds, Array.getD_eq_getD_getElem?] at hi3; simp [hi3])
         have l2 : LL l 2 := LL_of (by simp [Region.binds, Array.getD_eq_getD_getElem?] at hi3; simp [hi3])
         have l3 : LL l 3 := LL_of (by simp [Region.binds, Array.getD_eq_getD_getElem?] at hi3; simp [hi3])
         have l4 : LL l 4 := LL_of (by simp [Region.binds, Array.getD_eq_getD_getElem?] at hi3; simp [hi3])
         have l5 : LL l 5 := LL_of (by simp [Region.binds, Array.getD_eq_getD_getElem?] at hi3; simp [hi3])
         have l6 : LL l 6 := LL_of (by simp [Region.binds, Array.getD_eq_getD_getElem?] at hi3; simp [hi3])
         have l7 : LL l 7 := LL_of (by simp [Region.binds, Array.getD_eq_getD_getElem?] at hi3; simp [hi3])
         have l8 : LL l 8 := LL_of (by simp [Region.binds, Array.getD_eq_getD_getElem?] at hi3; simp [hi3])
         have l9 : LL l 9 := LL_of (by simp [Region.binds, Array.getD_eq_getD_getElem?] at hi3; simp [hi3])
         have l10 : LL l 10 := LL_of (by simp [Region.binds, Array.getD_eq_getD_getElem?] at hi3; simp [hi3])
         have l11 : LL l 11 := LL_of (by simp [Region.binds, Array.getD_eq_getD_getElem?] at hi3; simp [hi3])
         have l12 : LL l 12 := LL_of (by simp [Region.binds, Array.getD_eq_getD_getElem?] at hi3; simp [hi3])
         have l13 : LL l 13 := LL_of (by simp [Region.binds, Array.getD_eq_getD_getElem?] at hi3; simp [hi3])
         have l14 : LL l 14 := LL_of (by simp [Region.binds, Array.getD_eq_getD_getElem?] at hi3; simp [hi3])
         have l15 : LL l 15 := LL_of (by simp [Region.binds, Array.getD_eq_getD_getElem?] at hi3; simp [hi3])
         clear hi3
         have hall : ∀ j, j < 16 → LL l j := fun t ht => by
          rcases (by omega : t = 0 ∨ t = 1 ∨ t = 2 ∨ t = 3 ∨ t = 4 ∨ t = 5 ∨ t = 6 ∨ t = 7 ∨ t = 8 ∨ t = 9 ∨ t = 10 ∨ t = 11 ∨ t = 12 ∨ t = 13 ∨ t = 14 ∨ t = 15) with rfl | rfl | rfl | rfl | rfl | rfl | rfl | rfl | rfl | rfl | rfl | rfl | rfl | rfl | rfl | rfl
          all_goals assumption
         have HSS := hide (h.s16 hjl hall (f 15) rfl)
         refine wpOp_step rfl (fun K hK => ?_)
         go_simp
         exact hK _ _ ⟨z, _, by simp, za HSS⟩
       case hend =>
        rintro l a' w' ⟨z, f, rfl, h⟩ hall
        have l16 : LL l 16 := hall 16 (by decide)
        have l15 : LL l 15 := hall 15 (by decide)
        have e16 := h.a16 l16
        obtain ⟨⟨ra, rc', e15⟩, hr15⟩ := h.r15 l15
        rw [e15] at e16 hr15
        have HRR15 := hide hr15
        have hbw' := h.bw
        clear h hall l16 l15 hr15
        obtain ⟨gb, go, rfl⟩ : ∃ gb go, ra = some ⟨gb, go, none⟩ := by
         obtain ⟨a, c, e, _, _, h3⟩ := qD (za HRR15)
         injection e with e1 _ _
         obtain ⟨b, o, e2, _⟩ := h3 (by simp; omega)
         exact ⟨b, o, by rw [e1, e2]⟩
        have HI2 := hide (qD (za HRR15))
        obtain ⟨L, hL⟩ : ∃ L, (p ++ [x] ++ q).length = L := ⟨_, rfl⟩
        have HLL := hide hL
        have HB2 := hide (zj (zj (za HBL) (za HBW)) hbw')
        rw [hL] at e16
        rw [e16]
        clear hL hbw' e16 e15
        go_wp2_with fail
        go_roundw
        case rel => exact ⟨k + 1, p ++ [x] ++ q, gb, go, rc', by omega, by go_num, by rw [za HLL], HI2, hide (za HNS).symm, za HB2⟩
        case measure => simp [intOf]; omega
   ·obtain rfl : k = rs.length := by omega
    have hmm := za HMm
    rw [List.take_of_length_le (Nat.le_refl _)] at hmm
    have hT := (za HT5).below hbl
    have hQ := (za HQ5).below hbl
    obtain ⟨nv', rv', e, hn5, _⟩ := (za HC5).below hbl
    simp only [Value.agg.injEq, Array.mk.injEq, List.cons.injEq, and_true] at e
    obtain ⟨rfl, rfl⟩ := e
    simp only at hn5
    have hT1 := hT.st1 (.slice (some ⟨ob, oo, none⟩) m.length oc)
    have hQ1 := hQ.far (a := ⟨W3.heap.size, 1, none⟩) (by show W3.heap.size ≠ w.heap.size + 1; omega) (.slice (some ⟨ob, oo, none⟩) m.length oc)
    have hQ2 := hQ1.st0 (.slice ma ns.length mc)
    have hX := hQ2.st1 (.slice (some ⟨ob, oo, none⟩) m.length oc)
    have hN3 := ((hn5.box hT 1 (.slice (some ⟨ob, oo, none⟩) m.length oc)).box hQ1 0 (.slice ma ns.length mc)).box hQ2 1 (.slice (some ⟨ob, oo, none⟩) m.length oc)
    have hI3 := (((za HIm).box hT 1 (.slice (some ⟨ob, oo, none⟩) m.length oc)).box hQ1 0 (.slice ma ns.length mc)).box hQ2 1 (.slice (some ⟨ob, oo, none⟩) m.length oc)
    rw [hmm] at hI3
    have hDD : DataAt (((wr.setCell ⟨W3.heap.size, 1, none⟩ (.slice (some ⟨ob, oo, none⟩) m.length oc)).setCell ⟨w.heap.size + 1, 0, none⟩ (.slice ma ns.length mc)).setCell ⟨w.heap.size + 1, 1, none⟩ (.slice (some ⟨ob, oo, none⟩) m.length oc)) (.agg #[.slice ma ns.length mc, .slice (some ⟨ob, oo, none⟩) m.length oc]) (ns, srt r rs) := ⟨_, _, rfl, hN3, by rw [hmm]; exact hI3⟩
    have hE := (((zj (za HB5) hbl).setCell (p := ⟨W3.heap.size, 1, none⟩) (by show w.heap.size ≤ W3.heap.size; omega) (.slice (some ⟨ob, oo, none⟩) m.length oc)).setCell (p := ⟨w.heap.size + 1, 0, none⟩) (by show w.heap.size ≤ w.heap.size + 1; omega) (.slice ma ns.length mc)).setCell (p := ⟨w.heap.size + 1, 1, none⟩) (by show w.heap.size ≤ w.heap.size + 1; omega) (.slice (some ⟨ob, oo, none⟩) m.length oc)
    have HDD := hide hDD
    have HEE := hide hE
    have t0 := hT.n0
    have t1 := hT.n1
    have tf := hT.f
    have s0 := hT1.n0
    have s1 := hT1.n1
    have q0 := hQ1.n0
    have q1 := hQ1.n1
    have qf := hQ1.f
    have z0 := hX.n0
    have z1 := hX.n1
    clear hDD hE hX hT hT1 hQ hQ1 hQ2 hN3 hI3 hn5 hmm
    go_wp2_with fail
    refine bodyPost_ret (v := .agg #[.slice ma ns.length mc, .slice (some ⟨ob, oo, none⟩) m.length oc]) (by simp [results, Tryz.results17, go_sem, z0, z1]) rfl ⟨⟨_, _, rfl, za HDD⟩, za HEE⟩
 ·rw [ho]
  obtain rfl : M = ([], []) := by rw [← za HM, xY ho]
  clear ho
  have HRF := hide (((za HQ1).st0 (.slice none 0 0)).st1 (.slice none 0 0))
  have z0 := (za HRF).n0
  have z1 := (za HRF).n1
  have q0 := (za HQ1).n0
  have q1 := (za HQ1).n1
  have qf := (za HQ1).f
  have HBF := hide (((za HB1).setCell (p := ⟨w.heap.size + 1, 0, none⟩) (Nat.le_succ _) (.slice none 0 0)).setCell (p := ⟨w.heap.size + 1, 1, none⟩) (Nat.le_succ _) (.slice none 0 0))
  go_wp2_with fail
  refine bodyPost_ret (v := .agg #[.slice none 0 0, .slice none 0 0]) (by simp [results, Tryz.results17, go_sem, z0, z1]) rfl ⟨⟨_, _, rfl, (Vx _ _ (Nat.le_refl _)).at⟩, za HBF⟩
theorem zab (w : World) (x : Int) : IntsAt (w.alloc (.cells #[.int .i64 x] 3)) (.slice (some ⟨w.heap.size, 0, none⟩) 1 1) [x] := by
 refine ⟨some ⟨w.heap.size, 0, none⟩, 1, rfl, Nat.le_refl _, by unfold maxLen; omega, fun _ => ⟨w.heap.size, 0, rfl, by simp, fun j y hj => ?_⟩⟩
 match j, hj with
 | 0, hj =>
  simp at hj
  subst hj
  have h := heap_alloc_new w (.cells #[.int .i64 x] 3)
  unfold World.cell?
  simp only [Nat.zero_add]
  rw [h]
  rfl
theorem Vo (xs : List Int) (a : Option Addr) (c : Nat) (n : Int) (w : World) (h : IntsAt w (.slice a xs.length c) xs) :
  Calls Tryz.prog 20 #[.slice a xs.length c, .int .i64 n] w fun e w' => e = .returned (.int .i64 (xs.count n : Nat)) ∧ w' = w := by
 have hm := h.len
 unfold maxLen at hm
 have HX := hide h
 clear h
 go_enter Tryz.func20, Tryz.ntmps20
 go_wp2_with fail
 go_loopw [5, 6] (fun q i wr => ∃ k : Nat, k ≤ xs.length ∧ i = .int .i64 k ∧ q = .int .i64 ((xs.take k).count n : Nat) ∧ wr = w)
  (fun _ i _ => xs.length - (intOf i).toNat)
 case atStart => exact ⟨0, by omega, rfl, by simp, rfl⟩
 case round =>
  obtain ⟨k, hk, rfl, rfl, rfl⟩ := hrel
  by_cases hlt : k < xs.length
  ·obtain ⟨x, hx⟩ : ∃ x, xs[k]? = some x := ⟨_, List.getElem?_eq_getElem hlt⟩
   obtain ⟨b, off, rfl, _, cx⟩ := (za HX).cell hx
   have hc : (xs.take (k + 1)).count n = (xs.take k).count n + (if x = n then 1 else 0) := by
    rw [List.take_add_one, hx, List.count_append]
    simp [List.count_cons]
   have hle : (xs.take k).count n ≤ k := Nat.le_trans List.count_le_length (by rw [List.length_take]; omega)
   obtain ⟨C, hC⟩ : ∃ C, (xs.take k).count n = C := ⟨_, rfl⟩
   rw [hC] at hc hle ⊢
   have HC := hide hc
   clear hc hC
   by_cases e : x = n
   ·subst e
    have e1 : wrap64 ((C : Int) + 1) = ((C + 1 : Nat) : Int) := by unfold wrap64; omega
    go_wp2_with fail
    go_roundw
    case rel => exact ⟨k + 1, by omega, by go_num, by rw [za HC]; simp, trivial⟩
    case measure => simp [intOf]; omega
   ·have e1 : (x == n) = false := by simp [e]
    go_wp2_with fail
    go_roundw
    case rel => exact ⟨k + 1, by omega, by go_num, by rw [za HC]; simp [e], trivial⟩
    case measure => simp [intOf]; omega
  ·obtain rfl : k = xs.length := by omega
   rw [List.take_of_length_le (Nat.le_refl _)]
   go_wp2_with fail
   go_ret
   exact ⟨rfl, rfl⟩
theorem XU (ns : List Nd) (na : Option Addr) (nc : Nat) (ra : Option Addr) (rl rc : Nat) (r : Int) (w : World) (h : NodesAt w (.slice na ns.length nc) ns) :
  Calls Tryz.prog 11 #[.agg #[.slice na ns.length nc, .slice ra rl rc], .int .i64 r] w fun e w' => (∃ u, e = .returned u ∧ DataAt w' u (ns, [r])) ∧ Below w.heap.size w w' := by
 go_enter Tryz.func11, Tryz.ntmps11
 go_wp2_with fail
 have hb2 := zf (zf (Below.refl w.heap.size w) (.cells #[.slice na ns.length nc, .slice ra rl rc] 26)) (.cells #[.slice na ns.length nc, .slice (some ⟨w.heap.size + 1 + 1, 0, none⟩) 1 1] 26)
 have hb := zf hb2 (.cells #[.int .i64 r] 3)
 have hA := (AtC2.new (w.alloc (.cells #[.slice na ns.length nc, .slice ra rl rc] 26)) (.slice na ns.length nc) (.slice (some ⟨w.heap.size + 1 + 1, 0, none⟩) 1 1) 26).alloc (.cells #[.int .i64 r] 3)
 rw [World.size_alloc] at hA
 have hI := zab ((w.alloc (.cells #[.slice na ns.length nc, .slice ra rl rc] 26)).alloc (.cells #[.slice na ns.length nc, .slice (some ⟨w.heap.size + 1 + 1, 0, none⟩) 1 1] 26)) r
 rw [World.size_alloc, World.size_alloc] at hI
 have z0 := hA.n0
 have z1 := hA.n1
 refine bodyPost_ret (v := .agg #[.slice na ns.length nc, .slice (some ⟨w.heap.size + 1 + 1, 0, none⟩) 1 1]) (by simp [results, Tryz.results11, go_sem, z0, z1]) rfl ⟨⟨_, rfl, _, _, rfl, h.below hb, hI⟩, hb⟩
theorem kK {w w' : World} (k : Below w.heap.size w w') {a : Addr} {v : Value} (h : w.cell? a = some v) : w'.cell? a = some v := (k.cell (World.block_lt_of_cell? _ _ h)).trans h
theorem Vd (d : Dt) (u v : Value) (w : World) (hd : DataAt w u d) (he : DataAt w v d) :
  Calls Tryz.prog 16 #[u, v] w fun e w' => e = .returned (.bool true) ∧ Below w.heap.size w w' := by
 obtain ⟨ns, rs⟩ := d
 obtain ⟨nv, rv, rfl, hn, hr⟩ := hd
 obtain ⟨mv, sv, rfl, hm, hs⟩ := he
 simp only at hn hr hm hs
 obtain ⟨an, cn, rfl, hn1, hn2⟩ := hn.form0
 obtain ⟨ar, cr, rfl, hr1, hr2⟩ := hr.form
 obtain ⟨am, cm, rfl, hm1, hm2⟩ := hm.form0
 obtain ⟨as_, cs, rfl, hs1, hs2⟩ := hs.form
 unfold maxLen at hn2 hr2 hm2 hs2
 have hB := zf (zf (Below.refl w.heap.size w) (.cells #[.slice an ns.length cn, .slice ar rs.length cr] 26)) (.cells #[.slice am ns.length cm, .slice as_ rs.length cs] 26)
 have HN := hide (hn.below hB)
 have HM := hide (hm.below hB)
 have HR := hide (hr.below hB)
 have HS := hide (hs.below hB)
 have HB := hide hB
 have HP := hide ((AtC2.new w (.slice an ns.length cn) (.slice ar rs.length cr) 26).alloc (.cells #[.slice am ns.length cm, .slice as_ rs.length cs] 26))
 have HQ := hide (AtC2.new (w.alloc (.cells #[.slice an ns.length cn, .slice ar rs.length cr] 26)) (.slice am ns.length cm) (.slice as_ rs.length cs) 26)
 rw [World.size_alloc] at HQ
 clear hn hr hm hs hB
 go_enter Tryz.func16, Tryz.ntmps16
 go_wp2_with fail
 obtain ⟨W, hW⟩ : ∃ W, (w.alloc (.cells #[.slice an ns.length cn, .slice ar rs.length cr] 26)).alloc (.cells #[.slice am ns.length cm, .slice as_ rs.length cs] 26) = W := ⟨_, rfl⟩
 rw [hW] at HB HP HQ HN HM HR HS ⊢
 clear hW
 have p0 := (za HP).n0
 have p1 := (za HP).n1
 have q0 := (za HQ).n0
 have q1 := (za HQ).n1
 go_wp2_with fail
 clear p0 p1 q0 q1
 go_loopw [5] (fun i wr => ∃ k : Nat, k ≤ ns.length ∧ i = .int .i64 k ∧ Below W.heap.size W wr) (fun i _ => ns.length - (intOf i).toNat)
 case atStart => exact ⟨0, by omega, rfl, Below.refl _ _⟩
 case round =>
  obtain ⟨k, hk, rfl, hbl⟩ := hrel
  have p0 := ((za HP).below hbl).n0
  have p1 := ((za HP).below hbl).n1
  have q0 := ((za HQ).below hbl).n0
  have q1 := ((za HQ).below hbl).n1
  by_cases hlt : k < ns.length
  ·obtain ⟨nd, hnd⟩ : ∃ nd, ns[k]? = some nd := ⟨_, List.getElem?_eq_getElem hlt⟩
   obtain ⟨b, off, rfl, _⟩ := ((za HN).below hbl).addr (by omega)
   obtain ⟨b', off', rfl, _⟩ := ((za HM).below hbl).addr (by omega)
   obtain ⟨kv, c0, c1, c2, _, hk1⟩ := ((za HN).below hbl).node hnd
   obtain ⟨lv, e0, e1, e2, _, hl1⟩ := ((za HM).below hbl).node hnd
   obtain ⟨ka, kc, rfl, hk2, hk3⟩ := hk1.form
   obtain ⟨la, lc, rfl, hl2, hl3⟩ := hl1.form
   unfold maxLen at hk3 hl3
   have HK := hide hk1
   have HL := hide hl1
   have HBL := hide hbl
   obtain ⟨W6, hW6⟩ : ∃ W6, W6 = wr := ⟨_, rfl⟩
   subst hW6
   have HC := hide (And.intro p0 (And.intro q0 (And.intro c0 (And.intro c1 (And.intro c2 (And.intro e0 (And.intro e1 e2)))))))
   have d0 : W6.drew.cell? ⟨w.heap.size, 0, none⟩ = _ := p0
   have d1 : W6.drew.cell? ⟨w.heap.size + 1, 0, none⟩ = _ := q0
   have d2 : W6.drew.cell? ⟨b, off + k * 3, none⟩ = _ := c0
   have d3 : W6.drew.cell? ⟨b, off + k * 3 + 1, none⟩ = _ := c1
   have d4 : W6.drew.cell? ⟨b, off + k * 3 + 2, none⟩ = _ := c2
   have d5 : W6.drew.cell? ⟨b', off' + k * 3, none⟩ = _ := e0
   have d6 : W6.drew.cell? ⟨b', off' + k * 3 + 1, none⟩ = _ := e1
   have d7 : W6.drew.cell? ⟨b', off' + k * 3 + 2, none⟩ = _ := e2
   clear hk1 hl1 hbl
   go_wp2_with fail
   go_region_held3 (fun w' => w'.cell? ⟨w.heap.size, 0, none⟩ = some (.slice (some ⟨b, off, none⟩) ns.length cn) ∧ w'.cell? ⟨w.heap.size + 1, 0, none⟩ = some (.slice (some ⟨b', off', none⟩) ns.length cm) ∧ w'.cell? ⟨b, off + k * 3, none⟩ = some (.int .i64 nd.1) ∧ w'.cell? ⟨b, off + k * 3 + 1, none⟩ = some (.string (B nd.2.1)) ∧ w'.cell? ⟨b, off + k * 3 + 2, none⟩ = some (.slice ka nd.2.2.length kc) ∧ w'.cell? ⟨b', off' + k * 3, none⟩ = some (.int .i64 nd.1) ∧ w'.cell? ⟨b', off' + k * 3 + 1, none⟩ = some (.string (B nd.2.1)) ∧ w'.cell? ⟨b', off' + k * 3 + 2, none⟩ = some (.slice la nd.2.2.length lc)) (((try dsimp only); (repeat' apply And.intro) <;> (with_reducible assumption))) (fail)
   clear d0 d1 d2 d3 d4 d5 d6 d7 p0 p1 q0 q1 c0 c1 c2 e0 e1 e2
   go_wp2_with fail
   go_loopw [6] (fun q wr => ∃ j : Nat, j ≤ nd.2.2.length ∧ q = .int .i64 j ∧ Below W6.heap.size W6 wr) (fun q _ => nd.2.2.length - (intOf q).toNat)
   case atStart => exact ⟨0, by omega, rfl, (Below.refl _ _).drew⟩
   case round =>
    obtain ⟨j, hj, rfl, hb6⟩ := hrel
    obtain ⟨p0, q0, c0, c1, c2, e0, e1, e2⟩ := za HC
    have p0 := kK hb6 p0
    have q0 := kK hb6 q0
    have c2 := kK hb6 c2
    have e2 := kK hb6 e2
    by_cases hjl : j < nd.2.2.length
    ·obtain ⟨x, hx⟩ : ∃ x, nd.2.2[j]? = some x := ⟨_, List.getElem?_eq_getElem hjl⟩
     obtain ⟨kb, ko, rfl, _, x0⟩ := ((za HK).below hb6).cell hx
     obtain ⟨lb, lo, rfl, _, y0⟩ := ((za HL).below hb6).cell hx
     have d0 : wr.drew.cell? ⟨w.heap.size, 0, none⟩ = _ := p0
     have d1 : wr.drew.cell? ⟨w.heap.size + 1, 0, none⟩ = _ := q0
     have d2 : wr.drew.cell? ⟨b, off + k * 3 + 2, none⟩ = _ := c2
     have d3 : wr.drew.cell? ⟨b', off' + k * 3 + 2, none⟩ = _ := e2
     have d4 : wr.drew.cell? ⟨kb, ko + j, none⟩ = _ := x0
     have d5 : wr.drew.cell? ⟨lb, lo + j, none⟩ = _ := y0
     clear c0 c1 e0 e1
     have HBX := hide hb6
     go_wp2_with fail
     go_region_held3 (fun w' => w'.cell? ⟨w.heap.size, 0, none⟩ = some (.slice (some ⟨b, off, none⟩) ns.length cn) ∧ w'.cell? ⟨w.heap.size + 1, 0, none⟩ = some (.slice (some ⟨b', off', none⟩) ns.length cm) ∧ w'.cell? ⟨b, off + k * 3 + 2, none⟩ = some (.slice (some ⟨kb, ko, none⟩) nd.2.2.length kc) ∧ w'.cell? ⟨b', off' + k * 3 + 2, none⟩ = some (.slice (some ⟨lb, lo, none⟩) nd.2.2.length lc) ∧ w'.cell? ⟨kb, ko + j, none⟩ = some (.int .i64 x) ∧ w'.cell? ⟨lb, lo + j, none⟩ = some (.int .i64 x)) (((try dsimp only); (repeat' apply And.intro) <;> (with_reducible assumption))) (fail)
     clear d0 d1 d2 d3 d4 d5 p0 q0 c2 e2 x0 y0 hb6
     go_wp2_with fail
     go_roundw
     case rel => exact ⟨j + 1, by omega, by go_num, (za HBX).drew⟩
     case measure => simp [intOf]; omega
    ·obtain rfl : j = nd.2.2.length := by omega
     have HBX := hide (zj (za HBL) hb6)
     clear c0 c1 e0 e1
     go_wp2_with fail
     go_roundw
     case rel => exact ⟨k + 1, by omega, by go_num, za HBX⟩
     case measure => simp [intOf]; omega
  ·obtain rfl : k = ns.length := by omega
   have HBL := hide hbl
   go_wp2_with fail
   clear p0 p1 q0 q1
   obtain ⟨W6, hW6⟩ : ∃ W6, W6 = wr := ⟨_, rfl⟩
   subst hW6
   go_loopw [7] (fun q wr => ∃ j : Nat, j ≤ rs.length ∧ q = .int .i64 j ∧ Below W.heap.size W wr) (fun q _ => rs.length - (intOf q).toNat)
   case atStart => exact ⟨0, by omega, rfl, za HBL⟩
   case round =>
    obtain ⟨j, hj, rfl, hb6⟩ := hrel
    have p1 := ((za HP).below hb6).n1
    have q1 := ((za HQ).below hb6).n1
    have HBX := hide hb6
    by_cases hjl : j < rs.length
    ·obtain ⟨x, hx⟩ : ∃ x, rs[j]? = some x := ⟨_, List.getElem?_eq_getElem hjl⟩
     obtain ⟨kb, ko, rfl, _, x0⟩ := ((za HR).below hb6).cell hx
     obtain ⟨lb, lo, rfl, _, y0⟩ := ((za HS).below hb6).cell hx
     have d0 : wr.drew.cell? ⟨w.heap.size, 1, none⟩ = _ := p1
     have d1 : wr.drew.cell? ⟨w.heap.size + 1, 1, none⟩ = _ := q1
     have d4 : wr.drew.cell? ⟨kb, ko + j, none⟩ = _ := x0
     have d5 : wr.drew.cell? ⟨lb, lo + j, none⟩ = _ := y0
     go_wp2_with fail
     go_region_held3 (fun w' => w'.cell? ⟨w.heap.size, 1, none⟩ = some (.slice (some ⟨kb, ko, none⟩) rs.length cr) ∧ w'.cell? ⟨w.heap.size + 1, 1, none⟩ = some (.slice (some ⟨lb, lo, none⟩) rs.length cs) ∧ w'.cell? ⟨kb, ko + j, none⟩ = some (.int .i64 x) ∧ w'.cell? ⟨lb, lo + j, none⟩ = some (.int .i64 x)) (((try dsimp only); (repeat' apply And.intro) <;> (with_reducible assumption))) (fail)
     clear d0 d1 d4 d5 p1 q1 x0 y0 hb6
     go_wp2_with fail
     go_roundw
     case rel => exact ⟨j + 1, by omega, by go_num, (za HBX).drew⟩
     case measure => simp [intOf]; omega
    ·obtain rfl : j = rs.length := by omega
     go_wp2_with fail
     go_ret
     exact ⟨rfl, zj (za HB) (za HBX)⟩
theorem Ju (d e : Dt) (u v : Value) (w : World) (hd : DataAt w u d) (he : DataAt w v e) (hsd : d.1.length ≤ 1048576 ∧ d.2.length ≤ 1048576 ∧ zM d.1) (hse : e.1.length ≤ 1048576 ∧ e.2.length ≤ 1048576 ∧ zM e.1) (hT : Tabz w) (hN : Tens w) (h3 : 3 < w.heap.size) :
  Calls Tryz.prog 8 #[u, v] w fun r W' => r = .returned (.int .i64 (tabM d e)) ∧ Below w.heap.size w W' := by
 obtain ⟨ns, rs⟩ := d
 obtain ⟨ms, ss⟩ := e
 have HD := hide hd
 have HE := hide he
 obtain ⟨nv, rv, rfl, hn, hr⟩ := hd
 obtain ⟨mv, sv, rfl, hm, hs⟩ := he
 simp only at hn hr hm hs hsd hse
 have HN := hide hn
 have HM := hide hm
 have HR := hide hr
 have HS := hide hs
 obtain ⟨an, cn, rfl, hn1, hn2⟩ := hn.form0
 obtain ⟨ar, cr, rfl, hr1, hr2⟩ := hr.form
 obtain ⟨am, cm, rfl, hm1, hm2⟩ := hm.form0
 obtain ⟨as_, cs, rfl, hs1, hs2⟩ := hs.form
 unfold maxLen at hn2 hr2 hm2 hs2
 obtain ⟨R, hR⟩ : ∃ R, tabM (ns, rs) (ms, ss) = R := ⟨_, rfl⟩
 rw [hR]
 have HTR := hide hR
 have HB := hide (zf (zf (Below.refl w.heap.size w) (.cells #[.slice an ns.length cn, .slice ar rs.length cr] 26)) (.cells #[.slice am ms.length cm, .slice as_ ss.length cs] 26))
 have HP := hide ((AtC2.new w (.slice an ns.length cn) (.slice ar rs.length cr) 26).alloc (.cells #[.slice am ms.length cm, .slice as_ ss.length cs] 26))
 have HQ := hide (AtC2.new (w.alloc (.cells #[.slice an ns.length cn, .slice ar rs.length cr] 26)) (.slice am ms.length cm) (.slice as_ ss.length cs) 26)
 rw [World.size_alloc] at HQ
 have HT := hide (And.intro hT (And.intro hN h3))
 have HC1 : Hid (∀ W, Below w.heap.size w W → Calls Tryz.prog 31 #[.agg #[.slice an ns.length cn, .slice ar rs.length cr]] W fun e w' => e = .returned (.bool (okD (ns, rs) && decide (0 < rs.length))) ∧ Below W.heap.size W w') := hide (fun W hb => kT _ _ (ns, rs) W ((za HD).below hb) hsd ((za HT).1.below (by have := (za HT).2.2; omega) hb) ((za HT).2.1.belowB hb (za HT).2.2) (Nat.lt_of_lt_of_le (za HT).2.2 hb.size))
 have HC2 : Hid (∀ W, Below w.heap.size w W → Calls Tryz.prog 31 #[.agg #[.slice am ms.length cm, .slice as_ ss.length cs]] W fun e w' => e = .returned (.bool (okD (ms, ss) && decide (0 < ss.length))) ∧ Below W.heap.size W w') := hide (fun W hb => kT _ _ (ms, ss) W ((za HE).below hb) hse ((za HT).1.below (by have := (za HT).2.2; omega) hb) ((za HT).2.1.belowB hb (za HT).2.2) (Nat.lt_of_lt_of_le (za HT).2.2 hb.size))
 clear hn hr hm hs hsd hse hR hT hN h3
 go_enter Tryz.func8, Tryz.ntmps8
 go_wp2_with fail
 obtain ⟨W, hW⟩ : ∃ W, (w.alloc (.cells #[.slice an ns.length cn, .slice ar rs.length cr] 26)).alloc (.cells #[.slice am ms.length cm, .slice as_ ss.length cs] 26) = W := ⟨_, rfl⟩
 rw [hW] at HB HP HQ ⊢
 clear hW
 have p0 := (za HP).n0
 have p1 := (za HP).n1
 go_wp2_with fail
 refine (za HC1 W (za HB)).mono ?_
 rintro e' W1 ⟨rfl, hb1⟩
 have HB1 := hide (zj (za HB) hb1)
 have HP1 := hide ((za HP).below hb1)
 have HQ1 := hide ((za HQ).below hb1)
 clear hb1 HB HP HQ p0 p1
 rcases Bool.eq_false_or_eq_true (okD (ns, rs) && decide (0 < rs.length)) with ho | ho
 ·rw [ho]
  have HO1 := hide ho
  clear ho
  have q0 := (za HQ1).n0
  have q1 := (za HQ1).n1
  go_wp2_with fail
  refine (za HC2 W1 (za HB1)).mono ?_
  rintro e' W2 ⟨rfl, hb2⟩
  have HB2 := hide (zj (za HB1) hb2)
  have HP2 := hide ((za HP1).below hb2)
  have HQ2 := hide ((za HQ1).below hb2)
  clear hb2 HB1 HP1 HQ1 q0 q1
  rcases Bool.eq_false_or_eq_true (okD (ms, ss) && decide (0 < ss.length)) with ho | ho
  ·rw [ho]
   have HO2 := hide ho
   clear ho
   have p0 := (za HP2).n0
   have p1 := (za HP2).n1
   have q0 := (za HQ2).n0
   have q1 := (za HQ2).n1
   obtain ⟨oa, la⟩ := Bool.and_eq_true_iff.1 (za HO1)
   obtain ⟨ob, lb⟩ := Bool.and_eq_true_iff.1 (za HO2)
   have hrl : 0 < rs.length := of_decide_eq_true la
   have hsl : 0 < ss.length := of_decide_eq_true lb
   obtain ⟨a, rt, har⟩ : ∃ a t, rs = a :: t := by cases rs with | nil => exact absurd hrl (by simp) | cons a t => exact ⟨a, t, rfl⟩
   obtain ⟨b, st, hbs⟩ : ∃ b t, ss = b :: t := by cases ss with | nil => exact absurd hsl (by simp) | cons b t => exact ⟨b, t, rfl⟩
   have HZ : Hid (cmpAt ns ms a b = R) := hide (by rw [← za HTR]; have h1 := oa; have h2 := ob; rw [har] at h1 ⊢; rw [hbs] at h2 ⊢; exact (YB h1 h2).symm)
   obtain ⟨l1, _, k1, j1⟩ := qt oa
   obtain ⟨l2, _, k2, j2⟩ := qt ob
   have ha := j1 a (by rw [har]; exact List.mem_cons_self)
   have hb := j2 b (by rw [hbs]; exact List.mem_cons_self)
   obtain ⟨ga, oa', rfl, _, u0⟩ := ((za HR).below (za HB2)).cell (k := 0) (x := a) (by rw [har]; rfl)
   obtain ⟨gb, ob', rfl, _, u1⟩ := ((za HS).below (za HB2)).cell (k := 0) (x := b) (by rw [hbs]; rfl)
   rw [Nat.add_zero] at u0 u1
   obtain ⟨gn, on, cn', e1, _, _, _⟩ := (za HN).form (show 0 < ns.length by omega)
   injection e1 with e1 _ e1c
   subst e1
   clear e1c
   obtain ⟨gm, om, cm', e2, _, _, _⟩ := (za HM).form (show 0 < ms.length by omega)
   injection e2 with e2 _ e2c
   subst e2
   clear e2c
   have HC : Hid (∀ X, Below W2.heap.size W2 X → Calls Tryz.prog 32 #[.agg #[.slice (some ⟨gn, on, none⟩) ns.length cn, .int .i64 a], .agg #[.slice (some ⟨gm, om, none⟩) ms.length cm, .int .i64 b]] X fun r W' => r = .returned (.int .i64 R) ∧ Below X.heap.size X W') := hide (fun X hX => by
    rw [← za HZ]
    have hbX := zj (za HB2) hX
    exact QJ ns ms a b _ _ _ _ _ _ X ((za HN).below hbX) ((za HM).below hbX) k1 k2 ⟨ha, hb⟩ l1 l2 ((za HT).2.1.belowB hbX (za HT).2.2) (Nat.lt_of_lt_of_le (za HT).2.2 hbX.size))
   have t0 : (0 : Int) < (rs.length : Int) := by omega
   have t1 : (0 : Int) < (ss.length : Int) := by omega
   clear k1 k2 j1 j2 ha hb har hbs oa ob la lb
   have d0 : W2.drew.cell? ⟨w.heap.size, 0, none⟩ = some (.slice (some ⟨gn, on, none⟩) ns.length cn) := p0
   have d1 : W2.drew.cell? ⟨w.heap.size, 1, none⟩ = some (.slice (some ⟨ga, oa', none⟩) rs.length cr) := p1
   have d2 : W2.drew.cell? ⟨ga, oa', none⟩ = some (.int .i64 a) := u0
   have d3 : W2.drew.cell? ⟨w.heap.size + 1, 0, none⟩ = some (.slice (some ⟨gm, om, none⟩) ms.length cm) := q0
   have d4 : W2.drew.cell? ⟨w.heap.size + 1, 1, none⟩ = some (.slice (some ⟨gb, ob', none⟩) ss.length cs) := q1
   have d5 : W2.drew.cell? ⟨gb, ob', none⟩ = some (.int .i64 b) := u1
   go_wp2_with fail
   go_region_held3 (fun w' => w'.cell? ⟨w.heap.size, 0, none⟩ = some (.slice (some ⟨gn, on, none⟩) ns.length cn) ∧ w'.cell? ⟨w.heap.size, 1, none⟩ = some (.slice (some ⟨ga, oa', none⟩) rs.length cr) ∧ w'.cell? ⟨ga, oa', none⟩ = some (.int .i64 a) ∧ w'.cell? ⟨w.heap.size + 1, 0, none⟩ = some (.slice (some ⟨gm, om, none⟩) ms.length cm) ∧ w'.cell? ⟨w.heap.size + 1, 1, none⟩ = some (.slice (some ⟨gb, ob', none⟩) ss.length cs) ∧ w'.cell? ⟨gb, ob', none⟩ = some (.int .i64 b)) (((try dsimp only); (repeat' apply And.intro) <;> with_reducible assumption)) ((go_at_call 32; refine (za HC W2.drew (Below.refl _ _).drew).mono ?_; rintro e w5 ⟨rfl, hb5⟩; have HB5 : Hid (Below W2.heap.size W2 w5) := (Below.refl _ _).drew.trans hb5; have c1 := zd (za HB5) p0; have c2 := zd (za HB5) p1; have c3 := zd (za HB5) u0; have c4 := zd (za HB5) q0; have c5 := zd (za HB5) q1; have c6 := zd (za HB5) u1; clear hb5))
   go_wp2_with fail
   go_ret
   exact ⟨rfl, zj (za HB2) (za HB5)⟩
  ·rw [ho]
   have HZ : Hid (R = 0) := hide (by
    rw [← za HTR]
    rcases Bool.and_eq_false_iff.1 ho with h | h
    ·exact zaU h
    ·exact zar (List.length_eq_zero_iff.1 (by have := of_decide_eq_false h; simp only at this ⊢; omega)))
   clear ho
   go_wp2_with fail
   go_ret
   exact ⟨zF (za HZ).symm, za HB2⟩
 ·rw [ho]
  have HZ : Hid (R = 0) := hide (by
   rw [← za HTR]
   rcases Bool.and_eq_false_iff.1 ho with h | h
   ·exact zaI h
   ·exact XI (List.length_eq_zero_iff.1 (by have := of_decide_eq_false h; simp only at this ⊢; omega)))
  clear ho
  go_wp2_with fail
  go_ret
  exact ⟨zF (za HZ).symm, za HB1⟩
end Go.Proofs.YtpbnmhnbkfnaeaaGreatDoor
namespace Go.Proofs.YtpbnmhnbkfnaeaaGreatDoor
open Go.RowKit Nt
structure RdC (N : Nat) (W : World) (v : Nat → Value) (l : Array Bool) (x : Nat → Value) (w : World) : Prop where
 sz : l.size = N
 val : ∀ i, i < N → LL l i → x i = v i
 bl : Below W.heap.size W w
section
variable {N : Nat} {W w w' : World} {v x : Nat → Value} {l : Array Bool}
theorem RdC.start (n : l = Array.replicate N false) (h : Below W.heap.size W w) : RdC N W v l x w := by
 subst n
 refine ⟨by simp, fun i _ h => ?_, h⟩
 unfold LL at h
 rw [Array.getElem?_replicate] at h
 split at h <;> simp at h
theorem RdC.next (h : RdC N W v l x w) (i : Nat) (hi : i < N) (hb : Below w.heap.size w w') : RdC N W v (l.setIfInBounds i true) (fun j => if j = i then v i else x j) w' := by
 have hs := fun j => vG (l := l) (i := i) (by rw [h.sz]; omega) j
 refine ⟨by simp [h.sz], fun j hj e => ?_, h.bl.trans (hb.mono h.bl.size)⟩
 by_cases q : j = i
 ·subst q
  show (if j = j then v j else x j) = v j
  rw [if_pos rfl]
 ·show (if j = i then v i else x j) = v j
  rw [if_neg q]
  rcases (hs j).1 e with e | e
  ·exact absurd e q
  ·exact h.val j hj e
theorem RdC.all (h : RdC N W v l x w) (hall : ∀ i, i < N → l[i]? = some true) (i : Nat) (hi : i < N) : x i = v i := h.val i hi (hall i hi)
end
end Go.Proofs.YtpbnmhnbkfnaeaaGreatDoor
namespace Go.Proofs.YtpbnmhnbkfnaeaaGreatDoor
open Go.RowKit Nt
theorem JH {B : Nat} {u : Value} {w : World} (h : DtOut B (.returned u) w) : ∃ d : Dt, DataAt w u d ∧ (d.1.length ≤ 1000 ∧ d.2.length ≤ 1000 ∧ zM d.1) := by
 obtain ⟨nv, rv, k, m, e, h1, h2, h3, h4, h5⟩ := h
 injection e with e
 subst e
 obtain ⟨d, hd, e1, e2, e3⟩ := Q8 h4 h5 (by decide)
 exact ⟨d, hd, by omega, by omega, fun nd hnd => by have := e3 nd hnd; omega⟩
theorem DataAt.slices' {w : World} {u : Value} {d : Dt} (h : DataAt w u d) : ∃ an cn ar cr, u = .agg #[.slice an d.1.length cn, .slice ar d.2.length cr] ∧ NodesAt w (.slice an d.1.length cn) d.1 ∧ IntsAt w (.slice ar d.2.length cr) d.2 := by
 obtain ⟨nv, rv, rfl, hn, hr⟩ := h
 obtain ⟨an, cn, rfl, _⟩ := hn.form0
 obtain ⟨ar, cr, rfl, _⟩ := hr.form
 exact ⟨an, cn, ar, cr, rfl, hn, hr⟩
theorem JN (d : Dt) (h : d.1.length ≤ 1048576 ∧ d.2.length ≤ 1048576 ∧ zM d.1) : (sortM d).1.length ≤ 1048576 ∧ (sortM d).2.length ≤ 1048576 ∧ zM (sortM d).1 := by
 cases ho : okD d with
 | true => rw [jP ho]; exact ⟨h.1, by rw [jh]; exact h.2.1, h.2.2⟩
 | false => rw [xY ho]; exact ⟨by simp, by simp, fun nd hm => by simp at hm⟩
theorem xM (a0 a1 : Option Addr) (len0 cap0 len1 cap1 : Nat) (w : World) (hb0 : Bytes0 w a0 len0) (hb1 : Bytes0 w a1 len1) (hc0 : len0 ≤ cap0) (hc1 : len1 ≤ cap1) (hm0 : cap0 ≤ maxLen) (hm1 : cap1 ≤ maxLen) (hT : Tabz w) (hN : Tens w) (h3 : 3 < w.heap.size) :
  Calls Tryz.prog 4 #[.slice a0 len0 cap0, .slice a1 len1 cap1] w fun r w' => r = .returned (.bool true) ∧ Below w.heap.size w w' := by
 have HCON : Hid (∀ W, Below w.heap.size w W → Tabz W ∧ Tens W ∧ 3 < W.heap.size) := hide (fun W hb => ⟨hT.below (by omega) hb, hN.belowB hb h3, Nat.lt_of_lt_of_le h3 hb.size⟩)
 have H0 := hide hb0
 have H1 := hide hb1
 have HM0 := hide hm0
 have HM1 := hide hm1
 clear hb0 hb1 hT hN h3
 unfold maxLen at hm0 hm1
 by_cases hg0 : 1048576 < (len0 : Int)
 ·go_enter Tryz.func4, Tryz.ntmps4
  go_wp2_with fail
  go_ret
  exact ⟨rfl, Below.refl _ _⟩
 by_cases hg1 : 1048576 < (len1 : Int)
 ·go_enter Tryz.func4, Tryz.ntmps4
  go_wp2_with fail
  go_ret
  exact ⟨rfl, Below.refl _ _⟩
 go_enter Tryz.func4, Tryz.ntmps4
 go_wp2_with fail
 have h := ZT a0 len0 cap0 w (za H0) hc0 (za HM0)
 refine h.mono ?_
 clear h
 rintro e w1 ⟨hout, hb1⟩
 obtain ⟨nv, rv, k0, m0, rfl, _⟩ := id hout
 obtain ⟨d, hd, hs⟩ := JH hout
 clear hout
 obtain ⟨ns, rs⟩ := d
 obtain ⟨an, cn, ar, cr, e, hdn, hdr⟩ := hd.slices'
 rw [e] at hd ⊢
 clear e
 simp only at hd hdn hdr hs ⊢
 have HSM : Hid (ns.length ≤ 1048576 ∧ rs.length ≤ 1048576 ∧ zM ns) := hide ⟨by omega, by omega, hs.2.2⟩
 have hrl9 := hs.2.1
 have HB1 := hide (zf hb1 (.cells #[.slice an ns.length cn, .slice ar rs.length cr] 26))
 have HP1 := hide (AtC2.new w1 (.slice an ns.length cn) (.slice ar rs.length cr) 26)
 have hst := zf (Below.refl w1.heap.size w1) (.cells #[.slice an ns.length cn, .slice ar rs.length cr] 26)
 have HD1 := hide (hd.below hst)
 have HR1 := hide (hdr.below hst)
 obtain ⟨b5, hb5⟩ : ∃ b, w1.heap.size = b := ⟨_, rfl⟩
 obtain ⟨W1, hW1⟩ : ∃ W, w1.alloc (.cells #[.slice an ns.length cn, .slice ar rs.length cr] 26) = W := ⟨_, rfl⟩
 rw [hb5] at HP1
 rw [hW1] at HB1 HP1 HD1 HR1
 have HX1 := hide (And.intro hW1 hb5)
 clear hd hdn hdr hs hb1 hst hW1 hb5
 go_wp2_with fail
 obtain ⟨hW1, hb5⟩ := za HX1
 rw [hW1, hb5]
 clear hW1 hb5 HX1
 obtain ⟨c1, c2, c3⟩ := za HCON _ (za HB1)
 have h := yX _ _ (ns, rs) W1 (za HD1) (za HSM) c1 c2 c3
 refine h.mono ?_
 clear h c1 c2 c3
 rintro e w2 ⟨⟨gn, gr, rfl, hown⟩, hb2⟩
 have hs2 := hown.at
 clear hown
 obtain ⟨M, hM⟩ : ∃ M, sortM (ns, rs) = M := ⟨_, rfl⟩
 have hms := JN (ns, rs) (za HSM)
 rw [hM] at hs2 hms
 have HM := hide hM
 clear hM
 obtain ⟨ms, ss⟩ := M
 obtain ⟨am, cm, as_, cs, e, hmn, hmr⟩ := hs2.slices'
 injection e with e
 simp only [Array.mk.injEq, List.cons.injEq, and_true] at e
 obtain ⟨rfl, rfl⟩ := e
 simp only at hs2 hmn hmr hms ⊢
 have HMS := hide hms
 have hst := zf (Below.refl w2.heap.size w2) (.cells #[.slice am ms.length cm, .slice as_ ss.length cs] 26)
 have hb2' := zj hb2 hst
 have HB2 := hide (zj (za HB1) hb2')
 have HP2 := hide ((za HP1).below hb2')
 have HQ2 := hide (AtC2.new w2 (.slice am ms.length cm) (.slice as_ ss.length cs) 26)
 have HD2 := hide ((za HD1).below hb2')
 have HR2 := hide ((za HR1).below hb2')
 have HE2 := hide (hs2.below hst)
 have HS2 := hide (hmr.below hst)
 have HN2 := hide (hmn.below hst)
 obtain ⟨b6, hb6⟩ : ∃ b, w2.heap.size = b := ⟨_, rfl⟩
 obtain ⟨W2, hW2⟩ : ∃ W, w2.alloc (.cells #[.slice am ms.length cm, .slice as_ ss.length cs] 26) = W := ⟨_, rfl⟩
 rw [hb6] at HQ2
 rw [hW2] at HB2 HP2 HQ2 HD2 HR2 HE2 HS2 HN2
 have HX2 := hide (And.intro hW2 hb6)
 clear hs2 hmn hmr hms hst hb2 hb2' hW2 hb6 HB1 HP1 HD1 HR1
 go_wp2_with fail
 obtain ⟨hW2, hb6⟩ := za HX2
 rw [hW2, hb6]
 clear hW2 hb6 HX2
 have p0 := (za HP2).n0
 have p1 := (za HP2).n1
 have q0 := (za HQ2).n0
 have q1 := (za HQ2).n1
 have HCS : Hid (∀ X, Below W2.heap.size W2 X → Calls Tryz.prog 17 #[.agg #[.slice an ns.length cn, .slice ar rs.length cr]] X fun e W' => (∃ u, e = .returned u ∧ DataAt W' u (ms, ss)) ∧ Below X.heap.size X W') := hide (fun X hX => by
  refine (Z7 (ns, rs) _ X ((za HD2).below hX) (za HSM)).mono ?_
  rintro e W' ⟨⟨mn, mr, rfl, h⟩, hb⟩
  rw [za HM] at h
  exact ⟨⟨_, rfl, h⟩, hb⟩)
 have d0 : W2.drew.cell? ⟨b5, 0, none⟩ = _ := p0
 have d1 : W2.drew.cell? ⟨b5, 1, none⟩ = _ := p1
 have d2 : W2.drew.cell? ⟨b6, 0, none⟩ = _ := q0
 have d3 : W2.drew.cell? ⟨b6, 1, none⟩ = _ := q1
 go_region_held3 (fun w' => w'.cell? ⟨b5, 0, none⟩ = some (.slice an ns.length cn) ∧ w'.cell? ⟨b5, 1, none⟩ = some (.slice ar rs.length cr) ∧ w'.cell? ⟨b6, 0, none⟩ = some (.slice am ms.length cm) ∧ w'.cell? ⟨b6, 1, none⟩ = some (.slice as_ ss.length cs)) (((try dsimp only); (repeat' apply And.intro) <;> (with_reducible assumption))) ((first
  | (go_at_call 16; refine (Vd (ms, ss) _ u5 w5 ((za HE2).below (za HB5)) (za HU5)).mono ?_; rintro e w6 ⟨rfl, hb6⟩; have HB6 : Hid (Below W2.heap.size W2 w6) := hide (zj (za HB5) hb6); have e0 := zd (za HB6) p0; have e1 := zd (za HB6) p1; have e2 := zd (za HB6) q0; have e3 := zd (za HB6) q1; clear hb6)
  | (go_at_call 17; refine (za HCS W2.drew (Below.refl _ _).drew).mono ?_; rintro e w5 ⟨⟨u5, rfl, hu5⟩, hb5⟩; have HU5 := hide hu5; have HB5 : Hid (Below W2.heap.size W2 w5) := (Below.refl _ _).drew.trans hb5; have c0 := zd (za HB5) p0; have c1 := zd (za HB5) p1; have c2 := zd (za HB5) q0; have c3 := zd (za HB5) q1; clear hb5 hu5)))
 have HBV := HB6
 have HB3 := hide (zj (za HB2) (za HBV))
 have HP3 := hide ((za HP2).below (za HBV))
 have HQ3 := hide ((za HQ2).below (za HBV))
 have HD3 := hide ((za HD2).below (za HBV))
 have HR3 := hide ((za HR2).below (za HBV))
 have HE3 := hide ((za HE2).below (za HBV))
 have HS3 := hide ((za HS2).below (za HBV))
 have HN3 := hide ((za HN2).below (za HBV))
 clear HB2 HP2 HQ2 HD2 HR2 HE2 HS2 HN2 HCS HBV HU5 p0 p1 q0 q1 d0 d1 d2 d3 c0 c1 c2 c3 e0 e1 e2 e3
 go_wp2_with fail
 have h := Z1 a1 len1 cap1 w6 ((za H1).below (za HB3)) hc1 (za HM1)
 refine h.mono ?_
 clear h
 rintro e w7 ⟨⟨u, most, rfl, hout⟩, hb7⟩
 obtain ⟨dh, hdh, hsh⟩ := JH hout
 clear hout
 obtain ⟨hs_, rh⟩ := dh
 obtain ⟨ah, ch, arh, crh, e, _, _⟩ := hdh.slices'
 rw [e] at hdh ⊢
 clear e
 simp only at hdh hsh ⊢
 have hst := zf (Below.refl w7.heap.size w7) (.cells #[.slice ah hs_.length ch, .slice arh rh.length crh] 26)
 have hb8 := zj hb7 hst
 have HB4 := hide (zj (za HB3) hb8)
 have HP4 := hide ((za HP3).below hb8)
 have HQ4 := hide ((za HQ3).below hb8)
 have HD4 := hide ((za HD3).below hb8)
 have HR4 := hide ((za HR3).below hb8)
 have HE4 := hide ((za HE3).below hb8)
 have HS4 := hide ((za HS3).below hb8)
 have HN4 := hide ((za HN3).below hb8)
 have HH4 := hide (hdh.below hst)
 have HHS : Hid (hs_.length ≤ 1048576 ∧ rh.length ≤ 1048576 ∧ zM hs_) := hide ⟨by omega, by omega, hsh.2.2⟩
 have HV4 := hide (AtC2.new w7 (.slice ah hs_.length ch) (.slice arh rh.length crh) 26)
 obtain ⟨b7, hb7'⟩ : ∃ b, w7.heap.size = b := ⟨_, rfl⟩
 obtain ⟨W4, hW4⟩ : ∃ W, w7.alloc (.cells #[.slice ah hs_.length ch, .slice arh rh.length crh] 26) = W := ⟨_, rfl⟩
 rw [hb7'] at HV4
 rw [hW4] at HB4 HP4 HQ4 HD4 HR4 HE4 HS4 HN4 HH4 HV4
 have HX4 := hide (And.intro hW4 hb7')
 obtain ⟨R, hR⟩ : ∃ R, hashM (hs_, rh) most = R := ⟨_, rfl⟩
 have HHI : Hid (∀ X, Below W4.heap.size W4 X → Calls Tryz.prog 13 #[.agg #[.slice ah hs_.length ch, .slice arh rh.length crh], .int .i64 most] X fun e W' => e = .returned (.int .i64 R) ∧ Below X.heap.size X W') := hide (fun X hX => by
  rw [← hR]
  obtain ⟨c1, c2, c3⟩ := za HCON _ (zj (za HB4) hX)
  exact ZS (hs_, rh) _ most X ((za HH4).below hX) (za HHS) c1 c2 c3)
 have HHP : Hid (∀ X, Below W4.heap.size W4 X → Calls Tryz.prog 19 #[.agg #[.slice ah hs_.length ch, .slice arh rh.length crh], .int .i64 most] X fun e W' => e = .returned (.int .i64 R) ∧ Below X.heap.size X W') := hide (fun X hX => by
  rw [← hR]
  exact Z9 (hs_, rh) _ most X ((za HH4).below hX) (za HHS))
 have HRM : Hid (0 < most → R < most) := hide (fun h => by rw [← hR]; exact XN _ h)
 clear hst hb7 hb8 hdh hsh hW4 hb7' hR HB3 HP3 HQ3 HD3 HR3 HE3 HS3 HN3
 go_wp2_with fail
 obtain ⟨hW4, hb7'⟩ := za HX4
 rw [hW4, hb7']
 clear hW4 hb7' HX4
 go_cut [50] from 33 to 50 (fun s wx => s = .bool false ∧ Below W4.heap.size W4 wx)
 case first =>
  have v0 := (za HV4).n0
  have v1 := (za HV4).n1
  have d0 : W4.drew.cell? ⟨b7, 0, none⟩ = _ := v0
  have d1 : W4.drew.cell? ⟨b7, 1, none⟩ = _ := v1
  by_cases hmo : 0 < most
  ·have hm1 : decide (0 < most) = true := by simp [hmo]
   have hm2 : decide (most ≤ R) = false := by have := za HRM hmo; simp; omega
   first | go_region_held (fun w' => w'.cell? ⟨b7, 0, none⟩ = some (.slice ah hs_.length ch) ∧ w'.cell? ⟨b7, 1, none⟩ = some (.slice arh rh.length crh)) (((try dsimp only); (repeat' apply And.intro) <;> (with_reducible assumption))) ((first | (go_at_call 13; refine (za HHI w8 (za HB8)).mono ?_; rintro e w9 ⟨rfl, hb9⟩; have HB9 : Hid (Below W4.heap.size W4 w9) := hide (zj (za HB8) hb9); have g0 := zd (za HB9) v0; have g1 := zd (za HB9) v1; clear hb9) | (go_at_call 19; refine (za HHP w5' (za HB5')).mono ?_; rintro e w8 ⟨rfl, hb8⟩; have HB8 : Hid (Below W4.heap.size W4 w8) := hide (zj (za HB5') hb8); have e0 := zd (za HB8) v0; have e1 := zd (za HB8) v1; clear hb8) | (go_at_call 13; refine (za HHI W4.drew (Below.refl _ _).drew).mono ?_; rintro e w5' ⟨rfl, hb5'⟩; have HB5' : Hid (Below W4.heap.size W4 w5') := (Below.refl _ _).drew.trans hb5'; have c0 := zd (za HB5') v0; have c1 := zd (za HB5') v1; clear hb5'))) | fail
   all_goals
    go_wp2_with fail
    go_meet
    case rel => exact ⟨rfl, za HB9⟩
  ·have hm1 : decide (0 < most) = false := by simp [hmo]
   have z0 := v0
   have z1 := v1
   clear HRM v0 v1 d0 d1
   obtain ⟨v, hv⟩ : ∃ v : Nat → Value, v = fun j => match j with
    | 0 => .agg #[.slice ah hs_.length ch, .slice arh rh.length crh]
    | 1 => .int .i64 most
    | 2 => .int .i64 R
    | 3 => .agg #[.slice ah hs_.length ch, .slice arh rh.length crh]
    | 4 => .int .i64 most
    | 5 => .int .i64 R
    | 6 => .bool false
    | 7 => .bool false
    | 8 => .int .i64 most
    | 9 => .bool false
    | 10 => .bool false
    | 11 => undef
    | 12 => undef
    | 13 => undef
    | 14 => undef
    | 15 => undef
    | 16 => .bool false
    | 17 => .bool false
    | _ => undef := ⟨_, rfl⟩
   have v0 : v 0 = .agg #[.slice ah hs_.length ch, .slice arh rh.length crh] := by subst hv; rfl
   have v1 : v 1 = .int .i64 most := by subst hv; rfl
   have v2 : v 2 = .int .i64 R := by subst hv; rfl
   have v3 : v 3 = .agg #[.slice ah hs_.length ch, .slice arh rh.length crh] := by subst hv; rfl
   have v4 : v 4 = .int .i64 most := by subst hv; rfl
   have v5 : v 5 = .int .i64 R := by subst hv; rfl
   have v6 : v 6 = .bool false := by subst hv; rfl
   have v7 : v 7 = .bool false := by subst hv; rfl
   have v8 : v 8 = .int .i64 most := by subst hv; rfl
   have v9 : v 9 = .bool false := by subst hv; rfl
   have v10 : v 10 = .bool false := by subst hv; rfl
   have v11 : v 11 = undef := by subst hv; rfl
   have v12 : v 12 = undef := by subst hv; rfl
   have v13 : v 13 = undef := by subst hv; rfl
   have v14 : v 14 = undef := by subst hv; rfl
   have v15 : v 15 = undef := by subst hv; rfl
   have v16 : v 16 = .bool false := by subst hv; rfl
   have v17 : v 17 = .bool false := by subst hv; rfl
   clear hv
   refine wp_region_any (by kernel_rfl) ?_
   change wpAny _ _ _ _ _ _ _ (World.drew _)
   refine vM (fun l' a' w' => ∃ x : Nat → Value, a' = ⟨#[.slice a0 len0 cap0, .slice a1 len1 cap1, undef, undef, .bool false, .pointer (some ⟨b5, 0, none⟩), .pointer (some ⟨b6, 0, none⟩), .pointer (some ⟨b7, 0, none⟩), .int .i64 most, undef, undef, .slice a0 len0 cap0, .int .i64 (len0 : Int), .bool false, .bool false, .slice a1 len1 cap1, .int .i64 (len1 : Int), .bool false, .bool false, .slice a0 len0 cap0, .agg #[.slice an ns.length cn, .slice ar rs.length cr], .agg #[.slice an ns.length cn, .slice ar rs.length cr], .agg #[.slice am ms.length cm, .slice as_ ss.length cs], .agg #[.slice am ms.length cm, .slice as_ ss.length cs], .agg #[.slice an ns.length cn, .slice ar rs.length cr], u5, .bool true, .bool false, .tuple #[.agg #[.slice ah hs_.length ch, .slice arh rh.length crh], .int .i64 most], .slice a1 len1 cap1, .tuple #[.agg #[.slice ah hs_.length ch, .slice arh rh.length crh], .int .i64 most], .agg #[.slice ah hs_.length ch, .slice arh rh.length crh], .int .i64 most, x 0, x 1, x 2, x 3, x 4, x 5, x 6, x 7, x 8, x 9, x 10, x 11, x 12, x 13, x 14, x 15, x 16, x 17, undef, undef, undef, undef, undef, undef, undef, undef, undef, undef, undef, undef, undef, undef, undef, undef, undef, undef, undef, undef, undef, undef, undef, undef, undef, undef, undef, undef, undef, undef, undef, undef, undef, undef, undef, undef, undef, undef, undef, undef, undef, undef, undef, undef, undef, undef, undef, undef, undef, undef, undef, undef, undef, undef, undef, undef, undef, undef, undef, undef, undef, undef, undef, undef, undef, undef, undef, undef, undef], []⟩ ∧ RdC 18 W4 v l' x w') ?hsz ?hend ?hstep ?hgo _ _ _ _ ?h0 ?hc
   case hsz =>
    rintro l' a' w' ⟨x, _, h⟩
    exact h.sz
   case h0 => exact ⟨fun j => [undef, undef, undef, undef, undef, undef, undef, undef, undef, undef, undef, undef, undef, undef, undef, undef, undef, undef].getD j undef, rfl, RdC.start rfl (Below.refl _ _).drew⟩
   case hc => exact Nat.le_of_eq rfl
   case hgo =>
    rintro l' a' w' ⟨x, rfl, h⟩ hr j hj
    have k0 : l'[0]? = some true := ze hr 0 (by simp) (by rw [h.sz]; rfl) (by simp [Region.binds, Array.getD_eq_getD_getElem?])
    have k1 : l'[1]? = some true := ze hr 1 (by simp) (by rw [h.sz]; rfl) (by simp [Region.binds, Array.getD_eq_getD_getElem?])
    have k2 : l'[2]? = some true := ze hr 2 (by simp) (by rw [h.sz]; rfl) (by simp [Region.binds, Array.getD_eq_getD_getElem?, k0, k1])
    have k3 : l'[3]? = some true := ze hr 3 (by simp) (by rw [h.sz]; rfl) (by simp [Region.binds, Array.getD_eq_getD_getElem?])
    have k4 : l'[4]? = some true := ze hr 4 (by simp) (by rw [h.sz]; rfl) (by simp [Region.binds, Array.getD_eq_getD_getElem?])
    have k5 : l'[5]? = some true := ze hr 5 (by simp) (by rw [h.sz]; rfl) (by simp [Region.binds, Array.getD_eq_getD_getElem?, k2, k3, k4])
    have k6 : l'[6]? = some true := ze hr 6 (by simp) (by rw [h.sz]; rfl) (by simp [Region.binds, Array.getD_eq_getD_getElem?, k2, k5])
    have k7 : l'[7]? = some true := ze hr 7 (by simp) (by rw [h.sz]; rfl) (by simp [Region.binds, Array.getD_eq_getD_getElem?, k5, k6])
    have k8 : l'[8]? = some true := ze hr 8 (by simp) (by rw [h.sz]; rfl) (by simp [Region.binds, Array.getD_eq_getD_getElem?, k7])
    have k9 : l'[9]? = some true := ze hr 9 (by simp) (by rw [h.sz]; rfl) (by simp [Region.binds, Array.getD_eq_getD_getElem?, k7, k8])
    have k10 : l'[10]? = some true := ze hr 10 (by simp) (by rw [h.sz]; rfl) (by simp [Region.binds, Array.getD_eq_getD_getElem?, k7, k9])
    have k11 : l'[11]? = some true := ze hr 11 (by simp) (by rw [h.sz]; rfl) (by simp [Region.binds, Array.getD_eq_getD_getElem?, k10])
    have k12 : l'[12]? = some true := ze hr 12 (by simp) (by rw [h.sz]; rfl) (by simp [Region.binds, Array.getD_eq_getD_getElem?, k10])
    have k13 : l'[13]? = some true := ze hr 13 (by simp) (by rw [h.sz]; rfl) (by simp [Region.binds, Array.getD_eq_getD_getElem?, k10, k11, k12])
    have k14 : l'[14]? = some true := ze hr 14 (by simp) (by rw [h.sz]; rfl) (by simp [Region.binds, Array.getD_eq_getD_getElem?, k10])
    have k15 : l'[15]? = some true := ze hr 15 (by simp) (by rw [h.sz]; rfl) (by simp [Region.binds, Array.getD_eq_getD_getElem?, k10, k13, k14])
    have k16 : l'[16]? = some true := ze hr 16 (by simp) (by rw [h.sz]; rfl) (by simp [Region.binds, Array.getD_eq_getD_getElem?, k7, k10, k15])
    have k17 : l'[17]? = some true := ze hr 17 (by simp) (by rw [h.sz]; rfl) (by simp [Region.binds, Array.getD_eq_getD_getElem?, k7, k16])
    have hj : j < 18 := by simpa using hj
    rcases (by omega : j = 0 ∨ j = 1 ∨ j = 2 ∨ j = 3 ∨ j = 4 ∨ j = 5 ∨ j = 6 ∨ j = 7 ∨ j = 8 ∨ j = 9 ∨ j = 10 ∨ j = 11 ∨ j = 12 ∨ j = 13 ∨ j = 14 ∨ j = 15 ∨ j = 16 ∨ j = 17) with rfl | rfl | rfl | rfl | rfl | rfl | rfl | rfl | rfl | rfl | rfl | rfl | rfl | rfl | rfl | rfl | rfl | rfl
    all_goals assumption
   case hstep =>
    rintro l' a' w' j ⟨x, rfl, h⟩ hi
    have hi2 := hi
    unfold Region.ready at hi2
    rw [List.mem_filter] at hi2
    obtain ⟨hjj, hi3⟩ := hi2
    have hjj : j < 18 := by simpa using hjj
    clear hi
    rcases (by omega : j = 0 ∨ j = 1 ∨ j = 2 ∨ j = 3 ∨ j = 4 ∨ j = 5 ∨ j = 6 ∨ j = 7 ∨ j = 8 ∨ j = 9 ∨ j = 10 ∨ j = 11 ∨ j = 12 ∨ j = 13 ∨ j = 14 ∨ j = 15 ∨ j = 16 ∨ j = 17) with rfl | rfl | rfl | rfl | rfl | rfl | rfl | rfl | rfl | rfl | rfl | rfl | rfl | rfl | rfl | rfl | rfl | rfl
    ·clear hi3
     have y0 := zd h.bl z0
     have y1 := zd h.bl z1
     refine wpOp_step rfl (fun K hK => ?_)
     go_simp
     exact hK _ _ ⟨_, by simp [v0], h.next 0 (by omega) (Below.refl _ _)⟩
    ·clear hi3
     refine wpOp_step rfl (fun K hK => ?_)
     go_simp
     exact hK _ _ ⟨_, by simp [v1], h.next 1 (by omega) (Below.refl _ _)⟩
    ·have w0 := (h.val 0 (by omega) (LL_of (by simp [Region.binds, Array.getD_eq_getD_getElem?] at hi3; simp [hi3]))).trans v0
     have w1 := (h.val 1 (by omega) (LL_of (by simp [Region.binds, Array.getD_eq_getD_getElem?] at hi3; simp [hi3]))).trans v1
     clear hi3
     simp only [w0, w1]
     refine wpOp_step rfl (fun K hK => ?_)
     go_simp
     go_at_call 13
     refine (za HHI w' h.bl).mono ?_
     rintro e wz ⟨rfl, hb⟩
     (try dsimp only)
     exact hK _ _ ⟨_, by simp [w0, w1, v2], h.next 2 (by omega) hb⟩
    ·clear hi3
     have y0 := zd h.bl z0
     have y1 := zd h.bl z1
     refine wpOp_step rfl (fun K hK => ?_)
     go_simp
     exact hK _ _ ⟨_, by simp [v3], h.next 3 (by omega) (Below.refl _ _)⟩
    ·clear hi3
     refine wpOp_step rfl (fun K hK => ?_)
     go_simp
     exact hK _ _ ⟨_, by simp [v4], h.next 4 (by omega) (Below.refl _ _)⟩
    ·have w3 := (h.val 3 (by omega) (LL_of (by simp [Region.binds, Array.getD_eq_getD_getElem?] at hi3; simp [hi3]))).trans v3
     have w4 := (h.val 4 (by omega) (LL_of (by simp [Region.binds, Array.getD_eq_getD_getElem?] at hi3; simp [hi3]))).trans v4
     clear hi3
     simp only [w3, w4]
     refine wpOp_step rfl (fun K hK => ?_)
     go_simp
     go_at_call 19
     refine (za HHP w' h.bl).mono ?_
     rintro e wz ⟨rfl, hb⟩
     (try dsimp only)
     exact hK _ _ ⟨_, by simp [w3, w4, v5], h.next 5 (by omega) hb⟩
    ·have w2 := (h.val 2 (by omega) (LL_of (by simp [Region.binds, Array.getD_eq_getD_getElem?] at hi3; simp [hi3]))).trans v2
     have w5 := (h.val 5 (by omega) (LL_of (by simp [Region.binds, Array.getD_eq_getD_getElem?] at hi3; simp [hi3]))).trans v5
     clear hi3
     simp only [w2, w5]
     refine wpOp_step rfl (fun K hK => ?_)
     go_simp
     exact hK _ _ ⟨_, by simp [w2, w5, v6], h.next 6 (by omega) (Below.refl _ _)⟩
    ·have w6 := (h.val 6 (by omega) (LL_of (by simp [Region.binds, Array.getD_eq_getD_getElem?] at hi3; simp [hi3]))).trans v6
     clear hi3
     simp only [w6]
     refine wpOp_step rfl (fun K hK => ?_)
     go_simp
     exact hK _ _ ⟨_, by simp [w6, v7], h.next 7 (by omega) (Below.refl _ _)⟩
    ·have w7 := (h.val 7 (by omega) (LL_of (by simp [Region.binds, Array.getD_eq_getD_getElem?] at hi3; simp [hi3]))).trans v7
     clear hi3
     simp only [w7]
     refine wpOp_step rfl (fun K hK => ?_)
     go_simp
     exact hK _ _ ⟨_, by simp [w7, v8], h.next 8 (by omega) (Below.refl _ _)⟩
    ·have w7 := (h.val 7 (by omega) (LL_of (by simp [Region.binds, Array.getD_eq_getD_getElem?] at hi3; simp [hi3]))).trans v7
     have w8 := (h.val 8 (by omega) (LL_of (by simp [Region.binds, Array.getD_eq_getD_getElem?] at hi3; simp [hi3]))).trans v8
     clear hi3
     simp only [w7, w8]
     refine wpOp_step rfl (fun K hK => ?_)
     go_simp
     exact hK _ _ ⟨_, by simp [w7, w8, v9], h.next 9 (by omega) (Below.refl _ _)⟩
    ·have w7 := (h.val 7 (by omega) (LL_of (by simp [Region.binds, Array.getD_eq_getD_getElem?] at hi3; simp [hi3]))).trans v7
     have w9 := (h.val 9 (by omega) (LL_of (by simp [Region.binds, Array.getD_eq_getD_getElem?] at hi3; simp [hi3]))).trans v9
     clear hi3
     simp only [w7, w9]
     refine wpOp_step rfl (fun K hK => ?_)
     go_simp
     exact hK _ _ ⟨_, by simp [w7, w9, v10], h.next 10 (by omega) (Below.refl _ _)⟩
    ·have w10 := (h.val 10 (by omega) (LL_of (by simp [Region.binds, Array.getD_eq_getD_getElem?] at hi3; simp [hi3]))).trans v10
     clear hi3
     simp only [w10]
     refine wpOp_step rfl (fun K hK => ?_)
     go_simp
     exact hK _ _ ⟨_, by simp [w10, v11], h.next 11 (by omega) (Below.refl _ _)⟩
    ·have w10 := (h.val 10 (by omega) (LL_of (by simp [Region.binds, Array.getD_eq_getD_getElem?] at hi3; simp [hi3]))).trans v10
     clear hi3
     simp only [w10]
     refine wpOp_step rfl (fun K hK => ?_)
     go_simp
     exact hK _ _ ⟨_, by simp [w10, v12], h.next 12 (by omega) (Below.refl _ _)⟩
    ·have w10 := (h.val 10 (by omega) (LL_of (by simp [Region.binds, Array.getD_eq_getD_getElem?] at hi3; simp [hi3]))).trans v10
     have w11 := (h.val 11 (by omega) (LL_of (by simp [Region.binds, Array.getD_eq_getD_getElem?] at hi3; simp [hi3]))).trans v11
     have w12 := (h.val 12 (by omega) (LL_of (by simp [Region.binds, Array.getD_eq_getD_getElem?] at hi3; simp [hi3]))).trans v12
     clear hi3
     simp only [w10, w11, w12]
     refine wpOp_step rfl (fun K hK => ?_)
     go_simp
     exact hK _ _ ⟨_, by simp [w10, w11, w12, v13], h.next 13 (by omega) (Below.refl _ _)⟩
    ·have w10 := (h.val 10 (by omega) (LL_of (by simp [Region.binds, Array.getD_eq_getD_getElem?] at hi3; simp [hi3]))).trans v10
     clear hi3
     simp only [w10]
     refine wpOp_step rfl (fun K hK => ?_)
     go_simp
     exact hK _ _ ⟨_, by simp [w10, v14], h.next 14 (by omega) (Below.refl _ _)⟩
    ·have w10 := (h.val 10 (by omega) (LL_of (by simp [Region.binds, Array.getD_eq_getD_getElem?] at hi3; simp [hi3]))).trans v10
     have w13 := (h.val 13 (by omega) (LL_of (by simp [Region.binds, Array.getD_eq_getD_getElem?] at hi3; simp [hi3]))).trans v13
     have w14 := (h.val 14 (by omega) (LL_of (by simp [Region.binds, Array.getD_eq_getD_getElem?] at hi3; simp [hi3]))).trans v14
     clear hi3
     simp only [w10, w13, w14]
     refine wpOp_step rfl (fun K hK => ?_)
     go_simp
     exact hK _ _ ⟨_, by simp [w10, w13, w14, v15], h.next 15 (by omega) (Below.refl _ _)⟩
    ·have w7 := (h.val 7 (by omega) (LL_of (by simp [Region.binds, Array.getD_eq_getD_getElem?] at hi3; simp [hi3]))).trans v7
     have w10 := (h.val 10 (by omega) (LL_of (by simp [Region.binds, Array.getD_eq_getD_getElem?] at hi3; simp [hi3]))).trans v10
     have w15 := (h.val 15 (by omega) (LL_of (by simp [Region.binds, Array.getD_eq_getD_getElem?] at hi3; simp [hi3]))).trans v15
     clear hi3
     simp only [w7, w10, w15]
     refine wpOp_step rfl (fun K hK => ?_)
     go_simp
     exact hK _ _ ⟨_, by simp [w7, w10, w15, v16], h.next 16 (by omega) (Below.refl _ _)⟩
    ·have w7 := (h.val 7 (by omega) (LL_of (by simp [Region.binds, Array.getD_eq_getD_getElem?] at hi3; simp [hi3]))).trans v7
     have w16 := (h.val 16 (by omega) (LL_of (by simp [Region.binds, Array.getD_eq_getD_getElem?] at hi3; simp [hi3]))).trans v16
     clear hi3
     simp only [w7, w16]
     refine wpOp_step rfl (fun K hK => ?_)
     go_simp
     exact hK _ _ ⟨_, by simp [w7, w16, v17], h.next 17 (by omega) (Below.refl _ _)⟩
   case hend =>
    rintro l' a' w' ⟨x, rfl, h⟩ hall
    have w0 := (h.all hall 0 (by omega)).trans v0
    have w1 := (h.all hall 1 (by omega)).trans v1
    have w2 := (h.all hall 2 (by omega)).trans v2
    have w3 := (h.all hall 3 (by omega)).trans v3
    have w4 := (h.all hall 4 (by omega)).trans v4
    have w5 := (h.all hall 5 (by omega)).trans v5
    have w6 := (h.all hall 6 (by omega)).trans v6
    have w7 := (h.all hall 7 (by omega)).trans v7
    have w8 := (h.all hall 8 (by omega)).trans v8
    have w9 := (h.all hall 9 (by omega)).trans v9
    have w10 := (h.all hall 10 (by omega)).trans v10
    have w11 := (h.all hall 11 (by omega)).trans v11
    have w12 := (h.all hall 12 (by omega)).trans v12
    have w13 := (h.all hall 13 (by omega)).trans v13
    have w14 := (h.all hall 14 (by omega)).trans v14
    have w15 := (h.all hall 15 (by omega)).trans v15
    have w16 := (h.all hall 16 (by omega)).trans v16
    have w17 := (h.all hall 17 (by omega)).trans v17
    simp only [w0, w1, w2, w3, w4, w5, w6, w7, w8, w9, w10, w11, w12, w13, w14, w15, w16, w17]
    have HBE := hide h.bl
    clear h hall w0 w1 w2 w3 w4 w5 w6 w7 w8 w9 w10 w11 w12 w13 w14 w15 w16 w17 v0 v1 v2 v3 v4 v5 v6 v7 v8 v9 v10 v11 v12 v13 v14 v15 v16 v17
    go_wp2_with fail
    go_meet
    case rel => exact ⟨rfl, za HBE⟩
 case rest =>
  obtain ⟨rfl, hbc⟩ := hcut
  have HB5 := hide (zj (za HB4) hbc)
  have HP5 := hide ((za HP4).below hbc)
  have HQ5 := hide ((za HQ4).below hbc)
  have HD5 := hide ((za HD4).below hbc)
  have HR5 := hide ((za HR4).below hbc)
  have HE5 := hide ((za HE4).below hbc)
  have HS5 := hide ((za HS4).below hbc)
  have HN5 := hide ((za HN4).below hbc)
  clear HB4 HP4 HQ4 HD4 HR4 HE4 HS4 HN4 HH4 HV4 HHI HHP HRM HHS hbc
  have p0 := (za HP5).n0
  have p1 := (za HP5).n1
  go_wp2_with fail
  have h := vQ (ns, rs) _ wc (za HD5) (za HSM)
  refine h.mono ?_
  clear h
  rintro e w10 ⟨rfl, hb10⟩
  have HB6 := hide (zj (za HB5) hb10)
  have HP6 := hide ((za HP5).below hb10)
  have HQ6 := hide ((za HQ5).below hb10)
  have HD6 := hide ((za HD5).below hb10)
  have HR6 := hide ((za HR5).below hb10)
  have HE6 := hide ((za HE5).below hb10)
  have HS6 := hide ((za HS5).below hb10)
  have HN6 := hide ((za HN5).below hb10)
  clear HB5 HP5 HQ5 HD5 HR5 HE5 HS5 HN5 hb10 p0 p1
  rcases Bool.eq_false_or_eq_true (okD (ns, rs)) with ho | ho
  ·rw [ho]
   have hok := ho
   obtain ⟨hmsn, hmss⟩ : ms = ns ∧ srt (ordI ns) rs = ss := by
    have h := za HM
    rw [jP ho] at h
    exact ⟨(Prod.mk.inj h).1.symm, (Prod.mk.inj h).2⟩
   subst hmsn
   have HLEN : Hid (ss.length = rs.length) := hide (by rw [← hmss]; exact jh _)
   have HOK := hide hok
   have HSRT := hide hmss
   obtain ⟨_, hrs12, hnds, hrin⟩ := qt hok
   clear ho hok hmss hnds hrin HM hrs12
   have q1 := (za HQ6).n1
   go_wp2_with fail
   clear q1
   go_loopw [9] (fun i wr => ∃ k : Nat, k ≤ ss.length ∧ i = .int .i64 k ∧ Below w10.heap.size w10 wr) (fun i _ => ss.length - (intOf i).toNat)
   case atStart => exact ⟨0, by omega, rfl, Below.refl _ _⟩
   case round =>
    obtain ⟨k, hk, rfl, hbk⟩ := hrel
    have HB7 := hide (zj (za HB6) hbk)
    have HP7 := hide ((za HP6).below hbk)
    have HQ7 := hide ((za HQ6).below hbk)
    have HD7 := hide ((za HD6).below hbk)
    have HR7 := hide ((za HR6).below hbk)
    have HE7 := hide ((za HE6).below hbk)
    have HS7 := hide ((za HS6).below hbk)
    have HN7 := hide ((za HN6).below hbk)
    have q1 := (za HQ7).n1
    have HBK := hide hbk
    clear hbk
    have hss9 := (za HMS).2.1
    by_cases hlt : (k : Int) + 1 < (ss.length : Int)
    ·have q0 := (za HQ7).n0
     obtain ⟨x, hx⟩ : ∃ x, ss[k]? = some x := ⟨_, List.getElem?_eq_getElem (by omega)⟩
     obtain ⟨y, hy⟩ : ∃ y, ss[k + 1]? = some y := ⟨_, List.getElem?_eq_getElem (by omega)⟩
     obtain ⟨sb, so, rfl, _, x0⟩ := (za HS7).cell hx
     obtain ⟨sb', so', e, _, x1⟩ := (za HS7).cell hy
     cases e
     obtain ⟨T, hT⟩ : ∃ T, tabM (ms, [x]) (ms, [y]) = T := ⟨_, rfl⟩
     have hT0 : decide (0 < T) = false := by have := Kx (za HOK) (za HSRT) hx hy; rw [hT] at this; simp; omega
     have hone : ∀ z : Int, (ms, [z]).1.length ≤ 1048576 ∧ (ms, [z]).2.length ≤ 1048576 ∧ zM (ms, [z]).1 := fun z => ⟨(za HSM).1, by simp, (za HSM).2.2⟩
     have HWR : Hid (∀ (z : Int) (X : World), Below wr.heap.size wr X → Calls Tryz.prog 11 #[.agg #[.slice am ms.length cm, .slice (some ⟨sb, so, none⟩) ss.length cs], .int .i64 z] X fun e W' => (∃ u, e = .returned u ∧ DataAt W' u (ms, [z])) ∧ Below X.heap.size X W') := hide (fun z X hX => XU ms am cm _ _ _ z X ((za HN7).below hX))
     have HCP : Hid (∀ (X : World) (u v : Value), Below wr.heap.size wr X → DataAt X u (ms, [x]) → DataAt X v (ms, [y]) → Calls Tryz.prog 8 #[u, v] X fun e W' => e = .returned (.int .i64 T) ∧ Below X.heap.size X W') := hide (fun X u v hX h1 h2 => by
      rw [← hT]
      obtain ⟨c1, c2, c3⟩ := za HCON _ (zj (za HB7) hX)
      exact Ju (ms, [x]) (ms, [y]) u v X h1 h2 (hone x) (hone y) c1 c2 c3)
     have w1' : IntKind.i64.wrap ((k : Int) + 1) = (k : Int) + 1 := by rw [wi64 _ (by omega) (by omega)]
     have hkl1 : k < ss.length := by omega
     have hkl2 : k + 1 < ss.length := by omega
     have hkl3 : (0 : Int) ≤ (k : Int) + 1 := by omega
     have hkl4 : ((k : Int) + 1).toNat = k + 1 := by omega
     have d0 : wr.drew.cell? ⟨b6, 0, none⟩ = _ := q0
     have d1 : wr.drew.cell? ⟨b6, 1, none⟩ = _ := q1
     have d2 : wr.drew.cell? ⟨sb, so + k, none⟩ = _ := x0
     have d3 : wr.drew.cell? ⟨sb, so + (k + 1), none⟩ = _ := x1
     clear hx hy hT hone
     go_wp2_with fail
     go_region_held3 (fun w' => w'.cell? ⟨b6, 0, none⟩ = some (.slice am ms.length cm) ∧ w'.cell? ⟨b6, 1, none⟩ = some (.slice (some ⟨sb, so, none⟩) ss.length cs) ∧ w'.cell? ⟨sb, so + k, none⟩ = some (.int .i64 x) ∧ w'.cell? ⟨sb, so + (k + 1), none⟩ = some (.int .i64 y)) (((try dsimp only); (repeat' apply And.intro) <;> (with_reducible assumption))) ((first
      | (go_at_call 8; refine (za HCP w12 u11 u12 (za HB12) (za HU11) (za HU12)).mono ?_; rintro e w13 ⟨rfl, hb13⟩; have HB13 : Hid (Below wr.heap.size wr w13) := hide (zj (za HB12) hb13); have g0 := zd (za HB13) q0; have g1 := zd (za HB13) q1; have g2 := zd (za HB13) x0; have g3 := zd (za HB13) x1; clear hb13)
      | (go_at_call 11; refine (za HWR y w11 (za HB11)).mono ?_; rintro e w12 ⟨⟨u12, rfl, hu12⟩, hb12⟩; have HU12 := hide hu12; have HB12 : Hid (Below wr.heap.size wr w12) := hide (zj (za HB11) hb12); have HU11 := hide ((za HU).below hb12); have e0 := zd (za HB12) q0; have e1 := zd (za HB12) q1; have e2 := zd (za HB12) x0; have e3 := zd (za HB12) x1; clear hb12 hu12)
      | (go_at_call 11; refine (za HWR x wr.drew (Below.refl _ _).drew).mono ?_; rintro e w11 ⟨⟨u11, rfl, hu11⟩, hb11⟩; have HU := hide hu11; have HB11 : Hid (Below wr.heap.size wr w11) := (Below.refl _ _).drew.trans hb11; have c0 := zd (za HB11) q0; have c1 := zd (za HB11) q1; have c2 := zd (za HB11) x0; have c3 := zd (za HB11) x1; clear hb11 hu11)))
     clear d0 d1 d2 d3 c0 c1 c2 c3 e0 e1 e2 e3 q0 q1 x0 x1 w1'
     go_wp2_with fail
     go_roundw
     case rel => exact ⟨k + 1, by omega, by go_num, zj (za HBK) (za HB13)⟩
     case measure => simp [intOf]; omega
    ·go_wp2_with fail
     clear q1
     obtain ⟨W9, hW9⟩ : ∃ W9, W9 = wr := ⟨_, rfl⟩
     subst hW9
     go_loopw [10] (fun i wr => ∃ k : Nat, k ≤ rs.length ∧ i = .int .i64 k ∧ Below W9.heap.size W9 wr) (fun i _ => rs.length - (intOf i).toNat)
     case atStart => exact ⟨0, by omega, rfl, Below.refl _ _⟩
     case round =>
      obtain ⟨j, hj, rfl, hbj⟩ := hrel
      have HB8 := hide (zj (za HB7) hbj)
      have HP8 := hide ((za HP7).below hbj)
      have HQ8 := hide ((za HQ7).below hbj)
      have HD8 := hide ((za HD7).below hbj)
      have HR8 := hide ((za HR7).below hbj)
      have HE8 := hide ((za HE7).below hbj)
      have HS8 := hide ((za HS7).below hbj)
      have HN8 := hide ((za HN7).below hbj)
      have p1 := (za HP8).n1
      have HBJ := hide hbj
      clear hbj
      by_cases hjl : j < rs.length
      ·have q1 := (za HQ8).n1
       obtain ⟨x, hx⟩ : ∃ x, rs[j]? = some x := ⟨_, List.getElem?_eq_getElem hjl⟩
       obtain ⟨rb, ro, rfl, _, x0⟩ := (za HR8).cell hx
       obtain ⟨C, hC⟩ : ∃ C, rs.count x = C := ⟨_, rfl⟩
       have hC2 : ss.count x = C := by rw [← hC, ← za HSRT]; exact KU _ _ _
       have HW1 : Hid (∀ X, Below wr.heap.size wr X → Calls Tryz.prog 20 #[.slice (some ⟨rb, ro, none⟩) rs.length cr, .int .i64 x] X fun e W' => e = .returned (.int .i64 (C : Nat)) ∧ W' = X) := hide (fun X hX => by rw [← hC]; exact Vo rs _ cr x X ((za HR8).below hX))
       have HW2 : Hid (∀ X, Below wr.heap.size wr X → Calls Tryz.prog 20 #[.slice as_ ss.length cs, .int .i64 x] X fun e W' => e = .returned (.int .i64 (C : Nat)) ∧ W' = X) := hide (fun X hX => by rw [← hC2]; exact Vo ss _ cs x X ((za HS8).below hX))
       have d0 : wr.drew.cell? ⟨b5, 1, none⟩ = _ := p1
       have d1 : wr.drew.cell? ⟨b6, 1, none⟩ = _ := q1
       have d2 : wr.drew.cell? ⟨rb, ro + j, none⟩ = _ := x0
       clear hx hC hC2
       go_wp2_with fail
       go_region_held3 (fun w' => w'.cell? ⟨b5, 1, none⟩ = some (.slice (some ⟨rb, ro, none⟩) rs.length cr) ∧ w'.cell? ⟨b6, 1, none⟩ = some (.slice as_ ss.length cs) ∧ w'.cell? ⟨rb, ro + j, none⟩ = some (.int .i64 x)) (((try dsimp only); (repeat' apply And.intro) <;> (with_reducible assumption))) ((first
        | (go_at_call_of 20 (Value.slice (some ⟨rb, ro, none⟩) rs.length cr); refine (za HW1 wr.drew (Below.refl _ _).drew).mono ?_; rintro e w11 ⟨rfl, rfl⟩)
        | (go_at_call_of 20 (Value.slice as_ ss.length cs); refine (za HW2 wr.drew (Below.refl _ _).drew).mono ?_; rintro e w12 ⟨rfl, rfl⟩)))
       clear d0 d1 d2 q1 p1 x0
       go_wp2_with fail
       go_roundw
       case rel => exact ⟨j + 1, by omega, by go_num, (za HBJ).drew⟩
       case measure => simp [intOf]; omega
      ·obtain rfl : j = rs.length := by omega
       have p0 := (za HP8).n0
       have q0 := (za HQ8).n0
       have q1 := (za HQ8).n1
       have hle : ((ss.length : Int) == (rs.length : Int)) = true := by rw [za HLEN]; simp
       have hst2 : sortM (ms, ss) = (ms, ss) := by
        have h := Yk (za HOK)
        have h1 := jP (za HOK)
        simp only at h1
        rw [za HSRT] at h1
        rw [h1] at h
        exact h
       have HCT : Hid (∀ X, Below wr.heap.size wr X → Calls Tryz.prog 15 #[.agg #[.slice am ms.length cm, .slice as_ ss.length cs]] X fun e W' => (∃ u, e = .returned u ∧ DataAt W' u (ms, ss)) ∧ Below X.heap.size X W') := hide (fun X hX => by
        obtain ⟨c1, c2, c3⟩ := za HCON _ (zj (za HB8) hX)
        refine (yX _ _ (ms, ss) X ((za HE8).below hX) (za HMS) c1 c2 c3).mono ?_
        rintro e W' ⟨⟨n', r', rfl, h⟩, hb⟩
        rw [hst2] at h
        exact ⟨⟨_, rfl, h.at⟩, hb⟩)
       have d0 : wr.drew.cell? ⟨b6, 0, none⟩ = _ := q0
       have d1 : wr.drew.cell? ⟨b6, 1, none⟩ = _ := q1
       have d2 : wr.drew.cell? ⟨b5, 1, none⟩ = _ := p1
       clear hst2
       go_wp2_with fail
       go_region_held3 (fun w' => w'.cell? ⟨b6, 0, none⟩ = some (.slice am ms.length cm) ∧ w'.cell? ⟨b6, 1, none⟩ = some (.slice as_ ss.length cs) ∧ w'.cell? ⟨b5, 1, none⟩ = some (.slice ar rs.length cr)) (((try dsimp only); (repeat' apply And.intro) <;> (with_reducible assumption))) ((first
        | (go_at_call 16; refine (Vd (ms, ss) u5 _ w11 (za HU11) ((za HE8).below (za HB11))).mono ?_; rintro e w12 ⟨rfl, hb12⟩; have HB12 : Hid (Below wr.heap.size wr w12) := hide (zj (za HB11) hb12); have e0 := zd (za HB12) q0; have e1 := zd (za HB12) q1; have e2 := zd (za HB12) p1; clear hb12)
        | (go_at_call 15; refine (za HCT wr.drew (Below.refl _ _).drew).mono ?_; rintro e w11 ⟨⟨u5, rfl, hu11⟩, hb11⟩; have HU11 := hide hu11; have HB11 : Hid (Below wr.heap.size wr w11) := (Below.refl _ _).drew.trans hb11; have c0 := zd (za HB11) q0; have c1 := zd (za HB11) q1; have c2 := zd (za HB11) p1; clear hb11 hu11)))
       all_goals
        go_wp2_with fail
        go_ret
        exact ⟨rfl, zj (za HB8) (za HB12)⟩
  ·rw [ho]
   have hm0 : ms = [] := by have h := za HM; rw [xY ho] at h; exact (Prod.mk.inj h).1.symm
   have q0 := (za HQ6).n0
   have hml : ms.length = 0 := by rw [hm0]; rfl
   have hmb : ((ms.length : Int) == 0) = true := by rw [hml]; rfl
   go_wp2_with fail
   go_ret
   exact ⟨rfl, za HB6⟩
end Go.Proofs.YtpbnmhnbkfnaeaaGreatDoor
