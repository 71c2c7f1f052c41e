/- A part of the proof, put together out of smaller texts: each piece says what it is for. -/
import Derived.Test.YtcnnicbaeicboaaDoorM5
import Derived.Deep.RegionHeldLaw
import Derived.RegionIn
import Derived.Deep.RegionWith
import Derived.Stop.RegionWithIn
import Derived.Shelf.LaysM
import Derived.Shelf.Strconv.Clone
import Derived.Shelf.Sort.Plain
import Derived.Shelf.Strconv.AppendUint10
import Derived.Shelf.Strconv.AppendInt10
import Derived.Shelf.Strconv.AppendIntPublic10
import Derived.Ground.Names2Prog
import Derived.Shelf.Slices.CompactI
import Derived.Sort.OwnSortedInts
/- impl.split. -/
namespace Go.Proofs.YtcnnicbaeicboaaDoor
open Go.RowKit Go.Shelf Nt

theorem addr_add (q j : Nat) : (⟨q, 0, none⟩ : Addr).add j = ⟨q, j, none⟩ := by
  by_cases h : j = 0
  · subst h; simp [Addr.add]
  · simp [Addr.add, h]
theorem split_cons (of0 p of sz gone : List Int) (ps : List (List Int)) : splitRun of0 (p :: ps) of sz gone = if ((remOf of0 (p :: ps) (gAt of (p.headD 0)) : Nat) : Int) = gAt sz (gAt of (p.headD 0)) then splitRun of0 ps of sz gone
    else splitRun of0 ps (setAll of p sz.length) (sz.set (gAt of (p.headD 0)).toNat (gAt sz (gAt of (p.headD 0)) - p.length) ++ [(p.length : Int)]) (gone ++ p) := rfl

set_option maxRecDepth 100000 in
set_option maxHeartbeats 16000000 in
theorem split_c (N B g pg cap n : Nat) (nv ov sv : Value) (of sz : List Int) (ps : List (List Int)) (vs : List Value) (w : World) (hG : AtC3 w g nv ov sv 144)
    (hof : w.ownsRow N 3 1 ov of.length (iv of)) (hsz : w.ownsRow N 3 1 sv sz.length (iv sz)) (has : ApartV ov sv) (hob : ∀ b, ov.ownBlock = some b → b < B) (hsb : ∀ b, sv.ownBlock = some b → b < B) (hBw : B ≤ w.heap.size) (hNB : N ≤ B)
    (hP : RoR w B (.slice (some ⟨pg, 0, none⟩) ps.length cap) ps vs) (hgo : ps ≠ [] → GrpOk n of sz) (hpp : ∀ ps' : List (List Int), ps'.Perm ps → Parts n of ps') (hn : n ≤ 1048576) (hpl : ps.length ≤ 1048576) :
    Calls Tryd.prog 117 #[.pointer (some ⟨g, 0, none⟩), .slice (some ⟨pg, 0, none⟩) ps.length cap] w fun e w' => ∃ (ps' : List (List Int)) (vs' : List Value) (sv' gv : Value), ps'.Perm ps ∧ e = .returned gv ∧
      SpS w w' N B g nv ov sv sv' gv (.slice (some ⟨pg, 0, none⟩) ps.length cap) (splitRun of ps' of sz []).1 (splitRun of ps' of sz []).2.1 (splitRun of ps' of sz []).2.2 ps' vs' := by
  obtain ⟨i0, hi, hz0, hz1, hz2⟩ := info_parts Tryd.infoInt
  have hlp : ∀ p ∈ ps, p.length ≤ 1048576 := fun p hp => Nat.le_trans (part_len (hpp ps (List.Perm.refl _)) hp) hn
  have hSR := hP.toSR hlp
  have hcapR := hSR.cap
  have HSR := hide hSR
  have HP := hide hP
  have HG := hide hG
  have HOF := hide hof
  have HSZ := hide hsz
  have HAS := hide has
  have HOB := hide hob
  have HSB := hide hsb
  have HGO := hide hgo
  have HPP := hide hpp
  clear hSR hP hG hof hsz has hob hsb hgo hpp hlp
  have hmm : ∀ W, Sem.run Tryd.prog (Instr.makeMap 174 none) W = .ok (.map (some W.heap.size)) (W.alloc (.map #[] 0)) := fun W => by kernel_rfl
  go_enter Tryd.func117, Tryd.ntmps117
  go_wp2_with fail
  have h := sortStable_c pg cap ps.length vs vs w w (unhide HSR) (by omega)
  refine h.mono ?_
  clear h
  rintro e w1 ⟨⟨u, rfl⟩, vs', hs1⟩
  obtain ⟨ps', hpm, hR1⟩ := (unhide HP).sorted hs1
  have hpl' : ps'.length = ps.length := hpm.length_eq
  have hpgB : B ≤ pg := (own_lt (unhide HP).row rfl).1
  have hplt := (own_lt (unhide HP).row (b := pg) rfl).2
  have HPT := hide ((unhide HPP) ps' hpm)
  have HK1 := hide hs1.kept
  have HR1 := hide hR1
  have HVP := hide hs1.perm
  have hvs : ∀ x ∈ vs', ∀ b, x.ownBlock = some b → B ≤ b ∧ b < w.heap.size := fun x hx b hb => by
    have hx2 := hs1.perm.mem_iff.1 hx
    obtain ⟨j, hj⟩ := List.getElem?_of_mem hx2
    have hjl := (List.getElem?_eq_some_iff.1 hj).1
    exact own_lt ((unhide HP).each j x _ hj (List.getElem?_eq_getElem (by rw [← (unhide HP).len]; exact hjl))) hb
  have HS1 : Hid (SpS w w1 N B g nv ov sv sv (.slice none 0 0) (.slice (some ⟨pg, 0, none⟩) ps.length cap) of sz [] ps' vs') := hide
    { box := (unhide HG).kept' hs1.kept (fun e => own_ne3 (unhide HG) (unhide HP).row (by decide) (by rw [e]; rfl))
      ofr := own_keptS (unhide HOF) hs1.kept (fun b hb e => by have := (unhide HOB) b hb; omega)
      szr := own_keptS (unhide HSZ) hs1.kept (fun b hb e => by have := (unhide HSB) b hb; omega)
      gor := World.ownsRow_nil _ _ _ _
      par := hR1
      os := unhide HAS
      olt := unhide HOB
      plt := hvs
      sok := fun b hb => .inl ((unhide HSB) b hb)
      s0 := .inl rfl
      sg := fun b _ hb => by simp [Value.ownBlock] at hb
      bw := hBw
      kept := hs1.kept.mono (fun b e => .inr (.inr (.inr (by rw [e]; rfl)))) }
  have hw1 := hs1.kept.size
  have HS2 := hide ((unhide HS1).up (step_a (Below.refl _ _) (.map #[] 0)))
  have HC := hide (Cnt.made w1)
  clear hs1 hR1 HPP HR1 HK1 HVP hvs HS1 HP HG HOF HSZ HSR
  go_wp2_with fail
  go_loopw [20] (fun u wr => ∃ (k m : Nat) (D : DataW Unit), k ≤ ps.length ∧ u = .int .i64 k ∧ m ≤ k ∧ Hid (Cnt wr w1.heap.size m D (fun x => (remOf of (ps'.take k) x : Nat))) ∧ Hid (SpS w wr N B g nv ov sv sv (.slice none 0 0) (.slice (some ⟨pg, 0, none⟩) ps.length cap) of sz [] ps' vs'))
    (fun u _ => ps.length - (intOf u).toNat)
  case atStart => exact ⟨0, 0, _, by omega, rfl, by omega, HC, HS2⟩
  case round =>
    clear HC HS2 hmm
    obtain ⟨k, m, D, hk, rfl, hm, HC, HS⟩ := hrel
    by_cases hlt : k < ps.length
    · have hps : ps ≠ [] := fun e => by rw [e] at hlt; simp at hlt
      have hGO := unhide HGO hps
      have hln := hGO.len
      obtain ⟨p, hp⟩ : ∃ p, ps'[k]? = some p := ⟨_, List.getElem?_eq_getElem (by omega)⟩
      have hpm' := List.mem_of_getElem? hp
      have hpn := part_len (unhide HPT) hpm'
      have hne := (unhide HPT).ne p hpm'
      obtain ⟨xv, hxv⟩ : ∃ xv, vs'[k]? = some xv := ⟨_, List.getElem?_eq_getElem (by rw [(unhide HS).par.len]; omega)⟩
      have hxr := (unhide HS).par.each k xv p hxv hp
      have hpos : 0 < p.length := List.length_pos_iff.2 hne
      obtain ⟨q, qc, e1, hqc, _, _⟩ := own_some hxr hpos
      subst e1
      have hpq : p.length ≤ n := hpn
      have hrow : wr.ownsRow B 41 1 (.slice (some ⟨pg, 0, none⟩) ps.length cap) ps.length vs' := by have h := (unhide HS).par.row; rwa [hpl'] at h
      have c0 : wr.cell? ⟨pg, k, none⟩ = some (.slice (some ⟨q, 0, none⟩) p.length qc) := by
        rw [hrow.cellAt k (by omega)]; exact hxv
      obtain ⟨hd, hhd⟩ : ∃ hd, p[0]? = some hd := ⟨_, List.getElem?_eq_getElem hpos⟩
      have hhead : p.headD 0 = hd := by
        cases p with
        | nil => simp at hpos
        | cons a r => simpa using hhd
      have hdr := (unhide HPT).rng p hpm' hd (List.mem_of_getElem? hhd)
      obtain ⟨hn', rfl⟩ : ∃ hn' : Nat, hd = hn' := ⟨hd.toNat, by omega⟩
      have c1 : wr.cell? ⟨q, 0, none⟩ = some (.int .i64 hn') := by
        rw [hxr.cellAt 0 (by omega)]; exact iv_at hhd
      obtain ⟨ob, oc, e2, _, _, _⟩ := own_some (unhide HS).ofr (by omega)
      have b0 := (unhide HS).box.n1
      rw [e2] at b0
      obtain ⟨G, hGe⟩ : ∃ G, gAt of hn' = G := ⟨_, rfl⟩
      have hGr := hGO.rng hn' (by omega) (by omega)
      rw [hGe] at hGr
      have hfew := hGO.few
      have c2 : wr.cell? ⟨ob, hn', none⟩ = some (.int .i64 G) := by
        have h := (unhide HS).ofr
        rw [e2] at h
        rw [h.cellAt hn' (by omega)]
        have := gAt_lt (g := of) (x := (hn' : Int)) (by omega)
        rw [Int.toNat_natCast, hGe] at this
        exact iv_at this
      obtain ⟨c, hc⟩ : ∃ c, remOf of (ps'.take k) G = c := ⟨_, rfl⟩
      have hcn : c ≤ n := by rw [← hc]; exact rem_lt hln (unhide HPT) k G
      have hCd := (unhide HC).keeps (keepsOthers_below (Below.refl wr.heap.size wr).drew)
      have hrunL := hCd.look G (by omega) (by omega)
      simp only [hc] at hrunL
      obtain ⟨W2, D2, hrunU, hC2, hgU⟩ := hCd.store (by unfold maxLen; omega) G ((c : Int) + p.length) (by omega) (by omega) (by omega) (by omega)
      have HS3 := hide (((unhide HS).up (Below.refl _ _).drew).map hgU hCd.isMap hw1)
      have HC3 : Hid (Cnt W2 w1.heap.size (m + 1) D2 (fun x => (remOf of (ps'.take (k + 1)) x : Nat))) := hide (by
        have h := hC2
        have e : (fun z => if z = G then (c : Int) + p.length else ((remOf of (ps'.take k) z : Nat) : Int)) = (fun x => ((remOf of (ps'.take (k + 1)) x : Nat) : Int)) := by
          funext z
          rw [List.take_add_one, hp, Option.toList_some, rem_append, rem_cons, hhead, hGe]
          have : remOf of [] z = 0 := rfl
          rw [this]
          by_cases hz : z = G
          · subst hz; rw [if_pos rfl, if_pos rfl, hc]; omega
          · rw [if_neg hz, if_neg (fun e => hz e.symm)]; simp
        rw [← e]
        exact h)
      have q1 : (hn' : Int) < of.length := by omega
      clear hxr hrow hp hxv hhd hhead hdr hGe hc hCd hC2 hgU HC hln hfew hpm' hne hGr hGO hps
      go_wp2_with fail
      go_region
      all_goals
        go_wp2_with fail
        go_roundw
        case rel => exact ⟨k + 1, m + 1, D2, by omega, by go_num, by omega, HC3, HS3⟩
        case measure => simp [intOf]; omega
    · obtain rfl : k = ps.length := by omega
      have hC0 := (unhide HC).keeps (keepsOthers_below (step_a (Below.refl wr.heap.size wr) (.cells #[] 3)))
      rw [show ps'.take ps.length = ps'.drop 0 by rw [← hpl']; simp] at hC0
      have HC0 := hide hC0
      have hS0 := (unhide HS).up (step_a (Below.refl wr.heap.size wr) (.cells #[] 3))
      have hwr := (unhide HS).kept.size
      have HS0 : Hid (SpS w (wr.alloc (.cells #[] 3)) N B g nv ov sv sv (.slice (some ⟨wr.heap.size, 0, none⟩) 0 0) (.slice (some ⟨pg, 0, none⟩) ps.length cap) of sz [] ps' vs') := hide
        { hS0 with
          gor := by have h := World.ownsRow_lit (base := w.heap.size) (e := 3) (size := 1) wr #[] 0 hwr (by unfold maxLen; omega) rfl; simpa [iv] using h
          sg := fun b hb hb' => by
            have h1 := (own_lt (unhide HS).szr hb).2
            simp [Value.ownBlock] at hb'
            omega }
      have HI0 : Hid (ps ≠ [] → SpInv n of (ps'.take 0) (ps'.drop 0) sz.length of sz []) := hide (fun hps => by have hGO := unhide HGO hps; simpa using sp_start hGO.len (unhide HPT) hGO.rng hGO.cnt)
      have HV0 : Hid (splitRun of (ps'.drop 0) of sz [] = splitRun of ps' of sz []) := hide (by simp)
      clear hC0 hS0 HC HS hlt
      go_wp2_with fail
      go_loopw [8, 42] (fun gv u wk => ∃ (k m : Nat) (D : DataW Unit) (of1 sz1 gone1 : List Int) (sv1 : Value), k ≤ ps.length ∧ u = .int .i64 k ∧ m ≤ ps.length + k ∧ Hid (Cnt wk w1.heap.size m D (fun x => (remOf of (ps'.drop k) x : Nat))) ∧ Hid (SpS w wk N B g nv ov sv sv1 gv (.slice (some ⟨pg, 0, none⟩) ps.length cap) of1 sz1 gone1 ps' vs') ∧ Hid (ps ≠ [] → SpInv n of (ps'.take k) (ps'.drop k) sz.length of1 sz1 gone1) ∧ Hid (splitRun of (ps'.drop k) of1 sz1 gone1 = splitRun of ps' of sz []))
        (fun _ u _ => ps.length - (intOf u).toNat)
      case atStart => exact ⟨0, _, _, of, sz, [], sv, by omega, rfl, by omega, HC0, HS0, HI0, HV0⟩
      case round =>
        clear HC0 HS0 HI0 HV0
        obtain ⟨k, m, D, of1, sz1, gone1, sv1, hk, rfl, hm, HC, HS, HI, HV⟩ := hrel
        by_cases hlt : k < ps.length
        · have hps : ps ≠ [] := fun e => by rw [e] at hlt; simp at hlt
          have hI := unhide HI hps
          have hln := hI.len
          obtain ⟨p, hp⟩ : ∃ p, ps'[k]? = some p := ⟨_, List.getElem?_eq_getElem (by omega)⟩
          have hdk : ps'.drop k = p :: ps'.drop (k + 1) := by
            rw [List.drop_eq_getElem_cons (by omega)]
            have := List.getElem?_eq_getElem (l := ps') (i := k) (by omega)
            rw [hp] at this
            rw [Option.some.inj this]
          have htk : ps'.take (k + 1) = ps'.take k ++ [p] := by rw [List.take_add_one, hp]; rfl
          have hsp : Parts n of (ps'.take k ++ p :: ps'.drop (k + 1)) := by rw [← hdk, List.take_append_drop]; exact unhide HPT
          rw [hdk] at hI
          have hpm' := List.mem_of_getElem? hp
          have hpn := part_len (unhide HPT) hpm'
          have hne := (unhide HPT).ne p hpm'
          obtain ⟨xv, hxv⟩ : ∃ xv, vs'[k]? = some xv := ⟨_, List.getElem?_eq_getElem (by rw [(unhide HS).par.len]; omega)⟩
          have hxr := (unhide HS).par.each k xv p hxv hp
          have hpos : 0 < p.length := List.length_pos_iff.2 hne
          obtain ⟨q, qc, e1, hqc, _, _⟩ := own_some hxr hpos
          subst e1
          obtain ⟨hd, hhd⟩ : ∃ hd, p[0]? = some hd := ⟨_, List.getElem?_eq_getElem hpos⟩
          have hhead : p.headD 0 = hd := by
            cases p with
            | nil => simp at hpos
            | cons a r => simpa using hhd
          have hdr := (unhide HPT).rng p hpm' hd (List.mem_of_getElem? hhd)
          obtain ⟨hn', rfl⟩ : ∃ hn' : Nat, hd = hn' := ⟨hd.toNat, by omega⟩
          have hGr := hI.rng hn' (by omega) (by omega)
          have hlate := sp_late hsp hI (q := p) (by simp) (List.mem_of_getElem? hhd)
          obtain ⟨G, hGe⟩ : ∃ G : Nat, gAt of1 hn' = G := ⟨(gAt of1 hn').toNat, by omega⟩
          rw [hGe] at hGr hlate
          have hcnt := hI.cnt G (by omega) (by omega)
          have hcl := List.count_le_length (a := (G : Int)) (l := of1)
          obtain ⟨z, hz⟩ : ∃ z : Nat, gAt sz1 G = z := ⟨(gAt sz1 G).toNat, by omega⟩
          rw [hz] at hcnt
          have hrl := (rem_le hI.len (sp_parts hsp hI) (G : Int)).1
          obtain ⟨c, hc⟩ : ∃ c, remOf of (ps'.drop k) (G : Int) = c := ⟨_, rfl⟩
          have hcz : c ≤ z := by rw [← hc, hdk, sp_rem hsp hI]; omega
          have hzn : z ≤ n := by omega
          have hgl : gone1.length ≤ n := by
            have h1 := hI.gn1
            have h2 := ((unhide HPT).take k).nd
            have h3 := nodup_len h2 (m := (List.range n).map fun (i : Nat) => (i : Int)) (fun x hx => by
              obtain ⟨y, hy, hxy⟩ := List.mem_flatten.1 hx
              have := (unhide HPT).rng y (List.mem_of_mem_take hy) x hxy
              exact List.mem_map.2 ⟨x.toNat, by simp; omega, by omega⟩)
            rw [List.length_map, List.length_range] at h3
            omega
          have hpc : p.length ≤ c := by rw [← hc, hdk, rem_cons, hhead, ← hlate, if_pos rfl]; omega
          have hfew : sz1.length ≤ n := (⟨hI.len, hI.rng, hI.cnt⟩ : GrpOk n of1 sz1).few
          obtain ⟨ob, oc, e2, _, _, _⟩ := own_some (unhide HS).ofr (by omega)
          obtain ⟨so, sc, e3, hsc, _, _⟩ := own_some (unhide HS).szr (by omega)
          obtain ⟨ga, gc, e4⟩ := own_slice (unhide HS).gor
          subst e2 e3 e4
          -- what stands in memory
          have cells : ∀ W, Below wr.heap.size wr W → (W.cell? ⟨pg, k, none⟩ = some (.slice (some ⟨q, 0, none⟩) p.length qc) ∧ W.cell? ⟨q, 0, none⟩ = some (.int .i64 hn')) ∧ (W.cell? ⟨g, 1, none⟩ = some (.slice (some ⟨ob, 0, none⟩) of1.length oc) ∧ W.cell? ⟨g, 2, none⟩ = some (.slice (some ⟨so, 0, none⟩) sz1.length sc)) ∧ W.cell? ⟨ob, hn', none⟩ = some (.int .i64 G) ∧ W.cell? ⟨so, G, none⟩ = some (.int .i64 z) := fun W hW => by
            have h := (unhide HS).up hW
            have hrow : W.ownsRow B 41 1 (.slice (some ⟨pg, 0, none⟩) ps.length cap) ps.length vs' := by have h := h.par.row; rwa [hpl'] at h
            refine ⟨⟨?_, ?_⟩, ⟨h.box.n1, h.box.n2⟩, ?_, ?_⟩
            · rw [hrow.cellAt k (by omega)]; exact hxv
            · rw [(own_below hxr hW).cellAt 0 (by omega)]; exact iv_at hhd
            · rw [h.ofr.cellAt hn' (by omega)]
              have := gAt_lt (g := of1) (x := (hn' : Int)) (by omega)
              rw [Int.toNat_natCast, hGe] at this
              exact iv_at this
            · rw [h.szr.cellAt G (by omega)]
              have := gAt_lt (g := sz1) (x := (G : Int)) (by omega)
              rw [Int.toNat_natCast, hz] at this
              exact iv_at this
          have CE := hide cells
          obtain ⟨⟨c0, c1⟩, ⟨b1, b2⟩, c2, c3⟩ := cells wr (Below.refl _ _)
          have HXR := hide hxr
          have HXV := hide hxv
          have HP := hide hp
          have HSPT := hide hsp
          have HIK := hide hI
          have HDK := hide hdk
          have HTK := hide htk
          have HHD := hide hhd
          have HHE := hide hhead
          have HLT := hide hlate
          have HGE := hide hGe
          have HZ := hide hz
          have HCC := hide hc
          have q1 : (hn' : Int) < of1.length := by omega
          have q2 : (G : Int) < sz1.length := by omega
          have q3 : (0 : Int) < p.length := by omega
          clear cells hxr hxv hp hsp hI hdk htk hhd hhead hlate hGe hz hc hne hpm' hdr hcnt hcl hrl HI
          go_wp2_with fail
          go_quiet (fail)
          clear c0 c1 b1 b2 c2 c3
          obtain ⟨⟨c0, c1⟩, ⟨b1, b2⟩, c2, c3⟩ := (unhide CE) _ (drewN_below wr nq)
          have HS1 := hide ((unhide HS).up (drewN_below wr nq))
          have HC1 := hide ((unhide HC).keeps (keepsOthers_below (drewN_below wr nq)))
          obtain ⟨W1, hW1⟩ : ∃ W1, wr.drewN nq = W1 := ⟨_, rfl⟩
          rw [hW1] at c0 c1 b1 b2 c2 c3 HS1 HC1 ⊢
          clear hW1 CE HS HC
          have hL : ∀ j, (Instr.lookup 174 (.map (some w1.heap.size)) (.int .i64 (G : Int)) false).run Tryd.prog (W1.drewN j) = .ok (.int .i64 (c : Int)) (W1.drewN j) := fun j => by
            have h := ((unhide HC1).keeps (keepsOthers_below (drewN_below W1 j))).look (G : Int) (by omega) (by omega)
            simp only [unhide HCC] at h
            exact h
          go_wp2_with fail
          go_quiet (fail)
          obtain ⟨st, hst⟩ : ∃ st, ((c : Int) == (z : Int)) = st := ⟨_, rfl⟩
          rw [hst]
          have HST := hide hst
          clear c0 c1 b1 b2 c2 c3 hL hst
          have HS2 := hide ((unhide HS1).up (drewN_below W1 nq))
          have HC2 := hide ((unhide HC1).keeps (keepsOthers_below (drewN_below W1 nq)))
          obtain ⟨W2, hW2⟩ : ∃ W2, W1.drewN nq = W2 := ⟨_, rfl⟩
          rw [hW2] at HS2 HC2 ⊢
          clear hW2 HS1 HC1
          have hL2 := (unhide HC2).look (G : Int) (by omega) (by omega)
          simp only [unhide HCC] at hL2
          obtain ⟨W3, D3, hrunU, hC3, hgU⟩ := (unhide HC2).store (by unfold maxLen; omega) (G : Int) ((c : Int) - p.length) (by omega) (by omega) (by omega) (by omega)
          have HS3 := hide ((unhide HS2).map hgU (unhide HC2).isMap hw1)
          have HC3 : Hid (Cnt W3 w1.heap.size (m + 1) D3 (fun x => (remOf of (ps'.drop (k + 1)) x : Nat))) := hide (by
            have h := hC3
            have e : (fun y => if y = (G : Int) then (c : Int) - p.length else ((remOf of (ps'.drop k) y : Nat) : Int)) = (fun x => ((remOf of (ps'.drop (k + 1)) x : Nat) : Int)) := by
              have hcc := unhide HCC
              rw [unhide HDK, rem_cons, unhide HHE, ← unhide HLT, if_pos rfl] at hcc
              funext y
              rw [unhide HDK, rem_cons, unhide HHE, ← unhide HLT]
              by_cases hy : y = (G : Int)
              · subst hy; rw [if_pos rfl]; omega
              · rw [if_neg hy, if_neg (fun e => hy e.symm)]; simp
            rw [← e]
            exact h)
          clear hC3 hgU HS2 HC2
          cases st with
          | true =>
            have HIN : Hid (ps ≠ [] → SpInv n of (ps'.take (k + 1)) (ps'.drop (k + 1)) sz.length of1 sz1 gone1) := hide (fun _ => by
              rw [unhide HTK]
              exact sp_stay (unhide HSPT) (unhide HIK) (by
                rw [← unhide HDK, unhide HHE, unhide HGE, unhide HCC, unhide HZ]
                have h := unhide HST
                simpa using h))
            have HVN : Hid (splitRun of (ps'.drop (k + 1)) of1 sz1 gone1 = splitRun of ps' of sz []) := hide (by
              have h := unhide HV
              rw [unhide HDK] at h
              rw [split_cons, ← unhide HDK, unhide HHE, unhide HGE, unhide HCC, unhide HZ, if_pos (by have h := unhide HST; simpa using h)] at h
              exact h)
            go_wp2_with fail
            go_roundw
            case rel => exact ⟨k + 1, m + 1, D3, of1, sz1, gone1, _, by omega, by go_num, by omega, HC3, HS3, HIN, HVN⟩
            case measure => simp [intOf]; omega
          | false =>
            have hlast : k + 1 ≤ ps.length := hlt
            go_wp2_with fail
            go_loopw [75] (fun v wq => ∃ j : Nat, j ≤ p.length ∧ v = .int .i64 j ∧ Hid (Cnt wq w1.heap.size (m + 1) D3 (fun x => (remOf of (ps'.drop (k + 1)) x : Nat))) ∧ Hid (SpS w wq N B g nv (.slice (some ⟨ob, 0, none⟩) of1.length oc) sv (.slice (some ⟨so, 0, none⟩) sz1.length sc) (.slice ga gone1.length gc) (.slice (some ⟨pg, 0, none⟩) ps.length cap) (setAll of1 (p.take j) sz1.length) sz1 gone1 ps' vs'))
              (fun v _ => p.length - (intOf v).toNat)
            case atStart => exact ⟨0, by omega, rfl, HC3, by simpa [setAll] using HS3⟩
            case round =>
              clear HC3 HS3 hrunU hL2
              obtain ⟨j, hj, rfl, HC, HS⟩ := hrel
              obtain ⟨Wq, hWq⟩ : ∃ Wq, wr = Wq := ⟨_, rfl⟩
              rw [hWq] at HC HS ⊢
              clear hWq
              have hxr := (unhide HS).par.each k _ p (unhide HXV) (unhide HP)
              by_cases hjl : j < p.length
              · obtain ⟨x, hx⟩ : ∃ x, p[j]? = some x := ⟨_, List.getElem?_eq_getElem hjl⟩
                have hxm := List.mem_of_getElem? hx
                have hxg := (unhide HPT).rng p (List.mem_of_getElem? (unhide HP)) x hxm
                obtain ⟨xn, rfl⟩ : ∃ xn : Nat, x = xn := ⟨x.toNat, by omega⟩
                have c1 : Wq.cell? ⟨q, j, none⟩ = some (.int .i64 xn) := by
                  rw [hxr.cellAt j (by omega)]; exact iv_at hx
                have b1 := (unhide HS).box.n1
                have b2 := (unhide HS).box.n2
                have hO := (unhide HS).ofr
                rw [setAll_len] at hO
                have f1 := hO.frozenAt xn
                obtain ⟨v0, hv0⟩ := own_cell_some hO xn (by omega)
                have hS4 := unhide HS
                rw [← setAll_len of1 (p.take j) (sz1.length : Int)] at hS4
                have hS5 := hS4.setOf (i := xn) (x := (sz1.length : Int))
                have hst : (setAll of1 (p.take j) (sz1.length : Int)).set xn (sz1.length : Int) = setAll of1 (p.take (j + 1)) (sz1.length : Int) := by
                  unfold setAll
                  rw [List.take_add_one, hx, Option.toList_some, List.foldl_append]
                  simp
                rw [hst, setAll_len] at hS5
                have HS5 := hide hS5
                have HC5 := hide ((unhide HC).keeps (KeepsOthers.setCell Wq ⟨ob, xn, none⟩ (.int .i64 (sz1.length : Int))))
                have q5 : (xn : Int) < of1.length := by omega
                clear hO hS4 hS5 hst hx hxm hxg hxr
                go_wp2_with fail
                go_region
                all_goals
                  go_wp2_with fail
                  go_roundw
                  case rel => exact ⟨j + 1, by omega, by go_num, hide (by first | exact unhide HC5 | exact (unhide HC5).keeps (keepsOthers_below (Below.refl _ _).drew)), hide (by first | exact unhide HS5 | exact (unhide HS5).up (Below.refl _ _).drew)⟩
                  case measure => simp [intOf]; omega
              · obtain rfl : j = p.length := by omega
                rw [List.take_of_length_le (Nat.le_refl _)] at HS
                have b1 := (unhide HS).box.n1
                have b2 := (unhide HS).box.n2
                have hZr := (unhide HS).szr
                have f3 := hZr.frozenAt G
                have c3 : Wq.cell? ⟨so, G, none⟩ = some (.int .i64 z) := by
                  rw [hZr.cellAt G (by omega)]
                  have := gAt_lt (g := sz1) (x := (G : Int)) (by omega)
                  rw [Int.toNat_natCast, unhide HZ] at this
                  exact iv_at this
                have hS4 := (unhide HS).setSz (i := G) (x := (z : Int) - p.length)
                obtain ⟨sz2, hsz2⟩ : ∃ sz2, sz1.set G ((z : Int) - p.length) = sz2 := ⟨_, rfl⟩
                have hl2 : sz2.length = sz1.length := by rw [← hsz2]; simp
                rw [hsz2] at hS4
                have HS4 := hide hS4
                have HSZ2 := hide hsz2
                have HL2 := hide hl2
                have HZ4 : Hid ((Wq.setCell ⟨so, G, none⟩ (.int .i64 ((z : Int) - p.length))).ownsRow N 3 1 (.slice (some ⟨so, 0, none⟩) sz1.length sc) sz1.length (iv sz2)) := hide (by have h := hS4.szr; rwa [hl2] at h)
                have b4 := hS4.box.n2
                have HC4 := hide ((unhide HC).keeps (KeepsOthers.setCell Wq ⟨so, G, none⟩ (.int .i64 ((z : Int) - p.length))))
                have hNw : N ≤ Wq.heap.size := by have := (unhide HS).kept.size; omega
                have hww : w.heap.size ≤ Wq.heap.size := (unhide HS).kept.size
                clear hZr hS4 hsz2 hl2 HS HC
                go_wp2_with (first
                  | (at_builtin; refine wpList_append_own_at _ rfl _ _ 41 rfl N 3 i0 (.int .i64 0) 1 8 Tryd.underlying41 hi hz0 hz1 hz2 rfl (by decide) _ _ _ rfl ((unhide HZ4).alloc _) ⟨Wq.heap.size, 0, none⟩ 1 1 [.int .i64 (p.length : Int)] rfl rfl (by have h := cell_one_new (Wq.setCell ⟨so, G, none⟩ (.int .i64 ((z : Int) - p.length))) (.int .i64 (p.length : Int)) 3; rwa [World.size_setCell] at h) (by intro u hu; simp at hu; subst hu; rfl) (by unfold maxLen; omega) (by omega) (by simp; omega) ?_; intro sv' wA hown hgrow hnil hloc; obtain ⟨ta, tc, rfl⟩ := own_slice hown; have HSA := hide ((unhide HS4).appSz (z := (p.length : Int)) (by rw [unhide HL2]; exact hown) hgrow (hloc.imp id (fun h => ⟨_, h, by simp⟩))); have kA : Kept (fun b => (Value.slice (some ⟨so, 0, none⟩) sz1.length sc).ownBlock = some b) (Wq.setCell ⟨so, G, none⟩ (.int .i64 ((z : Int) - p.length))) wA := (Kept.of_below ((Below.refl _ _).alloc (Nat.le_refl _) (.cells #[.int .i64 (p.length : Int)] 3))).trans (Kept.of_grown hgrow (fun _ e => e)); have bxA := (unhide HS4).box.kept' kA (own_ne3 (unhide HS4).box (unhide HZ4) (by decide)); have bA := bxA.n2; have fA := bxA.f 2; have HCA := hide (((unhide HC4).keeps (keepsOthers_kept kA (fun b hb o ho => row_cells (unhide HZ4) hb ho))).keeps (KeepsOthers.setCell wA ⟨g, 2, none⟩ (.slice ta (sz1.length + 1) tc))); have hwA := kA.size; rw [World.size_setCell] at hwA; clear hown hgrow hnil hloc kA bxA)
                  | (at_builtin; refine wpList_append_own_at _ rfl _ _ 41 rfl w.heap.size 3 i0 (.int .i64 0) 1 8 Tryd.underlying41 hi hz0 hz1 hz2 rfl (by decide) _ _ _ rfl (unhide HSA).gor ⟨q, 0, none⟩ p.length qc (iv p) rfl (by simp [iv]) (fun j u hj => by have hxr := (unhide HSA).par.each k _ p (unhide HXV) (unhide HP); have hjl := (List.getElem?_eq_some_iff.1 hj).1; have h := hxr.cellAt j (by simpa [iv] using hjl); rw [hj] at h; rw [addr_add]; exact h) (by intro u hu; simp [iv] at hu; obtain ⟨_, _, rfl⟩ := hu; rfl) (by unfold maxLen; omega) (by omega) (by simp; omega) ?_; intro gv' wB hown hgrow hnil hloc; obtain ⟨ra, rc, rfl⟩ := own_slice hown; have HSB2 := hide ((unhide HSA).appGone hown hgrow (hloc.imp id (fun h => ⟨_, h, by simp⟩))); have HCB := hide ((unhide HCA).keeps (keepsOthers_kept (Kept.of_grown (S := fun b => (Value.slice ga gone1.length gc).ownBlock = some b) hgrow (fun _ e => e)) (fun b hb o ho => row_cells (unhide HSA).gor hb ho))); clear hown hgrow hnil hloc))
                go_roundw
                case rel =>
                  have hne' : ¬ ((c : Int) = (z : Int)) := by have h := unhide HST; simpa using h
                  have hin := sp_go (unhide HSPT) (unhide HIK) (by rw [← unhide HDK, unhide HHE, unhide HGE, unhide HCC, unhide HZ]; exact hne')
                  rw [← unhide HTK, unhide HHE, unhide HGE, unhide HZ, Int.toNat_natCast, unhide HSZ2] at hin
                  have hvn := unhide HV
                  rw [unhide HDK, split_cons, ← unhide HDK, unhide HHE, unhide HGE, unhide HCC, unhide HZ, if_neg hne', Int.toNat_natCast, unhide HSZ2] at hvn
                  exact ⟨k + 1, m + 1, D3, _, _, _, _, by omega, by go_num, by omega, HCB, HSB2, hide (fun _ => hin), hide hvn⟩
                case measure => simp [intOf]; omega
        · obtain rfl : k = ps.length := by omega
          obtain ⟨ga, gc, e4⟩ := own_slice (unhide HS).gor
          subst e4
          have hV := unhide HV
          rw [List.drop_of_length_le (by omega)] at hV
          have HV2 : Hid ((of1, sz1, gone1) = splitRun of ps' of sz []) := hide hV
          clear hV
          go_wp2_with fail
          go_ret
          refine ⟨ps', vs', sv1, _, hpm, rfl, ?_⟩
          rw [← unhide HV2]
          exact unhide HS
end Go.Proofs.YtcnnicbaeicboaaDoor
/- impl.readAlike: nodes in parts, by their turns. -/
namespace Go.Proofs.YtcnnicbaeicboaaDoor
open Go.RowKit Go.Shelf Nt

set_option maxRecDepth 100000 in
set_option maxHeartbeats 8000000 in
theorem alikeTurn_c (gv pv : Value) (ps : List Int) (look : Int → Int × List UInt8) (w : World) (hp : IntsAt w pv ps) (hn : ps.length ≤ 1048576)
    (hkey : ∀ x ∈ ps, ∃ l, keyOf Tryd.prog 155 (.agg #[.int .i64 (look x).1, .string (B (look x).2)]) = some l)
    (hlook : ∀ x ∈ ps, ∀ W, Below w.heap.size w W → Calls Tryd.prog 123 #[gv, .int .i64 x] W fun e w' => e = .returned (.agg #[.int .i64 (look x).1, .string (B (look x).2)]) ∧ Below W.heap.size W w') :
    Calls Tryd.prog 121 #[pv, .func (.func 123) #[gv] #[]] w fun e w' => (∃ ga vc vs, e = .returned (.slice (some ⟨ga, 0, none⟩) (partsOf look ps).length vc) ∧ RoR w' w.heap.size (.slice (some ⟨ga, 0, none⟩) (partsOf look ps).length vc) (partsOf look ps) vs) ∧ Below w.heap.size w w' := by
  obtain ⟨i0, hi, hz0, hz1, hz2⟩ := info_parts Tryd.infoInt
  obtain ⟨j0, hj, hy0, hy1, hy2⟩ := info_parts Tryd.infoIntS
  have HP := hide hp
  obtain ⟨pa, pc, rfl, hp1, hp2, -⟩ := hp
  unfold maxLen at hp2
  have HK := hide hkey
  have HL := hide hlook
  clear hkey hlook
  have HK0 := hide ((Known.nil w 155 (fun y : Int × List UInt8 => .agg #[.int .i64 y.1, .string (B y.2)])).keeps (keepsOthers_below (step_a (Below.refl _ _) (.cells #[] 41))))
  have HB0 := hide (step_a (step_a (Below.refl w.heap.size w) (.map #[] 0)) (.cells #[] 41))
  have HR0 : Hid (RoR ((w.alloc (.map #[] 0)).alloc (.cells #[] 41)) w.heap.size (.slice (some ⟨w.heap.size + 1, 0, none⟩) 0 0) [] []) := hide ⟨rfl, by have h := World.ownsRow_lit (base := w.heap.size) (e := 41) (size := 1) (w.alloc (.map #[] 0)) #[] 0 (by simp) (by unfold maxLen; omega) rfl; simpa using h, fun i x p h => by simp at h, fun i j x y _ h => by simp at h⟩
  have hmm : Sem.run Tryd.prog (Instr.makeMap 180 none) w = .ok (.map (some w.heap.size)) (w.alloc (.map #[] 0)) := by kernel_rfl
  go_enter Tryd.func121, Tryd.ntmps121
  go_wp2_with fail
  go_loopw [6, 16] (fun v u wr => ∃ (k : Nat) (D : DataW Unit) (vs : List Value) (ga vc : Nat), k ≤ ps.length ∧ u = .int .i64 k ∧ v = .slice (some ⟨ga, 0, none⟩) (partsOf look (ps.take k)).length vc ∧ Hid (Known wr 155 (fun y : Int × List UInt8 => .agg #[.int .i64 y.1, .string (B y.2)]) w.heap.size (keysOf look (ps.take k)) D) ∧ Hid (RoR wr w.heap.size (.slice (some ⟨ga, 0, none⟩) (partsOf look (ps.take k)).length vc) (partsOf look (ps.take k)) vs) ∧ Hid (Below w.heap.size w wr))
    (fun _ u _ => ps.length - (intOf u).toNat)
  case atStart => exact ⟨0, _, _, w.heap.size + 1, 0, by omega, rfl, rfl, HK0, HR0, HB0⟩
  case round =>
    clear HK0 HB0 HR0 hmm
    obtain ⟨k, D, vs, ga, vc, hk, rfl, rfl, HKN, HR, HB⟩ := hrel
    have hpl := partsOf_len look (ps.take k)
    have hkl := keysOf_le look (ps.take k)
    rw [List.length_take] at hkl
    obtain ⟨K0, hK0⟩ : ∃ K0, keysOf look (ps.take k) = K0 := ⟨_, rfl⟩
    obtain ⟨P0, hP0⟩ : ∃ P0, partsOf look (ps.take k) = P0 := ⟨_, rfl⟩
    have HKE := hide hK0
    have HPE := hide hP0
    rw [hK0, hP0] at hpl
    rw [hK0] at hkl HKN
    rw [hP0] at HR ⊢
    have hm : P0.length ≤ 1048576 := by omega
    have HPL := hide hpl
    clear hpl hK0 hP0 hkl
    by_cases hlt : k < ps.length
    · obtain ⟨x, hx⟩ : ∃ x, ps[k]? = some x := ⟨_, List.getElem?_eq_getElem hlt⟩
      have hxm := List.mem_of_getElem? hx
      obtain ⟨a, cap, e1, _, _, h3⟩ := ints_cell ((unhide HP).below (unhide HB))
      injection e1 with e2 e3 e4
      obtain ⟨fb, fo, rfl, hfb, hfx⟩ := h3 k x hx
      subst e2
      clear e4 h3
      have htk : ps.take (k + 1) = ps.take k ++ [x] := by rw [List.take_add_one, hx]; rfl
      have HTK := hide htk
      obtain ⟨l, hl⟩ := unhide HK x hxm
      have HLX := hide ((unhide HL) x hxm wr (unhide HB))
      obtain ⟨y, hy⟩ : ∃ y, look x = y := ⟨_, rfl⟩
      rw [hy] at hl HLX
      have HY := hide hy
      obtain ⟨y1, y2⟩ := y
      simp only at hl HLX
      have HLl := hide hl
      clear hy htk hx hl
      go_wp2_with fail
      have h := unhide HLX
      refine h.mono ?_
      clear h HLX
      rintro e w1 ⟨rfl, hb1⟩
      have hB2 := step_a hb1 (.cells #[.int .i64 y1, .string (B y2)] 155)
      have HK2 := hide ((unhide HKN).keeps (keepsOthers_below hB2))
      have HR2 := hide ((unhide HR).up hB2)
      have HB2 := hide (step_b (unhide HB) hB2)
      clear HKN HR HB hb1 hB2 hfx
      by_cases hin : (y1, y2) ∈ K0
      · obtain ⟨t, ht⟩ := List.getElem?_of_mem hin
        have hKK := (unhide HK2).yes t _ l ht (unhide HLl)
        have htl : t < P0.length := by rw [unhide HPL]; exact (List.getElem?_eq_some_iff.1 ht).1
        have hold := partsOf_old (look := look) (ps := ps.take k) (x := x) (t := t) (by rw [unhide HKE, unhide HY]; exact ht)
        rw [unhide HPE, unhide HKE, ← unhide HTK] at hold
        obtain ⟨p, hp⟩ : ∃ p, (ps.take k).filter (fun y => decide (look y = look x)) = p := ⟨_, rfl⟩
        rw [hp] at hold
        have hpp : P0[t]? = some p := by
          rw [← unhide HPE]
          unfold partsOf
          rw [List.getElem?_map, unhide HKE, ht, Option.map_some, ← unhide HY, hp]
        have hpn : p.length ≤ 1048576 := by
          rw [← hp]; have := List.length_filter_le (fun y => decide (look y = look x)) (ps.take k); rw [List.length_take] at this; omega
        obtain ⟨xv, hxv⟩ : ∃ xv, vs[t]? = some xv := ⟨_, List.getElem?_eq_getElem (by rw [(unhide HR2).len]; exact htl)⟩
        have hxr := (unhide HR2).each t xv p hxv hpp
        obtain ⟨ra, rc, hxs⟩ := own_slice hxr
        subst hxs
        obtain ⟨g, hg⟩ : ∃ g, g = ga := ⟨_, rfl⟩
        subst hg
        have c0 : (w1.alloc (.cells #[.int .i64 y1, .string (B y2)] 155)).cell? ⟨g, t, none⟩ = some (.slice ra p.length rc) := by
          rw [(unhide HR2).row.cellAt t (by omega)]; exact hxv
        have HXR := hide hxr
        have HOL := hide hold
        have HPP := hide hpp
        have HXV := hide hxv
        have HKK := hide hKK
        clear hp hpp hxv hxr hold ht hin hKK
        go_wp2_with (first
          | (at_lookup; refine wpList_lookup_own_ok_int _ rfl _ _ 180 rfl 155 3 .i64 lawTurn Tryd.underlying180 Tryd.underlying3 (zeroInt _) w.heap.size _ D rfl (unhide HK2).own _ _ rfl (unhide HLl) ?_; intro c hat hwc; rw [(unhide HKK).1]; obtain rfl : c = (t : Int) := (by have h := (unhide HKK).2; rw [hat] at h; injection h with h; injection h); clear hat hwc)
          | (at_builtin; refine wpList_append_own_at _ rfl _ _ 41 rfl w.heap.size 3 i0 (.int .i64 0) 1 8 Tryd.underlying41 hi hz0 hz1 hz2 rfl (by decide) _ _ _ rfl ((unhide HXR).alloc _) ⟨w1.heap.size + 1, 0, none⟩ 1 1 [.int .i64 x] rfl rfl (by have h := cell_one_new (w1.alloc (.cells #[.int .i64 y1, .string (B y2)] 155)) (.int .i64 x) 3; rwa [World.size_alloc] at h) (by intro u hu; simp at hu; subst hu; rfl) (by unfold maxLen; omega) (by omega) (by have := (unhide HB2).size; simp at this ⊢; omega) ?_; intro x' w3 hown hgrow hnil hloc; obtain ⟨qa, qc, rfl⟩ := own_slice hown; have HG := hide ((unhide HR2).grow (unhide HXV) (unhide HPP) hown hgrow (hloc.imp id (fun h => ⟨_, h, by simp⟩))); have r3 := own_keptS (unhide HR2).row ((Kept.of_below ((Below.refl _ _).alloc (Nat.le_refl _) _)).trans (Kept.of_grown hgrow (fun _ e => e))) (fun b hb hc => (unhide HR2).outer (List.mem_of_getElem? (unhide HXV)) hc hb); have f3 := r3.frozenAt t; have c3 : w3.cell? ⟨g, t, none⟩ = some (.slice ra p.length rc) := (by rw [r3.cellAt t (by omega)]; exact unhide HXV); clear hown hgrow hnil hloc r3))
        go_roundw
        case rel =>
          have hG := unhide HG
          have hKO := keepsOthers_kept hG.2 (fun b hb o ho => by
            rcases hb with rfl | hb
            · exact row_cells (unhide HR2).row rfl ho
            · exact row_cells (unhide HXR) hb ho)
          have hBL := hG.2.below (base := w.heap.size) (unhide HB2).size (fun b hb => by
            rcases hb with rfl | hb
            · exact (own_lt (unhide HR2).row rfl).1
            · exact (own_lt (unhide HXR) hb).1)
          refine ⟨k + 1, D, vs.set t (.slice qa (p.length + 1) qc), g, vc, by omega, by go_num, by rw [(unhide HOL).1]; simp, ?_, ?_, hide ((unhide HB2).trans hBL)⟩
          · exact hide (by rw [(unhide HOL).2]; exact (unhide HK2).keeps hKO)
          · exact hide (by rw [(unhide HOL).1]; have h := hG.1; rw [show (P0.set t (p ++ [x])).length = P0.length by simp]; exact h)
        case measure => simp [intOf]; omega
      · have hno := (unhide HK2).no _ l hin (unhide HLl)
        have hnew := partsOf_new (look := look) (ps := ps.take k) (x := x) (by rw [unhide HKE, unhide HY]; exact hin)
        rw [unhide HPE, unhide HKE, ← unhide HTK, unhide HY] at hnew
        have hmap := (unhide HK2).isMap
        have hwf := wf64 (P0.length : Int) (by omega) (by omega)
        have hk0 : K0.length < maxLen := by rw [← unhide HPL]; unfold maxLen; omega
        have HNO := hide hno
        have HNW := hide hnew
        have HIN := hide hin
        have HMP := hide hmap
        have HWF := hide hwf
        have HK00 := hide hk0
        clear hno hnew hin hmap hwf hk0
        go_wp2_with (first
          | (at_lookup; refine wpList_lookup_own_ok_int _ rfl _ _ 180 rfl 155 3 .i64 lawTurn Tryd.underlying180 Tryd.underlying3 (zeroInt _) w.heap.size _ D rfl (unhide HK2).own _ _ rfl (unhide HLl) ?_; intro c hat hwc; rw [unhide HNO]; clear hat hwc)
          | (at_mapUpdate; refine wpList_mapUpdate_own _ rfl _ _ _ 180 rfl 155 3 lawTurn Tryd.underlying180 _ w.heap.size _ D rfl (unhide HK2).own (unhide HK00) _ _ _ rfl rfl (unhide HLl) _ [] (plainElem_int Tryd.underlying3 (unhide HWF)) ?_; intro w3 hown3 hgrow3; rw [show (P0.length : Int) = (K0.length : Int) by rw [unhide HPL]] at hown3; have HK3 := hide ((unhide HK2).put lawTurn encTurn_inj (unhide HIN) (unhide HLl) hown3); have HR3 := hide ((unhide HR2).grownC hgrow3 (fun b e => by cases e; exact unhide HMP)); have HB3 := hide ((unhide HB2).grown hgrow3 (unhide HB2).size (fun k hk => by cases hk; exact Nat.le_refl _)); clear hown3 hgrow3)
          | (at_builtin; refine wpList_append_own_at _ rfl _ _ 145 rfl w.heap.size 41 j0 (.slice none 0 0) 1 24 Tryd.underlying145 hj hy0 hy1 hy2 rfl (by decide) _ _ _ rfl ((unhide HR3).row.alloc _) ⟨w3.heap.size, 0, none⟩ 1 1 [.slice none 0 0] rfl rfl (cell_one_new w3 (.slice none 0 0) 41) (by intro u hu; simp at hu; subst hu; rfl) (by unfold maxLen; omega) (by omega) (by have := (unhide HB3).size; simp at this ⊢; omega) ?_; intro v4 w4 hown4 hgrow4 hnil4 hloc4; obtain ⟨g, cap', rfl, _, hgb, _⟩ := own_some hown4 (by omega); have HR4 := hide ((unhide HR3).push hown4 hgrow4); have HKP : Hid (Kept (fun b => (Value.slice (some ⟨ga, 0, none⟩) P0.length vc).ownBlock = some b) w3 w4) := hide ((Kept.of_below ((Below.refl w3.heap.size w3).alloc (Nat.le_refl _) (.cells #[.slice none 0 0] 41))).trans (Kept.of_grown hgrow4 (fun _ e => e))); have hl4 : vs.length = P0.length := (unhide HR3).len; have HX4 : Hid ((vs ++ [Value.slice none 0 0])[P0.length]? = some (.slice none 0 0)) := hide (by rw [← hl4]; simp); have c4 : w4.cell? ⟨g, P0.length, none⟩ = some (.slice none 0 0) := (by rw [hown4.cellAt P0.length (by omega)]; exact unhide HX4); have HGB := hide hgb; have HOW := hide hown4; clear hown4 hgrow4 hnil4 hloc4 hl4 hgb)
          | (at_builtin; refine wpList_append_own_at _ rfl _ _ 41 rfl w.heap.size 3 i0 (.int .i64 0) 1 8 Tryd.underlying41 hi hz0 hz1 hz2 rfl (by decide) _ _ _ rfl (World.ownsRow_nil _ _ _ _) ⟨w4.heap.size, 0, none⟩ 1 1 [.int .i64 x] rfl rfl (cell_one_new w4 (.int .i64 x) 3) (by intro u hu; simp at hu; subst hu; rfl) (by unfold maxLen; omega) (by omega) (by have h1 := (unhide HB3).size; have h2 := (unhide HKP).size; simp; omega) ?_; intro x' w5 hown hgrow hnil hloc; obtain ⟨qa, qc, rfl⟩ := own_slice hown; have hpl5 : (P0 ++ [([] : List Int)])[P0.length]? = some [] := (by simp); have HG := hide ((unhide HR4).grow (unhide HX4) hpl5 hown hgrow (hloc.imp id (fun h => ⟨_, h, by simp⟩))); have k5 : Kept (fun b => (Value.slice none 0 0).ownBlock = some b) w4 w5 := (Kept.of_below ((Below.refl w4.heap.size w4).alloc (Nat.le_refl _) (.cells #[.int .i64 x] 3))).trans (Kept.of_grown hgrow (fun _ e => e)); have r5 := own_keptS (unhide HOW) k5 (fun b hb hc => by simp [Value.ownBlock] at hc); have f5 := r5.frozenAt P0.length; have c5 : w5.cell? ⟨g, P0.length, none⟩ = some (.slice none 0 0) := (by rw [r5.cellAt P0.length (by omega)]; exact unhide HX4); clear hown hgrow hnil hloc k5 r5 hpl5))
        go_roundw
        case rel =>
          have hG := unhide HG
          have hS4 : ∀ b, (Value.slice (some ⟨ga, 0, none⟩) P0.length vc).ownBlock = some b → w.heap.size ≤ b := fun b hb => (own_lt (unhide HR3).row hb).1
          have hKO := (keepsOthers_kept (unhide HKP) (fun b hb o ho => row_cells (unhide HR3).row hb ho)).trans (keepsOthers_kept hG.2 (fun b hb o ho => by
            rcases hb with rfl | hb
            · exact row_cells (unhide HOW) rfl ho
            · simp [Value.ownBlock] at hb))
          have hBL := ((unhide HKP).below (base := w.heap.size) (unhide HB3).size hS4).trans (hG.2.below (base := w.heap.size) (Nat.le_trans (unhide HB3).size (unhide HKP).size) (fun b hb => by
            rcases hb with rfl | hb
            · exact (own_lt (unhide HOW) rfl).1
            · simp [Value.ownBlock] at hb))
          refine ⟨k + 1, D.put l (I64 K0.length), (vs ++ [Value.slice none 0 0]).set P0.length (.slice qa 1 qc), g, cap', by omega, by go_num, by rw [(unhide HNW).1]; simp, ?_, ?_, hide ((unhide HB3).trans hBL)⟩
          · exact hide (by rw [(unhide HNW).2]; exact (unhide HK3).keeps hKO)
          · exact hide (by rw [(unhide HNW).1, ← set_snoc P0 [] [x]]; have h := hG.1; rw [show ((P0 ++ [([] : List Int)]).set P0.length [x]).length = P0.length + 1 by simp]; exact h)
        case measure => simp [intOf]; omega
    · obtain rfl : k = ps.length := by omega
      have HPF : Hid (partsOf look ps = P0) := hide (by have h := unhide HPE; rwa [List.take_of_length_le (Nat.le_refl _)] at h)
      go_wp2_with fail
      go_ret
      exact ⟨⟨ga, vc, vs, by rw [unhide HPF]; rfl, by rw [unhide HPF]; exact unhide HR⟩, unhide HB⟩
end Go.Proofs.YtcnnicbaeicboaaDoor
/- A region that draws its order, inside a fence, by what holds whichever operations have been carried out. -/
namespace Go.Proofs.YtcnnicbaeicboaaDoor
open Go.RowKit Go.Shelf Nt

theorem count_false {l : List Bool} {i : Nat} (h : l[i]? = some false) : (l.set i true).count false + 1 = l.count false := by
  induction l generalizing i with
  | nil => simp at h
  | cons a r ih =>
    cases i with
    | zero => simp at h; subst h; simp
    | succ i => rw [List.getElem?_cons_succ] at h; have := ih h; simp only [List.set_cons_succ, List.count_cons]; omega
theorem wpAnyIn_inv {F : Fence} {n : Nat} {P : Program} {ops : Array Oper} {Q : Exit → Act → World → Prop} {md : Region.Mode} (Inv : Array Bool → Act → World → Prop)
    (hsz : ∀ l a w, Inv l a w → l.size = ops.size) (hend : ∀ l a w, Inv l a w → (∀ i, i < ops.size → l[i]? = some true) → Q .normal a w)
    (hstep : ∀ l a w i, Inv l a w → i ∈ Region.ready md ops l → wpOpIn F n P ops Q i (fun a' w' => Inv (l.setIfInBounds i true) a' w') a w)
    (hgo : ∀ l a w, Inv l a w → Region.ready md ops l = [] → ∀ i, i < ops.size → l[i]? = some true) :
    ∀ fuel l a w, Inv l a w → l.toList.count false ≤ fuel → wpAnyIn F n P md ops Q fuel l a w := by
  intro fuel
  induction fuel with
  | zero =>
    intro l a w hI hc
    have hall : ∀ i, i < ops.size → l[i]? = some true := fun i hi => by
      have h1 : l[i]? = some (l[i]'(by rw [hsz l a w hI]; exact hi)) := Array.getElem?_eq_getElem _
      cases hv : l[i]'(by rw [hsz l a w hI]; exact hi) with
      | true => rw [h1, hv]
      | false =>
        have : false ∈ l.toList := by rw [← hv]; simp
        have := List.count_pos_iff.2 this
        omega
    refine ⟨?_, hend l a w hI hall⟩
    unfold Region.ready
    rw [List.filter_eq_nil_iff]
    intro i hi
    have := hall i (by simpa using hi)
    simp [Array.getD_eq_getD_getElem?, this]
  | succ fuel ih =>
    intro l a w hI hc
    refine ⟨fun hr => hend l a w hI (hgo l a w hI hr), fun i hi => ?_⟩
    have hi2 := hi
    unfold Region.ready at hi2
    rw [List.mem_filter] at hi2
    have hlt : i < ops.size := by simpa using hi2.1
    have hlf : l[i]? = some false := by
      have h1 : l[i]? = some (l[i]'(by rw [hsz l a w hI]; exact hlt)) := Array.getElem?_eq_getElem _
      have h2 := hi2.2
      simp [Array.getD_eq_getD_getElem?, h1] at h2
      rw [h1, h2.1]
    refine wpOpIn_mono (fun a' w' h => ih _ a' w' h ?_) (hstep l a w i hI hi)
    have h3 := count_false (l := l.toList) (i := i) (by simpa using hlf)
    simp only [Array.toList_setIfInBounds]
    omega

/-! the region 'users[kid] = append(users[kid], place)' -/
def LL (l : Array Bool) (i : Nat) : Prop := l[i]? = some true
def Dep (l : Array Bool) (i : Nat) : Prop := (i = 4 → LL l 2 ∧ LL l 3) ∧ (i = 5 → LL l 4) ∧ (i = 7 → LL l 6) ∧ (i = 8 → LL l 5 ∧ LL l 7) ∧ (i = 9 → LL l 0 ∧ LL l 1) ∧ (i = 10 → LL l 9 ∧ LL l 8)
structure UStep (l : Array Bool) (x : Nat → Value) (w' : World) (v : Nat → Value) (w0 w1 w3 w4 : World) : Prop where
  sz : l.size = 11
  val : ∀ i, i < 10 → LL l i → x i = v i
  cl : ∀ i, LL l i → Dep l i
  wd : (¬ LL l 7 → w' = w0) ∧ (LL l 7 → ¬ LL l 8 → w' = w1) ∧ (LL l 8 → ¬ LL l 10 → w' = w3) ∧ (LL l 10 → w' = w4)
theorem LL_set {l : Array Bool} {i : Nat} (h : i < l.size) (j : Nat) : LL (l.setIfInBounds i true) j ↔ j = i ∨ LL l j := by
  unfold LL
  rw [Array.getElem?_setIfInBounds]
  by_cases e : i = j
  · subst e; rw [if_pos rfl, if_pos h]; simp
  · rw [if_neg e]; constructor
    · exact .inr
    · rintro (h | h)
      · exact absurd h.symm e
      · exact h
theorem Dep.mono {l l' : Array Bool} {i : Nat} (h : Dep l i) (hl : ∀ j, LL l j → LL l' j) : Dep l' i :=
  ⟨fun e => ⟨hl _ (h.1 e).1, hl _ (h.1 e).2⟩, fun e => hl _ (h.2.1 e), fun e => hl _ (h.2.2.1 e), fun e => ⟨hl _ (h.2.2.2.1 e).1, hl _ (h.2.2.2.1 e).2⟩, fun e => ⟨hl _ (h.2.2.2.2.1 e).1, hl _ (h.2.2.2.2.1 e).2⟩, fun e => ⟨hl _ (h.2.2.2.2.2 e).1, hl _ (h.2.2.2.2.2 e).2⟩⟩
theorem UStep.next {l : Array Bool} {x : Nat → Value} {w' w'' : World} {v : Nat → Value} {w0 w1 w3 w4 : World} (h : UStep l x w' v w0 w1 w3 w4) {i : Nat} (hi : i < 11) (hl : ¬ LL l i) (hd : Dep l i)
    (h7 : i = 7 → w'' = w1) (h8 : i = 8 → w'' = w3) (h10 : i = 10 → w'' = w4) (ho : i ≠ 7 → i ≠ 8 → i ≠ 10 → w'' = w') : UStep (l.setIfInBounds i true) (fun j => if j = i then v i else x j) w'' v w0 w1 w3 w4 := by
  have hs := LL_set (l := l) (i := i) (by rw [h.sz]; exact hi)
  have c8 : LL l 8 → LL l 7 := fun e => ((h.cl 8 e).2.2.2.1 rfl).2
  have c10 : LL l 10 → LL l 8 := fun e => ((h.cl 10 e).2.2.2.2.2 rfl).2
  have d8 : i = 8 → LL l 7 := fun e => (hd.2.2.2.1 e).2
  have d10 : i = 10 → LL l 8 := fun e => (hd.2.2.2.2.2 e).2
  obtain ⟨a, b, c, d⟩ := h.wd
  refine ⟨by simp [h.sz], fun j hj hj2 => ?_, fun j hj => ?_, ?_, ?_, ?_, ?_⟩
  · by_cases e : j = i
    · subst e; simp
    · simp only [if_neg e]
      exact h.val j hj (((hs j).1 hj2).resolve_left e)
  · have hm : ∀ k, LL l k → LL (l.setIfInBounds i true) k := fun k hk => (hs k).2 (.inr hk)
    rcases (hs j).1 hj with rfl | e
    · exact hd.mono hm
    · exact (h.cl j e).mono hm
  · intro n7
    rw [hs] at n7
    have e7 : i ≠ 7 := fun e => n7 (.inl e.symm)
    have l7 : ¬ LL l 7 := fun e => n7 (.inr e)
    rw [ho e7 (fun e => l7 (d8 e)) (fun e => l7 (c8 (d10 e)))]
    exact a l7
  · intro y7 n8
    rw [hs] at y7 n8
    have e8 : i ≠ 8 := fun e => n8 (.inl e.symm)
    have l8 : ¬ LL l 8 := fun e => n8 (.inr e)
    by_cases e7 : i = 7
    · exact h7 e7
    · rw [ho e7 e8 (fun e => l8 (d10 e))]
      exact b (y7.resolve_left (fun e => e7 e.symm)) l8
  · intro y8 n10
    rw [hs] at y8 n10
    have e10 : i ≠ 10 := fun e => n10 (.inl e.symm)
    have l10 : ¬ LL l 10 := fun e => n10 (.inr e)
    by_cases e8 : i = 8
    · exact h8 e8
    · have l8 := y8.resolve_left (fun e => e8 e.symm)
      rw [ho (fun e => hl (by rw [e]; exact c8 l8)) e8 e10]
      exact c l8 l10
  · intro y10
    rw [hs] at y10
    by_cases e10 : i = 10
    · exact h10 e10
    · have l10 := y10.resolve_left (fun e => e10 e.symm)
      rw [ho (fun e => hl (by rw [e]; exact c8 (c10 l10))) (fun e => hl (by rw [e]; exact c10 l10)) e10]
      exact d l10
end Go.Proofs.YtcnnicbaeicboaaDoor
/- impl.readUsers: by node, the nodes that it is a kid of. -/
namespace Go.Proofs.YtcnnicbaeicboaaDoor
open Go.RowKit Go.Shelf Nt
attribute [local go_sem] Oper.semAt_some

/-- between two nodes -/
def UseI (w : World) (na : Option Addr) (nc : Nat) (ns : List Nd) (a' : Act) (w' : World) : Prop := ∃ (Ds : List Nat) (i : Nat) (us : List (List Int)) (vs : List Value) (u4 u5 u6 u13 u14 u15 u16 u17 u18 u19 u20 u21 u22 u23 u24 u25 u26 u27 u28 u29 u30 u31 : Value), a' = ⟨#[.slice na ns.length nc, undef, .slice none 0 0, .pointer (some ⟨w.heap.size + 1, 0, none⟩), u4, u5, u6, .slice na ns.length nc, .int .i64 ↑ns.length, .slice (some ⟨w.heap.size, 0, none⟩) ns.length ns.length, .slice na ns.length nc, .int .i64 ↑ns.length, .int .i64 ↑i, u13, u14, u15, u16, u17, u18, u19, u20, u21, u22, u23, u24, u25, u26, u27, u28, u29, u30, u31], Ds.map markD⟩ ∧ i ≤ ns.length ∧ Hid (Below w.heap.size w w') ∧ Hid (Boxed w' (w.heap.size + 1) 145 (.slice (some ⟨w.heap.size, 0, none⟩) ns.length ns.length)) ∧ Hid (RoR w' w.heap.size (.slice (some ⟨w.heap.size, 0, none⟩) ns.length ns.length) us vs) ∧ Hid (UsersOk ns i [] us) ∧ Hid (Marks w.heap.size w' Ds)

theorem len_le_sum {us : List (List Int)} {k : Nat} {p : List Int} (h : us[k]? = some p) : p.length ≤ (us.map List.length).sum := by
  induction us generalizing k with
  | nil => simp at h
  | cons a r ih =>
    cases k with
    | zero => simp at h; subst h; simp
    | succ k => rw [List.getElem?_cons_succ] at h; have := ih h; simp only [List.map_cons, List.sum_cons]; omega
theorem LL_of {l : Array Bool} {k : Nat} (h : l[k]?.getD false = true) : LL l k := by
  unfold LL
  cases e : l[k]? with
  | none => rw [e] at h; simp at h
  | some b => rw [e] at h; simp at h; rw [h]
theorem LL_not {l : Array Bool} (hs : l.size = 11) (k : Nat) (hk : k < 11) (h : ¬ l[k]? = some true) : l[k]? = some false := by
  have e : l[k]? = some (l[k]'(by omega)) := Array.getElem?_eq_getElem _
  cases hb : l[k]'(by omega) with
  | true => rw [hb] at e; exact absurd e h
  | false => rw [hb] at e; exact e
theorem rows_own {β : Type} (base : Nat) (v : Value) (G : β → List (List Int) → List Value → Prop) : Own (fun s W => ∃ us vs, RoR W base v us vs ∧ G s us vs) := by
  rintro s X Y row ⟨us, vs, h, hG⟩ hg hr
  exact ⟨us, vs, h.grownC hg hr, hG⟩

set_option maxRecDepth 100000 in
set_option maxHeartbeats 8000000 in
theorem readUsers_c (nv : Value) (ns : List Nd) (w : World) (h : NodesAt w nv ns) (hs : ns.length ≤ 1048576) (hk : KidsR' ns) (h40 : ∀ nd ∈ ns, nd.2.2.length ≤ 40) :
    Calls Tryd.prog 116 #[nv] w fun e w' => (∃ uv us vs, e = .returned uv ∧ RoR w' w.heap.size uv us vs ∧ UsersOk ns ns.length [] us) ∧ Below w.heap.size w w' := by
  obtain ⟨i0, hi, hz0, hz1, hz2⟩ := info_parts Tryd.infoInt
  obtain ⟨j0, hj, hy0, hy1, hy2⟩ := info_parts Tryd.infoIntS
  have HN := hide h
  obtain ⟨na, nc, rfl, hn1, hn2, -⟩ := h
  have HK := hide hk
  have H40 := hide h40
  clear hk h40
  unfold maxLen at hn2
  have hmk := fun W => make_run (P := Tryd.prog) Tryd.underlying145 hj hy0 hy1 hy2 rfl ns.length (by omega) (by omega) W
  refine (callsIn_wide (n := 3)).1 ?_
  refine callsIn_of_wp_marks Tryd.func116 rfl trivial ?_ rfl
  simp only [Tryd.ntmps116, List.size_toArray, List.length_cons, List.length_nil, Nat.reduceAdd, Nat.reduceSub, Array.replicate_succ, Array.replicate_zero, List.push_toArray, List.append_toArray, List.nil_append, List.cons_append]
  have HB := hide (step_a (step_a (Below.refl w.heap.size w) (.cells (madeCells #[.slice none 0 0] ns.length) 41)) (.cells #[.slice (some ⟨w.heap.size, 0, none⟩) ns.length ns.length] 145))
  have HU := hide ((RoR.made (w := w) (base := w.heap.size) (n := ns.length) (Nat.le_refl _) (by unfold maxLen; omega)).up (step_a (Below.refl _ _) (.cells #[.slice (some ⟨w.heap.size, 0, none⟩) ns.length ns.length] 145)))
  have HX := hide (Boxed.new (w.alloc (.cells (madeCells #[.slice none 0 0] ns.length) 41)) 145 (.slice (some ⟨w.heap.size, 0, none⟩) ns.length ns.length))
  rw [World.size_alloc] at HX
  gi_wp2_with fail
  refine wpIn_loop (UseI w na nc ns) (fun a' _ => ns.length - (intOf (a'.tmps.getD 12 undef)).toNat) ?_ ?_
  · unfold UseI
    exact ⟨[], 0, _, _, _, _, _, _, _, _, _, _, _, _, _, _, _, _, _, _, _, _, _, _, _, _, rfl, by omega, HB, HX, HU, hide (UsersOk.start ns), hide (Marks.nil _ _)⟩
  · clear HB HX HU hmk
    rintro _ wr ⟨Ds, i, us, vs, u4, u5, u6, u13, u14, u15, u16, u17, u18, u19, u20, u21, u22, u23, u24, u25, u26, u27, u28, u29, u30, u31, rfl, hi', HB, HX, HU, HO, HM⟩
    by_cases hlt : i < ns.length
    · obtain ⟨nd, hnd⟩ : ∃ nd, ns[i]? = some nd := ⟨_, List.getElem?_eq_getElem hlt⟩
      obtain ⟨b, off, cap, e1, _, _, hb⟩ := (unhide HN).form (by omega)
      injection e1 with e2 e3 e4
      subst e2
      have hnode := (unhide HN).node hnd
      obtain ⟨kv, c0, c1, c2, htl, hki⟩ := hnode
      replace c0 := ((unhide HB).cell (p := ⟨b, off + i * 3, none⟩) hb).trans c0
      replace c1 := ((unhide HB).cell (p := ⟨b, off + i * 3 + 1, none⟩) hb).trans c1
      replace c2 := ((unhide HB).cell (p := ⟨b, off + i * 3 + 2, none⟩) hb).trans c2
      have HKI := hide hki
      obtain ⟨ka, kc, rfl, hk1, hk2, _⟩ := hki
      unfold maxLen at hk2
      have hk40 := (unhide H40) nd (List.mem_of_getElem? hnd)
      clear e4
      gi_wp2_with fail
      refine ⟨trivial, (callsIn_wide.2 (beside_c _ _ _ _)).mono ?_⟩
      rintro e w1 ⟨rfl, rfl⟩
      gi_wp2_with fail
      obtain ⟨X1, hX1⟩ : ∃ X1, Obj.cells #[.int .i64 ↑i] 3 = X1 := ⟨_, rfl⟩
      obtain ⟨X2, hX2⟩ : ∃ X2, Obj.cells #[.int .i64 nd.1, .string (B nd.2.1), .slice ka nd.2.2.length kc] 93 = X2 := ⟨_, rfl⟩
      have hB0 := step_a (step_a (step_a (Below.refl wr.heap.size wr) X1) X2) X2
      have hbox : (((wr.alloc X1).alloc X2).alloc X2).cell? ⟨wr.heap.size + 2, 2, none⟩ = some (.slice ka nd.2.2.length kc) := by
        rw [← hX2]
        have h := World.cell?_alloc_new ((wr.alloc X1).alloc (.cells #[.int .i64 nd.1, .string (B nd.2.1), .slice ka nd.2.2.length kc] 93)) #[.int .i64 nd.1, .string (B nd.2.1), .slice ka nd.2.2.length kc] 93 2
        simp only [World.size_alloc] at h
        exact h
      have hpb : Boxed (((wr.alloc X1).alloc X2).alloc X2) wr.heap.size 3 (.int .i64 ↑i) := by
        rw [← hX1]
        exact boxed_below (boxed_below (Boxed.new wr 3 (.int .i64 ↑i)) (step_a (Below.refl _ _) X2)) (step_a (Below.refl _ _) X2)
      have hsz : (((wr.alloc X1).alloc X2).alloc X2).heap.size = wr.heap.size + 3 := by simp
      have hX0 := boxed_below (unhide HX) hB0
      have hU0 := (unhide HU).up hB0
      have hM0 := (unhide HM).below hB0
      obtain ⟨W0, hW0⟩ : ∃ W0, ((wr.alloc X1).alloc X2).alloc X2 = W0 := ⟨_, rfl⟩
      rw [hX1, hX2, hW0]
      rw [hW0] at hB0 hbox hpb hsz hX0 hU0 hM0
      have hwr := (unhide HB).size
      have hxl := (unhide HX).lt
      clear hX1 hX2 hW0 c0 c1 c2
      have HX0 := hide hX0
      have HPB := hide hpb
      obtain ⟨S, hSd⟩ : ∃ S : Nat → Prop, ∀ b, S b ↔ (b = w.heap.size ∨ (∃ x ∈ vs, x.ownBlock = some b) ∨ W0.heap.size ≤ b) := ⟨_, fun _ => Iff.rfl⟩
      have HSD := hide hSd
      have HSB : Hid (∀ b, S b → w.heap.size ≤ b) := hide (fun b hb => by
        rcases (hSd b).1 hb with h | ⟨x, hx, hxb⟩ | h
        · omega
        · obtain ⟨j, hj⟩ := List.getElem?_of_mem hx
          have hjl := (List.getElem?_eq_some_iff.1 hj).1
          exact (own_lt ((unhide HU).each j x _ hj (List.getElem?_eq_getElem (by rw [← (unhide HU).len]; exact hjl))) hxb).1
        · omega)
      have HSX : Hid (∀ b, S b → ∀ t v, Boxed wr b t v → t ≠ 3 → t ≠ 41 → b < wr.heap.size → False) := hide (fun b hb t v hbx h1 h2 hlt => by
        rcases (hSd b).1 hb with h | ⟨x, hx, hxb⟩ | h
        · subst h; exact boxed_row hbx (unhide HU).row h2 rfl
        · obtain ⟨j, hj⟩ := List.getElem?_of_mem hx
          have hjl := (List.getElem?_eq_some_iff.1 hj).1
          exact boxed_row hbx ((unhide HU).each j x _ hj (List.getElem?_eq_getElem (by rw [← (unhide HU).len]; exact hjl))) h1 hxb
        · have := hB0.size; omega)
      have HSW : Hid (∀ b, S b → b < W0.heap.size → b < wr.heap.size) := hide (fun b hb hlt => by
        rcases (hSd b).1 hb with h | ⟨x, hx, hxb⟩ | h
        · omega
        · obtain ⟨j, hj⟩ := List.getElem?_of_mem hx
          have hjl := (List.getElem?_eq_some_iff.1 hj).1
          exact (own_lt ((unhide HU).each j x _ hj (List.getElem?_eq_getElem (by rw [← (unhide HU).len]; exact hjl))) hxb).2
        · omega)
      have hKI : IntsS S W0 (.slice ka nd.2.2.length kc) nd.2.2 := ((unhide HKI).outS (fun b hb hs => by have := (unhide HSB) b hs; omega)).kept (Kept.of_below ((unhide HB).trans (hB0.mono hwr)))
      refine wpIn_rangeFunc_ownG rfl (by decide) (gf := 136) (lb := #[.pointer (some ⟨wr.heap.size + 2, 0, none⟩)]) rfl trivial (enters_of Tryd.func136 (by kernel_rfl) rfl)
        (besideS_sub Fence.wide 2 trivial rfl (by decide) (wr.heap.size + 2) S (.slice ka nd.2.2.length kc) nd.2.2 (fun z => 0 ≤ z ∧ z < ns.length) (by have h := (unhide HK) i hlt; rw [ndAt_get hnd] at h; exact h) (by omega) W0 (by omega) hbox hKI)
        (fun h k => h.trans k) (fun W l o o' hl _ _ _ => Kept.put ((hSd l).2 (.inr (.inr (by omega))))) (Below.refl _ _) (fun _ => rfl)
        (fun pre W => (∃ us' vs', RoR W w.heap.size (.slice (some ⟨w.heap.size, 0, none⟩) ns.length ns.length) us' vs' ∧ UsersOk ns i (pre.map Subtype.val) us' ∧ ∀ x ∈ vs', ∀ b, x.ownBlock = some b → S b) ∧ Kept S W0 W)
        (fun _ _ _ => False)
        (OwnFrom.and (Own.from (rows_own w.heap.size (.slice (some ⟨w.heap.size, 0, none⟩) ns.length ns.length) (fun (pre : List {z : Int // 0 ≤ z ∧ z < (ns.length : Int)}) us' vs' => UsersOk ns i (pre.map Subtype.val) us' ∧ ∀ x ∈ vs', ∀ b, x.ownBlock = some b → S b)) _) (ownFrom_kept (Nat.le_refl _)))
        (fun c => ownFrom_pure _ _)
        ⟨⟨us, vs, hU0, unhide HO, fun x hx b hb => (hSd b).2 (.inr (.inl ⟨x, hx, hb⟩))⟩, Kept.refl _ _⟩
        (fun y => ⟨#[.slice (some ⟨b, off, none⟩) ns.length nc, undef, .slice none 0 0, .pointer (some ⟨w.heap.size + 1, 0, none⟩), .pointer (some ⟨wr.heap.size, 0, none⟩), .pointer (some ⟨wr.heap.size + 1, 0, none⟩), .int .i64 y.1, .slice (some ⟨b, off, none⟩) ns.length nc, .int .i64 ↑ns.length, .slice (some ⟨w.heap.size, 0, none⟩) ns.length ns.length, .slice (some ⟨b, off, none⟩) ns.length nc, .int .i64 ↑ns.length, .int .i64 ↑i, .bool true, .int .i64 ↑i, .pointer (some ⟨b, off + i * 3, none⟩), .agg #[.int .i64 nd.1, .string (B nd.2.1), .slice ka nd.2.2.length kc], .agg #[.int .i64 nd.1, .string (B nd.2.1), .slice ka nd.2.2.length kc], .func (.func 136) #[] #[.pointer (some ⟨wr.heap.size + 2, 0, none⟩)], .int .i64 y.1, u20, u21, u22, u23, u24, u25, u26, u27, u28, u29, u30, u31], []⟩) ?assign ?body ?done ?stop
      case assign =>
        intro l y W K hK
        gi_wp2
        exact hK
      case stop =>
        rintro D c pre W _ _ h _
        exact h.elim
      case body =>
        rintro l pre ⟨y, y0, y1⟩ W ⟨⟨us', vs', hU, hO, hV⟩, hkv⟩ hpre
        obtain ⟨yn, rfl⟩ : ∃ yn : Nat, y = yn := ⟨y.toNat, by omega⟩
        have hyl : yn < ns.length := by omega
        obtain ⟨p, hp⟩ : ∃ p, us'[yn]? = some p := ⟨_, List.getElem?_eq_getElem (by rw [hO.len]; exact hyl)⟩
        obtain ⟨x, hx⟩ : ∃ x, vs'[yn]? = some x := ⟨_, List.getElem?_eq_getElem (by rw [hU.len, hO.len]; exact hyl)⟩
        have hxr := hU.each yn x p hx hp
        obtain ⟨pa, pc, rfl⟩ := own_slice hxr
        have hpl : p.length ≤ 1048576 * 40 + 40 := by
          have h1 := len_le_sum hp
          have h2 := hO.sum
          have h3 : (pre.map Subtype.val).length = pre.length := by simp
          omega
        have hbW := Boxed.keptS (unhide HX0) hkv (fun hs => (unhide HSX) _ hs _ _ (unhide HX) (by decide) (by decide) hxl)
        have hpW := Boxed.keptS (unhide HPB) hkv (fun hs => by have := (unhide HSW) _ hs (by omega); omega)
        have b0 := hbW.cell
        have b1 := hpW.cell
        have hne := boxed_row hbW hxr (by decide)
        have hNW : w.heap.size ≤ W.heap.size := by have := hkv.size; omega
        have hrN : W.ownsRow w.heap.size 41 1 (.slice (some ⟨w.heap.size, 0, none⟩) ns.length ns.length) ns.length vs' := by have := hU.row; rwa [hO.len] at this
        have r0 : W.cell? ⟨w.heap.size, yn, none⟩ = some (.slice pa p.length pc) := by
          rw [hrN.cellAt yn (by omega)]; exact hx
        have hW1 := (Below.refl W.heap.size W).drew.alloc (Nat.le_refl _) (.cells #[.int .i64 ↑i] 3)
        obtain ⟨x', w3, hrun, hown, hgrow, hnil, hloc⟩ := run_append_own_at (P := Tryd.prog) (W.drew.alloc (.cells #[.int .i64 ↑i] 3)) w.heap.size 41 41 3 i0 (.int .i64 0) 1 8 Tryd.underlying41 hi hz0 hz1 hz2 rfl (by decide) (.slice pa p.length pc) p.length (iv p) (own_below hxr hW1) ⟨W.heap.size, 0, none⟩ 1 1 [.int .i64 ↑i] rfl (cell_one_new W.drew (.int .i64 ↑i) 3) (by intro u hu; simp at hu; subst hu; rfl) (by unfold maxLen; omega) (by omega) (by simp; omega)
        have hUd := hU.up (Below.refl W.heap.size W).drew
        obtain ⟨qa, qc, rfl⟩ := own_slice hown
        have hgr := hUd.grow hx hp hown hgrow (hloc.imp id (fun h => ⟨_, h, by simp⟩))
        have k0 : Kept (fun b => (Value.slice pa p.length pc).ownBlock = some b) W w3 := (Kept.of_below hW1).trans (Kept.of_grown hgrow (fun _ e => e))
        have b3 := (Boxed.keptS hbW k0 hne).cell
        have r3 := own_keptS hrN k0 (fun b hb hc => hU.outer (List.mem_of_getElem? hx) hc hb)
        have f3 := r3.frozenAt yn
        have c3 : w3.cell? ⟨w.heap.size, yn, none⟩ = some (.slice pa p.length pc) := by
          rw [r3.cellAt yn (by omega)]; exact hx
        have hWa := (Below.refl W.heap.size W).alloc (Nat.le_refl _) (.cells #[.int .i64 ↑i] 3)
        have a0 := (hWa.cell (p := ⟨w.heap.size, yn, none⟩) (World.block_lt_of_cell? _ _ r0)).trans r0
        have a1 := (hWa.cell (p := ⟨w.heap.size + 1, 0, none⟩) (World.block_lt_of_cell? _ _ b0)).trans b0
        have HGR := hide hgr
        have HHU := hide hU
        have HHO := hide hO
        have HHV := hide hV
        have HHK := hide hkv
        have HHX := hide hx
        have HHP := hide hp
        have HLC := hide hloc
        clear hgr hU hO hV hkv hx hp hUd hown hgrow hnil hloc hxr hbW hpW hW1 k0 r3 hpre hKI hbox hU0 hM0 hX0 hpb hB0 hSd hrN
        have hE : Result.andThen (Sem.run Tryd.prog (Builtin.append_ #[41, 41] 41 #[.slice pa p.length pc, .slice (some ⟨W.heap.size, 0, none⟩) 1 1]) ((W.alloc (.cells #[.int .i64 ↑i] 3)).drew)) (fun v w' => Result.ok (Next.value v) w') = .ok (.value (.slice qa (p.length + 1) qc)) w3 := by
          rw [show (W.alloc (.cells #[.int .i64 ↑i] 3)).drew = W.drew.alloc (.cells #[.int .i64 ↑i] 3) from rfl, hrun]; rfl
        simp [go_sem] at hE
        have HE := hide hE
        clear hrun hE
        gi_wp2_with fail
        obtain ⟨v, hv⟩ : ∃ v : Nat → Value, v = fun j => match j with
          | 0 => .slice (some ⟨w.heap.size, 0, none⟩) ns.length ns.length
          | 1 => .int .i64 ↑yn
          | 2 => .slice (some ⟨w.heap.size, 0, none⟩) ns.length ns.length
          | 3 => .int .i64 ↑yn
          | 4 => .pointer (some ⟨w.heap.size, yn, none⟩)
          | 5 => .slice pa p.length pc
          | 6 => .int .i64 ↑i
          | 7 => .slice (some ⟨W.heap.size, 0, none⟩) 1 1
          | 8 => .slice qa (p.length + 1) qc
          | 9 => .pointer (some ⟨w.heap.size, yn, none⟩)
          | _ => undef := ⟨_, rfl⟩
        have v0 : v 0 = .slice (some ⟨w.heap.size, 0, none⟩) ns.length ns.length := by subst hv; rfl
        have v1 : v 1 = .int .i64 ↑yn := by subst hv; rfl
        have v2 : v 2 = .slice (some ⟨w.heap.size, 0, none⟩) ns.length ns.length := by subst hv; rfl
        have v3 : v 3 = .int .i64 ↑yn := by subst hv; rfl
        have v4 : v 4 = .pointer (some ⟨w.heap.size, yn, none⟩) := by subst hv; rfl
        have v5 : v 5 = .slice pa p.length pc := by subst hv; rfl
        have v6 : v 6 = .int .i64 ↑i := by subst hv; rfl
        have v7 : v 7 = .slice (some ⟨W.heap.size, 0, none⟩) 1 1 := by subst hv; rfl
        have v8 : v 8 = .slice qa (p.length + 1) qc := by subst hv; rfl
        have v9 : v 9 = .pointer (some ⟨w.heap.size, yn, none⟩) := by subst hv; rfl
        clear hv
        refine wpIn_region_any (by kernel_rfl) ?_
        change wpAnyIn _ _ _ _ _ _ _ _ _ (World.drew _)
        refine wpAnyIn_inv (fun l a w' => ∃ x : Nat → Value, a = ⟨#[.slice (some ⟨b, off, none⟩) ns.length nc, undef, .slice none 0 0, .pointer (some ⟨w.heap.size + 1, 0, none⟩), .pointer (some ⟨wr.heap.size, 0, none⟩), .pointer (some ⟨wr.heap.size + 1, 0, none⟩), .int .i64 ↑yn, .slice (some ⟨b, off, none⟩) ns.length nc, .int .i64 ↑ns.length, .slice (some ⟨w.heap.size, 0, none⟩) ns.length ns.length, .slice (some ⟨b, off, none⟩) ns.length nc, .int .i64 ↑ns.length, .int .i64 ↑i, .bool true, .int .i64 ↑i, .pointer (some ⟨b, off + i * 3, none⟩), .agg #[.int .i64 nd.1, .string (B nd.2.1), .slice ka nd.2.2.length kc], .agg #[.int .i64 nd.1, .string (B nd.2.1), .slice ka nd.2.2.length kc], .func (.func 136) #[] #[.pointer (some ⟨wr.heap.size + 2, 0, none⟩)], .int .i64 ↑yn, x 0, x 1, x 2, x 3, x 4, x 5, x 6, x 7, x 8, x 9, u30, u31], []⟩ ∧ UStep l x w' v W.drew ((W.alloc (.cells #[.int .i64 ↑i] 3)).drew) w3 (w3.setCell ⟨w.heap.size, yn, none⟩ (.slice qa (p.length + 1) qc))) ?hsz ?hend ?hstep ?hgo _ _ _ _ ?h0 ?hc
        case hsz =>
          rintro l a w' ⟨x, _, h⟩
          exact h.sz
        case h0 =>
          refine ⟨fun j => [u20, u21, u22, u23, u24, u25, u26, u27, u28, u29].getD j undef, rfl, by simp, fun j _ h => ?_, fun j h => ?_, fun _ => rfl, fun h => ?_, fun h => ?_, fun h => ?_⟩
          all_goals (unfold LL at h; simp [Array.getElem?_replicate] at h)
        case hc => exact Nat.le_of_eq rfl
        case hgo =>
          rintro l a w' ⟨x, rfl, h⟩ hr j hj
          clear HE
          have k0 : l[0]? = some true := by
            apply Classical.byContradiction
            intro hne
            have hf := LL_not h.sz 0 (by omega) hne
            apply List.not_mem_nil (a := 0)
            rw [← hr]
            unfold Region.ready
            rw [List.mem_filter]
            simp [Region.binds, Array.getD_eq_getD_getElem?, hf]
          have k1 : l[1]? = some true := by
            apply Classical.byContradiction
            intro hne
            have hf := LL_not h.sz 1 (by omega) hne
            apply List.not_mem_nil (a := 1)
            rw [← hr]
            unfold Region.ready
            rw [List.mem_filter]
            simp [Region.binds, Array.getD_eq_getD_getElem?, hf]
          have k2 : l[2]? = some true := by
            apply Classical.byContradiction
            intro hne
            have hf := LL_not h.sz 2 (by omega) hne
            apply List.not_mem_nil (a := 2)
            rw [← hr]
            unfold Region.ready
            rw [List.mem_filter]
            simp [Region.binds, Array.getD_eq_getD_getElem?, hf]
          have k3 : l[3]? = some true := by
            apply Classical.byContradiction
            intro hne
            have hf := LL_not h.sz 3 (by omega) hne
            apply List.not_mem_nil (a := 3)
            rw [← hr]
            unfold Region.ready
            rw [List.mem_filter]
            simp [Region.binds, Array.getD_eq_getD_getElem?, hf]
          have k6 : l[6]? = some true := by
            apply Classical.byContradiction
            intro hne
            have hf := LL_not h.sz 6 (by omega) hne
            apply List.not_mem_nil (a := 6)
            rw [← hr]
            unfold Region.ready
            rw [List.mem_filter]
            simp [Region.binds, Array.getD_eq_getD_getElem?, hf]
          have k4 : l[4]? = some true := by
            apply Classical.byContradiction
            intro hne
            have hf := LL_not h.sz 4 (by omega) hne
            apply List.not_mem_nil (a := 4)
            rw [← hr]
            unfold Region.ready
            rw [List.mem_filter]
            simp [Region.binds, Array.getD_eq_getD_getElem?, hf, k2, k3]
          have k5 : l[5]? = some true := by
            apply Classical.byContradiction
            intro hne
            have hf := LL_not h.sz 5 (by omega) hne
            apply List.not_mem_nil (a := 5)
            rw [← hr]
            unfold Region.ready
            rw [List.mem_filter]
            simp [Region.binds, Array.getD_eq_getD_getElem?, hf, k4]
          have k7 : l[7]? = some true := by
            apply Classical.byContradiction
            intro hne
            have hf := LL_not h.sz 7 (by omega) hne
            apply List.not_mem_nil (a := 7)
            rw [← hr]
            unfold Region.ready
            rw [List.mem_filter]
            simp [Region.binds, Array.getD_eq_getD_getElem?, hf, k6]
          have k8 : l[8]? = some true := by
            apply Classical.byContradiction
            intro hne
            have hf := LL_not h.sz 8 (by omega) hne
            apply List.not_mem_nil (a := 8)
            rw [← hr]
            unfold Region.ready
            rw [List.mem_filter]
            simp [Region.binds, Array.getD_eq_getD_getElem?, hf, k5, k7]
          have k9 : l[9]? = some true := by
            apply Classical.byContradiction
            intro hne
            have hf := LL_not h.sz 9 (by omega) hne
            apply List.not_mem_nil (a := 9)
            rw [← hr]
            unfold Region.ready
            rw [List.mem_filter]
            simp [Region.binds, Array.getD_eq_getD_getElem?, hf, k0, k1, k2, k3, k6, k4, k5, k7, k8]
          have k10 : l[10]? = some true := by
            apply Classical.byContradiction
            intro hne
            have hf := LL_not h.sz 10 (by omega) hne
            apply List.not_mem_nil (a := 10)
            rw [← hr]
            unfold Region.ready
            rw [List.mem_filter]
            simp [Region.binds, Array.getD_eq_getD_getElem?, hf, k0, k1, k2, k3, k6, k4, k5, k7, k8, k9]
          have hj : j < 11 := by simpa using hj
          rcases (by omega : j = 0 ∨ j = 1 ∨ j = 2 ∨ j = 3 ∨ j = 4 ∨ j = 5 ∨ j = 6 ∨ j = 7 ∨ j = 8 ∨ j = 9 ∨ j = 10) with rfl | rfl | rfl | rfl | rfl | rfl | rfl | rfl | rfl | rfl | rfl
          all_goals assumption
        case hend =>
          rintro l a w' ⟨x, rfl, h⟩ hall
          rw [h.wd.2.2.2 (hall 10 (by simp))]
          clear h hall HE
          gi_wp2_with fail
          have hG := (unhide HGR).2
          have hKW : Kept (fun c => c = w.heap.size ∨ (Value.slice pa p.length pc).ownBlock = some c) W (w3.setCell ⟨w.heap.size, yn, none⟩ (.slice qa (p.length + 1) qc)) := (Kept.of_below (Below.refl _ _).drew).trans hG
          have hKS : Kept S W (w3.setCell ⟨w.heap.size, yn, none⟩ (.slice qa (p.length + 1) qc)) := hKW.mono (fun c hc => by
            rcases hc with hc | hc
            · exact (unhide HSD c).2 (.inl hc)
            · exact (unhide HHV) _ (List.mem_of_getElem? (unhide HHX)) c hc)
          have hKO := keepsOthers_kept hKW (fun c hc o ho => by
            rcases hc with rfl | hc
            · exact row_cells (unhide HHU).row rfl ho
            · exact row_cells ((unhide HHU).each yn _ p (unhide HHX) (unhide HHP)) hc ho)
          refine ⟨hKO.from _, hKS, ⟨us'.set yn (p ++ [(i : Int)]), vs'.set yn (.slice qa (p.length + 1) qc), (unhide HGR).1, ?_, fun y hy c hc => ?_⟩, (unhide HHK).trans hKS⟩
          · have h := (unhide HHO).one (unhide HHP)
            rw [List.map_append]
            exact h
          · rcases List.mem_or_eq_of_mem_set hy with hy | rfl
            · exact (unhide HHV) y hy c hc
            · rcases unhide HLC with e | e
              · exact (unhide HHV) _ (List.mem_of_getElem? (unhide HHX)) c (by rw [← e]; exact hc)
              · rw [e] at hc
                cases hc
                refine (unhide HSD _).2 (.inr (.inr ?_))
                have := (unhide HHK).size
                simp; omega
        case hstep =>
          rintro l a w' j ⟨x, rfl, h⟩ hi
          have hi2 := hi
          unfold Region.ready at hi2
          rw [List.mem_filter] at hi2
          obtain ⟨hj, hi3⟩ := hi2
          have hj : j < 11 := by simpa using hj
          have hjl : ¬ LL l j := fun e => by
            unfold LL at e
            simp [Array.getD_eq_getD_getElem?, e] at hi3
          have hdep : Dep l j := by
            refine ⟨?_, ?_, ?_, ?_, ?_, ?_⟩
            all_goals
              intro e
              subst e
              simp [Region.binds, Array.getD_eq_getD_getElem?] at hi3
            · exact ⟨LL_of hi3.2.1, LL_of hi3.2.2⟩
            · exact LL_of hi3.2
            · exact LL_of hi3.2
            · exact ⟨LL_of hi3.2.1, LL_of hi3.2.2⟩
            · exact ⟨LL_of hi3.2.1, LL_of hi3.2.2.1⟩
            · exact ⟨LL_of hi3.2.1, LL_of hi3.2.2.1⟩
          have c8 : LL l 8 → LL l 5 ∧ LL l 7 := fun e => (h.cl 8 e).2.2.2.1 rfl
          have c5 : LL l 5 → LL l 4 := fun e => (h.cl 5 e).2.1 rfl
          have c4 : LL l 4 → LL l 2 ∧ LL l 3 := fun e => (h.cl 4 e).1 rfl
          have c7 : LL l 7 → LL l 6 := fun e => (h.cl 7 e).2.2.1 rfl
          have c10 : LL l 10 → LL l 9 ∧ LL l 8 := fun e => (h.cl 10 e).2.2.2.2.2 rfl
          have c9 : LL l 9 → LL l 0 ∧ LL l 1 := fun e => (h.cl 9 e).2.2.2.2.1 rfl
          obtain ⟨g1, g2, g3, g4⟩ := h.wd
          clear hi hi3
          rcases (by omega : j = 0 ∨ j = 1 ∨ j = 2 ∨ j = 3 ∨ j = 4 ∨ j = 5 ∨ j = 6 ∨ j = 7 ∨ j = 8 ∨ j = 9 ∨ j = 10) with rfl | rfl | rfl | rfl | rfl | rfl | rfl | rfl | rfl | rfl | rfl
          · by_cases n7 : LL l 7
            · by_cases n8 : LL l 8
              · obtain rfl := g3 n8 (fun e => hjl (c9 (c10 e).1).1)
                clear g1 g2 g3 g4
                refine wpOpIn_step rfl (fun K hK => ?_)
                go_simp
                exact hK _ _ ⟨_, by simp [v0], h.next (i := 0) (by omega) hjl hdep (fun e => by omega) (fun e => by omega) (fun e => by omega) (fun _ _ _ => rfl)⟩
              · obtain rfl := g2 n7 n8
                clear g1 g2 g3 g4
                refine wpOpIn_step rfl (fun K hK => ?_)
                go_simp
                exact hK _ _ ⟨_, by simp [v0], h.next (i := 0) (by omega) hjl hdep (fun e => by omega) (fun e => by omega) (fun e => by omega) (fun _ _ _ => rfl)⟩
            · obtain rfl := g1 n7
              clear g1 g2 g3 g4
              refine wpOpIn_step rfl (fun K hK => ?_)
              go_simp
              exact hK _ _ ⟨_, by simp [v0], h.next (i := 0) (by omega) hjl hdep (fun e => by omega) (fun e => by omega) (fun e => by omega) (fun _ _ _ => rfl)⟩
          · clear g1 g2 g3 g4
            refine wpOpIn_step rfl (fun K hK => ?_)
            go_simp
            exact hK _ _ ⟨_, by simp [v1], h.next (i := 1) (by omega) hjl hdep (fun e => by omega) (fun e => by omega) (fun e => by omega) (fun _ _ _ => rfl)⟩
          · have n8 : ¬ LL l 8 := fun e => hjl (c4 (c5 (c8 e).1)).1
            by_cases n7 : LL l 7
            · obtain rfl := g2 n7 n8
              clear g1 g2 g3 g4
              refine wpOpIn_step rfl (fun K hK => ?_)
              go_simp
              exact hK _ _ ⟨_, by simp [v2], h.next (i := 2) (by omega) hjl hdep (fun e => by omega) (fun e => by omega) (fun e => by omega) (fun _ _ _ => rfl)⟩
            · obtain rfl := g1 n7
              clear g1 g2 g3 g4
              refine wpOpIn_step rfl (fun K hK => ?_)
              go_simp
              exact hK _ _ ⟨_, by simp [v2], h.next (i := 2) (by omega) hjl hdep (fun e => by omega) (fun e => by omega) (fun e => by omega) (fun _ _ _ => rfl)⟩
          · clear g1 g2 g3 g4
            refine wpOpIn_step rfl (fun K hK => ?_)
            go_simp
            exact hK _ _ ⟨_, by simp [v3], h.next (i := 3) (by omega) hjl hdep (fun e => by omega) (fun e => by omega) (fun e => by omega) (fun _ _ _ => rfl)⟩
          · clear g1 g2 g3 g4
            have x2 := (h.val 2 (by omega) (hdep.1 rfl).1).trans v2
            have x3 := (h.val 3 (by omega) (hdep.1 rfl).2).trans v3
            refine wpOpIn_step rfl (fun K hK => ?_)
            go_simp
            exact hK _ _ ⟨_, by simp [x2, x3, v4], h.next (i := 4) (by omega) hjl hdep (fun e => by omega) (fun e => by omega) (fun e => by omega) (fun _ _ _ => rfl)⟩
          · have n8 : ¬ LL l 8 := fun e => hjl (c8 e).1
            by_cases n7 : LL l 7
            · obtain rfl := g2 n7 n8
              clear g1 g2 g3 g4
              have x4 := (h.val 4 (by omega) (hdep.2.1 rfl)).trans v4
              refine wpOpIn_step rfl (fun K hK => ?_)
              go_simp
              exact hK _ _ ⟨_, by simp [x4, v5], h.next (i := 5) (by omega) hjl hdep (fun e => by omega) (fun e => by omega) (fun e => by omega) (fun _ _ _ => rfl)⟩
            · obtain rfl := g1 n7
              clear g1 g2 g3 g4
              have x4 := (h.val 4 (by omega) (hdep.2.1 rfl)).trans v4
              refine wpOpIn_step rfl (fun K hK => ?_)
              go_simp
              exact hK _ _ ⟨_, by simp [x4, v5], h.next (i := 5) (by omega) hjl hdep (fun e => by omega) (fun e => by omega) (fun e => by omega) (fun _ _ _ => rfl)⟩
          · obtain rfl := g1 (fun e => hjl (c7 e))
            clear g1 g2 g3 g4
            refine wpOpIn_step rfl (fun K hK => ?_)
            go_simp
            exact hK _ _ ⟨_, by simp [v6], h.next (i := 6) (by omega) hjl hdep (fun e => by omega) (fun e => by omega) (fun e => by omega) (fun _ _ _ => rfl)⟩
          · obtain rfl := g1 hjl
            clear g1 g2 g3 g4
            have x6 := (h.val 6 (by omega) (hdep.2.2.1 rfl)).trans v6
            refine wpOpIn_step rfl (fun K hK => ?_)
            go_simp
            exact hK _ _ ⟨_, by simp [x6, v7], h.next (i := 7) (by omega) hjl hdep (fun _ => rfl) (fun e => by omega) (fun e => by omega) (fun e => absurd rfl e)⟩
          · obtain rfl := g2 (hdep.2.2.2.1 rfl).2 hjl
            clear g1 g2 g3 g4
            have x5 := (h.val 5 (by omega) (hdep.2.2.2.1 rfl).1).trans v5
            have x7 := (h.val 7 (by omega) (hdep.2.2.2.1 rfl).2).trans v7
            refine wpOpIn_step rfl (fun K hK => ?_)
            go_simp
            rw [unhide HE, Oper.uponIn_value]
            exact hK _ _ ⟨_, by simp [Act.put, x5, x7, v8], h.next (i := 8) (by omega) hjl hdep (fun e => by omega) (fun _ => rfl) (fun e => by omega) (fun _ e => absurd rfl e)⟩
          · clear g1 g2 g3 g4
            have x0 := (h.val 0 (by omega) (hdep.2.2.2.2.1 rfl).1).trans v0
            have x1 := (h.val 1 (by omega) (hdep.2.2.2.2.1 rfl).2).trans v1
            refine wpOpIn_step rfl (fun K hK => ?_)
            go_simp
            exact hK _ _ ⟨_, by simp [x0, x1, v9], h.next (i := 9) (by omega) hjl hdep (fun e => by omega) (fun e => by omega) (fun e => by omega) (fun _ _ _ => rfl)⟩
          · obtain rfl := g3 (hdep.2.2.2.2.2 rfl).2 hjl
            clear g1 g2 g3 g4
            have x9 := (h.val 9 (by omega) (hdep.2.2.2.2.2 rfl).1).trans v9
            have x8 := (h.val 8 (by omega) (hdep.2.2.2.2.2 rfl).2).trans v8
            refine wpOpIn_step rfl (fun K hK => ?_)
            go_simp
            exact hK _ _ ⟨_, by simp [x9, x8], h.next (i := 10) (by omega) hjl hdep (fun e => by omega) (fun e => by omega) (fun _ => rfl) (fun _ _ e => absurd rfl e)⟩
      case done =>
        rintro D ys W hD hys ⟨⟨us', vs', hU, hO, hV⟩, hkv⟩ hKd
        rw [hys] at hO
        have HO2 := hide (hO.next hnd hk40)
        have HU2 := hide hU
        have HX2 := hide (Boxed.keptS (unhide HX0) hkv (fun hs => (unhide HSX) _ hs _ _ (unhide HX) (by decide) (by decide) hxl))
        have HB2 := hide (((unhide HB).trans (hB0.mono hwr)).trans (hkv.below (base := w.heap.size) (by omega) (fun c hc => (unhide HSB) c hc)))
        have HM2 : Hid (Marks w.heap.size W (D :: Ds)) := hide ((hM0.kept hkv (fun D' hD' hs => by
          rcases (unhide HSD D').1 hs with h | ⟨x, hx, hxb⟩ | h
          · exact (unhide HM).not_row (unhide HU).row hD' (by rw [h]; rfl)
          · obtain ⟨j, hj⟩ := List.getElem?_of_mem hx
            have hjl := (List.getElem?_eq_some_iff.1 hj).1
            exact (unhide HM).not_row ((unhide HU).each j x _ hj (List.getElem?_eq_getElem (by rw [← (unhide HU).len]; exact hjl))) hD' hxb
          · have := hM0.lt hD'; omega)).cons (by omega) hKd (hM0.fresh hD))
        clear hU hO hV hkv hKd hys hKI hbox hU0 hM0 hX0 hpb hB0 hSd
        gi_wp2_with fail
        refine ⟨by unfold UseI; exact ⟨D :: Ds, i + 1, us', vs', _, _, _, _, _, _, _, _, _, _, _, _, _, _, _, _, _, _, _, _, _, _, rfl, by omega, HB2, HX2, HU2, HO2, HM2⟩, by simp [intOf]; omega⟩
    · obtain rfl : i = ns.length := by omega
      have b0 := (unhide HX).cell
      gi_wp2_with fail
      refine leaves_marks w.heap.size Ds _ (unhide HM) (fun w' hst => ?_)
      refine ⟨.slice (some ⟨w.heap.size, 0, none⟩) ns.length ns.length, by simp [results, Tryd.f116, go_sem], ⟨_, us, vs, rfl, (unhide HU).still hst, unhide HO⟩, (unhide HB).trans hst.below⟩
end Go.Proofs.YtcnnicbaeicboaaDoor
/- Contracts of Go's library at this program: as the kit's lay-shelf.mjs and lay-plain.mjs print them (the numbers are this seat's: lay anew at another). -/
namespace Go.Proofs.YtcnnicbaeicboaaDoor
open Go.Shelf
def Tryd.laysM316_ren : Go.Shelf.Ren := ⟨fun | 316 => 127 | n => n, fun | 9 => 9 | 3 => 3 | 4 => 4 | 37 => 22 | 0 => 0 | 127 => 184 | 5 => 5 | n => n, fun | n => n⟩
theorem Tryd.laysM316 : Go.Proofs.LaysM.n316 Tryd.prog Tryd.laysM316_ren := {
  mixed := by kernel_rfl
  f316 := Tryd.func127.trans (congrArg some (by kernel_rfl))
  t0 := Tryd.underlying0
  a0 := Tryd.isAgg0
  z0 := Tryd.sizeOf0
  v0 := Tryd.zeroValue0
  t3 := Tryd.underlying3
  a3 := Tryd.isAgg3
  z3 := Tryd.sizeOf3
  v3 := Tryd.zeroValue3
  t4 := Tryd.underlying4
  a4 := Tryd.isAgg4
  z4 := Tryd.sizeOf4
  v4 := Tryd.zeroValue4
  t9 := Tryd.underlying9
  a9 := Tryd.isAgg9
  z9 := Tryd.sizeOf9
  v9 := Tryd.zeroValue9
  t37 := Tryd.underlying22
  a37 := Tryd.isAgg22
  z37 := Tryd.sizeOf22
  v37 := Tryd.zeroValue22
  t127 := Tryd.underlying184
  a127 := Tryd.isAgg184
  z127 := Tryd.sizeOf184
  v127 := Tryd.zeroValue184
  t5 := Tryd.underlying5
  a5 := Tryd.isAgg5
  z5 := Tryd.sizeOf5
  v5 := Tryd.zeroValue5
  i0 := by kernel_rfl
  i3 := by kernel_rfl
  i4 := by kernel_rfl
  i5 := by kernel_rfl
  i9 := by kernel_rfl
  i37 := by kernel_rfl
  i127 := by kernel_rfl }
open Go.RowKit in
/-- internal/stringslite.Clone (what strings.Clone calls): "Clone returns a fresh copy of s.": THE SAME BYTES. Of what was there nothing has turned (a new row is laid, and frozen, where s is not empty). (LAID: no walk: one application.) -/
theorem Tryd.stringslite_Clone (s : ByteArray) (w : World) (hlim : s.size ≤ 281474976710656) :
    Calls Tryd.prog 127 #[.string s] w fun e w' => e = .returned (.string s) ∧ Below w.heap.size w w' := Any.stringslite_Clone Tryd.laysM316 s w hlim
def Tryd.lays189_ren : Go.Shelf.Ren := ⟨fun | 189 => 120 | 125 => 140 | 257 => 139 | 128 => 154 | 129 => 155 | 294 => 145 | 295 => 146 | 296 => 147 | 297 => 148 | 298 => 149 | 299 => 150 | 216 => 151 | 300 => 152 | 301 => 153 | 328 => 163 | 329 => 164 | 330 => 165 | 331 => 166 | 332 => 167 | 215 => 168 | 343 => 173 | n => n, fun | 28 => 41 | 3 => 3 | 46 => 179 | 0 => 0 | 51 => 194 | 53 => 80 | 4 => 4 | 183 => 188 | 182 => 187 | 131 => 176 | 5 => 5 | 9 => 9 | 218 => 198 | 222 => 202 | 228 => 207 | 229 => 208 | n => n, fun | n => n⟩
theorem Tryd.lays189 : Go.Proofs.Lays.n189 Tryd.prog Tryd.lays189_ren := {
  mixed := by kernel_rfl
  f125 := Tryd.func140.trans (congrArg some (by kernel_rfl))
  f128 := Tryd.func154.trans (congrArg some (by kernel_rfl))
  f129 := Tryd.func155.trans (congrArg some (by kernel_rfl))
  f189 := Tryd.func120.trans (congrArg some (by kernel_rfl))
  f215 := Tryd.func168.trans (congrArg some (by kernel_rfl))
  f216 := Tryd.func151.trans (congrArg some (by kernel_rfl))
  f257 := Tryd.func139.trans (congrArg some (by kernel_rfl))
  f294 := Tryd.func145.trans (congrArg some (by kernel_rfl))
  f295 := Tryd.func146.trans (congrArg some (by kernel_rfl))
  f296 := Tryd.func147.trans (congrArg some (by kernel_rfl))
  f297 := Tryd.func148.trans (congrArg some (by kernel_rfl))
  f298 := Tryd.func149.trans (congrArg some (by kernel_rfl))
  f299 := Tryd.func150.trans (congrArg some (by kernel_rfl))
  f300 := Tryd.func152.trans (congrArg some (by kernel_rfl))
  f301 := Tryd.func153.trans (congrArg some (by kernel_rfl))
  f328 := Tryd.func163.trans (congrArg some (by kernel_rfl))
  f329 := Tryd.func164.trans (congrArg some (by kernel_rfl))
  f330 := Tryd.func165.trans (congrArg some (by kernel_rfl))
  f331 := Tryd.func166.trans (congrArg some (by kernel_rfl))
  f332 := Tryd.func167.trans (congrArg some (by kernel_rfl))
  f343 := Tryd.func173.trans (congrArg some (by kernel_rfl))
  t0 := Tryd.underlying0
  a0 := Tryd.isAgg0
  z0 := Tryd.sizeOf0
  v0 := Tryd.zeroValue0
  t3 := Tryd.underlying3
  a3 := Tryd.isAgg3
  z3 := Tryd.sizeOf3
  v3 := Tryd.zeroValue3
  t4 := Tryd.underlying4
  a4 := Tryd.isAgg4
  z4 := Tryd.sizeOf4
  v4 := Tryd.zeroValue4
  t5 := Tryd.underlying5
  a5 := Tryd.isAgg5
  z5 := Tryd.sizeOf5
  v5 := Tryd.zeroValue5
  t9 := Tryd.underlying9
  a9 := Tryd.isAgg9
  z9 := Tryd.sizeOf9
  v9 := Tryd.zeroValue9
  t28 := Tryd.underlying41
  a28 := Tryd.isAgg41
  z28 := Tryd.sizeOf41
  v28 := Tryd.zeroValue41
  t46 := Tryd.underlying179
  a46 := Tryd.isAgg179
  z46 := Tryd.sizeOf179
  v46 := Tryd.zeroValue179
  t51 := Tryd.underlying194
  a51 := Tryd.isAgg194
  z51 := Tryd.sizeOf194
  v51 := Tryd.zeroValue194
  t53 := Tryd.underlying80
  a53 := Tryd.isAgg80
  z53 := Tryd.sizeOf80
  v53 := Tryd.zeroValue80
  t131 := Tryd.underlying176
  a131 := Tryd.isAgg176
  z131 := Tryd.sizeOf176
  v131 := Tryd.zeroValue176
  t182 := Tryd.underlying187
  a182 := Tryd.isAgg187
  z182 := Tryd.sizeOf187
  v182 := Tryd.zeroValue187
  t183 := Tryd.underlying188
  a183 := Tryd.isAgg188
  z183 := Tryd.sizeOf188
  v183 := Tryd.zeroValue188
  t218 := Tryd.underlying198
  a218 := Tryd.isAgg198
  z218 := Tryd.sizeOf198
  v218 := Tryd.zeroValue198
  t222 := Tryd.underlying202
  a222 := Tryd.isAgg202
  z222 := Tryd.sizeOf202
  v222 := Tryd.zeroValue202
  t228 := Tryd.underlying207
  a228 := Tryd.isAgg207
  z228 := Tryd.sizeOf207
  v228 := Tryd.zeroValue207
  t229 := Tryd.underlying208
  a229 := Tryd.isAgg208
  z229 := Tryd.sizeOf208
  v229 := Tryd.zeroValue208 }
open Go.Sort Go.RowKit in
theorem Tryd.slices_Sort_int (blk off cap : Nat) (zs : List Int) (w : World) (hH : Holds (Value.int .i64) w blk off zs.toArray) (hblk : blk < w.heap.size) (hsz : zs.length < 4611686018427387904) :
    Calls Tryd.prog 120 #[.slice (some ⟨blk, off, none⟩) zs.length cap] w fun e w' =>
      e = .returned (.tuple #[]) ∧ ∃ n os, w' = grow (putRow (Value.int .i64) (Sort.ahead w n) blk off (zs.mergeSort fun x y => decide (x ≤ y)).toArray) os := Any.slices_Sort_int Tryd.lays189 blk off cap zs w hH hblk hsz
def Tryd.laysM288_ren : Go.Shelf.Ren := ⟨fun | 288 => 169 | 283 => 174 | 284 => 175 | 285 => 176 | 286 => 177 | 129 => 155 | 317 => 179 | 318 => 180 | 319 => 181 | 320 => 182 | 337 => 183 | 338 => 184 | n => n, fun | 37 => 22 | 53 => 80 | 3 => 3 | 4 => 4 | 9 => 9 | 171 => 210 | 0 => 0 | 173 => 212 | 212 => 215 | 51 => 194 | 5 => 5 | 20 => 20 | 213 => 216 | 46 => 179 | 232 => 217 | 233 => 218 | n => n, fun | 17 => 2 | 18 => 3 | 19 => 4 | n => n⟩
theorem Tryd.laysM288 : Go.Proofs.LaysM.n288 Tryd.prog Tryd.laysM288_ren := {
  mixed := by kernel_rfl
  f129 := Tryd.func155.trans (congrArg some (by kernel_rfl))
  f283 := Tryd.func174.trans (congrArg some (by kernel_rfl))
  f284 := Tryd.func175.trans (congrArg some (by kernel_rfl))
  f285 := Tryd.func176.trans (congrArg some (by kernel_rfl))
  f286 := Tryd.func177.trans (congrArg some (by kernel_rfl))
  f288 := Tryd.func169.trans (congrArg some (by kernel_rfl))
  f317 := Tryd.func179.trans (congrArg some (by kernel_rfl))
  f318 := Tryd.func180.trans (congrArg some (by kernel_rfl))
  f319 := Tryd.func181.trans (congrArg some (by kernel_rfl))
  f320 := Tryd.func182.trans (congrArg some (by kernel_rfl))
  f337 := Tryd.func183.trans (congrArg some (by kernel_rfl))
  f338 := Tryd.func184.trans (congrArg some (by kernel_rfl))
  t0 := Tryd.underlying0
  a0 := Tryd.isAgg0
  z0 := Tryd.sizeOf0
  v0 := Tryd.zeroValue0
  t3 := Tryd.underlying3
  a3 := Tryd.isAgg3
  z3 := Tryd.sizeOf3
  v3 := Tryd.zeroValue3
  t4 := Tryd.underlying4
  a4 := Tryd.isAgg4
  z4 := Tryd.sizeOf4
  v4 := Tryd.zeroValue4
  t5 := Tryd.underlying5
  a5 := Tryd.isAgg5
  z5 := Tryd.sizeOf5
  v5 := Tryd.zeroValue5
  t9 := Tryd.underlying9
  a9 := Tryd.isAgg9
  z9 := Tryd.sizeOf9
  v9 := Tryd.zeroValue9
  t20 := Tryd.underlying20
  a20 := Tryd.isAgg20
  z20 := Tryd.sizeOf20
  v20 := Tryd.zeroValue20
  t37 := Tryd.underlying22
  a37 := Tryd.isAgg22
  z37 := Tryd.sizeOf22
  v37 := Tryd.zeroValue22
  t46 := Tryd.underlying179
  a46 := Tryd.isAgg179
  z46 := Tryd.sizeOf179
  v46 := Tryd.zeroValue179
  t51 := Tryd.underlying194
  a51 := Tryd.isAgg194
  z51 := Tryd.sizeOf194
  v51 := Tryd.zeroValue194
  t53 := Tryd.underlying80
  a53 := Tryd.isAgg80
  z53 := Tryd.sizeOf80
  v53 := Tryd.zeroValue80
  t171 := Tryd.underlying210
  a171 := Tryd.isAgg210
  z171 := Tryd.sizeOf210
  v171 := Tryd.zeroValue210
  t173 := Tryd.underlying212
  a173 := Tryd.isAgg212
  z173 := Tryd.sizeOf212
  v173 := Tryd.zeroValue212
  t212 := Tryd.underlying215
  a212 := Tryd.isAgg215
  z212 := Tryd.sizeOf215
  v212 := Tryd.zeroValue215
  t213 := Tryd.underlying216
  a213 := Tryd.isAgg216
  z213 := Tryd.sizeOf216
  t232 := Tryd.underlying217
  a232 := Tryd.isAgg217
  z232 := Tryd.sizeOf217
  v232 := Tryd.zeroValue217
  t233 := Tryd.underlying218
  a233 := Tryd.isAgg218
  z233 := Tryd.sizeOf218
  v233 := Tryd.zeroValue218
  g17 := by kernel_rfl
  g18 := by kernel_rfl
  g19 := by kernel_rfl
  i0 := by kernel_rfl
  i3 := by kernel_rfl
  i4 := by kernel_rfl
  i5 := by kernel_rfl
  i9 := by kernel_rfl
  i20 := by kernel_rfl
  i37 := by kernel_rfl
  i46 := by kernel_rfl
  i51 := by kernel_rfl
  i53 := by kernel_rfl
  i171 := by kernel_rfl
  i173 := by kernel_rfl
  i212 := by kernel_rfl
  i232 := by kernel_rfl
  i233 := by kernel_rfl
  m17 := by kernel_rfl
  m18 := by kernel_rfl
  m19 := by kernel_rfl }
open Go.RowKit Go.Sort Go.Lib in
/-- internal/strconv.AppendUint(dst, i, 10), i BELOW 100: WHAT COMES BACK OWNS dst's CELLS AND, BEHIND THEM, i's DECIMAL NUMERAL. No table is read. Below the call's own blocks nothing has turned. (LAID: no walk: one application.) -/
theorem Tryd.internal_strconv_AppendUint_10_small (B n u : Nat) (hu : u < 100) (sv : Value) (xs : List Value) (w : World) (hown : w.ownsRow B 5 1 sv n xs) (hBw : B ≤ w.heap.size) (hlim : n + 20 ≤ 140737488355328) :
    Calls Tryd.prog 169 #[sv, .int .u64 u, .int .i64 10] w fun e w' => ∃ v', e = .returned v' ∧ w'.ownsRow B 5 1 v' (n + (Lib.decDigits u).length) (xs ++ Lib.byteCells (Lib.decDigits u)) ∧ Below B w w' ∧ Lib.OthersKept 5 none w w' := Any.internal_strconv_AppendUint_10_small Tryd.laysM288 B n u hu sv xs w hown hBw hlim
open Go.RowKit Go.Sort Go.Lib in
/-- internal/strconv.AppendUint(dst, i, 10), i FROM 100 ON: likewise; the digits are laid in an array of the call's own and appended. (LAID: no walk: one application.) -/
theorem Tryd.internal_strconv_AppendUint_10_big (B n u : Nat) (hu : 100 ≤ u) (hu64 : u < 18446744073709551616) (sv : Value) (xs : List Value) (w : World) (hown : w.ownsRow B 5 1 sv n xs) (hBw : B ≤ w.heap.size) (hlim : n + 20 ≤ 140737488355328) (htab : Lib.TabIs Tryd.prog w "internal/strconv.uint64pow10" .u64 Lib.pow10Tab) :
    Calls Tryd.prog 169 #[sv, .int .u64 u, .int .i64 10] w fun e w' => ∃ v', e = .returned v' ∧ w'.ownsRow B 5 1 v' (n + (Lib.decDigits u).length) (xs ++ Lib.byteCells (Lib.decDigits u)) ∧ Below B w w' ∧ Lib.OthersKept 5 none w w' := Any.internal_strconv_AppendUint_10_big Tryd.laysM288 B n u hu hu64 sv xs w hown hBw hlim htab
open Go.RowKit Go.Sort Go.Lib in
/-- internal/strconv.AppendUint(dst, i, 10): the two contracts as one. NO WALK. (LAID: no walk: one application.) -/
theorem Tryd.internal_strconv_AppendUint_10 (B n u : Nat) (hu64 : u < 18446744073709551616) (sv : Value) (xs : List Value) (w : World) (hown : w.ownsRow B 5 1 sv n xs) (hBw : B ≤ w.heap.size) (hlim : n + 20 ≤ 140737488355328) (htab : Lib.TabIs Tryd.prog w "internal/strconv.uint64pow10" .u64 Lib.pow10Tab) :
    Calls Tryd.prog 169 #[sv, .int .u64 u, .int .i64 10] w fun e w' => ∃ v', e = .returned v' ∧ w'.ownsRow B 5 1 v' (n + (Lib.decDigits u).length) (xs ++ Lib.byteCells (Lib.decDigits u)) ∧ Below B w w' ∧ Lib.OthersKept 5 none w w' := Any.internal_strconv_AppendUint_10 Tryd.laysM288 B n u hu64 sv xs w hown hBw hlim htab
def Tryd.laysM249_ren : Go.Shelf.Ren := ⟨fun | 249 => 156 | 288 => 169 | 283 => 174 | 284 => 175 | 285 => 176 | 286 => 177 | 129 => 155 | 317 => 179 | 318 => 180 | 319 => 181 | 320 => 182 | 337 => 183 | 338 => 184 | n => n, fun | 37 => 22 | 2 => 2 | 3 => 3 | 53 => 80 | 4 => 4 | 9 => 9 | 171 => 210 | 0 => 0 | 173 => 212 | 212 => 215 | 51 => 194 | 5 => 5 | 20 => 20 | 213 => 216 | 46 => 179 | 232 => 217 | 233 => 218 | n => n, fun | 17 => 2 | 18 => 3 | 19 => 4 | n => n⟩
theorem Tryd.laysM249 : Go.Proofs.LaysM.n249 Tryd.prog Tryd.laysM249_ren := {
  mixed := by kernel_rfl
  f129 := Tryd.func155.trans (congrArg some (by kernel_rfl))
  f249 := Tryd.func156.trans (congrArg some (by kernel_rfl))
  f283 := Tryd.func174.trans (congrArg some (by kernel_rfl))
  f284 := Tryd.func175.trans (congrArg some (by kernel_rfl))
  f285 := Tryd.func176.trans (congrArg some (by kernel_rfl))
  f286 := Tryd.func177.trans (congrArg some (by kernel_rfl))
  f288 := Tryd.func169.trans (congrArg some (by kernel_rfl))
  f317 := Tryd.func179.trans (congrArg some (by kernel_rfl))
  f318 := Tryd.func180.trans (congrArg some (by kernel_rfl))
  f319 := Tryd.func181.trans (congrArg some (by kernel_rfl))
  f320 := Tryd.func182.trans (congrArg some (by kernel_rfl))
  f337 := Tryd.func183.trans (congrArg some (by kernel_rfl))
  f338 := Tryd.func184.trans (congrArg some (by kernel_rfl))
  t0 := Tryd.underlying0
  a0 := Tryd.isAgg0
  z0 := Tryd.sizeOf0
  v0 := Tryd.zeroValue0
  t2 := Tryd.underlying2
  a2 := Tryd.isAgg2
  z2 := Tryd.sizeOf2
  v2 := Tryd.zeroValue2
  t3 := Tryd.underlying3
  a3 := Tryd.isAgg3
  z3 := Tryd.sizeOf3
  v3 := Tryd.zeroValue3
  t4 := Tryd.underlying4
  a4 := Tryd.isAgg4
  z4 := Tryd.sizeOf4
  v4 := Tryd.zeroValue4
  t5 := Tryd.underlying5
  a5 := Tryd.isAgg5
  z5 := Tryd.sizeOf5
  v5 := Tryd.zeroValue5
  t9 := Tryd.underlying9
  a9 := Tryd.isAgg9
  z9 := Tryd.sizeOf9
  v9 := Tryd.zeroValue9
  t20 := Tryd.underlying20
  a20 := Tryd.isAgg20
  z20 := Tryd.sizeOf20
  v20 := Tryd.zeroValue20
  t37 := Tryd.underlying22
  a37 := Tryd.isAgg22
  z37 := Tryd.sizeOf22
  v37 := Tryd.zeroValue22
  t46 := Tryd.underlying179
  a46 := Tryd.isAgg179
  z46 := Tryd.sizeOf179
  v46 := Tryd.zeroValue179
  t51 := Tryd.underlying194
  a51 := Tryd.isAgg194
  z51 := Tryd.sizeOf194
  v51 := Tryd.zeroValue194
  t53 := Tryd.underlying80
  a53 := Tryd.isAgg80
  z53 := Tryd.sizeOf80
  v53 := Tryd.zeroValue80
  t171 := Tryd.underlying210
  a171 := Tryd.isAgg210
  z171 := Tryd.sizeOf210
  v171 := Tryd.zeroValue210
  t173 := Tryd.underlying212
  a173 := Tryd.isAgg212
  z173 := Tryd.sizeOf212
  v173 := Tryd.zeroValue212
  t212 := Tryd.underlying215
  a212 := Tryd.isAgg215
  z212 := Tryd.sizeOf215
  v212 := Tryd.zeroValue215
  t213 := Tryd.underlying216
  a213 := Tryd.isAgg216
  z213 := Tryd.sizeOf216
  t232 := Tryd.underlying217
  a232 := Tryd.isAgg217
  z232 := Tryd.sizeOf217
  v232 := Tryd.zeroValue217
  t233 := Tryd.underlying218
  a233 := Tryd.isAgg218
  z233 := Tryd.sizeOf218
  v233 := Tryd.zeroValue218
  g17 := by kernel_rfl
  g18 := by kernel_rfl
  g19 := by kernel_rfl
  i0 := by kernel_rfl
  i2 := by kernel_rfl
  i3 := by kernel_rfl
  i4 := by kernel_rfl
  i5 := by kernel_rfl
  i9 := by kernel_rfl
  i20 := by kernel_rfl
  i37 := by kernel_rfl
  i46 := by kernel_rfl
  i51 := by kernel_rfl
  i53 := by kernel_rfl
  i171 := by kernel_rfl
  i173 := by kernel_rfl
  i212 := by kernel_rfl
  i232 := by kernel_rfl
  i233 := by kernel_rfl
  m17 := by kernel_rfl
  m18 := by kernel_rfl
  m19 := by kernel_rfl }
open Go.RowKit Go.Sort Go.Lib in
/-- internal/strconv.AppendInt: "AppendInt appends the string form of the integer i, as generated by FormatInt, to dst and returns the extended buffer.": AT BASE 10: WHAT COMES BACK OWNS dst's CELLS AND, BEHIND THEM, i's DECIMAL NUMERAL ('Lib.itoa i': at most 20 bytes), for every int64. Below the call's own blocks nothing has turned. (LAID: no walk: one application.) -/
theorem Tryd.internal_strconv_AppendInt_10 (B n : Nat) (i : Int) (h0 : -9223372036854775808 ≤ i) (h1 : i ≤ 9223372036854775807) (sv : Value) (xs : List Value) (w : World) (hown : w.ownsRow B 5 1 sv n xs) (hBw : B ≤ w.heap.size) (hlim : n + 21 ≤ 140737488355328) (htab : Lib.TabBelow Tryd.prog B w "internal/strconv.uint64pow10" .u64 Lib.pow10Tab) :
    Calls Tryd.prog 156 #[sv, .int .i64 i, .int .i64 10] w fun e w' => ∃ v', e = .returned v' ∧ w'.ownsRow B 5 1 v' (n + (Lib.itoa i).length) (xs ++ Lib.byteCells (Lib.itoa i)) ∧ Below B w w' ∧ Lib.OthersKept 5 none w w' := Any.internal_strconv_AppendInt_10 Tryd.laysM249 B n i h0 h1 sv xs w hown hBw hlim htab
def Tryd.laysM176_ren : Go.Shelf.Ren := ⟨fun | 176 => 141 | 249 => 156 | 288 => 169 | 283 => 174 | 284 => 175 | 285 => 176 | 286 => 177 | 129 => 155 | 317 => 179 | 318 => 180 | 319 => 181 | 320 => 182 | 337 => 183 | 338 => 184 | n => n, fun | 37 => 22 | 2 => 2 | 3 => 3 | 53 => 80 | 4 => 4 | 9 => 9 | 171 => 210 | 0 => 0 | 173 => 212 | 212 => 215 | 51 => 194 | 5 => 5 | 20 => 20 | 213 => 216 | 46 => 179 | 232 => 217 | 233 => 218 | n => n, fun | 17 => 2 | 18 => 3 | 19 => 4 | n => n⟩
theorem Tryd.laysM176 : Go.Proofs.LaysM.n176 Tryd.prog Tryd.laysM176_ren := {
  mixed := by kernel_rfl
  f129 := Tryd.func155.trans (congrArg some (by kernel_rfl))
  f176 := Tryd.func141.trans (congrArg some (by kernel_rfl))
  f249 := Tryd.func156.trans (congrArg some (by kernel_rfl))
  f283 := Tryd.func174.trans (congrArg some (by kernel_rfl))
  f284 := Tryd.func175.trans (congrArg some (by kernel_rfl))
  f285 := Tryd.func176.trans (congrArg some (by kernel_rfl))
  f286 := Tryd.func177.trans (congrArg some (by kernel_rfl))
  f288 := Tryd.func169.trans (congrArg some (by kernel_rfl))
  f317 := Tryd.func179.trans (congrArg some (by kernel_rfl))
  f318 := Tryd.func180.trans (congrArg some (by kernel_rfl))
  f319 := Tryd.func181.trans (congrArg some (by kernel_rfl))
  f320 := Tryd.func182.trans (congrArg some (by kernel_rfl))
  f337 := Tryd.func183.trans (congrArg some (by kernel_rfl))
  f338 := Tryd.func184.trans (congrArg some (by kernel_rfl))
  t0 := Tryd.underlying0
  a0 := Tryd.isAgg0
  z0 := Tryd.sizeOf0
  v0 := Tryd.zeroValue0
  t2 := Tryd.underlying2
  a2 := Tryd.isAgg2
  z2 := Tryd.sizeOf2
  v2 := Tryd.zeroValue2
  t3 := Tryd.underlying3
  a3 := Tryd.isAgg3
  z3 := Tryd.sizeOf3
  v3 := Tryd.zeroValue3
  t4 := Tryd.underlying4
  a4 := Tryd.isAgg4
  z4 := Tryd.sizeOf4
  v4 := Tryd.zeroValue4
  t5 := Tryd.underlying5
  a5 := Tryd.isAgg5
  z5 := Tryd.sizeOf5
  v5 := Tryd.zeroValue5
  t9 := Tryd.underlying9
  a9 := Tryd.isAgg9
  z9 := Tryd.sizeOf9
  v9 := Tryd.zeroValue9
  t20 := Tryd.underlying20
  a20 := Tryd.isAgg20
  z20 := Tryd.sizeOf20
  v20 := Tryd.zeroValue20
  t37 := Tryd.underlying22
  a37 := Tryd.isAgg22
  z37 := Tryd.sizeOf22
  v37 := Tryd.zeroValue22
  t46 := Tryd.underlying179
  a46 := Tryd.isAgg179
  z46 := Tryd.sizeOf179
  v46 := Tryd.zeroValue179
  t51 := Tryd.underlying194
  a51 := Tryd.isAgg194
  z51 := Tryd.sizeOf194
  v51 := Tryd.zeroValue194
  t53 := Tryd.underlying80
  a53 := Tryd.isAgg80
  z53 := Tryd.sizeOf80
  v53 := Tryd.zeroValue80
  t171 := Tryd.underlying210
  a171 := Tryd.isAgg210
  z171 := Tryd.sizeOf210
  v171 := Tryd.zeroValue210
  t173 := Tryd.underlying212
  a173 := Tryd.isAgg212
  z173 := Tryd.sizeOf212
  v173 := Tryd.zeroValue212
  t212 := Tryd.underlying215
  a212 := Tryd.isAgg215
  z212 := Tryd.sizeOf215
  v212 := Tryd.zeroValue215
  t213 := Tryd.underlying216
  a213 := Tryd.isAgg216
  z213 := Tryd.sizeOf216
  t232 := Tryd.underlying217
  a232 := Tryd.isAgg217
  z232 := Tryd.sizeOf217
  v232 := Tryd.zeroValue217
  t233 := Tryd.underlying218
  a233 := Tryd.isAgg218
  z233 := Tryd.sizeOf218
  v233 := Tryd.zeroValue218
  g17 := by kernel_rfl
  g18 := by kernel_rfl
  g19 := by kernel_rfl
  i0 := by kernel_rfl
  i2 := by kernel_rfl
  i3 := by kernel_rfl
  i4 := by kernel_rfl
  i5 := by kernel_rfl
  i9 := by kernel_rfl
  i20 := by kernel_rfl
  i37 := by kernel_rfl
  i46 := by kernel_rfl
  i51 := by kernel_rfl
  i53 := by kernel_rfl
  i171 := by kernel_rfl
  i173 := by kernel_rfl
  i212 := by kernel_rfl
  i232 := by kernel_rfl
  i233 := by kernel_rfl
  m17 := by kernel_rfl
  m18 := by kernel_rfl
  m19 := by kernel_rfl }
open Go.RowKit Go.Sort Go.Lib in
/-- strconv.AppendInt: "AppendInt appends the string form of the integer i, as generated by FormatInt, to dst and returns the extended buffer.": AT BASE 10: WHAT COMES BACK OWNS dst's CELLS AND, BEHIND THEM, i's DECIMAL NUMERAL ('Lib.itoa i': at most 20 bytes), for every int64. Below the call's own blocks nothing has turned. (LAID: no walk: one application.) -/
theorem Tryd.strconv_AppendInt_10 (B n : Nat) (i : Int) (h0 : -9223372036854775808 ≤ i) (h1 : i ≤ 9223372036854775807) (sv : Value) (xs : List Value) (w : World) (hown : w.ownsRow B 5 1 sv n xs) (hBw : B ≤ w.heap.size) (hlim : n + 21 ≤ 140737488355328) (htab : Lib.TabBelow Tryd.prog B w "internal/strconv.uint64pow10" .u64 Lib.pow10Tab) :
    Calls Tryd.prog 141 #[sv, .int .i64 i, .int .i64 10] w fun e w' => ∃ v', e = .returned v' ∧ w'.ownsRow B 5 1 v' (n + (Lib.itoa i).length) (xs ++ Lib.byteCells (Lib.itoa i)) ∧ Below B w w' ∧ Lib.OthersKept 5 none w w' := Any.strconv_AppendInt_10 Tryd.laysM176 B n i h0 h1 sv xs w hown hBw hlim htab
def Tryd.laysNm220_ren : Go.Shelf.Ren := ⟨fun | 20 => 122 | n => n, fun | 22 => 41 | 3 => 3 | 4 => 4 | 0 => 0 | n => n, fun | n => n⟩
theorem Tryd.laysNm220 : Go.Proofs.Lays2.n20 Tryd.prog Tryd.laysNm220_ren := {
  mixed := by kernel_rfl
  f20 := Tryd.func122.trans (congrArg some (by kernel_rfl))
  t0 := Tryd.underlying0
  a0 := Tryd.isAgg0
  z0 := Tryd.sizeOf0
  v0 := Tryd.zeroValue0
  t3 := Tryd.underlying3
  a3 := Tryd.isAgg3
  z3 := Tryd.sizeOf3
  v3 := Tryd.zeroValue3
  t4 := Tryd.underlying4
  a4 := Tryd.isAgg4
  z4 := Tryd.sizeOf4
  v4 := Tryd.zeroValue4
  t22 := Tryd.underlying41
  a22 := Tryd.isAgg41
  z22 := Tryd.sizeOf41
  v22 := Tryd.zeroValue41
  i3 := by kernel_rfl }
open Go.RowKit Go.Lib Go.Sort in
/-- slices.Compact at []int, over an array: the library's two loops are walked. (LAID: no walk: one application.) -/
theorem Tryd.slices_Compact_int_arr (blk off cap : Nat) (d : Array Int) (w : World) (hH : Holds encI w blk off d) (hsz : d.size ≤ 9223372036854775807) (hcap : d.size ≤ cap) :
    Calls Tryd.prog 122 #[.slice (some ⟨blk, off, none⟩) d.size cap] w fun e w' => e = .returned (.slice (some ⟨blk, off, none⟩) (compactUpTo d d.size).length cap) ∧ ∃ q, w' = putRow encI (Sort.ahead w q) blk off (compactUpTo d d.size ++ List.replicate (d.size - (compactUpTo d d.size).length) 0).toArray := Any.slices_Compact_int_arr Tryd.laysNm220 blk off cap d w hH hsz hcap
open Go.RowKit Go.Lib Go.Sort in
/-- slices.Compact at []int: "Compact replaces consecutive runs of equal elements with a single copy. This is like the uniq command found on Unix. Compact modifies the contents of the slice s and returns the modified slice, which may have a smaller length. Compact zeroes the elements between the new length and the original length. The result preserves the nilness of s.": IT RETURNS THE SLICE CUT TO 'Lib.compact zs'; ITS CELLS HOLD 'Lib.compact zs', THEN ZERO VALUES up to the old length; all else is as it was, but for the count of draws. IN THE WORDS OF slices.Sort's CONTRACT ('Holds', 'putRow'): so the everyday 'slices.Sort(xs); xs = slices.Compact(xs)' goes from the one contract to the other. It asks 'zs.length ≤ cap' (every slice's: the reslicing 's[:k]' looks at it). Length 0, nil: '.._empty'. (LAID: no walk: one application.) -/
theorem Tryd.slices_Compact_int (blk off cap : Nat) (zs : List Int) (w : World) (hH : Holds (Value.int .i64) w blk off zs.toArray) (hsz : zs.length ≤ 9223372036854775807) (hcap : zs.length ≤ cap) :
    Calls Tryd.prog 122 #[.slice (some ⟨blk, off, none⟩) zs.length cap] w fun e w' => e = .returned (.slice (some ⟨blk, off, none⟩) (Lib.compact zs).length cap) ∧ ∃ q, w' = putRow (Value.int .i64) (Sort.ahead w q) blk off (Lib.compact zs ++ List.replicate (zs.length - (Lib.compact zs).length) 0).toArray := Any.slices_Compact_int Tryd.laysNm220 blk off cap zs w hH hsz hcap
open Go.RowKit Go.Lib Go.Sort in
/-- The same at a slice of length 0, a nil one too: it comes back as it is. (LAID: no walk: one application.) -/
theorem Tryd.slices_Compact_int_empty (a : Option Addr) (cap : Nat) (w : World) :
    Calls Tryd.prog 122 #[.slice a 0 cap] w fun e w' => e = .returned (.slice a 0 cap) ∧ w' = w := Any.slices_Compact_int_empty Tryd.laysNm220 a cap w
end Go.Proofs.YtcnnicbaeicboaaDoor
/- Sorted, and each once: Go's library on a row of ints. -/
namespace Go.Proofs.YtcnnicbaeicboaaDoor
open Go.RowKit Go.Shelf Nt

theorem compact_ok (zs : List Int) (hs : zs.Pairwise (· ≤ ·)) : ∀ m, m ≤ zs.length → (Lib.compactUpTo zs.toArray m).Pairwise (· < ·) ∧ (∀ x, x ∈ Lib.compactUpTo zs.toArray m ↔ x ∈ zs.take m) := by
  intro m
  induction m with
  | zero => intro _; simp [Lib.compactUpTo]
  | succ m ih =>
    intro hm
    obtain ⟨a, b⟩ := ih (by omega)
    have hg : zs.toArray[m]! = zs[m]'(by omega) := by rw [getElem!_pos _ m (by simp; omega)]; simp
    have htk : zs.take (m + 1) = zs.take m ++ [zs[m]'(by omega)] := by rw [List.take_add_one, List.getElem?_eq_getElem (by omega)]; rfl
    rw [Lib.compactUpTo_succ, htk, hg]
    have hle : ∀ x ∈ zs.take m, x ≤ zs[m]'(by omega) := by
      intro x hx
      obtain ⟨j, hj⟩ := List.getElem?_of_mem hx
      obtain ⟨hjl, rfl⟩ := List.getElem?_eq_some_iff.1 hj
      rw [List.getElem_take]
      rw [List.length_take] at hjl
      exact List.pairwise_iff_getElem.1 hs j m (by omega) (by omega) (by omega)
    by_cases hk : Lib.keeps zs.toArray m = true
    · rw [if_pos hk]
      refine ⟨?_, fun x => by rw [List.mem_append, List.mem_append, b]⟩
      rw [List.pairwise_append]
      refine ⟨a, by simp, fun x hx y hy => ?_⟩
      have hy : y = zs[m]'(by omega) := by simpa using hy
      subst hy
      have h1 := hle x ((b x).1 hx)
      refine Int.lt_iff_le_and_ne.2 ⟨h1, fun e => ?_⟩
      have hm0 : m ≠ 0 := fun e0 => by subst e0; simp at b; exact b x hx
      have hk2 : zs.toArray[m]! ≠ zs.toArray[m - 1]! := by
        unfold Lib.keeps at hk
        simp at hk
        rcases hk with h | h
        · exact absurd h hm0
        · simpa using h
      rw [hg, getElem!_pos _ (m - 1) (by simp; omega)] at hk2
      simp at hk2
      have h2 : zs[m - 1]'(by omega) ≤ zs[m]'(by omega) := List.pairwise_iff_getElem.1 hs (m - 1) m (by omega) (by omega) (by omega)
      have h3 : x ≤ zs[m - 1]'(by omega) := by
        have hx2 := (b x).1 hx
        obtain ⟨j, hj⟩ := List.getElem?_of_mem hx2
        obtain ⟨hjl, hje⟩ := List.getElem?_eq_some_iff.1 hj
        rw [List.getElem_take] at hje
        rw [List.length_take] at hjl
        by_cases hjm : j = m - 1
        · subst hjm; rw [← hje]; exact Int.le_refl _
        · rw [← hje]
          exact List.pairwise_iff_getElem.1 hs j (m - 1) (by omega) (by omega) (by omega)
      omega
    · rw [if_neg hk, List.append_nil]
      refine ⟨a, fun x => ?_⟩
      rw [b, List.mem_append]
      constructor
      · exact .inl
      · rintro (h | h)
        · exact h
        · have hx : x = zs[m]'(by omega) := by simpa using h
          have hm0 : m ≠ 0 := fun e0 => hk (by subst e0; simp [Lib.keeps])
          have hk2 : zs.toArray[m]! = zs.toArray[m - 1]! := by
            unfold Lib.keeps at hk
            simp at hk
            simpa using hk.2
          rw [hg, getElem!_pos _ (m - 1) (by simp; omega)] at hk2
          simp at hk2
          rw [hx, hk2]
          refine List.mem_of_getElem? (i := m - 1) ?_
          rw [List.getElem?_take_of_lt (by omega), List.getElem?_eq_getElem (by omega)]
/-- sorted, and each once -/
def onceM (zs : List Int) : List Int := Lib.compact (zs.mergeSort fun x y => decide (x ≤ y))
theorem sorted_le (zs : List Int) : (zs.mergeSort fun x y => decide (x ≤ y)).Pairwise (· ≤ ·) := by
  have h := List.pairwise_mergeSort (le := fun x y : Int => decide (x ≤ y)) (fun a b c h1 h2 => by simp at h1 h2 ⊢; omega) (fun a b => by simp; omega) zs
  exact h.imp (fun h => by simpa using h)
theorem onceM_ok (zs : List Int) : (onceM zs).Nodup ∧ ∀ x, x ∈ onceM zs ↔ x ∈ zs := by
  obtain ⟨a, b⟩ := compact_ok _ (sorted_le zs) _ (Nat.le_refl _)
  refine ⟨?_, fun x => ?_⟩
  · rw [List.nodup_iff_pairwise_ne]
    exact a.imp (fun h => by omega)
  · unfold onceM Lib.compact
    rw [b, List.take_length, List.mem_mergeSort]

set_option maxHeartbeats 1000000 in
theorem sort_c (base b cap : Nat) (zs : List Int) (w : World) (ho : w.ownsRow base 3 1 (.slice (some ⟨b, 0, none⟩) zs.length cap) zs.length (iv zs)) (hn : zs.length < 4611686018427387904) :
    Calls Tryd.prog 120 #[.slice (some ⟨b, 0, none⟩) zs.length cap] w fun e w' => e = .returned (.tuple #[]) ∧ w'.ownsRow base 3 1 (.slice (some ⟨b, 0, none⟩) zs.length cap) zs.length (iv (zs.mergeSort fun x y => decide (x ≤ y))) ∧ Kept (· = b) w w' := by
  rcases ho.2 with ⟨e, _⟩ | ⟨g, cp, cur, e, hb, hg, h1, h2, h3, h4⟩
  · cases e
  cases e
  refine (Tryd.slices_Sort_int b 0 cap zs w (holds_of_blockI hg (by simpa [iv] using h4)) (Array.getElem?_eq_some_iff.1 hg).1 hn).mono ?_
  rintro e w' ⟨rfl, n, os, rfl⟩
  refine ⟨rfl, ?_, Kept.of_grown (grownBy_sortedI _) (fun i e => by cases e; rfl)⟩
  exact ownsRow_sortedI (by simp) hb hg h1 h2 h3

set_option maxHeartbeats 1000000 in
theorem compact_c (base b cap : Nat) (zs : List Int) (w : World) (ho : w.ownsRow base 3 1 (.slice (some ⟨b, 0, none⟩) zs.length cap) zs.length (iv zs)) (hn : zs.length ≤ 9223372036854775807) :
    Calls Tryd.prog 122 #[.slice (some ⟨b, 0, none⟩) zs.length cap] w fun e w' => e = .returned (.slice (some ⟨b, 0, none⟩) (Lib.compact zs).length cap) ∧ w'.ownsRow base 3 1 (.slice (some ⟨b, 0, none⟩) (Lib.compact zs).length cap) (Lib.compact zs).length (iv (Lib.compact zs)) ∧ Kept (· = b) w w' := by
  rcases ho.2 with ⟨e, _⟩ | ⟨g, cp, cur, e, hb, hg, h1, h2, h3, h4⟩
  · cases e
  cases e
  refine (Tryd.slices_Compact_int b 0 cap zs w (holds_of_blockI hg (by simpa [iv] using h4)) hn h1).mono ?_
  rintro e w' ⟨rfl, q, rfl⟩
  have hcl : (Lib.compact zs).length ≤ zs.length := by
    unfold Lib.compact Lib.compactUpTo
    rw [List.length_map]
    exact Nat.le_trans (List.length_filter_le _ _) (by simp)
  have e1 : ∀ d : Array Int, Go.Sort.putRow (Value.int .i64) (Sort.ahead w q) b 0 d = Go.Sort.grow (Go.Sort.putRow (Value.int .i64) (Sort.ahead w q) b 0 d) #[] := fun d => by simp
  refine ⟨rfl, ?_, ?_⟩
  · rw [e1]
    have h := ownsRow_sortedI (w := w) (n := q) (os := #[]) (ts := Lib.compact zs ++ List.replicate (zs.length - (Lib.compact zs).length) 0) (ss := zs) (by simp; omega) hb hg h1 h2 h3
    have h5 := own_take h (Lib.compact zs).length hcl
    simpa [iv] using h5
  · rw [e1]
    exact Kept.of_grown (grownBy_sortedI _) (fun i e => by cases e; rfl)
end Go.Proofs.YtcnnicbaeicboaaDoor
