/- A part of the proof, put together out of smaller texts: each piece says what it is for. -/
import Derived.Test.YtcnnicbaeicboaaDoorM6
import Derived.Lib.ItoaLen
import Derived.Lib.ItoaMem
import Derived.RegionIn
import Derived.Stop.RegionWithIn
/- impl's looks of nodes: their turns. -/
namespace Go.Proofs.YtcnnicbaeicboaaDoor
open Go.RowKit Go.Shelf Nt
attribute [local go_sem] Oper.semAt_some

theorem row_other {w : World} {base n size b : Nat} {v : Value} {e T : TypeId} {xs : List Value} {cs : Array Value} (ho : w.ownsRow base e size v n xs) (h : w.heap[b]? = some (.cells cs T (0, 0))) (hT : e ≠ T) : v.ownBlock ≠ some b := by
  rcases ho.2 with ⟨rfl, _⟩ | ⟨g1, c1, k1, rfl, _, hg1, _⟩
  · intro e'; simp [Value.ownBlock] at e'
  · intro e'
    simp [Value.ownBlock] at e'
    subst e'
    rw [hg1] at h; cases h; exact hT rfl
theorem wrs_len : ∀ gs : List Int, (∀ g ∈ gs, 0 ≤ g ∧ g ≤ 9223372036854775807) → (wrs gs).length ≤ 22 * gs.length
  | [], _ => by simp [wrs]
  | g :: gs, h => by
    have h0 := h g (by simp)
    have ih := wrs_len gs (fun x hx => h x (by simp [hx]))
    obtain ⟨n, rfl⟩ : ∃ n : Nat, g = n := ⟨g.toNat, by omega⟩
    have h1 := Go.Lib.itoa_length_le (n : Int) (by omega) h0.2
    rw [Go.Lib.itoa_nonneg] at h1
    simp only [wrs, List.flatMap_cons, List.length_append, wr1, Int.toNat_natCast, List.length_cons, List.length_nil] at ih ⊢
    omega
theorem wrs_append (a b : List Int) : wrs (a ++ b) = wrs a ++ wrs b := by simp [wrs]

set_option maxRecDepth 100000 in
set_option maxHeartbeats 4000000 in
theorem turn_c (g x : Nat) (nv ov sv : Value) (ns : List Nd) (of : List Int) (nd : Nd) (w : World) (hg : AtC3 w g nv ov sv 144) (hn : NodesAt w nv ns) (ho : IntsAt w ov of) (hx : ns[x]? = some nd) (hof : of.length = ns.length)
    (hk : ∀ k ∈ nd.2.2, 0 ≤ k ∧ k < ns.length) (hk40 : nd.2.2.length ≤ 40) (hr : ∀ k : Int, 0 ≤ k → k < ns.length → 0 ≤ gAt of k ∧ gAt of k < 1000000000)
    (htab : Lib.TabBelow Tryd.prog w.heap.size w "internal/strconv.uint64pow10" .u64 Lib.pow10Tab) :
    Calls Tryd.prog 123 #[.pointer (some ⟨g, 0, none⟩), .int .i64 x] w fun e w' => e = .returned (.agg #[.int .i64 (gAt of x), .string (B (wrs (nd.2.2.map (gAt of))))]) ∧ Below w.heap.size w w' := by
  obtain ⟨i0, hi, hz0, hz1, hz2⟩ := info_parts Tryd.infoByte
  have hxl := (List.getElem?_eq_some_iff.1 hx).1
  have HN := hide hn
  have HOF := hide ho
  have HG := hide hg
  obtain ⟨nb, no, nc, rfl, _, hn2, _⟩ := hn.form (by omega)
  obtain ⟨kv, m0, m1, m2, _, hki⟩ := hn.node hx
  have HKI := hide hki
  obtain ⟨ka, kc, rfl, hk1, hk2, -⟩ := hki
  unfold maxLen at hn2 hk2
  have g0 := hg.n0
  have hgl := hg.lt
  have b0 := World.block_lt_of_cell? _ _ m0
  have up4 : ∀ {a : Addr} {u : Value}, w.cell? a = some u → ∀ o1 o2 o3 o4, ((((w.alloc o1).alloc o2).alloc o3).alloc o4).cell? a = some u := fun h o1 o2 o3 o4 =>
    ((step_a (step_a (step_a (step_a (Below.refl w.heap.size w) o1) o2) o3) o4).cell (World.block_lt_of_cell? _ _ h)).trans h
  have g4 := up4 g0
  have n0 := up4 m0
  have n1 := up4 m1
  have n2 := up4 m2
  clear up4
  obtain ⟨oa, oc, rfl, _, ho2, -⟩ := ho
  unfold maxLen at ho2
  rw [hof] at HOF HG
  have HK := hide hk
  have HR := hide hr
  have HT := hide htab
  have HX := hide hx
  clear hg hn hx hk hr htab
  refine (callsIn_wide (n := 3)).1 ?_
  refine callsIn_of_wp_marks Tryd.func123 rfl trivial ?_ rfl
  simp only [Tryd.ntmps123, List.size_toArray, List.length_cons, List.length_nil, Nat.reduceAdd, Nat.reduceSub, Array.replicate_succ, Array.replicate_zero, List.push_toArray, List.append_toArray, List.nil_append, List.cons_append]
  gi_wp2_with fail
  refine ⟨trivial, (callsIn_wide.2 (beside_c _ _ _ _)).mono ?_⟩
  rintro e w1 ⟨rfl, rfl⟩
  gi_wp2_with fail
  have hB0 := step_a (step_a (step_a (step_a (step_a (Below.refl w.heap.size w) (.cells #[.pointer (some ⟨g, 0, none⟩)] 171)) (.cells #[.int .i64 0, .string ⟨#[]⟩] 155)) (.cells #[] 5)) (.cells #[.slice (some ⟨w.heap.size + 1 + 1, 0, none⟩) 0 0] 22)) (.cells #[.int .i64 nd.1, .string (B nd.2.1), .slice ka nd.2.2.length kc] 93)
  have hgx := ((((Boxed.new w 171 (.pointer (some ⟨g, 0, none⟩))).alloc (.cells #[.int .i64 0, .string ⟨#[]⟩] 155)).alloc (.cells #[] 5)).alloc (.cells #[.slice (some ⟨w.heap.size + 1 + 1, 0, none⟩) 0 0] 22)).alloc (.cells #[.int .i64 nd.1, .string (B nd.2.1), .slice ka nd.2.2.length kc] 93)
  have hres := (((AtC2.new (w.alloc (.cells #[.pointer (some ⟨g, 0, none⟩)] 171)) (.int .i64 0) (.string ⟨#[]⟩) 155).alloc (.cells #[] 5)).alloc (.cells #[.slice (some ⟨w.heap.size + 1 + 1, 0, none⟩) 0 0] 22)).alloc (.cells #[.int .i64 nd.1, .string (B nd.2.1), .slice ka nd.2.2.length kc] 93)
  have hrow := ((World.ownsRow_lit (base := w.heap.size + 2) (e := 5) (size := 1) ((w.alloc (.cells #[.pointer (some ⟨g, 0, none⟩)] 171)).alloc (.cells #[.int .i64 0, .string ⟨#[]⟩] 155)) #[] 0 (by simp) (by unfold maxLen; omega) rfl).alloc (.cells #[.slice (some ⟨w.heap.size + 1 + 1, 0, none⟩) 0 0] 22)).alloc (.cells #[.int .i64 nd.1, .string (B nd.2.1), .slice ka nd.2.2.length kc] 93)
  have hbx := (Boxed.new (((w.alloc (.cells #[.pointer (some ⟨g, 0, none⟩)] 171)).alloc (.cells #[.int .i64 0, .string ⟨#[]⟩] 155)).alloc (.cells #[] 5)) 22 (.slice (some ⟨w.heap.size + 1 + 1, 0, none⟩) 0 0)).alloc (.cells #[.int .i64 nd.1, .string (B nd.2.1), .slice ka nd.2.2.length kc] 93)
  have hnb : (((((w.alloc (.cells #[.pointer (some ⟨g, 0, none⟩)] 171)).alloc (.cells #[.int .i64 0, .string ⟨#[]⟩] 155)).alloc (.cells #[] 5)).alloc (.cells #[.slice (some ⟨w.heap.size + 1 + 1, 0, none⟩) 0 0] 22)).alloc (.cells #[.int .i64 nd.1, .string (B nd.2.1), .slice ka nd.2.2.length kc] 93)).heap[w.heap.size + 4]? = some (.cells #[.int .i64 nd.1, .string (B nd.2.1), .slice ka nd.2.2.length kc] 93 (0, 0)) := by
    have h := World.alloc_heap_new ((((w.alloc (.cells #[.pointer (some ⟨g, 0, none⟩)] 171)).alloc (.cells #[.int .i64 0, .string ⟨#[]⟩] 155)).alloc (.cells #[] 5)).alloc (.cells #[.slice (some ⟨w.heap.size + 1 + 1, 0, none⟩) 0 0] 22)) (.cells #[.int .i64 nd.1, .string (B nd.2.1), .slice ka nd.2.2.length kc] 93)
    simpa using h
  have hsz : (((((w.alloc (.cells #[.pointer (some ⟨g, 0, none⟩)] 171)).alloc (.cells #[.int .i64 0, .string ⟨#[]⟩] 155)).alloc (.cells #[] 5)).alloc (.cells #[.slice (some ⟨w.heap.size + 1 + 1, 0, none⟩) 0 0] 22)).alloc (.cells #[.int .i64 nd.1, .string (B nd.2.1), .slice ka nd.2.2.length kc] 93)).heap.size = w.heap.size + 5 := by simp
  obtain ⟨W0, hW0⟩ : ∃ W0, ((((w.alloc (.cells #[.pointer (some ⟨g, 0, none⟩)] 171)).alloc (.cells #[.int .i64 0, .string ⟨#[]⟩] 155)).alloc (.cells #[] 5)).alloc (.cells #[.slice (some ⟨w.heap.size + 1 + 1, 0, none⟩) 0 0] 22)).alloc (.cells #[.int .i64 nd.1, .string (B nd.2.1), .slice ka nd.2.2.length kc] 93) = W0 := ⟨_, rfl⟩
  simp only [World.size_alloc] at hres hrow hbx
  rw [hW0] at hB0 hgx hres hrow hbx hnb hsz ⊢
  clear hW0 n0 n1 n2 g4 m0 m1 m2
  obtain ⟨S, hSd⟩ : ∃ S : Nat → Prop, ∀ b, S b ↔ (b = w.heap.size + 2 ∨ b = w.heap.size + 3 ∨ w.heap.size + 5 ≤ b) := ⟨_, fun _ => Iff.rfl⟩
  have HSD := hide hSd
  have HB0 := hide hB0
  have HGX := hide hgx
  have HRES := hide hres
  have HNB := hide hnb
  have hbox : W0.cell? ⟨w.heap.size + 4, 2, none⟩ = some (.slice ka nd.2.2.length kc) := by simp [World.cell?, hnb]
  have hSold : ∀ b, b < w.heap.size → ¬ S b := fun b hb hs => by have := (hSd b).1 hs; omega
  refine wpIn_rangeFunc_ownG rfl (by decide) (gf := 136) (lb := #[.pointer (some ⟨w.heap.size + 4, 0, none⟩)]) rfl trivial (enters_of Tryd.func136 (by kernel_rfl) rfl)
    (besideS_sub Fence.wide 2 trivial rfl (by decide) (w.heap.size + 4) S (.slice ka nd.2.2.length kc) nd.2.2 (fun z => 0 ≤ z ∧ z < ns.length) (unhide HK) (by omega) W0 (by omega) hbox (((unhide HKI).outS hSold).kept (Kept.of_below hB0)))
    (fun h k => h.trans k) (fun W l o o' hl _ _ _ => Kept.put ((hSd l).2 (.inr (.inr (by omega))))) (Below.refl _ _) (fun _ => rfl)
    (fun pre W => (∃ v, Boxed W (w.heap.size + 3) 22 v ∧ W.ownsRow (w.heap.size + 2) 5 1 v (wrs (pre.map fun z => gAt of z.1)).length ((wrs (pre.map fun z => gAt of z.1)).map u8v) ∧ (∀ b, v.ownBlock = some b → S b)) ∧ Kept S W0 W)
    (fun _ _ _ => False)
    (OwnFrom.and (Own.from (holdsRow_own (w.heap.size + 2) (w.heap.size + 3) 22 5 1 (fun pre : List {z : Int // 0 ≤ z ∧ z < ns.length} => (wrs (pre.map fun z => gAt of z.1)).length) (fun pre => (wrs (pre.map fun z => gAt of z.1)).map u8v) (fun _ v => ∀ b, v.ownBlock = some b → S b)) _) (ownFrom_kept (Nat.le_refl _)))
    (fun c => ownFrom_pure _ _)
    ⟨⟨_, hbx, hrow, fun b hb => (hSd b).2 (.inl (by simpa [Value.ownBlock] using hb.symm))⟩, Kept.refl _ _⟩
    (fun y => ⟨#[.pointer (some ⟨g, 0, none⟩), .int .i64 x, .pointer (some ⟨w.heap.size, 0, none⟩), undef, .pointer (some ⟨w.heap.size + 1, 0, none⟩), .pointer (some ⟨w.heap.size + 3, 0, none⟩), .int .i64 y.1, .slice (some ⟨w.heap.size + 2, 0, none⟩) 0 0, .pointer (some ⟨g, 0, none⟩), .pointer (some ⟨g, 0, none⟩), .pointer (some ⟨g, 0, none⟩), .slice (some ⟨nb, no, none⟩) ns.length nc, .int .i64 x, .pointer (some ⟨nb, no + x * 3, none⟩), .agg #[.int .i64 nd.1, .string (B nd.2.1), .slice ka nd.2.2.length kc], .func (.func 136) #[] #[.pointer (some ⟨w.heap.size + 4, 0, none⟩)], .int .i64 y.1, undef, undef, undef, undef, undef, undef, undef, undef, undef, undef, undef, undef, undef, undef, undef, undef, undef, undef, undef, undef, undef, undef], []⟩) ?assign ?body ?done ?stop
  case assign =>
    intro l y W K hK
    gi_wp2
    exact hK
  case stop =>
    rintro D c pre W _ _ h _
    exact h.elim
  case body =>
    rintro l pre ⟨y, y0, y1⟩ W ⟨⟨v, hbv, hov, hsv⟩, hkv⟩ hpre
    obtain ⟨yn, rfl⟩ : ∃ yn : Nat, y = yn := ⟨y.toNat, by omega⟩
    have hyl : yn < ns.length := by omega
    obtain ⟨r0, r1⟩ := unhide HR yn y0 y1
    obtain ⟨gy, hgy⟩ : ∃ gy, gAt of yn = gy := ⟨_, rfl⟩
    have hofy : of[yn]? = some gy := by
      have hl : yn < of.length := by omega
      have := gAt_nat (List.getElem?_eq_getElem hl)
      rw [List.getElem?_eq_getElem hl, ← this, hgy]
    rw [hgy] at r0 r1
    have hbw : Below w.heap.size w W := (unhide HB0).trans (hkv.below (unhide HB0).size (fun b hb => by have := (hSd b).1 hb; omega))
    obtain ⟨a, cap, e1, _, _, h3⟩ := ints_cell ((unhide HOF).below hbw)
    injection e1 with e2 e3 e4
    obtain ⟨ob, oo, rfl, hob, hoy⟩ := h3 yn gy hofy
    subst e2
    have cg := (Boxed.keptS (unhide HGX) hkv (fun hs => by have := (hSd _).1 hs; omega)).cell
    have cg1 := (hbw.cell (p := ⟨g, 1, none⟩) hgl).trans (unhide HG).n1
    have cb := hbv.cell
    have cf := hbv.frozen
    have HBV := hide hbv
    have HSV := hide hsv
    have HKV := hide hkv
    have hsz2 := hkv.size
    obtain ⟨L, hL⟩ : ∃ L, wrs (pre.map fun z => gAt of z.1) = L := ⟨_, rfl⟩
    rw [hL] at hov
    have hlen : L.length ≤ 1000000 := by
      rw [← hL]
      have h := wrs_len (pre.map fun z => gAt of z.1) (fun g hg => by
        obtain ⟨z, _, rfl⟩ := List.mem_map.1 hg
        have := unhide HR z.1 z.2.1 z.2.2; omega)
      rw [List.length_map] at h
      omega
    have HL := hide hL
    have HOV := hide hov
    clear hL
    have HTB : Hid (Lib.TabBelow Tryd.prog (w.heap.size + 2) W "internal/strconv.uint64pow10" .u64 Lib.pow10Tab) := hide (fun w' hb => ((unhide HT).on hbw) w' (hb.mono (by omega)))
    have HBW := hide hbw
    have HGY := hide hgy
    clear hbv hov hsv hkv e3 e4 h3 hofy hof hSd hSold hnb hres hrow hbx hgx hB0 hbox hgy hbw
    gi_wp2_with fail
    gi_region_with ((refine ⟨trivial, (CallsIn.inRound l (callsIn_wide.2 (Tryd.strconv_AppendInt_10 (w.heap.size + 2) L.length gy (by omega) (by omega) v (L.map u8v) W.drew (unhide HOV).drew (by show w.heap.size + 2 ≤ W.heap.size; omega) (by omega) (fun w' hb => unhide HTB w' (below_of_drew hb))))).mono ?_⟩; rintro e w2 ⟨v2, rfl, ho2, hb2, hk2⟩; obtain ⟨M, hM⟩ : ∃ M, L ++ Lib.itoa gy = M := ⟨_, rfl⟩; have ho2' : w2.ownsRow (w.heap.size + 2) 5 1 v2 M.length (M.map u8v) := (by have h := ho2; rw [show L.length + (Lib.itoa gy).length = M.length by rw [← hM]; simp, show L.map u8v ++ Lib.byteCells (Lib.itoa gy) = M.map u8v by rw [← hM, List.map_append]; rfl] at h; exact h); clear ho2; have ho2 := ho2'; clear ho2'; have HMD := hide hM; clear hM; obtain ⟨pa, pc, rfl⟩ := own_slice ho2; have hbv2 : Boxed w2 (w.heap.size + 3) 22 v := hk2 _ _ (show W.drew.heap[w.heap.size + 3]? = _ from unhide HBV) (by simp) (fun c fz e => by cases e); have cb2 := hbv2.cell; have cf2 := hbv2.frozen; have HBV2 := hide hbv2; have HO2 := hide ho2; have HB2 := hide (below_of_drew hb2); have HK2 := hide hk2; clear ho2 hb2 hk2 hbv2))
    all_goals
      have HBS := hide ((unhide HBV2).set (.slice pa M.length pc))
      have HOS := hide (own_s1 (i := 0) (u := .slice pa M.length pc) (unhide HO2) (boxed_row (unhide HBV2) (unhide HO2) (by decide)))
      have cb3 := (unhide HBS).cell
      have hM2 : M.length ≤ 1000100 := by
        have h := Go.Lib.itoa_length_le gy (by omega) (by omega)
        rw [← unhide HMD, List.length_append]; omega
      have hs23 := (unhide HB2).size
      gi_wp2_with (gi_at_builtin; refine wpListIn_append_own_at _ rfl _ _ 22 rfl (w.heap.size + 2) 5 i0 (.int .u8 0) 1 1 Tryd.underlying22 hi hz0 hz1 hz2 rfl (by decide) _ _ _ rfl ((unhide HOS).alloc _) ⟨w2.heap.size, 0, none⟩ 1 1 [.int .u8 32] rfl rfl (by have h := cell_one_new (w2.setCell ⟨w.heap.size + 3, 0, none⟩ (.slice pa M.length pc)) (.int .u8 32) 5; rwa [World.size_setCell] at h) (by intro u hu; simp at hu; subst hu; rfl) (by unfold maxLen; omega) (by omega) (by simp; omega) ?_; intro v3 w3 hown hgrow hnil hloc; obtain ⟨qa, qc, rfl⟩ := own_slice hown; have hap := (unhide HBS).appended (n₀ := w.heap.size + 2) (by decide) (unhide HOS) (by simp; omega) (by omega) hown hgrow; have HAP := hide hap; have b0 := hap.1.cell; have b1 := hap.1.frozen; have HGR : Hid (((w2.setCell ⟨w.heap.size + 3, 0, none⟩ (.slice pa M.length pc)).alloc (.cells #[.int .u8 32] 5)).grownBy w3 (Value.slice pa M.length pc).ownBlock) := hgrow; have HLO : Hid ((Value.slice qa (M.length + 1) qc).ownBlock = (Value.slice pa M.length pc).ownBlock ∨ (Value.slice qa (M.length + 1) qc).ownBlock = some ((w2.setCell ⟨w.heap.size + 3, 0, none⟩ (.slice pa M.length pc)).alloc (.cells #[.int .u8 32] 5)).heap.size) := hloc; clear hap hown hgrow hnil hloc)
    all_goals
      have h40 : W.heap[w.heap.size + 4]? = some (.cells #[.int .i64 nd.1, .string (B nd.2.1), .slice ka nd.2.2.length kc] 93 (0, 0)) := ((unhide HKV).block _ (by omega) (fun hs => by have := (unhide HSD _).1 hs; omega)).trans (unhide HNB)
      have h42 : w2.heap[w.heap.size + 4]? = some (.cells #[.int .i64 nd.1, .string (B nd.2.1), .slice ka nd.2.2.length kc] 93 (0, 0)) := unhide HK2 _ _ h40 (by simp) (fun c fz e => by cases e)
      have h43 : (w2.setCell ⟨w.heap.size + 3, 0, none⟩ (.slice pa M.length pc)).heap[w.heap.size + 4]? = some (.cells #[.int .i64 nd.1, .string (B nd.2.1), .slice ka nd.2.2.length kc] 93 (0, 0)) := (heap_setCell_other w2 ⟨w.heap.size + 3, 0, none⟩ _ _ (by simp)).trans h42
      have hlt4 : w.heap.size + 4 < (w2.setCell ⟨w.heap.size + 3, 0, none⟩ (.slice pa M.length pc)).heap.size := (Array.getElem?_eq_some_iff.1 h43).1
      have h44 : ((w2.setCell ⟨w.heap.size + 3, 0, none⟩ (.slice pa M.length pc)).alloc (.cells #[.int .u8 32] 5)).heap[w.heap.size + 4]? = some (.cells #[.int .i64 nd.1, .string (B nd.2.1), .slice ka nd.2.2.length kc] 93 (0, 0)) := (((Below.refl _ _).alloc (Nat.le_refl _) _).block _ hlt4).trans h43
      have h45 : w3.heap[w.heap.size + 4]? = some (.cells #[.int .i64 nd.1, .string (B nd.2.1), .slice ka nd.2.2.length kc] 93 (0, 0)) := ((unhide HGR).block _ (by simp at hlt4 ⊢; omega) (row_other (unhide HOS) h43 (by decide)).symm).trans h44
      have h4f : (w3.setCell ⟨w.heap.size + 3, 0, none⟩ (.slice qa (M.length + 1) qc)).heap[w.heap.size + 4]? = some (.cells #[.int .i64 nd.1, .string (B nd.2.1), .slice ka nd.2.2.length kc] 93 (0, 0)) := (heap_setCell_other w3 ⟨w.heap.size + 3, 0, none⟩ _ _ (by simp)).trans h45
      have hBf : Below (w.heap.size + 2) W (w3.setCell ⟨w.heap.size + 3, 0, none⟩ (.slice qa (M.length + 1) qc)) := ((unhide HB2).setCell (p := ⟨w.heap.size + 3, 0, none⟩) (by simp) _).trans (unhide HAP).2.2.2.2
      have hKS : Kept S W (w3.setCell ⟨w.heap.size + 3, 0, none⟩ (.slice qa (M.length + 1) qc)) := ⟨hBf.os, hBf.tape, hBf.output, hBf.size, fun b hb hns => by
        by_cases h1 : b < w.heap.size + 2
        · exact hBf.block b h1
        · have h2 : b = w.heap.size + 4 := by
            have h3 : ¬ (b = w.heap.size + 2 ∨ b = w.heap.size + 3 ∨ w.heap.size + 5 ≤ b) := fun h => hns ((unhide HSD b).2 h)
            omega
          rw [h2, h4f, h40]⟩
      have hKO : KeepsOthers W (w3.setCell ⟨w.heap.size + 3, 0, none⟩ (.slice qa (M.length + 1) qc)) := ⟨hBf.size, fun k o hk ho => by
        have h1 : w2.heap[k]? = some o := unhide HK2 k o hk (by simp) (fun c fz e => by subst e; cases ho)
        have h2 : k ≠ w.heap.size + 3 := fun e => by
          subst e
          rw [show w2.heap[w.heap.size + 3]? = _ from unhide HBV2] at h1; cases h1; cases ho
        exact (unhide HAP).2.2.2.1.2 k o ((heap_setCell_other w2 ⟨w.heap.size + 3, 0, none⟩ k _ h2).trans h1) ho⟩
      have hLM : wrs ((pre ++ [(⟨(yn : Int), y0, y1⟩ : {z : Int // 0 ≤ z ∧ z < (ns.length : Int)})]).map fun z => gAt of z.1) = M ++ [32] := by
        rw [List.map_append, wrs_append, unhide HL, ← unhide HMD, List.append_assoc]
        show L ++ wrs [gAt of yn] = _
        rw [unhide HGY]
        obtain ⟨gn, rfl⟩ : ∃ gn : Nat, gy = gn := ⟨gy.toNat, by omega⟩
        simp [wrs, wr1, Go.Lib.itoa_nonneg]
      have hrow := (unhide HAP).2.2.1
      refine ⟨hKO.from _, hKS, ⟨_, (unhide HAP).2.1, ?_, fun b hb => ?_⟩, (unhide HKV).trans hKS⟩
      · rw [hLM, List.length_append, List.map_append]
        exact hrow
      · have h1 := (own_lt hrow hb).1
        have h2 : b ≠ w.heap.size + 4 := fun e => row_other hrow h4f (by decide) (by rw [hb, e])
        exact (unhide HSD b).2 (by omega)
  case done =>
    rintro D ys W hD hys ⟨⟨v, hbv, hov, hsv⟩, hkv⟩ hKd
    have hwl : (ys.map fun z => gAt of z.1) = nd.2.2.map (gAt of) := by rw [← hys, List.map_map]; rfl
    rw [hwl] at hov
    have hbw : Below w.heap.size w W := (unhide HB0).trans (hkv.below (unhide HB0).size (fun b hb => by have := (hSd b).1 hb; omega))
    obtain ⟨gx, hgx'⟩ : ∃ gx, gAt of x = gx := ⟨_, rfl⟩
    have hofx : of[x]? = some gx := by
      have hl : x < of.length := by omega
      have := gAt_nat (List.getElem?_eq_getElem hl)
      rw [List.getElem?_eq_getElem hl, ← this, hgx']
    obtain ⟨a, cap, e1, _, _, h3⟩ := ints_cell ((unhide HOF).below hbw)
    injection e1 with e2 e3 e4
    obtain ⟨ob, oo, rfl, hob, hox⟩ := h3 x gx hofx
    subst e2
    have cg := (Boxed.keptS (unhide HGX) hkv (fun hs => by have := (hSd _).1 hs; omega)).cell
    have cg1 := (hbw.cell (p := ⟨g, 1, none⟩) hgl).trans (unhide HG).n1
    have cb := hbv.cell
    have HRW := hide ((unhide HRES).kept hkv (by intro hs; have := (hSd _).1 hs; omega))
    have q0 := AtC2.f (unhide HRW) 0
    have q1 := AtC2.f (unhide HRW) 1
    have q2 := AtC2.n0 (unhide HRW)
    have q3 := AtC2.n1 (unhide HRW)
    have hcv : ∀ W' : World, W'.ownsRow (w.heap.size + 2) 5 1 v (wrs (nd.2.2.map (gAt of))).length ((wrs (nd.2.2.map (gAt of))).map u8v) → (convert 22 9 v).run Tryd.prog W' = .ok (.string (B (wrs (nd.2.2.map (gAt of))))) W' := fun W' h =>
      run_conv_bytes Tryd.underlying22 Tryd.underlying5 Tryd.underlying9 h
    have hc1 := hcv W hov
    have hc2 := hcv W.drew hov.drew
    have HBW := hide hbw
    have HM := hide (((Marks.nil w.heap.size W).cons (D := D) (by omega) hKd (by simp)))
    have HGX' := hide hgx'
    obtain ⟨tx, htx⟩ : ∃ tx, B (wrs (nd.2.2.map (gAt of))) = tx := ⟨_, rfl⟩
    rw [htx] at hc1 hc2
    have HTX := hide htx
    clear hbv hov hsv hkv e3 e4 h3 hofx hof hSd hSold hnb hres hrow hbx hgx hB0 hbox hgx' hbw hcv htx hys hwl hKd
    gi_wp2_with fail
    gi_region
    all_goals
      have HF : Hid (AtC2 (((W.setCell ⟨w.heap.size + 1, 0, none⟩ (.int .i64 gx)).setCell ⟨w.heap.size + 1, 1, none⟩ (.string tx)).drew) (w.heap.size + 1) (.int .i64 gx) (.string tx) 155) := hide (((unhide HRW).st0 (.int .i64 gx)).st1 (.string tx))
      have HBF : Hid (Below w.heap.size w (((W.setCell ⟨w.heap.size + 1, 0, none⟩ (.int .i64 gx)).setCell ⟨w.heap.size + 1, 1, none⟩ (.string tx)).drew)) := hide ((((unhide HBW).setCell (p := ⟨w.heap.size + 1, 0, none⟩) (Nat.le_succ _) _).setCell (p := ⟨w.heap.size + 1, 1, none⟩) (Nat.le_succ _) _).drew)
      have HMF : Hid (Marks w.heap.size (((W.setCell ⟨w.heap.size + 1, 0, none⟩ (.int .i64 gx)).setCell ⟨w.heap.size + 1, 1, none⟩ (.string tx)).drew) [D]) := hide (by
        have k : Kept (· = w.heap.size + 1) W ((W.setCell ⟨w.heap.size + 1, 0, none⟩ (.int .i64 gx)).setCell ⟨w.heap.size + 1, 1, none⟩ (.string tx)) := (Kept.set (S := (· = w.heap.size + 1)) (a := ⟨w.heap.size + 1, 0, none⟩) rfl _).trans (Kept.set (S := (· = w.heap.size + 1)) (a := ⟨w.heap.size + 1, 1, none⟩) rfl _)
        have h := (unhide HM).kept k (fun D' hD' e => by
          have h1 := ((unhide HM).at' _ hD').2
          rw [e, show W.heap[w.heap.size + 1]? = _ from unhide HRW] at h1; cases h1)
        exact ⟨h.nodup, h.at'⟩)
      gi_wp2_with fail
      refine leaves_marks w.heap.size [D] _ (unhide HMF) (fun w' hst => ?_)
      have HW : AtC2 w' (w.heap.size + 1) (.int .i64 gx) (.string tx) 155 := hst.cells _ _ (unhide HF) rfl
      have s0 := HW.n0
      have s1 := HW.n1
      refine ⟨.agg #[.int .i64 gx, .string tx], by simp [results, Tryd.f123, go_sem, s0, s1], by rw [unhide HTX, unhide HGX'], (unhide HBF).trans hst.below⟩
end Go.Proofs.YtcnnicbaeicboaaDoor
/- impl.readGroupsOf: what its loop keeps. -/
namespace Go.Proofs.YtcnnicbaeicboaaDoor
open Go.RowKit Go.Shelf Nt

theorem split_gone (of0 : List Int) : ∀ (ps : List (List Int)) (of sz gone : List Int), ∃ t : List Int, t.Sublist ps.flatten ∧ (splitRun of0 ps of sz gone).2.2 = gone ++ t
  | [], of, sz, gone => ⟨[], by simp, by simp [splitRun]⟩
  | p :: ps, of, sz, gone => by
    rw [split_cons]
    split
    · obtain ⟨t, a, b⟩ := split_gone of0 ps of sz gone
      exact ⟨t, by rw [List.flatten_cons]; exact a.trans (List.sublist_append_right _ _), b⟩
    · obtain ⟨t, a, b⟩ := split_gone of0 ps (setAll of p sz.length) (sz.set (gAt of (p.headD 0)).toNat (gAt sz (gAt of (p.headD 0)) - p.length) ++ [(p.length : Int)]) (gone ++ p)
      exact ⟨p ++ t, by rw [List.flatten_cons]; exact List.Sublist.append (List.Sublist.refl _) a, by rw [b, List.append_assoc]⟩
theorem split_len (of0 : List Int) : ∀ (ps : List (List Int)) (of sz gone : List Int), (splitRun of0 ps of sz gone).1.length = of.length
  | [], of, sz, gone => rfl
  | p :: ps, of, sz, gone => by
    rw [split_cons]
    split
    · exact split_len of0 ps of sz gone
    · rw [split_len of0 ps, setAll_len]
theorem grp_first {n : Nat} (h : 0 < n) : GrpOk n (List.replicate n 0) [(n : Int)] where
  len := by simp
  rng := fun x _ _ => by rw [zeros_at]; simp
  cnt := fun g h0 h1 => by
    have : g = 0 := by simp at h1; omega
    subst this
    have e : gAt [(n : Int)] 0 = n := rfl
    rw [e]
    simp; omega
theorem al_ok (n : Nat) : ((List.range n).map (fun (i : Nat) => (i : Int))).Nodup ∧ ∀ x : Int, x ∈ (List.range n).map (fun (i : Nat) => (i : Int)) ↔ 0 ≤ x ∧ x < n := by
  refine ⟨?_, fun x => ?_⟩
  · rw [List.nodup_iff_pairwise_ne, List.pairwise_map]
    exact List.Pairwise.imp (fun h e => h (by omega)) (List.nodup_iff_pairwise_ne.1 List.nodup_range)
  · simp only [List.mem_map, List.mem_range]
    constructor
    · rintro ⟨i, hi, rfl⟩; omega
    · rintro ⟨h0, h1⟩; exact ⟨x.toNat, by omega, by omega⟩
theorem split_gone_nd {n : Nat} {of sz : List Int} {ps : List (List Int)} (h : Parts n of ps) : (splitRun of ps of sz []).2.2.Nodup := by
  obtain ⟨t, a, b⟩ := split_gone of ps of sz []
  rw [b, List.nil_append]
  exact List.Nodup.sublist a h.nd
theorem SplitTo.conv {K L : Type} {n : Nat} {of0 sz0 A of sz gone : List Int} {look : Int → K} {look' : Int → L} (h : SplitTo n of0 sz0 A look of sz gone) (hc : ∀ x ∈ A, ∀ y ∈ A, look x = look y ↔ look' x = look' y) : SplitTo n of0 sz0 A look' of sz gone :=
  { h with
    tog := fun x hx y hy e => h.tog x hx y hy ((hc x hx y hy).2 e)
    apart := fun x y x0 x1 y0 y1 e => by
      obtain ⟨a, b⟩ := h.apart x y x0 x1 y0 y1 e
      refine ⟨a, ?_⟩
      rcases b with ⟨b1, b2, b3⟩ | b
      · exact .inl ⟨b1, b2, (hc x b1 y b2).1 b3⟩
      · exact .inr b }
/-- all who use those that are gone -/
def askM (us : List (List Int)) (gone : List Int) : List Int := gone.flatMap (rAt us)
theorem sum_sub (f : Int → Nat) : ∀ (l m : List Int), l.Nodup → (∀ x ∈ l, x ∈ m) → (l.map f).sum ≤ (m.map f).sum
  | [], _, _, _ => Nat.zero_le _
  | x :: l, m, hn, hs => by
    rw [List.nodup_cons] at hn
    have hx := hs x (by simp)
    have hp := List.perm_cons_erase hx
    have h1 := sum_sub f l (m.erase x) hn.2 (fun y hy => by
      have h2 := hs y (by simp [hy])
      have hne : y ≠ x := fun e => hn.1 (by rw [← e]; exact hy)
      exact (List.mem_erase_of_ne hne).2 h2)
    have h3 := (hp.map f).sum_nat
    simp only [List.map_cons, List.sum_cons] at h3 ⊢
    omega
theorem range_sum (us : List (List Int)) : ((List.range us.length).map fun (i : Nat) => (rAt us i).length).sum = (us.map List.length).sum := by
  congr 1
  apply List.ext_getElem (by simp)
  intro i h1 h2
  simp only [List.getElem_map, List.getElem_range]
  have hi : i < us.length := by simpa using h1
  rw [rAt_get (List.getElem?_eq_getElem hi)]
theorem ask_len {ns : List Nd} {us : List (List Int)} {gone : List Int} (h : UsersOk ns ns.length [] us) (hg : ∀ x ∈ gone, 0 ≤ x ∧ x < ns.length) (hn : gone.Nodup) : (askM us gone).length ≤ 40 * ns.length := by
  unfold askM
  rw [List.length_flatMap]
  have h1 := sum_sub (fun x => (rAt us x).length) gone ((List.range us.length).map fun (i : Nat) => (i : Int)) hn (fun x hx => by
    have := hg x hx
    exact List.mem_map.2 ⟨x.toNat, by rw [List.mem_range, h.len]; omega, by omega⟩)
  rw [List.map_map] at h1
  have h2 := range_sum us
  have h3 := h.sum
  simp only [List.length_nil, Nat.add_zero] at h3
  have h4 : (List.map ((fun x : Int => (rAt us x).length) ∘ fun (i : Nat) => (i : Int)) (List.range us.length)).sum = (us.map List.length).sum := h2
  have h5 : (List.map (fun a : Int => (rAt us a).length) gone).sum = (gone.map fun x => (rAt us x).length).sum := rfl
  omega
theorem mem_ask {ns : List Nd} {us : List (List Int)} {gone : List Int} (h : UsersOk ns ns.length [] us) (hg : ∀ x ∈ gone, 0 ≤ x ∧ x < ns.length) (x : Int) : x ∈ askM us gone ↔ (0 ≤ x ∧ x < ns.length) ∧ ∃ k ∈ (ndAt ns x.toNat).2.2, k ∈ gone := by
  unfold askM
  rw [List.mem_flatMap]
  constructor
  · rintro ⟨k, hk, hx⟩
    have := hg k hk
    rcases (h.mem k this.1 this.2 x).1 hx with ⟨a, b⟩ | ⟨_, b⟩
    · exact ⟨a, k, b, hk⟩
    · simp at b
  · rintro ⟨a, k, b, hk⟩
    have := hg k hk
    exact ⟨k, hk, (h.mem k this.1 this.2 x).2 (.inl ⟨a, b⟩)⟩
theorem once_ask {ns : List Nd} {us : List (List Int)} {gone : List Int} (h : UsersOk ns ns.length [] us) (hg : ∀ x ∈ gone, 0 ≤ x ∧ x < ns.length) : (∀ x, x ∈ onceM (askM us gone) ↔ (0 ≤ x ∧ x < ns.length) ∧ ∃ k ∈ (ndAt ns x.toNat).2.2, k ∈ gone) ∧ (onceM (askM us gone)).length ≤ ns.length := by
  have h1 : ∀ x, x ∈ onceM (askM us gone) ↔ (0 ≤ x ∧ x < ns.length) ∧ ∃ k ∈ (ndAt ns x.toNat).2.2, k ∈ gone := fun x => by rw [(onceM_ok _).2, mem_ask h hg]
  refine ⟨h1, ?_⟩
  have := nodup_len (onceM_ok (askM us gone)).1 (m := (List.range ns.length).map fun (i : Nat) => (i : Int)) (fun x hx => by
    have := ((h1 x).1 hx).1
    exact List.mem_map.2 ⟨x.toNat, by simp; omega, by omega⟩)
  simpa using this
/-- a turn as the program has it -/
def turnB (ns : List Nd) (of : List Int) (x : Int) : Int × List UInt8 := (gAt of x, wrs ((ndAt ns x.toNat).2.2.map (gAt of)))
theorem turn_iff {ns : List Nd} {of sz : List Int} (hk : KidsR' ns) (hg : GrpOk ns.length of sz) {x y : Int} (hx : 0 ≤ x ∧ x < ns.length) (hy : 0 ≤ y ∧ y < ns.length) : turnB ns of x = turnB ns of y ↔ turnM ns of x = turnM ns of y := by
  unfold turnB turnM
  simp only [Prod.mk.injEq]
  refine and_congr_right (fun _ => ⟨fun e => ?_, fun e => by rw [e]⟩)
  have hp : ∀ z : Int, 0 ≤ z ∧ z < ns.length → ∀ g ∈ (ndAt ns z.toNat).2.2.map (gAt of), 0 ≤ g := fun z hz g hgm => by
    obtain ⟨k, hkm, rfl⟩ := List.mem_map.1 hgm
    have := hk z.toNat (by omega) k hkm
    exact (hg.rng k this.1 this.2).1
  exact wrs_inj (hp x hx) (hp y hy) e

/-- between two rounds, in memory -/
structure GrI (w W : World) (g U0 U1 : Nat) (nv ov uv sv gv : Value) (ns : List Nd) (us : List (List Int)) (uvs : List Value) (of sz gone : List Int) : Prop where
  below : Below w.heap.size w W
  box : AtC3 W g nv ov sv 144
  ofr : W.ownsRow w.heap.size 3 1 ov of.length (iv of)
  szr : W.ownsRow w.heap.size 3 1 sv sz.length (iv sz)
  gor : W.ownsRow w.heap.size 3 1 gv gone.length (iv gone)
  os : ApartV ov sv
  glt : w.heap.size ≤ g ∧ g < U0
  olt : ∀ b, ov.ownBlock = some b → b < U0
  sok : ∀ b, sv.ownBlock = some b → b < U0 ∨ U1 ≤ b
  usr : RoR W U0 uv us uvs
  ult : (∀ b, uv.ownBlock = some b → U0 ≤ b ∧ b < U1) ∧ ∀ x ∈ uvs, ∀ b, x.ownBlock = some b → U0 ≤ b ∧ b < U1
  u01 : U0 ≤ U1 ∧ U1 ≤ W.heap.size
  uok : UsersOk ns ns.length [] us
section
variable {w W W' : World} {g U0 U1 : Nat} {nv ov uv sv gv : Value} {ns : List Nd} {us : List (List Int)} {uvs : List Value} {of sz gone : List Int}
theorem GrI.up (h : GrI w W g U0 U1 nv ov uv sv gv ns us uvs of sz gone) (k : Below W.heap.size W W') : GrI w W' g U0 U1 nv ov uv sv gv ns us uvs of sz gone :=
  { h with below := step_b h.below k, box := h.box.below k, ofr := own_below h.ofr k, szr := own_below h.szr k, gor := own_below h.gor k, usr := h.usr.up k, u01 := ⟨h.u01.1, Nat.le_trans h.u01.2 k.size⟩ }
/-- behind a split -/
theorem GrI.split {B pg cap m : Nat} {sv' gv' : Value} {of' sz' gone' : List Int} {ps' : List (List Int)} {vs' : List Value} (h : GrI w W g U0 U1 nv ov uv sv gv ns us uvs of sz gone)
    (hS : SpS W W' w.heap.size B g nv ov sv sv' gv' (.slice (some ⟨pg, 0, none⟩) m cap) of' sz' gone' ps' vs') (hB : U1 ≤ B) : GrI w W' g U0 U1 nv ov uv sv' gv' ns us uvs of' sz' gone' where
  below := by
    have hpg : B ≤ pg := (own_lt hS.par.row rfl).1
    have h1 := h.u01
    have h2 := h.glt
    exact h.below.trans (hS.kept.below h.below.size (fun b hb => by
      rcases hb with rfl | hb | hb | hb
      · exact h2.1
      · exact (own_lt h.ofr hb).1
      · exact (own_lt h.szr hb).1
      · simp [Value.ownBlock] at hb; omega))
  box := hS.box
  ofr := hS.ofr
  szr := hS.szr
  gor := own_base hS.gor h.below.size
  os := hS.os
  glt := h.glt
  olt := h.olt
  sok := fun b hb => by
    rcases hS.s0 with e | e
    · exact h.sok b (by rw [← e]; exact hb)
    · have := e b hb; have := h.u01; omega
  usr := by
    have hpg : B ≤ pg := (own_lt hS.par.row rfl).1
    have h2 := h.glt
    have hno : ∀ b, U0 ≤ b ∧ b < U1 → ¬ (b = g ∨ ov.ownBlock = some b ∨ sv.ownBlock = some b ∨ (Value.slice (some ⟨pg, 0, none⟩) m cap).ownBlock = some b) := fun b hb hc => by
      rcases hc with rfl | hc | hc | hc
      · omega
      · have := h.olt b hc; omega
      · have := h.sok b hc; omega
      · simp [Value.ownBlock] at hc; omega
    exact h.usr.keptAll hS.kept (fun b hb => hno b (h.ult.1 b hb)) (fun x hx b hb => hno b (h.ult.2 x hx b hb))
  ult := h.ult
  u01 := ⟨h.u01.1, Nat.le_trans h.u01.2 hS.kept.size⟩
  uok := h.uok
/-- the measure of the rounds -/
def roundsLeft (n g : Nat) (v : Value) (W : World) : Nat := 2 * (n + 1 - lenV ((W.cell? ⟨g, 2, none⟩).getD undef)) + min 1 (lenV v)
theorem roundsLeft_eq {n : Nat} (h : GrI w W g U0 U1 nv ov uv sv gv ns us uvs of sz gone) : roundsLeft n g gv W = 2 * (n + 1 - sz.length) + min 1 gone.length := by
  unfold roundsLeft
  rw [h.box.n2]
  show 2 * (n + 1 - lenV sv) + min 1 (lenV gv) = _
  rw [lenV_own h.szr, lenV_own h.gor]
end
end Go.Proofs.YtcnnicbaeicboaaDoor
/- impl.readGroupsOf. -/
namespace Go.Proofs.YtcnnicbaeicboaaDoor
open Go.RowKit Go.Shelf Nt

set_option maxRecDepth 100000 in
set_option maxHeartbeats 16000000 in
theorem groupsOf_c (nv : Value) (ns : List Nd) (w : World) (h : NodesAt w nv ns) (hs : ns.length ≤ 1048576) (hk : KidsR' ns) (h40 : ∀ nd ∈ ns, nd.2.2.length ≤ 40) (hwf : ∀ nd ∈ ns, (Lit.int .i64 nd.1).wf = true)
    (htab : Lib.TabBelow Tryd.prog w.heap.size w "internal/strconv.uint64pow10" .u64 Lib.pow10Tab) :
    Calls Tryd.prog 79 #[nv] w fun e w' => (∃ v of, e = .returned v ∧ w'.ownsRow w.heap.size 3 1 v of.length (iv of) ∧ of.length = ns.length ∧ (∀ x : Int, 0 ≤ x → x < ns.length → 0 ≤ gAt of x ∧ gAt of x < ns.length) ∧ ∀ i j : Nat, i < ns.length → j < ns.length → (gAt of i = gAt of j ↔ gAt (grpM ns) i = gAt (grpM ns) j)) ∧ Below w.heap.size w w' := by
  obtain ⟨i0, hi, hz0, hz1, hz2⟩ := info_parts Tryd.infoInt
  have HN := hide h
  obtain ⟨na, nc, rfl, hn1, hn2, -⟩ := h
  unfold maxLen at hn2
  have HK := hide hk
  have H40 := hide h40
  have HWF := hide hwf
  have HT := hide htab
  clear hk h40 hwf htab
  have hmk := fun W => make_run (P := Tryd.prog) Tryd.underlying41 hi hz0 hz1 hz2 rfl ns.length (by omega) (by omega) W
  obtain ⟨X0, hX0⟩ : ∃ X0, Obj.cells (madeCells #[.int .i64 0] ns.length) 3 = X0 := ⟨_, rfl⟩
  obtain ⟨X1, hX1⟩ : ∃ X1, Obj.cells #[.int .i64 ↑ns.length] 3 = X1 := ⟨_, rfl⟩
  obtain ⟨X2, hX2⟩ : ∃ X2, Obj.cells #[.slice na ns.length nc, .slice (some ⟨w.heap.size, 0, none⟩) ns.length ns.length, .slice (some ⟨w.heap.size + 1, 0, none⟩) 1 1] 144 = X2 := ⟨_, rfl⟩
  have HOF : Hid (((((w.alloc X0).alloc X1).alloc X2).alloc X0).ownsRow w.heap.size 3 1 (.slice (some ⟨w.heap.size, 0, none⟩) ns.length ns.length) ns.length (iv (List.replicate ns.length 0))) := hide (by
    have h := (made_own (base := w.heap.size) (e := 3) (z := .int .i64 0) (n := ns.length) (w := w) (Nat.le_refl _) (by unfold maxLen; omega))
    rw [hX0] at h
    simpa [iv] using ((h.alloc X1).alloc X2).alloc X0)
  have HSZ : Hid (((((w.alloc X0).alloc X1).alloc X2).alloc X0).ownsRow w.heap.size 3 1 (.slice (some ⟨w.heap.size + 1, 0, none⟩) 1 1) 1 (iv [(ns.length : Int)])) := hide (by
    have h := World.ownsRow_lit (base := w.heap.size) (e := 3) (size := 1) (w.alloc X0) #[.int .i64 ↑ns.length] 1 (by simp) (by unfold maxLen; omega) rfl
    rw [hX1, World.size_alloc] at h
    simpa [iv] using (h.alloc X2).alloc X0)
  have HBX : Hid (AtC3 ((((w.alloc X0).alloc X1).alloc X2).alloc X0) (w.heap.size + 2) (.slice na ns.length nc) (.slice (some ⟨w.heap.size, 0, none⟩) ns.length ns.length) (.slice (some ⟨w.heap.size + 1, 0, none⟩) 1 1) 144) := hide (by
    have h := AtC3.new ((w.alloc X0).alloc X1) (.slice na ns.length nc) (.slice (some ⟨w.heap.size, 0, none⟩) ns.length ns.length) (.slice (some ⟨w.heap.size + 1, 0, none⟩) 1 1) 144
    rw [hX2, World.size_alloc, World.size_alloc] at h
    exact h.below (step_a (Below.refl _ _) X0))
  have HAL : Hid (((((w.alloc X0).alloc X1).alloc X2).alloc X0).ownsRow w.heap.size 3 1 (.slice (some ⟨w.heap.size + 3, 0, none⟩) ns.length ns.length) ns.length (iv (List.replicate ns.length 0))) := hide (by
    have h := (made_own (base := w.heap.size) (e := 3) (z := .int .i64 0) (n := ns.length) (w := ((w.alloc X0).alloc X1).alloc X2) (by simp; omega) (by unfold maxLen; omega))
    rw [hX0] at h
    simp only [World.size_alloc] at h
    simpa [iv] using h)
  have HB0 := hide (step_a (step_a (step_a (step_a (Below.refl w.heap.size w) X0) X1) X2) X0)
  have hsz0 : ((((w.alloc X0).alloc X1).alloc X2).alloc X0).heap.size = w.heap.size + 4 := by simp
  have HX0 := hide hX0
  have HX1 := hide hX1
  have HX2 := hide hX2
  clear hX0 hX1 hX2
  go_enter Tryd.func79, Tryd.ntmps79
  go_wp2_with fail
  rw [unhide HX0, unhide HX1, unhide HX2]
  obtain ⟨W0, hW0⟩ : ∃ W0, (((w.alloc X0).alloc X1).alloc X2).alloc X0 = W0 := ⟨_, rfl⟩
  rw [hW0] at HOF HSZ HBX HAL HB0 hsz0 ⊢
  clear HX0 HX1 HX2 hW0 hmk
  obtain ⟨al, hal⟩ : ∃ al : List Int, (List.range ns.length).map (fun (i : Nat) => (i : Int)) = al := ⟨_, rfl⟩
  have hall : al.length = ns.length := by rw [← hal]; simp
  have HALL := hide hal
  have HAL2 := hide hall
  clear hal hall
  go_loopw [24] (fun u wr => ∃ k : Nat, k ≤ ns.length ∧ u = .int .i64 k ∧ Hid (wr.ownsRow w.heap.size 3 1 (.slice (some ⟨w.heap.size + 3, 0, none⟩) ns.length ns.length) ns.length (iv (upTo al k))) ∧ Hid (Kept (· = w.heap.size + 3) W0 wr))
    (fun u _ => ns.length - (intOf u).toNat)
  case atStart => exact ⟨0, by omega, rfl, hide (by rw [upTo_zero, unhide HAL2]; exact unhide HAL), hide (Kept.refl _ _)⟩
  case round =>
    clear HAL
    obtain ⟨k, hk, rfl, HA, HKP⟩ := hrel
    by_cases hlt : k < ns.length
    · have fz := (unhide HA).frozenAt k
      obtain ⟨v0, hv0⟩ := own_cell_some (unhide HA) k (by omega)
      have hst := (unhide HA).stored k (.int .i64 (k : Int))
      rw [iv_set, upTo_set (x := (k : Int)) (by rw [← unhide HALL]; simp [hlt])] at hst
      have HST := hide hst.1
      have HK2 := hide ((unhide HKP).trans (Kept.set (S := (· = w.heap.size + 3)) (a := ⟨w.heap.size + 3, k, none⟩) rfl (.int .i64 (k : Int))))
      clear hst
      go_wp2_with fail
      go_roundw
      case rel => exact ⟨k + 1, by omega, by go_num, HST, HK2⟩
      case measure => simp [intOf]; omega
    · obtain rfl : k = ns.length := by omega
      have HA2 : Hid (wr.ownsRow w.heap.size 3 1 (.slice (some ⟨w.heap.size + 3, 0, none⟩) ns.length ns.length) al.length (iv al)) := hide (by
        have h := unhide HA
        have h2 := upTo_all al
        rw [unhide HAL2] at h2 ⊢
        rwa [h2] at h)
      have HOF1 := hide (own_keptS (unhide HOF) (unhide HKP) (fun b hb e => by simp [Value.ownBlock] at hb; omega))
      have HSZ1 := hide (own_keptS (unhide HSZ) (unhide HKP) (fun b hb e => by simp [Value.ownBlock] at hb; omega))
      have HBX1 := hide ((unhide HBX).kept' (unhide HKP) (by omega))
      have HB1 := hide ((unhide HB0).trans ((unhide HKP).below (base := w.heap.size) (by omega) (fun b hb => by omega)))
      have hs1 := (unhide HKP).size
      clear HA HKP HOF HSZ HBX HB0
      go_wp2_with fail
      have h := readUsers_c (.slice na ns.length nc) ns wr ((unhide HN).below (unhide HB1)) hs (unhide HK) (unhide H40)
      refine h.mono ?_
      clear h
      rintro e w2 ⟨⟨uv, us, uvs, rfl, hU, hO⟩, hb2⟩
      have hO4 := (unhide HALL) ▸ al_ok ns.length
      obtain ⟨hnd, hmem⟩ := hO4
      have hgI : GrI w w2 (w.heap.size + 2) wr.heap.size w2.heap.size (.slice na ns.length nc) (.slice (some ⟨w.heap.size, 0, none⟩) ns.length ns.length) uv (.slice (some ⟨w.heap.size + 1, 0, none⟩) 1 1) (.slice none 0 0) ns us uvs (List.replicate ns.length 0) [(ns.length : Int)] [] :=
        { below := step_b (unhide HB1) hb2
          box := (unhide HBX1).below hb2
          ofr := by have h := own_below (unhide HOF1) hb2; simpa using h
          szr := own_below (unhide HSZ1) hb2
          gor := World.ownsRow_nil _ _ _ _
          os := fun b hb hb' => by simp [Value.ownBlock] at hb hb'; omega
          glt := ⟨by omega, by omega⟩
          olt := fun b hb => by simp [Value.ownBlock] at hb; omega
          sok := fun b hb => by simp [Value.ownBlock] at hb; omega
          usr := hU
          ult := ⟨fun b hb => own_lt hU.row hb, fun x hx b hb => by
            obtain ⟨j, hj⟩ := List.getElem?_of_mem hx
            have hjl := (List.getElem?_eq_some_iff.1 hj).1
            exact own_lt (hU.each j x _ hj (List.getElem?_eq_getElem (by rw [← hU.len]; exact hjl))) hb⟩
          u01 := ⟨hb2.size, Nat.le_refl _⟩
          uok := hO }
      have HGI := hide hgI
      have HNX : Hid (∀ i : Nat, i < ns.length → ∃ nd, ns[i]? = some nd ∧ ndAt ns i = nd ∧ nd.2.1.length ≤ maxLen) := hide (fun i hi => by
        obtain ⟨a, cap, e, h1, h2, h3⟩ := unhide HN
        obtain ⟨b, off, rfl, hb, hc⟩ := h3 (by omega)
        exact ⟨_, List.getElem?_eq_getElem hi, ndAt_get (List.getElem?_eq_getElem hi), (hc i _ (List.getElem?_eq_getElem hi)).2.2.1⟩)
      have hface := alikeFace_c (.pointer (some ⟨w.heap.size + 2, 0, none⟩)) (.slice (some ⟨w.heap.size + 3, 0, none⟩) ns.length ns.length) al (faceM ns) w2 (owns_ints (own_below (unhide HA2) hb2)) (by rw [unhide HAL2]; exact hs)
        (fun x hx => by
          have hx2 := (hmem x).1 hx
          obtain ⟨nd, hnd, hna, htl⟩ := unhide HNX x.toNat (by omega)
          unfold faceM
          rw [hna]
          refine keyFace _ _ _ (unhide HWF nd (List.mem_of_getElem? hnd)) (wf64 ((nd.2.2.length : Nat) : Int) (by omega) (by have := unhide H40 nd (List.mem_of_getElem? hnd); omega)) ?_
          simpa [B, ByteArray.size] using htl)
        (fun x hx W hW => by
          have hx2 := (hmem x).1 hx
          obtain ⟨nd, hnd, hna, _⟩ := unhide HNX x.toNat (by omega)
          have h := face_c (w.heap.size + 2) x.toNat _ _ _ ns nd W ((unhide HGI).box.below hW) ((unhide HN).below (step_b (unhide HGI).below hW)) hnd
          rw [show ((x.toNat : Nat) : Int) = x by omega] at h
          unfold faceM
          rw [hna]
          exact h)
      have HFACE := hide hface
      have HMEM := hide hmem
      have HND := hide hnd
      clear hface hmem hnd hU hO hgI HA2 HOF1 HSZ1 HBX1
      go_wp2_with fail
      have h := unhide HFACE
      refine h.mono ?_
      clear h HFACE
      rintro e w3 ⟨⟨pb, pc, pvs, rfl, hP⟩, hb3⟩
      have hPl : (partsOf (faceM ns) al).length ≤ 1048576 := by
        rw [partsOf_len]
        have := keysOf_le (faceM ns) al
        rw [unhide HAL2] at this
        omega
      have hpos : partsOf (faceM ns) al ≠ [] → 0 < ns.length := fun hne => by
        apply Nat.pos_of_ne_zero
        intro e
        apply hne
        have : al = [] := List.eq_nil_of_length_eq_zero (by rw [unhide HAL2, e])
        rw [this]; rfl
      have hprt : ∀ ps' : List (List Int), ps'.Perm (partsOf (faceM ns) al) → Parts ns.length (List.replicate ns.length 0) ps' := fun ps' hp =>
        (partsOf_ok (unhide HND) (fun x hx => (unhide HMEM x).1 hx) (fun x _ y _ _ => by rw [zeros_at, zeros_at]) hp).1
      have HG3 := hide ((unhide HGI).up hb3)
      have h := split_c w.heap.size w2.heap.size (w.heap.size + 2) pb pc ns.length (.slice na ns.length nc) (.slice (some ⟨w.heap.size, 0, none⟩) ns.length ns.length) (.slice (some ⟨w.heap.size + 1, 0, none⟩) 1 1) (List.replicate ns.length 0) [(ns.length : Int)] (partsOf (faceM ns) al) pvs w3
        (unhide HG3).box (unhide HG3).ofr (unhide HG3).szr (unhide HG3).os (fun b hb => (own_lt (unhide HGI).ofr hb).2) (fun b hb => (own_lt (unhide HGI).szr hb).2) hb3.size (unhide HGI).below.size hP (fun hne => grp_first (hpos hne)) hprt hs hPl
      have HSP := hide h
      have HPRT := hide hprt
      clear h hprt hPl hpos hP
      go_wp2_with fail
      have h := unhide HSP
      refine h.mono ?_
      clear h HSP
      rintro e w4 ⟨ps', vs', sv1, gv1, hpm, rfl, hS⟩
      have HG4 := hide ((unhide HG3).split hS (Nat.le_refl _))
      have hR0 : 0 < ns.length → RoundOk ns (List.replicate ns.length 0) (splitRun (List.replicate ns.length 0) ps' (List.replicate ns.length 0) [(ns.length : Int)] []).1 (splitRun (List.replicate ns.length 0) ps' (List.replicate ns.length 0) [(ns.length : Int)] []).2.1 (splitRun (List.replicate ns.length 0) ps' (List.replicate ns.length 0) [(ns.length : Int)] []).2.2 := fun h0 =>
        round_first (unhide HMEM) (by rw [unhide HAL2]; exact Nat.le_refl _) (split_to (grp_first h0) (unhide HND) (fun x hx => (unhide HMEM x).1 hx) (fun x _ y _ _ => by rw [zeros_at, zeros_at]) hpm)
      have hZ0 : ns.length = 0 → (splitRun (List.replicate ns.length 0) ps' (List.replicate ns.length 0) [(ns.length : Int)] []).2.2 = [] := fun e => by
        have h1 : al = [] := List.eq_nil_of_length_eq_zero (by rw [unhide HAL2, e])
        rw [h1] at hpm
        have h2 : ps' = [] := List.Perm.eq_nil hpm
        rw [h2]; rfl
      have hN0 := split_gone_nd (sz := [(ns.length : Int)]) (unhide HPRT ps' hpm)
      have hL0 := split_len (List.replicate ns.length 0) ps' (List.replicate ns.length 0) [(ns.length : Int)] []
      rw [List.length_replicate] at hL0
      obtain ⟨T3, hT3⟩ : ∃ T3, splitRun (List.replicate ns.length 0) ps' (List.replicate ns.length 0) [(ns.length : Int)] [] = T3 := ⟨_, rfl⟩
      rw [hT3] at HG4 hR0 hZ0 hN0 hL0
      obtain ⟨of1, sz1, gone1⟩ := T3
      simp only at HG4 hR0 hZ0 hN0 hL0
      obtain ⟨old0, hold⟩ : ∃ old0, List.replicate ns.length (0 : Int) = old0 := ⟨_, rfl⟩
      rw [hold] at hR0
      have HR0 := hide hR0
      have HZ0 := hide hZ0
      have HN0 := hide hN0
      clear hT3 hold hR0 hZ0 hN0 hS hpm HG3 HGI HPRT hb3
      obtain ⟨U0, hU0⟩ : ∃ U0, wr.heap.size = U0 := ⟨_, rfl⟩
      obtain ⟨U1, hU1⟩ : ∃ U1, w2.heap.size = U1 := ⟨_, rfl⟩
      rw [hU0, hU1] at HG4
      clear hU0 hU1
      go_wp2_with fail
      go_loopw [7] (fun gv wl => ∃ (of sz gone old : List Int) (sv : Value), of.length = ns.length ∧ Hid (GrI w wl (w.heap.size + 2) U0 U1 (.slice na ns.length nc) (.slice (some ⟨w.heap.size, 0, none⟩) ns.length ns.length) uv sv gv ns us uvs of sz gone) ∧ Hid (0 < ns.length → RoundOk ns old of sz gone) ∧ Hid (ns.length = 0 → gone = []) ∧ Hid gone.Nodup)
        (fun gv wl => roundsLeft ns.length (w.heap.size + 2) gv wl)
      case atStart => exact ⟨of1, sz1, gone1, old0, sv1, hL0, HG4, HR0, HZ0, HN0⟩
      case round =>
        clear HG4 HR0 HZ0 HN0 hL0
        obtain ⟨of, sz, gone, old, sv, hol, HG, HR, HZ, HND2⟩ := hrel
        obtain ⟨ga, gc, e4⟩ := own_slice (unhide HG).gor
        subst e4
        have b1 := (unhide HG).box.n1
        by_cases hgn : gone.length = 0
        · have hg0 : gone = [] := List.eq_nil_of_length_eq_zero hgn
          have hnot : ¬ ((0 : Int) < (gone.length : Int)) := by omega
          go_wp2_with fail
          go_ret
          refine ⟨⟨_, rfl, of, by rw [hol]; have h := (unhide HG).ofr; rwa [hol] at h, hol, ?_, ?_⟩, (unhide HG).below⟩
          · intro x h0 h1
            have hr := unhide HR (by omega)
            have h2 := hr.ok.rng x h0 h1
            have h3 := hr.ok.few
            omega
          · intro i j hi hj
            have hr := unhide HR (by omega)
            rw [hg0] at hr
            exact round_last (unhide HK) hr i j hi hj
        · have hyes : (0 : Int) < (gone.length : Int) := by omega
          have hn0 : 0 < ns.length := by
            apply Nat.pos_of_ne_zero
            intro e
            exact hgn (by rw [unhide HZ e]; rfl)
          have hr := unhide HR hn0
          have hgr := hr.gr
          have hus := (unhide HG).uok
          have hgl := hr.gn1
          obtain ⟨ub, uc, e5, _, _, _⟩ := own_some (unhide HG).usr.row (by rw [hus.len]; exact hn0)
          obtain ⟨gb, gc', e6, _, _, _⟩ := own_some (unhide HG).gor (by omega)
          injection e6 with e7 e8 e9
          subst e7 e9 e5
          have HGR := hide hgr
          have HRR := hide hr
          have HUS := hide hus
          clear hgr hr hus
          obtain ⟨Wl, hWl⟩ : ∃ Wl, wr = Wl := ⟨_, rfl⟩
          rw [hWl] at HG b1 ⊢
          clear hWl
          have HA0 := hide (World.ownsRow_lit (base := Wl.heap.size) (e := 3) (size := 1) Wl #[] 0 (Nat.le_refl _) (by unfold maxLen; omega) rfl)
          have HBa := hide (step_a (Below.refl Wl.heap.size Wl) (.cells #[] 3))
          go_wp2_with fail
          go_loopw [8, 44] (fun av u wi => ∃ (j A0 ac : Nat), j ≤ gone.length ∧ u = .int .i64 j ∧ av = .slice (some ⟨A0, 0, none⟩) (askM us (gone.take j)).length ac ∧ Hid (wi.ownsRow Wl.heap.size 3 1 (.slice (some ⟨A0, 0, none⟩) (askM us (gone.take j)).length ac) (askM us (gone.take j)).length (iv (askM us (gone.take j)))) ∧ Hid (Below Wl.heap.size Wl wi))
            (fun _ u _ => gone.length - (intOf u).toNat)
          case atStart => exact ⟨0, Wl.heap.size, 0, by omega, rfl, rfl, by simpa [askM, iv] using HA0, HBa⟩
          case round =>
            clear HA0 HBa
            obtain ⟨j, A0, ac, hj, rfl, rfl, HA, HB⟩ := hrel
            obtain ⟨Wi, hWi⟩ : ∃ Wi, wr = Wi := ⟨_, rfl⟩
            rw [hWi] at HA HB ⊢
            clear hWi
            have HG2 := hide ((unhide HG).up (unhide HB))
            by_cases hlt : j < gone.length
            · obtain ⟨x, hx⟩ : ∃ x, gone[j]? = some x := ⟨_, List.getElem?_eq_getElem hlt⟩
              have hxr := (unhide HGR) x (List.mem_of_getElem? hx)
              obtain ⟨xn, rfl⟩ : ∃ xn : Nat, x = xn := ⟨x.toNat, by omega⟩
              have hul := (unhide HUS).len
              obtain ⟨p, hp⟩ : ∃ p, us[xn]? = some p := ⟨_, List.getElem?_eq_getElem (by omega)⟩
              obtain ⟨xv, hxv⟩ : ∃ xv, uvs[xn]? = some xv := ⟨_, List.getElem?_eq_getElem (by rw [(unhide HG).usr.len]; omega)⟩
              have hpr := (unhide HG2).usr.each xn xv p hxv hp
              have hask : askM us (gone.take (j + 1)) = askM us (gone.take j) ++ p := by
                unfold askM
                rw [List.take_add_one, hx, Option.toList_some, List.flatMap_append]
                simp [rAt_get hp]
              have hlen := ask_len (unhide HUS) (gone := gone.take (j + 1)) (fun y hy => (unhide HGR) y (List.mem_of_mem_take hy)) (List.Nodup.sublist (List.take_sublist _ _) (unhide HND2))
              rw [hask, List.length_append] at hlen
              have c1 : Wi.cell? ⟨gb, j, none⟩ = some (.int .i64 xn) := by
                rw [(unhide HG2).gor.cellAt j (by omega)]; exact iv_at hx
              have c2 : Wi.cell? ⟨ub, xn, none⟩ = some xv := by
                rw [(unhide HG2).usr.row.cellAt xn (by omega)]; exact hxv
              have q1 : (xn : Int) < us.length := by omega
              obtain ⟨AK, hAK⟩ : ∃ AK, askM us (gone.take j) = AK := ⟨_, rfl⟩
              rw [hAK] at hask hlen HA ⊢
              have HAS := hide hask
              have HPR := hide hpr
              have hWl := (unhide HB).size
              clear hask hAK hx hxr hul hp hxv
              rcases own_shape hpr with ⟨rfl, _, hp0⟩ | ⟨qb, qc, rfl, _, _, _⟩
              · have hcapA : AK.length ≤ ac := by
                  rcases (unhide HA).2 with ⟨e, _⟩ | ⟨g', c', cur, e, _, _, h1, _⟩
                  · cases e
                  · cases e; exact h1
                have hp00 : p = [] := by simpa [iv] using hp0
                clear hp0 hpr
                go_wp2_with fail
                go_roundw
                case rel =>
                  have e : askM us (gone.take (j + 1)) = AK := by rw [unhide HAS, hp00, List.append_nil]
                  refine ⟨j + 1, A0, ac, by omega, by go_num, by rw [e], by rw [e]; exact HA, HB⟩
                case measure => simp [intOf]; omega
              · clear hpr
                go_wp2_with (at_builtin; refine wpList_append_own_at _ rfl _ _ 41 rfl Wl.heap.size 3 i0 (.int .i64 0) 1 8 Tryd.underlying41 hi hz0 hz1 hz2 rfl (by decide) _ _ _ rfl (unhide HA) ⟨qb, 0, none⟩ p.length qc (iv p) rfl (by simp [iv]) (fun t u ht => by have htl := (List.getElem?_eq_some_iff.1 ht).1; have h := (unhide HPR).cellAt t (by simpa [iv] using htl); rw [ht] at h; rw [addr_add]; exact h) (by intro u hu; simp [iv] at hu; obtain ⟨_, _, rfl⟩ := hu; rfl) (by unfold maxLen; omega) (by omega) hWl ?_; intro av' wB hown hgrow hnil hloc; obtain ⟨qa, qd, rfl⟩ := own_slice hown; have HOW := hide hown; have HBB := hide ((unhide HB).grown hgrow hWl (fun k hk => (own_lt (unhide HA) hk).1)); have HNI := hide hnil; clear hown hgrow hnil hloc)
                go_roundw
                case rel =>
                  rcases own_shape (unhide HOW) with ⟨e, _, _⟩ | ⟨g', c', e, _⟩
                  · exact absurd ((unhide HNI).1 e).1 (fun h => by cases h)
                  · refine ⟨j + 1, g', c', by omega, by go_num, ?_, ?_, HBB⟩
                    · rw [unhide HAS, List.length_append, e]
                    · rw [unhide HAS, List.length_append, ← e]
                      exact hide (by have h := unhide HOW; rw [show iv (AK ++ p) = iv AK ++ iv p by simp [iv]]; exact h)
                case measure => simp [intOf]; omega
            · obtain rfl : j = gone.length := by omega
              have htk : gone.take gone.length = gone := List.take_of_length_le (Nat.le_refl _)
              obtain ⟨AK, hAK⟩ : ∃ AK, askM us gone = AK := ⟨_, rfl⟩
              rw [htk, hAK] at HA ⊢
              have hAl := ask_len (unhide HUS) (unhide HGR) (unhide HND2)
              obtain ⟨hA1, hA2⟩ := once_ask (unhide HUS) (unhide HGR)
              have hA3 := (onceM_ok AK).1
              rw [hAK] at hAl hA1 hA2
              have HA1 := hide hA1
              have HA3 := hide hA3
              have hWl := (unhide HB).size
              have hA0 : Wl.heap.size ≤ A0 := (own_lt (unhide HA) rfl).1
              clear hA1 hA3 hAK htk HG2
              go_wp2_with fail
              have h := sort_c Wl.heap.size A0 ac AK Wi (unhide HA) (by omega)
              refine h.mono ?_
              clear h
              rintro e w5 ⟨rfl, hr5, hk5⟩
              have HB5 := hide ((unhide HB).trans (hk5.below (base := Wl.heap.size) hWl (fun b hb => by omega)))
              have HR5 : Hid (w5.ownsRow Wl.heap.size 3 1 (.slice (some ⟨A0, 0, none⟩) (AK.mergeSort fun x y => decide (x ≤ y)).length ac) (AK.mergeSort fun x y => decide (x ≤ y)).length (iv (AK.mergeSort fun x y => decide (x ≤ y)))) := hide (by rw [List.length_mergeSort]; exact hr5)
              clear hr5 hk5 HA HB
              have h := compact_c Wl.heap.size A0 ac (AK.mergeSort fun x y => decide (x ≤ y)) w5 (unhide HR5) (by rw [List.length_mergeSort]; omega)
              rw [List.length_mergeSort] at h
              have HCO := hide h
              clear h
              go_wp2_with fail
              have h := unhide HCO
              refine h.mono ?_
              clear h HCO
              rintro e w6 ⟨rfl, hr6, hk6⟩
              have HB6 := hide ((unhide HB5).trans (hk6.below (base := Wl.heap.size) (unhide HB5).size (fun b hb => by omega)))
              obtain ⟨A, hA⟩ : ∃ A, onceM AK = A := ⟨_, rfl⟩
              rw [show Lib.compact (AK.mergeSort fun x y => decide (x ≤ y)) = A from hA] at hr6 ⊢
              rw [hA] at HA1 HA3 hA2
              have HR6 := hide hr6
              have HG6 := hide ((unhide HG).up (unhide HB6))
              have hU6 : U1 ≤ w6.heap.size := (unhide HG6).u01.2
              clear hr6 hk6 HR5 HB5 hA
              have hrr := unhide HRR
              have hof2 := (unhide HG6).ofr
              have hturn := alikeTurn_c (.pointer (some ⟨w.heap.size + 2, 0, none⟩)) (.slice (some ⟨A0, 0, none⟩) A.length ac) A (turnB ns of) w6 (owns_ints (unhide HR6)) (by omega)
                (fun x hx => by
                  have hx2 := ((unhide HA1 x).1 hx).1
                  obtain ⟨nd, hnd, hna, _⟩ := unhide HNX x.toNat (by omega)
                  have hk40 := unhide H40 nd (List.mem_of_getElem? hnd)
                  have hgx := hrr.ok.rng x hx2.1 hx2.2
                  have hfw := hrr.ok.few
                  unfold turnB
                  rw [hna]
                  refine keyTurn _ _ (wf64 _ (by omega) (by omega)) ?_
                  have hl := wrs_len (nd.2.2.map (gAt of)) (fun g hg => by
                    obtain ⟨k, hkm, rfl⟩ := List.mem_map.1 hg
                    have h1 := unhide HK x.toNat (by omega)
                    rw [hna] at h1
                    have h2 := h1 k hkm
                    have h3 := hrr.ok.rng k h2.1 h2.2
                    omega)
                  rw [List.length_map] at hl
                  have : (B (wrs (nd.2.2.map (gAt of)))).size = (wrs (nd.2.2.map (gAt of))).length := by simp [B, ByteArray.size]
                  rw [this]
                  unfold maxLen
                  omega)
                (fun x hx W hW => by
                  have hx2 := ((unhide HA1 x).1 hx).1
                  obtain ⟨nd, hnd, hna, _⟩ := unhide HNX x.toNat (by omega)
                  have hbw := step_b (unhide HG6).below hW
                  have hki := unhide HK x.toNat (by omega)
                  rw [hna] at hki
                  have h := turn_c (w.heap.size + 2) x.toNat _ _ _ ns of nd W ((unhide HG6).box.below hW) ((unhide HN).below hbw) (by have h := owns_ints (own_below hof2 hW); exact h) hnd hol hki (unhide H40 nd (List.mem_of_getElem? hnd))
                    (fun k k0 k1 => by have h3 := hrr.ok.rng k k0 k1; have h4 := hrr.ok.few; omega) (fun w' hb => ((unhide HT).on hbw) w' (hb.mono hbw.size))
                  rw [show ((x.toNat : Nat) : Int) = x by omega] at h
                  unfold turnB
                  rw [hna]
                  exact h)
              have HTURN := hide hturn
              clear hturn hof2 hrr
              go_wp2_with fail
              have h := unhide HTURN
              refine h.mono ?_
              clear h HTURN
              rintro e w7 ⟨⟨pb2, pc2, pvs2, rfl, hP⟩, hb7⟩
              have hPl : (partsOf (turnB ns of) A).length ≤ 1048576 := by
                rw [partsOf_len]
                have := keysOf_le (turnB ns of) A
                omega
              have hAr : ∀ x ∈ A, 0 ≤ x ∧ x < ns.length := fun x hx => ((unhide HA1 x).1 hx).1
              have hll : ∀ x ∈ A, ∀ y ∈ A, turnB ns of x = turnB ns of y → gAt of x = gAt of y := fun x _ y _ e => congrArg Prod.fst e
              have hprt : ∀ ps' : List (List Int), ps'.Perm (partsOf (turnB ns of) A) → Parts ns.length of ps' := fun ps' hp => (partsOf_ok (unhide HA3) hAr hll hp).1
              have HG7 := hide ((unhide HG6).up hb7)
              have h := split_c w.heap.size w6.heap.size (w.heap.size + 2) pb2 pc2 ns.length (.slice na ns.length nc) (.slice (some ⟨w.heap.size, 0, none⟩) ns.length ns.length) sv of sz (partsOf (turnB ns of) A) pvs2 w7
                (unhide HG7).box (unhide HG7).ofr (unhide HG7).szr (unhide HG7).os (fun b hb => (own_lt (unhide HG6).ofr hb).2) (fun b hb => (own_lt (unhide HG6).szr hb).2) hb7.size (unhide HG6).below.size hP (fun _ => (unhide HRR).ok) hprt hs hPl
              have HSP := hide h
              have HPRT := hide hprt
              have HAR := hide hAr
              have HLL := hide hll
              clear h hprt hPl hP hAr hll
              go_wp2_with fail
              have h := unhide HSP
              refine h.mono ?_
              clear h HSP
              rintro e w8 ⟨ps', vs', sv', gv', hpm, rfl, hS⟩
              have HG8 := hide ((unhide HG7).split hS hU6)
              have hto := split_to (unhide HRR).ok (unhide HA3) (unhide HAR) (unhide HLL) hpm
              have hto2 := hto.conv (look' := turnM ns of) (fun x hx y hy => turn_iff (unhide HK) (unhide HRR).ok (unhide HAR x hx) (unhide HAR y hy))
              have hrn := round_next (unhide HK) (unhide HRR) (unhide HA1) hA2 hto2
              have hgl2 := hto.gl
              have hfw2 := hrn.ok.few
              have hL2 := split_len of ps' of sz []
              have hN2 := split_gone_nd (sz := sz) (unhide HPRT ps' hpm)
              obtain ⟨T3, hT3⟩ : ∃ T3, splitRun of ps' of sz [] = T3 := ⟨_, rfl⟩
              rw [hT3] at HG8 hrn hgl2 hfw2 hL2 hN2
              obtain ⟨of2, sz2, gone2⟩ := T3
              simp only at HG8 hrn hgl2 hfw2 hL2 hN2
              have HRN := hide hrn
              have HN2 := hide hN2
              have HGL2 := hide hgl2
              have hM1 := roundsLeft_eq (n := ns.length) (unhide HG)
              have hM2 := roundsLeft_eq (n := ns.length) (unhide HG8)
              have HM1 := hide hM1
              have HM2 := hide hM2
              clear hto hto2 hrn hgl2 hN2 hM1 hM2 hT3 hS hpm HG7 HPRT
              go_wp2_with fail
              go_roundw
              case rel => exact ⟨of2, sz2, gone2, of, sv', by omega, HG8, hide (fun _ => unhide HRN), hide (fun e => by omega), HN2⟩
              case measure =>
                rw [unhide HM1, unhide HM2]
                have hg := unhide HGL2
                by_cases h0 : gone2 = []
                · rw [h0]; simp; omega
                · have := hg.2 h0
                  have : 0 < gone2.length := List.length_pos_iff.2 h0
                  omega
end Go.Proofs.YtcnnicbaeicboaaDoor
/- A region that draws its order, by what holds whichever operations have been carried out: the twin of Ui's without a fence; and the steps of impl.ReadMin's region. -/
namespace Go.Proofs.YtcnnicbaeicboaaDoor
open Go.RowKit Go.Shelf Nt

theorem wpAny_inv {P : Program} {ops : Array Oper} {Q : Exit → Act → World → Prop} {md : Region.Mode} (Inv : Array Bool → Act → World → Prop)
    (hsz : ∀ l a w, Inv l a w → l.size = ops.size) (hend : ∀ l a w, Inv l a w → (∀ i, i < ops.size → l[i]? = some true) → Q .normal a w)
    (hstep : ∀ l a w i, Inv l a w → i ∈ Region.ready md ops l → wpOp P ops Q i (fun a' w' => Inv (l.setIfInBounds i true) a' w') a w)
    (hgo : ∀ l a w, Inv l a w → Region.ready md ops l = [] → ∀ i, i < ops.size → l[i]? = some true) :
    ∀ fuel l a w, Inv l a w → l.toList.count false ≤ fuel → wpAny P md ops Q fuel l a w := by
  intro fuel
  induction fuel with
  | zero =>
    intro l a w hI hc
    have hall : ∀ i, i < ops.size → l[i]? = some true := fun i hi => by
      have h1 : l[i]? = some (l[i]'(by rw [hsz l a w hI]; exact hi)) := Array.getElem?_eq_getElem _
      cases hv : l[i]'(by rw [hsz l a w hI]; exact hi) with
      | true => rw [h1, hv]
      | false =>
        have : false ∈ l.toList := by rw [← hv]; simp
        have := List.count_pos_iff.2 this
        omega
    refine ⟨?_, hend l a w hI hall⟩
    unfold Region.ready
    rw [List.filter_eq_nil_iff]
    intro i hi
    have := hall i (by simpa using hi)
    simp [Array.getD_eq_getD_getElem?, this]
  | succ fuel ih =>
    intro l a w hI hc
    refine ⟨fun hr => hend l a w hI (hgo l a w hI hr), fun i hi => ?_⟩
    have hi2 := hi
    unfold Region.ready at hi2
    rw [List.mem_filter] at hi2
    have hlt : i < ops.size := by simpa using hi2.1
    have hlf : l[i]? = some false := by
      have h1 : l[i]? = some (l[i]'(by rw [hsz l a w hI]; exact hlt)) := Array.getElem?_eq_getElem _
      have h2 := hi2.2
      simp [Array.getD_eq_getD_getElem?, h1] at h2
      rw [h1, h2.1]
    refine wpOp_mono (fun a' w' h => ih _ a' w' h ?_) (hstep l a w i hI hi)
    have h3 := count_false (l := l.toList) (i := i) (by simpa using hlf)
    simp only [Array.toList_setIfInBounds]
    omega

theorem LL_ready {md : Region.Mode} {ops : Array Oper} {l : Array Bool} (hr : Region.ready md ops l = []) (i : Nat) (hi : i < ops.size) (hs : l.size = ops.size) (h : ((ops[i]?).map (·.after.all fun e => !Region.binds md e || l.getD e.on false)).getD false = true) : l[i]? = some true := by
  apply Classical.byContradiction
  intro hne
  have hf : l[i]? = some false := by
    have e : l[i]? = some (l[i]'(by omega)) := Array.getElem?_eq_getElem _
    cases hb : l[i]'(by omega) with
    | true => rw [hb] at e; exact absurd e hne
    | false => rw [hb] at e; exact e
  apply List.not_mem_nil (a := i)
  rw [← hr]
  unfold Region.ready
  rw [List.mem_filter]
  refine ⟨by simpa using hi, ?_⟩
  rw [h]
  simp [Array.getD_eq_getD_getElem?, hf]

/-! the region 'least.Nodes = append(least.Nodes, ReadNode{..})' -/
/-- what is carried out before the operation -/
def dp : Nat → List Nat
  | 1 => [0] | 3 => [2] | 5 => [4] | 6 => [5] | 9 => [8] | 10 => [6, 7, 9] | 11 => [3, 6, 10] | 12 => [11] | 13 => [1, 10, 12] | 15 => [13, 14] | _ => []
structure MPar where
  w0 : World
  P6 : World → Prop
  P10 : World → Value → Prop
  bd : Value → Value
  al : World → Value → World
  sl : World → Value
  P13 : World → Value → Prop
  put : World → Value → World
def MSt (p : MPar) (l : Array Bool) (x : Nat → Value) (w' : World) : Prop :=
  (¬ LL l 6 ∧ w' = p.w0) ∨ (LL l 6 ∧ ¬ LL l 10 ∧ p.P6 w') ∨ (LL l 10 ∧ ¬ LL l 12 ∧ p.P10 w' (x 10)) ∨ (LL l 12 ∧ ¬ LL l 13 ∧ ∃ wm, p.P10 wm (x 10) ∧ w' = p.al wm (x 10) ∧ x 12 = p.sl wm) ∨ (LL l 13 ∧ ¬ LL l 15 ∧ p.P13 w' (x 13)) ∨ (LL l 15 ∧ ∃ w9, p.P13 w9 (x 13) ∧ w' = p.put w9 (x 13))
structure MStep (p : MPar) (v : Nat → Value) (l : Array Bool) (x : Nat → Value) (w' : World) : Prop where
  sz : l.size = 16
  val : ∀ i, (i < 10 ∨ i = 14) → LL l i → x i = v i
  cl : ∀ i, LL l i → ∀ j ∈ dp i, LL l j
  m11 : LL l 11 → x 11 = p.bd (x 10)
  st : MSt p l x w'
variable {p : MPar} {v x : Nat → Value} {l : Array Bool} {w' w'' : World} {i : Nat}
theorem MStep.start (n : l = Array.replicate 16 false) (h : w' = p.w0) : MStep p v l x w' := by
  subst n
  have hn : ∀ j, ¬ LL (Array.replicate 16 false) j := fun j h => by unfold LL at h; simp [Array.getElem?_replicate] at h
  exact ⟨by simp, fun j _ h => absurd h (hn j), fun j h => absurd h (hn j), fun h => absurd h (hn _), .inl ⟨hn _, h⟩⟩
theorem MStep.c6 (h : MStep p v l x w') : (LL l 10 → LL l 6) ∧ (LL l 11 → LL l 10) ∧ (LL l 12 → LL l 11) ∧ (LL l 13 → LL l 12) ∧ (LL l 15 → LL l 13) :=
  ⟨fun e => h.cl 10 e 6 (by simp [dp]), fun e => h.cl 11 e 10 (by simp [dp]), fun e => h.cl 12 e 11 (by simp [dp]), fun e => h.cl 13 e 12 (by simp [dp]), fun e => h.cl 15 e 13 (by simp [dp])⟩
theorem MStep.next (h : MStep p v l x w') (hi : i < 16) (hd : ∀ j ∈ dp i, LL l j) (hl : ¬ LL l i) (u : Value) (hv : (i < 10 ∨ i = 14) → u = v i) (h11 : i = 11 → u = p.bd (x 10))
    (hst : MSt p (l.setIfInBounds i true) (fun j => if j = i then u else x j) w'') : MStep p v (l.setIfInBounds i true) (fun j => if j = i then u else x j) w'' := by
  have hs := LL_set (l := l) (i := i) (by rw [h.sz]; exact hi)
  refine ⟨by simp [h.sz], fun j hj hj2 => ?_, fun j hj k hk => ?_, fun hj => ?_, hst⟩
  · by_cases e : j = i
    · subst e; simp [hv hj]
    · simp only [if_neg e]
      exact h.val j hj (((hs j).1 hj2).resolve_left e)
  · rcases (hs j).1 hj with rfl | e
    · exact (hs k).2 (.inr (hd k hk))
    · exact (hs k).2 (.inr (h.cl j e k hk))
  · by_cases e : i = 11
    · subst e; simp [h11 rfl]
    · have e11 := ((hs 11).1 hj).resolve_left (fun e' => e e'.symm)
      have e10 : i ≠ 10 := fun e' => hl (by rw [e']; exact h.c6.2.1 e11)
      simp only [if_neg (fun e' : 11 = i => e e'.symm), if_neg (fun e' : 10 = i => e10 e'.symm)]
      exact h.m11 e11
theorem MStep.still (h : MStep p v l x w') (hi : i < 16) (hd : ∀ j ∈ dp i, LL l j) (hl : ¬ LL l i) (hn : i ≠ 6 ∧ i ≠ 10 ∧ i ≠ 12 ∧ i ≠ 13 ∧ i ≠ 15) (u : Value) (hv : (i < 10 ∨ i = 14) → u = v i) (h11 : i = 11 → u = p.bd (x 10)) :
    MStep p v (l.setIfInBounds i true) (fun j => if j = i then u else x j) w' := by
  have hs := LL_set (l := l) (i := i) (by rw [h.sz]; exact hi)
  obtain ⟨n6, n10, n12, n13, n15⟩ := hn
  have s : ∀ k, k ≠ i → (LL (l.setIfInBounds i true) k ↔ LL l k) := fun k hk => by rw [hs]; simp [hk]
  refine h.next hi hd hl u hv h11 ?_
  have q := h.st
  unfold MSt at q ⊢
  rw [s 6 (Ne.symm n6), s 10 (Ne.symm n10), s 12 (Ne.symm n12), s 13 (Ne.symm n13), s 15 (Ne.symm n15)]
  simp only [if_neg (Ne.symm n10), if_neg (Ne.symm n12), if_neg (Ne.symm n13)]
  exact q
theorem MStep.at6 (h : MStep p v l x w') (hl : ¬ LL l 6) : w' = p.w0 := by
  obtain ⟨c1, c2, c3, c4, c5⟩ := h.c6
  rcases h.st with q | q | q | q | q | q
  · exact q.2
  · exact absurd q.1 hl
  · exact absurd (c1 q.1) hl
  · exact absurd (c1 (c2 (c3 q.1))) hl
  · exact absurd (c1 (c2 (c3 (c4 q.1)))) hl
  · exact absurd (c1 (c2 (c3 (c4 (c5 q.1))))) hl
theorem MStep.at10 (h : MStep p v l x w') (h6 : LL l 6) (hl : ¬ LL l 10) : p.P6 w' := by
  obtain ⟨c1, c2, c3, c4, c5⟩ := h.c6
  rcases h.st with q | q | q | q | q | q
  · exact absurd h6 q.1
  · exact q.2.2
  · exact absurd q.1 hl
  · exact absurd (c2 (c3 q.1)) hl
  · exact absurd (c2 (c3 (c4 q.1))) hl
  · exact absurd (c2 (c3 (c4 (c5 q.1)))) hl
theorem MStep.at12 (h : MStep p v l x w') (h10 : LL l 10) (hl : ¬ LL l 12) : p.P10 w' (x 10) := by
  obtain ⟨c1, c2, c3, c4, c5⟩ := h.c6
  rcases h.st with q | q | q | q | q | q
  · exact absurd (c1 h10) q.1
  · exact absurd h10 q.2.1
  · exact q.2.2
  · exact absurd q.1 hl
  · exact absurd (c4 q.1) hl
  · exact absurd (c4 (c5 q.1)) hl
theorem MStep.at13 (h : MStep p v l x w') (h12 : LL l 12) (hl : ¬ LL l 13) : ∃ wm, p.P10 wm (x 10) ∧ w' = p.al wm (x 10) ∧ x 12 = p.sl wm := by
  obtain ⟨c1, c2, c3, c4, c5⟩ := h.c6
  rcases h.st with q | q | q | q | q | q
  · exact absurd (c1 (c2 (c3 h12))) q.1
  · exact absurd (c2 (c3 h12)) q.2.1
  · exact absurd h12 q.2.1
  · exact q.2.2
  · exact absurd q.1 hl
  · exact absurd (c5 q.1) hl
theorem MStep.at15 (h : MStep p v l x w') (h13 : LL l 13) (hl : ¬ LL l 15) : p.P13 w' (x 13) := by
  obtain ⟨c1, c2, c3, c4, c5⟩ := h.c6
  rcases h.st with q | q | q | q | q | q
  · exact absurd (c1 (c2 (c3 (c4 h13)))) q.1
  · exact absurd (c2 (c3 (c4 h13))) q.2.1
  · exact absurd (c4 h13) q.2.1
  · exact absurd h13 q.2.1
  · exact q.2.2
  · exact absurd q.1 hl
theorem MStep.atEnd (h : MStep p v l x w') (h15 : LL l 15) : ∃ w9, p.P13 w9 (x 13) ∧ w' = p.put w9 (x 13) := by
  obtain ⟨c1, c2, c3, c4, c5⟩ := h.c6
  rcases h.st with q | q | q | q | q | q
  · exact absurd (c1 (c2 (c3 (c4 (c5 h15))))) q.1
  · exact absurd (c2 (c3 (c4 (c5 h15)))) q.2.1
  · exact absurd (c4 (c5 h15)) q.2.1
  · exact absurd (c5 h15) q.2.1
  · exact absurd h15 q.2.1
  · exact q.2
/-- what every load before the append reads -/
theorem MStep.low (h : MStep p v l x w') (hl : ¬ LL l 13) (R : World → Prop) (h0 : R p.w0) (h6 : ∀ W, p.P6 W → R W) (h10 : ∀ W u, p.P10 W u → R W) (ha : ∀ W u, p.P10 W u → R (p.al W u)) : R w' := by
  obtain ⟨c1, c2, c3, c4, c5⟩ := h.c6
  rcases h.st with q | q | q | ⟨_, _, wm, q, rfl, _⟩ | q | q
  · rw [q.2]; exact h0
  · exact h6 _ q.2.2
  · exact h10 _ _ q.2.2
  · exact ha _ _ q
  · exact absurd q.1 hl
  · exact absurd (c5 q.1) hl
theorem MStep.do6 (h : MStep p v l x w') (hl : ¬ LL l 6) (hd : ∀ j ∈ dp 6, LL l j) (u : Value) (hv : u = v 6) (hP : p.P6 w'') : MStep p v (l.setIfInBounds 6 true) (fun j => if j = 6 then u else x j) w'' := by
  have hs := LL_set (l := l) (i := 6) (by rw [h.sz]; omega)
  refine h.next (by omega) hd hl u (fun _ => hv) (fun e => by omega) (.inr (.inl ⟨(hs 6).2 (.inl rfl), fun e => ?_, hP⟩))
  exact hl (h.c6.1 (((hs 10).1 e).resolve_left (by omega)))
theorem MStep.do10 (h : MStep p v l x w') (hl : ¬ LL l 10) (hd : ∀ j ∈ dp 10, LL l j) (u : Value) (hP : p.P10 w'' u) : MStep p v (l.setIfInBounds 10 true) (fun j => if j = 10 then u else x j) w'' := by
  have hs := LL_set (l := l) (i := 10) (by rw [h.sz]; omega)
  refine h.next (by omega) hd hl u (fun e => by omega) (fun e => by omega) (.inr (.inr (.inl ⟨(hs 10).2 (.inl rfl), fun e => ?_, by simpa using hP⟩)))
  exact hl (h.c6.2.1 (h.c6.2.2.1 (((hs 12).1 e).resolve_left (by omega))))
theorem MStep.do12 (h : MStep p v l x w') (hl : ¬ LL l 12) (hd : ∀ j ∈ dp 12, LL l j) (hP : p.P10 w' (x 10)) : MStep p v (l.setIfInBounds 12 true) (fun j => if j = 12 then p.sl w' else x j) (p.al w' (x 10)) := by
  have hs := LL_set (l := l) (i := 12) (by rw [h.sz]; omega)
  refine h.next (by omega) hd hl _ (fun e => by omega) (fun e => by omega) (.inr (.inr (.inr (.inl ⟨(hs 12).2 (.inl rfl), fun e => ?_, w', by simpa using hP, by simp, by simp⟩))))
  exact hl (h.c6.2.2.2.1 (((hs 13).1 e).resolve_left (by omega)))
theorem MStep.do13 (h : MStep p v l x w') (hl : ¬ LL l 13) (hd : ∀ j ∈ dp 13, LL l j) (u : Value) (hP : p.P13 w'' u) : MStep p v (l.setIfInBounds 13 true) (fun j => if j = 13 then u else x j) w'' := by
  have hs := LL_set (l := l) (i := 13) (by rw [h.sz]; omega)
  refine h.next (by omega) hd hl u (fun e => by omega) (fun e => by omega) (.inr (.inr (.inr (.inr (.inl ⟨(hs 13).2 (.inl rfl), fun e => ?_, by simpa using hP⟩)))))
  exact hl (h.c6.2.2.2.2 (((hs 15).1 e).resolve_left (by omega)))
theorem MStep.do15 (h : MStep p v l x w') (hl : ¬ LL l 15) (hd : ∀ j ∈ dp 15, LL l j) (hP : p.P13 w' (x 13)) (u : Value) : MStep p v (l.setIfInBounds 15 true) (fun j => if j = 15 then u else x j) (p.put w' (x 13)) := by
  have hs := LL_set (l := l) (i := 15) (by rw [h.sz]; omega)
  exact h.next (by omega) hd hl u (fun e => by omega) (fun e => by omega) (.inr (.inr (.inr (.inr (.inr ⟨(hs 15).2 (.inl rfl), w', by simpa using hP, by simp⟩)))))
end Go.Proofs.YtcnnicbaeicboaaDoor
/- impl.readOrder. -/
namespace Go.Proofs.YtcnnicbaeicboaaDoor
open Go.RowKit Go.Shelf Nt
attribute [local go_sem] Oper.semAt_some

set_option maxRecDepth 100000 in
set_option maxHeartbeats 16000000 in
theorem readOrder_c (nv rv gv : Value) (d : Dt) (of : List Int) (w : World) (h : DataAt w (.agg #[nv, rv]) d) (hg : IntsAt w gv of) (hs : d.1.length ≤ 1048576 ∧ d.2.length ≤ 1048576 ∧ NsSmall d.1) (hok : minOk d = true) (hof : of.length = d.1.length)
    (hrg : ∀ x : Int, 0 ≤ x → x < d.1.length → 0 ≤ gAt of x ∧ gAt of x < d.1.length)
    (hpart : ∀ i j : Nat, i < d.1.length → j < d.1.length → (gAt of i = gAt of j ↔ gAt (grpM d.1) i = gAt (grpM d.1) j)) :
    Calls Tryd.prog 80 #[.agg #[nv, rv], gv] w fun e w' => (∃ ov po, e = .returned ov ∧ w'.ownsRow w.heap.size 3 1 ov po.length (iv po) ∧ DfsOk d.1 (grpM d.1) (ordM d.1 (grpM d.1) d.2) [] po [] ∧ ∀ r ∈ d.2, gAt (grpM d.1) r ∈ po.map (gAt (grpM d.1))) ∧ Below w.heap.size w w' := by
  obtain ⟨i0, hi, hz0, hz1, hz2⟩ := info_parts Tryd.infoInt
  obtain ⟨j0, hj, hy0, hy1, hy2⟩ := info_parts Tryd.infoBool
  obtain ⟨ns, rs⟩ := d
  obtain ⟨nv', rv', e, hn0, hr0⟩ := h
  simp only [Value.agg.injEq, Array.mk.injEq, List.cons.injEq, and_true] at e
  obtain ⟨rfl, rfl⟩ := e
  simp only at hs hn0 hr0 hof hrg hpart
  have HN := hide hn0
  have HR := hide hr0
  have HG := hide hg
  obtain ⟨na, nc, rfl, hn1, hn2, -⟩ := hn0
  obtain ⟨ra, rc, rfl, hr1, hr2, -⟩ := hr0
  obtain ⟨ga, gc, rfl, hg1, hg2, -⟩ := hg
  rw [hof] at HG hg1 ⊢
  obtain ⟨s1, s2, s3⟩ := hs
  have HSM := hide s3
  have HOK := hide hok
  have HRG := hide hrg
  have HPT := hide hpart
  have HOF := hide hof
  clear hof
  have HRS : Hid (∀ r ∈ rs, 0 ≤ r ∧ r < ns.length) := hide (fun r hr => by
    have h := hok
    unfold minOk at h
    simp only [Bool.and_eq_true] at h
    exact inR_iff.1 (List.all_eq_true.1 h.2 r hr))
  clear s3 hok hrg hpart
  unfold maxLen at hn2 hr2 hg2
  have hmk := fun W => make_run (P := Tryd.prog) Tryd.underlying157 hj hy0 hy1 hy2 rfl ns.length (by omega) (by omega) W
  refine (callsIn_wide (n := 3)).1 ?_
  refine callsIn_of_wp_marks Tryd.func80 rfl trivial ?_ rfl
  simp only [Tryd.ntmps80, List.size_toArray, List.length_cons, List.length_nil, Nat.reduceAdd, Nat.reduceSub, Array.replicate_succ, Array.replicate_zero, List.push_toArray, List.append_toArray, List.nil_append, List.cons_append]
  have HB := hide (step_a (step_a (step_a (step_a (Below.refl w.heap.size w) (.cells #[.slice na ns.length nc, .slice ra rs.length rc] 47)) (.cells #[] 3)) (.cells (madeCells #[.bool false] ns.length) 4)) (.cells #[.slice none 0 0] 159))
  have HD := hide ((((AtC2.new w (.slice na ns.length nc) (.slice ra rs.length rc) 47).alloc (.cells #[] 3)).alloc (.cells (madeCells #[.bool false] ns.length) 4)).alloc (.cells #[.slice none 0 0] 159))
  have HO := hide (((World.ownsRow_lit (base := w.heap.size) (e := 3) (size := 1) (w.alloc (.cells #[.slice na ns.length nc, .slice ra rs.length rc] 47)) #[] 0 (by simp) (by unfold maxLen; omega) rfl).alloc (.cells (madeCells #[.bool false] ns.length) 4)).alloc (.cells #[.slice none 0 0] 159))
  have HC := hide ((made_own (base := w.heap.size) (e := 4) (z := .bool false) (n := ns.length) (w := (w.alloc (.cells #[.slice na ns.length nc, .slice ra rs.length rc] 47)).alloc (.cells #[] 3)) (by simp; omega) (by unfold maxLen; omega)).alloc (.cells #[.slice none 0 0] 159))
  have HS := hide (Boxed.new (((w.alloc (.cells #[.slice na ns.length nc, .slice ra rs.length rc] 47)).alloc (.cells #[] 3)).alloc (.cells (madeCells #[.bool false] ns.length) 4)) 159 (.slice none 0 0))
  have HDF := hide (DfsOk.start (ns := ns) (gs := grpM ns) rs)
  simp only [World.size_alloc] at HO HC HS
  gi_wp2_with fail
  refine wpIn_loop (OuterI w na ra ga nc rc gc ns rs of) (fun a' _ => rs.length - (intOf (a'.tmps.getD 22 undef)).toNat) ?_ ?_
  · unfold OuterI
    refine ⟨[], 0, [], _, .slice none 0 0, _, _, _, _, _, _, _, _, _, _, _, _, _, _, _, _, _, _, _, _, _, _, _, _, _, _, _, _, _, _, _, _, _, _, _, _, _, _, _, _, _, _, _, _, _, _, _, _, _, _, _, _, _, rfl, by omega, hide ⟨unhide HB, unhide HD, unhide HO, ⟨List.replicate ns.length false, by simp, by simpa [bv] using unhide HC, fun g h0 h1 => by simp [List.getElem?_replicate]⟩, Marks.nil _ _⟩, hide ⟨unhide HS, World.ownsRow_nil _ _ _ _⟩, hide (fun k h1 h2 => by simp [Value.ownBlock] at h2), HDF, hide (fun r hr => by simp at hr)⟩
  · clear HB HD HO HC HS HDF hmk
    rintro _ wr ⟨Ds, i, po, ov, sv, u3, u8, u9, u10, u11, u12, u13, u14, u15, u16, u17, u18, u19, u23, u24, u25, u26, u27, u28, u29, u30, u31, u32, u33, u34, u35, u36, u37, u38, u39, u40, u41, u42, u43, u44, u45, u46, u47, u48, u49, u50, u51, u52, u53, u54, u55, u56, u57, u58, u59, u60, u61, u62, rfl, hi', HO, HS, HA, HF, HR2⟩
    have d0 := (unhide HO).box.n0
    have d1 := (unhide HO).box.n1
    by_cases hlt : i < rs.length
    · obtain ⟨x, hx⟩ : ∃ x, rs[i]? = some x := ⟨_, List.getElem?_eq_getElem hlt⟩
      obtain ⟨a, cap, e1, _, _, h3⟩ := ints_cell ((unhide HR).below (unhide HO).below)
      injection e1 with e2 e3 e4
      obtain ⟨b, off, rfl, hb, hcx⟩ := h3 i x hx
      subst e2
      clear e4 h3
      gi_wp2_with fail
      have h := push_c (w.heap.size + 3) w.heap.size sv [] x wr (unhide HS).1 (unhide HS).2 (unhide HO).below.size (by simp)
      refine ⟨trivial, (callsIn_wide.2 h).mono ?_⟩
      clear h
      rintro e w1 ⟨⟨uu, rfl⟩, sv1, hb1, ho1, hl1, hk1⟩
      have HO1 := hide ((unhide HO).stack (unhide HS) (unhide HA) hk1 (fun b hb => hb.elim .inl (fun h => .inr (.inl h))))
      have HS1 : Hid (Stk w1 w.heap.size sv1 [x]) := hide ⟨hb1, ho1⟩
      have HA1 := hide (ApartV.lies (unhide HA) (unhide HO).row hl1)
      have hdr : rs.drop i = x :: rs.drop (i + 1) := by
        rw [List.drop_eq_getElem_cons hlt]
        have := List.getElem?_eq_getElem hlt
        rw [hx] at this
        rw [Option.some.inj this]
      have HF1 : Hid (DfsOk ns (grpM ns) (ordM ns (grpM ns) rs) (rs.drop (i + 1)) po [x]) := hide (by
        have h := unhide HF
        rw [hdr] at h
        exact h.push (unhide HRS x (List.mem_of_getElem? hx)))
      have HR1 : Hid (∀ r ∈ rs.take (i + 1), gAt (grpM ns) r ∈ po.map (gAt (grpM ns)) ∨ r ∈ [x]) := hide (by
        intro r hr
        rw [List.take_add_one, hx] at hr
        rcases List.mem_append.1 hr with h | h
        · exact .inl (unhide HR2 r h)
        · exact .inr (by simpa using h))
      clear hb1 ho1 hl1 hk1 HO HS HA HF HR2 hdr hcx d0 d1
      gi_wp2_with fail
      refine wpIn_loop (InnerI w na (some ⟨b, off, none⟩) ga nc rc gc ns rs of i) (fun a' w' => stepsLeft ns.length w.heap.size a' w') ?_ ?_
      · unfold InnerI
        exact ⟨Ds, po, [x], ov, sv1, _, _, _, _, _, _, _, _, _, _, _, _, _, _, _, _, _, _, _, _, _, _, _, _, _, _, _, _, _, _, _, _, _, _, _, _, _, _, _, _, _, _, _, _, _, _, _, _, _, _, _, _, _, rfl, HO1, HS1, HA1, HF1, HR1, by simp⟩
      · clear HO1 HS1 HA1 HF1 HR1
        rintro _ wk ⟨Ds, po, st, ov, sv, u3, u8, u9, u10, u11, u12, u13, u14, u15, u16, u17, u18, u19, u23, u24, u25, u26, u27, u28, u29, u30, u31, u32, u33, u34, u35, u36, u37, u38, u39, u40, u41, u42, u43, u44, u45, u46, u47, u48, u49, u50, u51, u52, u53, u54, u55, u56, u57, u58, u59, u60, u61, u62, rfl, HO, HS, HA, HF, HR1, hsl⟩
        have HSL := hide (stepsLeft_eq (n := ns.length) (a := ⟨#[.agg #[.slice na ns.length nc, .slice (some ⟨b, off, none⟩) rs.length rc], .slice ga ns.length gc, .pointer (some ⟨w.heap.size, 0, none⟩), u3, .slice none 0 0, ov, .slice (some ⟨w.heap.size + 2, 0, none⟩) ns.length ns.length, .pointer (some ⟨w.heap.size + 3, 0, none⟩), u8, u9, u10, u11, u12, u13, u14, u15, u16, u17, u18, u19, .slice (some ⟨b, off, none⟩) rs.length rc, .int .i64 ↑rs.length, .int .i64 ↑i, u23, u24, u25, u26, u27, u28, u29, u30, u31, u32, u33, u34, u35, u36, u37, u38, u39, u40, u41, u42, u43, u44, u45, u46, u47, u48, u49, u50, u51, u52, u53, u54, u55, u56, u57, u58, u59, u60, u61, u62], Ds.map markD⟩) (unhide HO) (unhide HS) rfl)
        rcases List.eq_nil_or_concat st with rfl | ⟨st0, p, rfl⟩
        · obtain ⟨sa, sc, rfl⟩ := own_slice (unhide HS).2
          have c0 := (unhide HS).1.cell
          simp only [List.length_nil] at c0
          gi_wp2_with fail
          clear c0
          refine ⟨by unfold OuterI; exact ⟨Ds, i + 1, po, ov, _, _, _, _, _, _, _, _, _, _, _, _, _, _, _, _, _, _, _, _, _, _, _, _, _, _, _, _, _, _, _, _, _, _, _, _, _, _, _, _, _, _, _, _, _, _, _, _, _, _, _, _, _, _, rfl, by omega, HO, HS, HA, HF, hide (fun r hr => (unhide HR1 r hr).elim id (fun h => by simp at h))⟩, by simp [intOf]; omega⟩
        · rw [List.concat_eq_append] at HS HF HR1 HSL hsl
          have hps := (unhide HF).sr p (by simp)
          have hfew := (unhide HF).few
          obtain ⟨pn, rfl⟩ : ∃ pn : Nat, p = pn := ⟨p.toNat, by omega⟩
          have hpn : pn < ns.length := by omega
          obtain ⟨g, cap', e6, hcap, _, _⟩ := own_some (unhide HS).2 (by simp)
          subst e6
          have hlen : (st0 ++ [(pn : Int)]).length = st0.length + 1 := by simp
          rw [hlen] at hsl
          have HB0 : Hid (Boxed wk (w.heap.size + 3) 159 (.slice (some ⟨g, 0, none⟩) (st0.length + 1) cap')) := hide (by have h := (unhide HS).1; rwa [hlen] at h)
          have HO0 : Hid (wk.ownsRow w.heap.size 3 1 (.slice (some ⟨g, 0, none⟩) (st0.length + 1) cap') (st0.length + 1) (iv (st0 ++ [(pn : Int)]))) := hide (by have h := (unhide HS).2; rwa [hlen] at h)
          have c0 := (unhide HB0).cell
          have hpos : (0 : Int) < (st0.length : Int) + 1 := by omega
          gi_wp2_with fail
          refine ⟨trivial, (callsIn_wide.2 (pop_c (w.heap.size + 3) w.heap.size g cap' st0 pn wk (unhide HB0) (unhide HO0) (by omega))).mono ?_⟩
          rintro e w3 ⟨rfl, hb3, ho3, hk3⟩
          have HO3 := hide ((unhide HO).stack (unhide HS) (unhide HA) hk3 (fun b hb => .inl hb))
          have HS3 : Hid (Stk w3 w.heap.size (.slice (some ⟨g, 0, none⟩) st0.length cap') st0) := hide ⟨hb3, ho3⟩
          have HA3 : Hid (ApartV ov (.slice (some ⟨g, 0, none⟩) st0.length cap')) := hide (fun k h1 h2 => unhide HA k h1 h2)
          have hgp := unhide HRG pn (by omega) (by omega)
          obtain ⟨gn, hgn⟩ : ∃ gn : Nat, gAt of pn = gn := ⟨(gAt of pn).toNat, by omega⟩
          have hgl : gn < ns.length := by omega
          have hofp : of[pn]? = some (gn : Int) := by
            have hl : pn < of.length := by rw [unhide HOF]; exact hpn
            have := gAt_nat (List.getElem?_eq_getElem hl)
            rw [List.getElem?_eq_getElem hl, ← this, hgn]
          obtain ⟨ga', gc', e7, _, _, h7⟩ := ints_cell ((unhide HG).below (unhide HO3).below)
          injection e7 with e8 e9 e10
          obtain ⟨gb, go, rfl, hgb, hgc⟩ := h7 pn gn hofp
          subst e8
          obtain ⟨cs, k1, k2, k3⟩ := (unhide HO3).come
          obtain ⟨cb, hcb⟩ : ∃ cb, cs[gn]? = some cb := ⟨_, List.getElem?_eq_getElem (by omega)⟩
          have hcc : w3.cell? ⟨w.heap.size + 2, gn, none⟩ = some (.bool cb) := by
            rw [k2.cellAt gn (by omega)]; simp [bv, hcb]
          have hcf := k2.frozenAt gn
          have HC := hide (k3 gn (by omega) (by omega))
          rw [Int.toNat_natCast, hcb] at HC
          have HGN := hide hgn
          clear hb3 ho3 hk3 c0 hpos hgp e9 e10 h7 k3 HB0 HO0 hofp hcb k1 HO HS HA
          cases cb with
          | true =>
            have HM : Hid (gAt (grpM ns) pn ∈ po.map (gAt (grpM ns))) := hide (by
              obtain ⟨q, hq, e⟩ := (unhide HC).1 rfl
              have hqr := (unhide HF).pr q hq
              refine map_mem_eq.2 ⟨q, hq, ?_⟩
              have := (unhide HPT q.toNat pn (by omega) hpn).1 (by rw [show ((q.toNat : Nat) : Int) = q by omega, e, unhide HGN])
              rwa [show ((q.toNat : Nat) : Int) = q by omega] at this)
            have HF3 := hide ((unhide HF).old (unhide HM))
            have HR3 : Hid (∀ r ∈ rs.take (i + 1), gAt (grpM ns) r ∈ po.map (gAt (grpM ns)) ∨ r ∈ st0) := hide (by
              intro r hr
              rcases unhide HR1 r hr with h | h
              · exact .inl h
              · rcases List.mem_append.1 h with h | h
                · exact .inr h
                · have : r = pn := by simpa using h
                  subst this; exact .inl (unhide HM))
            clear hgn k2
            gi_wp2_with fail
            refine ⟨by unfold InnerI; exact ⟨Ds, po, st0, ov, _, _, _, _, _, _, _, _, _, _, _, _, _, _, _, _, _, _, _, _, _, _, _, _, _, _, _, _, _, _, _, _, _, _, _, _, _, _, _, _, _, _, _, _, _, _, _, _, _, _, _, _, _, _, rfl, HO3, HS3, HA3, HF3, HR3, by omega⟩, ?_⟩
            rw [unhide HSL, stepsLeft_eq (unhide HO3) (unhide HS3) rfl, hlen]
            omega
          | false =>
            have HM : Hid (gAt (grpM ns) pn ∉ po.map (gAt (grpM ns))) := hide (by
              intro h
              obtain ⟨q, hq, e⟩ := map_mem_eq.1 h
              have hqr := (unhide HF).pr q hq
              have h2 := (unhide HPT q.toNat pn (by omega) hpn).2 (by rw [show ((q.toNat : Nat) : Int) = q by omega, e])
              rw [show ((q.toNat : Nat) : Int) = q by omega, unhide HGN] at h2
              exact absurd ((unhide HC).2 ⟨q, hq, h2⟩) (by simp))
            have h4 := (unhide HO3).comeSet (unhide HS3) (unhide HGN) hgl
            have HO4 := hide h4.1
            have HS4 := hide h4.2
            have hcap2 : po.length + 1 ≤ ns.length + 1 := by omega
            clear h4 hgn k2 HO3 HS3
            obtain ⟨nd, hnd⟩ : ∃ nd, ns[pn]? = some nd := ⟨_, List.getElem?_eq_getElem hpn⟩
            obtain ⟨nb, no, ncap, e11, _, _, hnb⟩ := (unhide HN).form (by omega)
            injection e11 with e12 e13 e14
            subst e12
            have hks := (unhide HSM) nd (List.mem_of_getElem? hnd)
            obtain ⟨kv, m0, m1, m2, htl, hki⟩ := (unhide HN).node hnd
            have HKI := hide hki
            obtain ⟨ka, kc, rfl, hk1, hk2, -⟩ := hki
            unfold maxLen at hk2
            have HM2 := hide m2
            have hm2 := World.block_lt_of_cell? _ _ m2
            have hk40 : nd.2.2.length ≤ 40 := by
              have h := unhide HOK
              rw [minOk_eq, Bool.and_eq_true] at h
              have h2 := List.all_eq_true.1 h.2 nd (List.mem_of_getElem? hnd)
              unfold cntOk at h2
              split at h2
              · simp at h2; omega
              · split at h2
                · simp at h2; omega
                · simp at h2; simp [h2]
            have hnda : ndAt ns pn = nd := by unfold ndAt; rw [List.getD_eq_getElem?_getD, hnd]; rfl
            have HFN := hide ((unhide HF).new (minOk_kids (unhide HOK)) (grp_ok ns) (grp_rep ns) (unhide HM))
            rw [Int.toNat_natCast, hnda] at HFN
            have hfew2 := (unhide HFN).few
            rw [List.length_append, List.length_singleton] at hfew2
            have HRN : Hid (∀ r ∈ rs.take (i + 1), gAt (grpM ns) r ∈ (po ++ [(pn : Int)]).map (gAt (grpM ns)) ∨ r ∈ st0 ++ nd.2.2.reverse) := hide (by
              intro r hr
              rcases unhide HR1 r hr with h | h
              · left; rw [List.map_append]; exact List.mem_append.2 (.inl h)
              · rcases List.mem_append.1 h with h | h
                · exact .inr (List.mem_append.2 (.inl h))
                · have : r = pn := by simpa using h
                  subst this
                  left; rw [List.map_append]; exact List.mem_append.2 (.inr (by simp)))
            clear e14 hnb m0 m1 m2 hnda
            gi_wp2_with (gi_at_builtin; refine wpListIn_append_own_at _ rfl _ _ 41 rfl w.heap.size 3 i0 (.int .i64 0) 1 8 Tryd.underlying41 hi hz0 hz1 hz2 rfl (by decide) _ _ _ rfl ((unhide HO4).row.alloc _) ⟨w3.heap.size, 0, none⟩ 1 1 [.int .i64 (pn : Int)] rfl rfl (by have h := cell_one_new (w3.setCell ⟨w.heap.size + 2, gn, none⟩ (.bool true)) (.int .i64 (pn : Int)) 3; rwa [World.size_setCell] at h) (by intro u hu; simp at hu; subst hu; rfl) (by unfold maxLen; omega) (by omega) (by have := (unhide HO4).below.size; simp at this; simp; omega) ?_; intro ov1 w5 hown hgrow hnil hloc; have h5 := (unhide HO4).grow (unhide HS4) (unhide HA3) hown hgrow (hloc.imp id (fun h => ⟨_, h, by simp⟩)); have HO5 := hide h5.1; have HS5 := hide h5.2.1; have HA5 := hide h5.2.2; have d0 := (unhide HO5).box.n0; have d1 := (unhide HO5).box.n1; have n2 := ((unhide HO5).below.cell (p := ⟨nb, no + pn * 3 + 2, none⟩) hm2).trans (unhide HM2); clear hown hgrow hnil hloc h5)
            refine ⟨trivial, (callsIn_wide.2 (back_c _ _ _ _)).mono ?_⟩
            rintro e w6 ⟨rfl, rfl⟩
            obtain ⟨X, hX⟩ : ∃ X, Obj.cells #[.slice ka nd.2.2.length kc] 41 = X := ⟨_, rfl⟩
            have hbox : (w5.alloc X).cell? ⟨w5.heap.size, 0, none⟩ = some (.slice ka nd.2.2.length kc) := by
              rw [← hX]; simp
            have HX := hide hX
            clear hX n2
            have hsz : (w5.alloc X).heap.size = w5.heap.size + 1 := by simp
            have HB6 := hide (step_a (Below.refl w5.heap.size w5) X)
            have HO6 := hide ((unhide HO5).up (unhide HB6))
            have HS6 := hide ((unhide HS5).up (unhide HB6))
            gi_wp2_with fail
            rw [unhide HX]
            obtain ⟨W6, hW6⟩ : ∃ W6, w5.alloc X = W6 := ⟨_, rfl⟩
            rw [hW6] at hbox hsz HB6 HO6 HS6 ⊢
            clear HX hW6 d0 d1
            have hgb2 := own_lt (unhide HS5).2 (b := g) rfl
            have hsb2 := (unhide HS5).1.lt
            have hN6 := (unhide HO6).below.size
            obtain ⟨S, hSd⟩ : ∃ S : Nat → Prop, ∀ b, S b ↔ (b = w.heap.size + 3 ∨ b = g ∨ W6.heap.size ≤ b) := ⟨_, fun _ => Iff.rfl⟩
            have HSD := hide hSd
            have HROW : Hid (∀ W, Kept S W6 W → W.ownsRow w.heap.size 3 1 ov1 (po ++ [(pn : Int)]).length (iv (po ++ [(pn : Int)]))) := hide (fun W k => own_keptS (unhide HO6).row k (fun b hb hs => by
              rcases (hSd b).1 hs with h | h | h
              · subst h; exact boxed_row (unhide HS6).1 (unhide HO6).row (by decide) hb
              · subst h; exact unhide HA5 _ hb rfl
              · have := (own_lt (unhide HO6).row hb).2; omega))
            have hSold : ∀ b, b < w.heap.size → ¬ S b := fun b hb hs => by
              have := (hSd b).1 hs; omega
            refine wpIn_rangeFunc_ownG rfl (by decide) (gf := 142) (lb := #[.pointer (some ⟨w5.heap.size, 0, none⟩)]) rfl trivial (enters_of Tryd.func142 (by kernel_rfl) rfl)
              (backS_stops Fence.wide 2 trivial rfl (by decide) w5.heap.size S (.slice ka nd.2.2.length kc) nd.2.2 (by omega) W6 (by omega) (fun hs => by have := (hSd _).1 hs; omega) hbox (((unhide HKI).outS hSold).kept (Kept.of_below (unhide HO6).below)))
              (fun h k => h.trans k) (fun W l o o' hl _ _ _ => Kept.put ((hSd l).2 (.inr (.inr hl)))) (Below.refl _ _) (fun _ => rfl)
              (fun pre W => (∃ v, Boxed W (w.heap.size + 3) 159 v ∧ W.ownsRow w.heap.size 3 1 v (st0.length + pre.length) (iv (st0 ++ pre.map Prod.snd)) ∧ (ApartV ov1 v ∧ ∀ b, v.ownBlock = some b → S b)) ∧ Kept S W6 W)
              (fun _ _ _ => False)
              (OwnFrom.and (Own.from (holdsRow_own w.heap.size (w.heap.size + 3) 159 3 1 (fun pre : List (Int × Int) => st0.length + pre.length) (fun pre => iv (st0 ++ pre.map Prod.snd)) (fun _ v => ApartV ov1 v ∧ ∀ b, v.ownBlock = some b → S b)) _) (ownFrom_kept (Nat.le_refl _)))
              (fun c => ownFrom_pure _ _)
              ⟨⟨_, (unhide HS6).1, by simpa using (unhide HS6).2, unhide HA5, fun b hb => (hSd b).2 (.inr (.inl (by simpa [Value.ownBlock] using hb.symm)))⟩, Kept.refl _ _⟩
              (fun x => ⟨#[.agg #[.slice (some ⟨nb, no, none⟩) ns.length nc, .slice (some ⟨b, off, none⟩) rs.length rc], .slice (some ⟨gb, go, none⟩) ns.length gc, .pointer (some ⟨w.heap.size, 0, none⟩), u3, .slice none 0 0, ov1, .slice (some ⟨w.heap.size + 2, 0, none⟩) ns.length ns.length, .pointer (some ⟨w.heap.size + 3, 0, none⟩), u8, u9, .int .i64 ↑pn, u11, .int .i64 x.2, u13, u14, u15, u16, u17, u18, u19, .slice (some ⟨b, off, none⟩) rs.length rc, .int .i64 ↑rs.length, .int .i64 ↑i, u23, u24, u25, u26, u27, .pointer (some ⟨w.heap.size + 3, 0, none⟩), .slice (some ⟨g, 0, none⟩) (st0.length + 1) cap', .int .i64 (↑st0.length + 1), .bool true, .int .i64 ↑pn, .slice (some ⟨w.heap.size + 2, 0, none⟩) ns.length ns.length, .slice (some ⟨gb, go, none⟩) ns.length gc, .int .i64 ↑pn, .pointer (some ⟨gb, go + pn, none⟩), .int .i64 ↑gn, .pointer (some ⟨w.heap.size + 2, gn, none⟩), .bool false, .slice (some ⟨w.heap.size + 2, 0, none⟩) ns.length ns.length, .slice (some ⟨gb, go, none⟩) ns.length gc, .int .i64 ↑pn, .pointer (some ⟨gb, go + pn, none⟩), .int .i64 ↑gn, .pointer (some ⟨w.heap.size + 2, gn, none⟩), ov, .int .i64 ↑pn, .slice (some ⟨w3.heap.size, 0, none⟩) 1 1, ov1, .pointer (some ⟨w.heap.size, 0, none⟩), .slice (some ⟨nb, no, none⟩) ns.length nc, .int .i64 ↑pn, .pointer (some ⟨nb, no + pn * 3, none⟩), .pointer (some ⟨nb, no + pn * 3 + 2, none⟩), .slice ka nd.2.2.length kc, .func (.func 142) #[] #[.pointer (some ⟨w5.heap.size, 0, none⟩)], .int .i64 x.1, .int .i64 x.2, u59, u60, u61, u62], []⟩) ?assign ?body ?done ?stop
            case assign =>
              intro l x W K hK
              gi_wp2
              exact hK
            case stop =>
              rintro D c pre W _ _ h _
              exact h.elim
            case body =>
              rintro l pre x W ⟨⟨v, hbv, hov, hav, hsv⟩, hkv⟩ hpre
              have hbase : w.heap.size ≤ W.heap.size := Nat.le_trans hN6 hkv.size
              have h := push_c (w.heap.size + 3) w.heap.size v (st0 ++ pre.map Prod.snd) x.2 W hbv (by simpa using hov) hbase (by simp; omega)
              have HP := hide h
              have HK := hide hkv
              have HSV := hide hsv
              have HAV := hide hav
              have HBV := hide hbv
              have HOV := hide hov
              clear h hkv hsv hav hbv hov
              gi_wp2_with fail
              refine ⟨trivial, (CallsIn.inRound l (callsIn_wide.2 (unhide HP))).mono ?_⟩
              rintro e W2 ⟨⟨uu, rfl⟩, v2, hb2, ho2, hl2, hk2'⟩
              have HKS : Hid (Kept S W W2) := hide (hk2'.mono (fun b hb => hb.elim (fun h => (unhide HSD b).2 (.inl h)) (fun h => unhide HSV b h)))
              have HKO : Hid (KeepsOthers W W2) := hide (keepsOthers_kept hk2' (fun b hb o ho => by
                rcases hb with rfl | hb
                · rw [show W.heap[w.heap.size + 3]? = _ from unhide HBV] at ho; cases ho; rfl
                · exact row_cells (unhide HOV) hb ho))
              have HB2 := hide hb2
              have HO2 : Hid (W2.ownsRow w.heap.size 3 1 v2 (st0.length + (pre ++ [x]).length) (iv (st0 ++ (pre ++ [x]).map Prod.snd))) := hide (by
                have h := ho2
                simp only [List.length_append, List.length_map, List.map_append, List.map_cons, List.map_nil, List.length_cons, List.length_nil, List.append_assoc, Nat.zero_add, Nat.add_assoc] at h ⊢
                exact h)
              have HA2 := hide (ApartV.lies (unhide HAV) (unhide HROW W (unhide HK)) hl2)
              have HS2 : Hid (∀ b, v2.ownBlock = some b → S b) := hide (by
                intro b hb
                rcases hl2 with h | ⟨k, h, hk⟩
                · exact unhide HSV b (by rw [← h]; exact hb)
                · rw [h] at hb; injection hb with hb
                  have := (unhide HK).size
                  exact (unhide HSD b).2 (.inr (.inr (by omega))))
              clear hb2 ho2 hl2 hk2'
              gi_wp2_with fail
              exact ⟨(unhide HKO).from _, unhide HKS, ⟨v2, unhide HB2, unhide HO2, unhide HA2, unhide HS2⟩, (unhide HK).trans (unhide HKS)⟩
            case done =>
              rintro D ys W hD rfl ⟨⟨v, hbv, hov, hav, hsv⟩, hkv⟩ hKd
              have HOW := hide ((unhide HO6).stack (unhide HS6) (unhide HA5) hkv (fun b hb => by
                rcases (hSd b).1 hb with h | h | h
                · exact .inl h
                · exact .inr (.inl (by rw [h]; rfl))
                · exact .inr (.inr h)))
              have HOF2 : Hid (Ord w W (.slice (some ⟨nb, no, none⟩) ns.length nc) (.slice (some ⟨b, off, none⟩) rs.length rc) ns.length of ov1 (po ++ [(pn : Int)]) (po ++ [(pn : Int)]) (D :: Ds)) := hide
                ⟨(unhide HOW).below, (unhide HOW).box, (unhide HOW).row, (unhide HOW).come, (unhide HOW).marks.cons (by omega) hKd ((unhide HO6).marks.fresh hD)⟩
              have HSF : Hid (Stk W w.heap.size v (st0 ++ nd.2.2.reverse)) := hide ⟨hbv, by
                have h := hov
                rw [backL_snd, backL_len] at h
                rw [List.length_append, List.length_reverse]
                exact h⟩
              have HAF := hide hav
              clear hbv hov hav hsv hkv hKd HOW
              gi_wp2_with fail
              refine ⟨by unfold InnerI; exact ⟨D :: Ds, po ++ [(pn : Int)], st0 ++ nd.2.2.reverse, ov1, v, _, _, _, _, _, _, _, _, _, _, _, _, _, _, _, _, _, _, _, _, _, _, _, _, _, _, _, _, _, _, _, _, _, _, _, _, _, _, _, _, _, _, _, _, _, _, _, _, _, _, _, _, _, rfl, HOF2, HSF, HAF, HFN, HRN, by simp; omega⟩, ?_⟩
              rw [unhide HSL, stepsLeft_eq (unhide HOF2) (unhide HSF) rfl, hlen, List.length_append, List.length_append, List.length_singleton, List.length_reverse]
              omega
    · obtain rfl : i = rs.length := by omega
      have HF1 : Hid (DfsOk ns (grpM ns) (ordM ns (grpM ns) rs) [] po []) := hide (by have h := unhide HF; rwa [List.drop_length] at h)
      have HR1 : Hid (∀ r ∈ rs, gAt (grpM ns) r ∈ po.map (gAt (grpM ns))) := hide (by have h := unhide HR2; rwa [List.take_length] at h)
      clear HF HR2 d0 d1
      gi_wp2_with fail
      refine leaves_marks w.heap.size Ds _ (unhide HO).marks (fun w' hst => ?_)
      refine ⟨ov, by simp [results, Tryd.f80, go_sem], ⟨ov, po, rfl, own_still hst (unhide HO).row, unhide HF1, unhide HR1⟩, (unhide HO).below.trans hst.below⟩
end Go.Proofs.YtcnnicbaeicboaaDoor
