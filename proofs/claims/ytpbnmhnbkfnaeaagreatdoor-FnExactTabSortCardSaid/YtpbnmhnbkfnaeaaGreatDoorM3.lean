/- A part of the proof, put together out of smaller texts: each piece says what it is for. -/
import Derived.Test.YtpbnmhnbkfnaeaaGreatDoorM2
import Derived.Deep.AppendLies
import Derived.Deep.QuietTactic
import Derived.BigQuiet
import Derived.Laws.CopyOwn
import Derived.BigRegion
/- The specification's l12Copy: data copied. -/
namespace Go.Proofs.YtpbnmhnbkfnaeaaGreatDoor
open Go.RowKit Nt

theorem cell_below' {w w' : World} (k : Below w.heap.size w w') {a : Addr} {v : Value} (h : w.cell? a = some v) : w'.cell? a = some v := (k.cell (World.block_lt_of_cell? _ _ h)).trans h
set_option maxRecDepth 100000 in
set_option maxHeartbeats 8000000 in
theorem l12Copy_c (d : Dt) (u : Value) (w : World) (h : DataAt w u d) (hs : d.1.length ≤ 1000 ∧ d.2.length ≤ 1000 ∧ NsSmall d.1) :
    Calls Tryz.prog 30 #[u] w fun e W' => (∃ ma mc rb rc, e = .returned (.agg #[.slice ma d.1.length mc, .slice rb d.2.length rc]) ∧ DataAt W' (.agg #[.slice ma d.1.length mc, .slice rb d.2.length rc]) d) ∧ Below w.heap.size w W' := by
  obtain ⟨j0, hj, hy0, hy1, hy2⟩ := info_parts Tryz.infoNode
  obtain ⟨ns, rs⟩ := d
  obtain ⟨nv, rv, rfl, hn, hr⟩ := h
  simp only at hn hr hs
  obtain ⟨an, cn, rfl, hn1, hn2⟩ := hn.form0
  obtain ⟨ar, cr, rfl, hr1, hr2⟩ := hr.form
  unfold maxLen at hn2 hr2
  have hb0 := step_a (step_a (step_a (Below.refl w.heap.size w) (.cells #[.slice an ns.length cn, .slice ar rs.length cr] 26)) (.cells #[.slice none 0 0, .slice none 0 0] 26)) (.cells #[] 3)
  have HB0 := hide hb0
  have HN := hide hn
  have HR := hide (hr.below hb0)
  have HS := hide hs.2.2
  have HP := hide (((AtC2.new w (.slice an ns.length cn) (.slice ar rs.length cr) 26).alloc (.cells #[.slice none 0 0, .slice none 0 0] 26)).alloc (.cells #[] 3))
  have HQ := hide ((AtC2.new (w.alloc (.cells #[.slice an ns.length cn, .slice ar rs.length cr] 26)) (.slice none 0 0) (.slice none 0 0) 26).alloc (.cells #[] 3))
  have HRW := hide (rowI_made ((w.alloc (.cells #[.slice an ns.length cn, .slice ar rs.length cr] 26)).alloc (.cells #[.slice none 0 0, .slice none 0 0] 26)))
  rw [World.size_alloc] at HQ
  rw [World.size_alloc, World.size_alloc] at HRW
  have hl1 := hs.1
  have hl2 := hs.2.1
  have p0 := (unhide HP).n0
  have p1 := (unhide HP).n1
  clear hn hr hs hb0
  go_enter Tryz.func30, Tryz.ntmps30
  go_wp2_with (at_builtin; refine wpList_append_ints rfl (.tmp 5) (.tmp 7) rfl (w.heap.size + 1 + 1) (.slice (some ⟨w.heap.size + 1 + 1, 0, none⟩) 0 0) (.slice ar rs.length cr) [] rs rfl rfl (unhide HRW) (unhide HR) (by simp only [List.length_nil]; omega) (by simp) ?_; intro v6 V hr6 hg6 _; obtain ⟨rb, rc, rfl⟩ := own_form' hr6; have HRV : Hid (RowI V (w.heap.size + 1 + 1) (.slice rb rs.length rc) rs) := hide hr6; have HBV : Hid (Below w.heap.size w V) := hide (below_grown (unhide HB0) (own_base (unhide HRW) (by omega)) hg6 (unhide HB0).size); have HPV := hide ((unhide HP).grown' hg6 (own_ne2' (unhide HP) (unhide HRW) (by decide))); have HQV := hide ((unhide HQ).grown' hg6 (own_ne2' (unhide HQ) (unhide HRW) (by decide))); clear hr6 hg6)
  have h0 : RowN (V.alloc (.cells #[.slice none 0 0, .slice rb rs.length rc] 26)) (V.heap.size + 1) (.slice none 0 0) (ns.take 0) [] := ⟨by simp, by simpa [flatN] using World.ownsRow_nil _ _ _ _, fun j nd kv e1 _ => by simp at e1⟩
  have HR0 := hide h0
  have HA0 := hide (AtC2.new V (.slice none 0 0) (.slice rb rs.length rc) 26)
  have HNV := hide ((unhide HN).below (unhide HBV))
  clear p0 p1 HB0 HN HR HP HQ HRW h0
  go_loopw [4] (fun i wr => ∃ (k : Nat) (mv : Value) (kvs : List Value), k ≤ ns.length ∧ i = .int .i64 k ∧ Below V.heap.size V wr ∧ Hid (AtC2 wr V.heap.size mv (.slice rb rs.length rc) 26) ∧ Hid (RowN wr (V.heap.size + 1) mv (ns.take k) kvs))
    (fun i _ => ns.length - (intOf i).toNat)
  case atStart => exact ⟨0, _, [], by omega, rfl, step_a (Below.refl _ _) _, HA0, HR0⟩
  case round =>
    clear HA0 HR0
    obtain ⟨k, mv, kvs, hk, rfl, hbl, HA, HRN⟩ := hrel
    have HPW := hide ((unhide HPV).below hbl)
    have p0 := (unhide HPW).n0
    have p1 := (unhide HPW).n1
    have hlk : (ns.take k).length = k := by rw [List.length_take]; omega
    obtain ⟨ma, mc, rfl⟩ := own_form' (unhide HRN).2.1
    rw [hlk] at HA HRN
    have q0 := (unhide HA).n0
    have q1 := (unhide HA).n1
    by_cases hlt : k < ns.length
    · obtain ⟨nd, hnd⟩ : ∃ nd, ns[k]? = some nd := ⟨_, List.getElem?_eq_getElem hlt⟩
      obtain ⟨b, off, rfl, hb⟩ := ((unhide HNV).below hbl).addr (by omega)
      obtain ⟨kv, c0, c1, c2, htl, hk1⟩ := ((unhide HNV).below hbl).node hnd
      obtain ⟨ka, kc, rfl, hk2, hk3⟩ := hk1.form
      unfold maxLen at hk3
      have hks := (unhide HS) nd (List.mem_of_getElem? hnd)
      have HK := hide hk1
      have HALL := hide (And.intro p0 (And.intro q0 (And.intro c0 (And.intro c1 c2))))
      have HBL := hide hbl
      have hvl : V.heap.size < wr.heap.size := (unhide HA).lt
      clear hk1 p0 p1 q0 q1 c0 c1 c2 hbl
      have p0 := (unhide HALL).1
      go_wp2_with fail
      clear p0
      --REGION5
      obtain ⟨v, hv⟩ : ∃ v : Nat → Value, v = fun j => match j with
        | 0 => .pointer (some ⟨V.heap.size, 0, none⟩)
        | 1 => .slice ma k mc
        | 2 => .pointer (some ⟨w.heap.size, 0, none⟩)
        | 3 => .slice (some ⟨b, off, none⟩) ns.length cn
        | 4 => .int .i64 (k : Int)
        | 5 => .pointer (some ⟨b, off + k * 3, none⟩)
        | 6 => .pointer (some ⟨b, off + k * 3, none⟩)
        | 7 => .int .i64 nd.1
        | 8 => .pointer (some ⟨w.heap.size, 0, none⟩)
        | 9 => .slice (some ⟨b, off, none⟩) ns.length cn
        | 10 => .int .i64 (k : Int)
        | 11 => .pointer (some ⟨b, off + k * 3, none⟩)
        | 12 => .pointer (some ⟨b, off + k * 3 + 1, none⟩)
        | 13 => .string (B nd.2.1)
        | 15 => .pointer (some ⟨w.heap.size, 0, none⟩)
        | 16 => .slice (some ⟨b, off, none⟩) ns.length cn
        | 17 => .int .i64 (k : Int)
        | 18 => .pointer (some ⟨b, off + k * 3, none⟩)
        | 19 => .pointer (some ⟨b, off + k * 3 + 2, none⟩)
        | 20 => .slice ka nd.2.2.length kc
        | 25 => .pointer (some ⟨V.heap.size, 0, none⟩)
        | _ => undef := ⟨_, rfl⟩
      have v0 : v 0 = .pointer (some ⟨V.heap.size, 0, none⟩) := by subst hv; rfl
      have v1 : v 1 = .slice ma k mc := by subst hv; rfl
      have v2 : v 2 = .pointer (some ⟨w.heap.size, 0, none⟩) := by subst hv; rfl
      have v3 : v 3 = .slice (some ⟨b, off, none⟩) ns.length cn := by subst hv; rfl
      have v4 : v 4 = .int .i64 (k : Int) := by subst hv; rfl
      have v5 : v 5 = .pointer (some ⟨b, off + k * 3, none⟩) := by subst hv; rfl
      have v6 : v 6 = .pointer (some ⟨b, off + k * 3, none⟩) := by subst hv; rfl
      have v7 : v 7 = .int .i64 nd.1 := by subst hv; rfl
      have v8 : v 8 = .pointer (some ⟨w.heap.size, 0, none⟩) := by subst hv; rfl
      have v9 : v 9 = .slice (some ⟨b, off, none⟩) ns.length cn := by subst hv; rfl
      have v10 : v 10 = .int .i64 (k : Int) := by subst hv; rfl
      have v11 : v 11 = .pointer (some ⟨b, off + k * 3, none⟩) := by subst hv; rfl
      have v12 : v 12 = .pointer (some ⟨b, off + k * 3 + 1, none⟩) := by subst hv; rfl
      have v13 : v 13 = .string (B nd.2.1) := by subst hv; rfl
      have v15 : v 15 = .pointer (some ⟨w.heap.size, 0, none⟩) := by subst hv; rfl
      have v16 : v 16 = .slice (some ⟨b, off, none⟩) ns.length cn := by subst hv; rfl
      have v17 : v 17 = .int .i64 (k : Int) := by subst hv; rfl
      have v18 : v 18 = .pointer (some ⟨b, off + k * 3, none⟩) := by subst hv; rfl
      have v19 : v 19 = .pointer (some ⟨b, off + k * 3 + 2, none⟩) := by subst hv; rfl
      have v20 : v 20 = .slice ka nd.2.2.length kc := by subst hv; rfl
      have v25 : v 25 = .pointer (some ⟨V.heap.size, 0, none⟩) := by subst hv; rfl
      clear hv
      refine wp_region_any (by kernel_rfl) ?_
      change wpAny _ _ _ _ _ _ _ (World.drew _)
      refine wpAny_inv (fun l a' w' => ∃ x : Nat → Value, a' = ⟨#[.agg #[.slice (some ⟨b, off, none⟩) ns.length cn, .slice ar rs.length cr], .pointer (some ⟨w.heap.size, 0, none⟩), .pointer (some ⟨w.heap.size + 1, 0, none⟩), .pointer (some ⟨V.heap.size, 0, none⟩), .int .i64 ↑k, .slice (some ⟨w.heap.size + 1 + 1, 0, none⟩) 0 0, .pointer (some ⟨w.heap.size, 1, none⟩), .slice ar rs.length cr, .slice rb rs.length rc, .agg #[.slice none 0 0, .slice rb rs.length rc], .int .i64 ↑k, .pointer (some ⟨w.heap.size, 0, none⟩), .slice (some ⟨b, off, none⟩) ns.length cn, .int .i64 ↑ns.length, .bool true, u15, u16, x 0, x 1, x 2, x 3, x 4, x 5, x 6, x 7, x 8, x 9, x 10, x 11, x 12, x 13, x 14, x 15, x 16, x 17, x 18, x 19, x 20, x 21, x 22, x 23, x 24, x 25, undef], []⟩ ∧ CpS V wr v nd (.slice ma k mc) (.slice rb rs.length rc) (ns.take k) kvs l x w') ?hsz ?hend ?hstep ?hgo _ _ _ _ ?h0 ?hc
      case hsz =>
        rintro l a' w' ⟨x, _, h⟩
        exact h.sz
      case h0 => exact ⟨fun j => [u17, u18, u19, u20, u21, u22, u23, u24, u25, u26, u27, u28, u29, u30, u31, u32, u33, u34, u35, u36, u37, u38, u39, u40, u41, u42].getD j undef, rfl, CpS.start rfl (Below.refl _ _).drew⟩
      case hc => exact Nat.le_of_eq rfl
      case hgo =>
        rintro l a' w' ⟨x, rfl, h⟩ hr j hj
        have k0 : l[0]? = some true := LL_ready hr 0 (by simp) (by rw [h.sz]; rfl) (by simp [Region.binds, Array.getD_eq_getD_getElem?])
        have k1 : l[1]? = some true := LL_ready hr 1 (by simp) (by rw [h.sz]; rfl) (by simp [Region.binds, Array.getD_eq_getD_getElem?, k0])
        have k2 : l[2]? = some true := LL_ready hr 2 (by simp) (by rw [h.sz]; rfl) (by simp [Region.binds, Array.getD_eq_getD_getElem?])
        have k3 : l[3]? = some true := LL_ready hr 3 (by simp) (by rw [h.sz]; rfl) (by simp [Region.binds, Array.getD_eq_getD_getElem?, k2])
        have k4 : l[4]? = some true := LL_ready hr 4 (by simp) (by rw [h.sz]; rfl) (by simp [Region.binds, Array.getD_eq_getD_getElem?])
        have k5 : l[5]? = some true := LL_ready hr 5 (by simp) (by rw [h.sz]; rfl) (by simp [Region.binds, Array.getD_eq_getD_getElem?, k3, k4])
        have k6 : l[6]? = some true := LL_ready hr 6 (by simp) (by rw [h.sz]; rfl) (by simp [Region.binds, Array.getD_eq_getD_getElem?, k5])
        have k7 : l[7]? = some true := LL_ready hr 7 (by simp) (by rw [h.sz]; rfl) (by simp [Region.binds, Array.getD_eq_getD_getElem?, k6])
        have k8 : l[8]? = some true := LL_ready hr 8 (by simp) (by rw [h.sz]; rfl) (by simp [Region.binds, Array.getD_eq_getD_getElem?])
        have k9 : l[9]? = some true := LL_ready hr 9 (by simp) (by rw [h.sz]; rfl) (by simp [Region.binds, Array.getD_eq_getD_getElem?, k8])
        have k10 : l[10]? = some true := LL_ready hr 10 (by simp) (by rw [h.sz]; rfl) (by simp [Region.binds, Array.getD_eq_getD_getElem?])
        have k11 : l[11]? = some true := LL_ready hr 11 (by simp) (by rw [h.sz]; rfl) (by simp [Region.binds, Array.getD_eq_getD_getElem?, k9, k10])
        have k12 : l[12]? = some true := LL_ready hr 12 (by simp) (by rw [h.sz]; rfl) (by simp [Region.binds, Array.getD_eq_getD_getElem?, k11])
        have k13 : l[13]? = some true := LL_ready hr 13 (by simp) (by rw [h.sz]; rfl) (by simp [Region.binds, Array.getD_eq_getD_getElem?, k12])
        have k14 : l[14]? = some true := LL_ready hr 14 (by simp) (by rw [h.sz]; rfl) (by simp [Region.binds, Array.getD_eq_getD_getElem?])
        have k15 : l[15]? = some true := LL_ready hr 15 (by simp) (by rw [h.sz]; rfl) (by simp [Region.binds, Array.getD_eq_getD_getElem?])
        have k16 : l[16]? = some true := LL_ready hr 16 (by simp) (by rw [h.sz]; rfl) (by simp [Region.binds, Array.getD_eq_getD_getElem?, k15])
        have k17 : l[17]? = some true := LL_ready hr 17 (by simp) (by rw [h.sz]; rfl) (by simp [Region.binds, Array.getD_eq_getD_getElem?])
        have k18 : l[18]? = some true := LL_ready hr 18 (by simp) (by rw [h.sz]; rfl) (by simp [Region.binds, Array.getD_eq_getD_getElem?, k16, k17])
        have k19 : l[19]? = some true := LL_ready hr 19 (by simp) (by rw [h.sz]; rfl) (by simp [Region.binds, Array.getD_eq_getD_getElem?, k18])
        have k20 : l[20]? = some true := LL_ready hr 20 (by simp) (by rw [h.sz]; rfl) (by simp [Region.binds, Array.getD_eq_getD_getElem?, k19])
        have k21 : l[21]? = some true := LL_ready hr 21 (by simp) (by rw [h.sz]; rfl) (by simp [Region.binds, Array.getD_eq_getD_getElem?, k14, k20])
        have k22 : l[22]? = some true := LL_ready hr 22 (by simp) (by rw [h.sz]; rfl) (by simp [Region.binds, Array.getD_eq_getD_getElem?, k7, k13, k21])
        have k23 : l[23]? = some true := LL_ready hr 23 (by simp) (by rw [h.sz]; rfl) (by simp [Region.binds, Array.getD_eq_getD_getElem?, k22])
        have k24 : l[24]? = some true := LL_ready hr 24 (by simp) (by rw [h.sz]; rfl) (by simp [Region.binds, Array.getD_eq_getD_getElem?, k1, k23, k21])
        have k25 : l[25]? = some true := LL_ready hr 25 (by simp) (by rw [h.sz]; rfl) (by simp [Region.binds, Array.getD_eq_getD_getElem?, k0, k1, k2, k3, k4, k5, k6, k7, k8, k9, k10, k11, k12, k13, k14, k15, k16, k17, k18, k19, k20, k21, k22, k23, k24])
        have k26 : l[26]? = some true := LL_ready hr 26 (by simp) (by rw [h.sz]; rfl) (by simp [Region.binds, Array.getD_eq_getD_getElem?, k0, k1, k2, k3, k4, k5, k6, k7, k8, k9, k10, k11, k12, k13, k14, k15, k16, k17, k18, k19, k20, k21, k22, k23, k24, k25])
        have hj : j < 27 := by simpa using hj
        rcases (by omega : j = 0 ∨ j = 1 ∨ j = 2 ∨ j = 3 ∨ j = 4 ∨ j = 5 ∨ j = 6 ∨ j = 7 ∨ j = 8 ∨ j = 9 ∨ j = 10 ∨ j = 11 ∨ j = 12 ∨ j = 13 ∨ j = 14 ∨ j = 15 ∨ j = 16 ∨ j = 17 ∨ j = 18 ∨ j = 19 ∨ j = 20 ∨ j = 21 ∨ j = 22 ∨ j = 23 ∨ j = 24 ∨ j = 25 ∨ j = 26) with rfl | rfl | rfl | rfl | rfl | rfl | rfl | rfl | rfl | rfl | rfl | rfl | rfl | rfl | rfl | rfl | rfl | rfl | rfl | rfl | rfl | rfl | rfl | rfl | rfl | rfl | rfl
        all_goals assumption
      case hstep =>
        rintro l a' w' j ⟨x, rfl, h⟩ hi
        have hi2 := hi
        unfold Region.ready at hi2
        rw [List.mem_filter] at hi2
        obtain ⟨hjj, hi3⟩ := hi2
        have hjj : j < 27 := by simpa using hjj
        have hjl : ¬ LL l j := fun e => by
          unfold LL at e
          simp [Array.getD_eq_getD_getElem?, e] at hi3
        clear hi
        rcases (by omega : j = 0 ∨ j = 1 ∨ j = 2 ∨ j = 3 ∨ j = 4 ∨ j = 5 ∨ j = 6 ∨ j = 7 ∨ j = 8 ∨ j = 9 ∨ j = 10 ∨ j = 11 ∨ j = 12 ∨ j = 13 ∨ j = 14 ∨ j = 15 ∨ j = 16 ∨ j = 17 ∨ j = 18 ∨ j = 19 ∨ j = 20 ∨ j = 21 ∨ j = 22 ∨ j = 23 ∨ j = 24 ∨ j = 25 ∨ j = 26) with rfl | rfl | rfl | rfl | rfl | rfl | rfl | rfl | rfl | rfl | rfl | rfl | rfl | rfl | rfl | rfl | rfl | rfl | rfl | rfl | rfl | rfl | rfl | rfl | rfl | rfl | rfl
        · clear hi3
          have hd : ∀ z ∈ dpC 0, LL l z := fun z hz => by simp [dpC] at hz
          refine wpOp_step rfl (fun K hK => ?_)
          go_simp
          exact hK _ _ ⟨_, by simp [v0], h.read 0 rfl (by omega) hjl hd (v 0) rfl⟩
        · have l0 : LL l 0 := LL_of (by simp [Region.binds, Array.getD_eq_getD_getElem?] at hi3; simp [hi3])
          clear hi3
          have hd : ∀ z ∈ dpC 1, LL l z := fun z hz => by
            simp only [dpC, List.mem_cons, List.not_mem_nil, or_false] at hz
            rcases hz with rfl
            all_goals assumption
          have n24 : ¬ LL l 24 := fun e => hjl (h.c24 e 1 (by omega))
          obtain ⟨p0, q0, c0, c1, c2⟩ := unhide HALL
          have hbw := h.bw n24
          have p0 := cell_below' hbw p0
          have q0 := cell_below' hbw q0
          have c0 := cell_below' hbw c0
          have c1 := cell_below' hbw c1
          have c2 := cell_below' hbw c2
          have w0 := (h.val 0 rfl l0).trans v0
          refine wpOp_step rfl (fun K hK => ?_)
          go_simp
          exact hK _ _ ⟨_, by simp [w0, v1], h.read 1 rfl (by omega) hjl hd (v 1) rfl⟩
        · clear hi3
          have hd : ∀ z ∈ dpC 2, LL l z := fun z hz => by simp [dpC] at hz
          refine wpOp_step rfl (fun K hK => ?_)
          go_simp
          exact hK _ _ ⟨_, by simp [v2], h.read 2 rfl (by omega) hjl hd (v 2) rfl⟩
        · have l2 : LL l 2 := LL_of (by simp [Region.binds, Array.getD_eq_getD_getElem?] at hi3; simp [hi3])
          clear hi3
          have hd : ∀ z ∈ dpC 3, LL l z := fun z hz => by
            simp only [dpC, List.mem_cons, List.not_mem_nil, or_false] at hz
            rcases hz with rfl
            all_goals assumption
          have n24 : ¬ LL l 24 := fun e => hjl (h.c24 e 3 (by omega))
          obtain ⟨p0, q0, c0, c1, c2⟩ := unhide HALL
          have hbw := h.bw n24
          have p0 := cell_below' hbw p0
          have q0 := cell_below' hbw q0
          have c0 := cell_below' hbw c0
          have c1 := cell_below' hbw c1
          have c2 := cell_below' hbw c2
          have w2 := (h.val 2 rfl l2).trans v2
          refine wpOp_step rfl (fun K hK => ?_)
          go_simp
          exact hK _ _ ⟨_, by simp [w2, v3], h.read 3 rfl (by omega) hjl hd (v 3) rfl⟩
        · clear hi3
          have hd : ∀ z ∈ dpC 4, LL l z := fun z hz => by simp [dpC] at hz
          refine wpOp_step rfl (fun K hK => ?_)
          go_simp
          exact hK _ _ ⟨_, by simp [v4], h.read 4 rfl (by omega) hjl hd (v 4) rfl⟩
        · have l3 : LL l 3 := LL_of (by simp [Region.binds, Array.getD_eq_getD_getElem?] at hi3; simp [hi3])
          have l4 : LL l 4 := LL_of (by simp [Region.binds, Array.getD_eq_getD_getElem?] at hi3; simp [hi3])
          clear hi3
          have hd : ∀ z ∈ dpC 5, LL l z := fun z hz => by
            simp only [dpC, List.mem_cons, List.not_mem_nil, or_false] at hz
            rcases hz with rfl | rfl
            all_goals assumption
          have w3 := (h.val 3 rfl l3).trans v3
          have w4 := (h.val 4 rfl l4).trans v4
          refine wpOp_step rfl (fun K hK => ?_)
          go_simp
          exact hK _ _ ⟨_, by simp [w3, w4, v5], h.read 5 rfl (by omega) hjl hd (v 5) rfl⟩
        · have l5 : LL l 5 := LL_of (by simp [Region.binds, Array.getD_eq_getD_getElem?] at hi3; simp [hi3])
          clear hi3
          have hd : ∀ z ∈ dpC 6, LL l z := fun z hz => by
            simp only [dpC, List.mem_cons, List.not_mem_nil, or_false] at hz
            rcases hz with rfl
            all_goals assumption
          have w5 := (h.val 5 rfl l5).trans v5
          refine wpOp_step rfl (fun K hK => ?_)
          go_simp
          exact hK _ _ ⟨_, by simp [w5, v6], h.read 6 rfl (by omega) hjl hd (v 6) rfl⟩
        · have l6 : LL l 6 := LL_of (by simp [Region.binds, Array.getD_eq_getD_getElem?] at hi3; simp [hi3])
          clear hi3
          have hd : ∀ z ∈ dpC 7, LL l z := fun z hz => by
            simp only [dpC, List.mem_cons, List.not_mem_nil, or_false] at hz
            rcases hz with rfl
            all_goals assumption
          have n24 : ¬ LL l 24 := fun e => hjl (h.c24 e 7 (by omega))
          obtain ⟨p0, q0, c0, c1, c2⟩ := unhide HALL
          have hbw := h.bw n24
          have p0 := cell_below' hbw p0
          have q0 := cell_below' hbw q0
          have c0 := cell_below' hbw c0
          have c1 := cell_below' hbw c1
          have c2 := cell_below' hbw c2
          have w6 := (h.val 6 rfl l6).trans v6
          refine wpOp_step rfl (fun K hK => ?_)
          go_simp
          exact hK _ _ ⟨_, by simp [w6, v7], h.read 7 rfl (by omega) hjl hd (v 7) rfl⟩
        · clear hi3
          have hd : ∀ z ∈ dpC 8, LL l z := fun z hz => by simp [dpC] at hz
          refine wpOp_step rfl (fun K hK => ?_)
          go_simp
          exact hK _ _ ⟨_, by simp [v8], h.read 8 rfl (by omega) hjl hd (v 8) rfl⟩
        · have l8 : LL l 8 := LL_of (by simp [Region.binds, Array.getD_eq_getD_getElem?] at hi3; simp [hi3])
          clear hi3
          have hd : ∀ z ∈ dpC 9, LL l z := fun z hz => by
            simp only [dpC, List.mem_cons, List.not_mem_nil, or_false] at hz
            rcases hz with rfl
            all_goals assumption
          have n24 : ¬ LL l 24 := fun e => hjl (h.c24 e 9 (by omega))
          obtain ⟨p0, q0, c0, c1, c2⟩ := unhide HALL
          have hbw := h.bw n24
          have p0 := cell_below' hbw p0
          have q0 := cell_below' hbw q0
          have c0 := cell_below' hbw c0
          have c1 := cell_below' hbw c1
          have c2 := cell_below' hbw c2
          have w8 := (h.val 8 rfl l8).trans v8
          refine wpOp_step rfl (fun K hK => ?_)
          go_simp
          exact hK _ _ ⟨_, by simp [w8, v9], h.read 9 rfl (by omega) hjl hd (v 9) rfl⟩
        · clear hi3
          have hd : ∀ z ∈ dpC 10, LL l z := fun z hz => by simp [dpC] at hz
          refine wpOp_step rfl (fun K hK => ?_)
          go_simp
          exact hK _ _ ⟨_, by simp [v10], h.read 10 rfl (by omega) hjl hd (v 10) rfl⟩
        · have l9 : LL l 9 := LL_of (by simp [Region.binds, Array.getD_eq_getD_getElem?] at hi3; simp [hi3])
          have l10 : LL l 10 := LL_of (by simp [Region.binds, Array.getD_eq_getD_getElem?] at hi3; simp [hi3])
          clear hi3
          have hd : ∀ z ∈ dpC 11, LL l z := fun z hz => by
            simp only [dpC, List.mem_cons, List.not_mem_nil, or_false] at hz
            rcases hz with rfl | rfl
            all_goals assumption
          have w9 := (h.val 9 rfl l9).trans v9
          have w10 := (h.val 10 rfl l10).trans v10
          refine wpOp_step rfl (fun K hK => ?_)
          go_simp
          exact hK _ _ ⟨_, by simp [w9, w10, v11], h.read 11 rfl (by omega) hjl hd (v 11) rfl⟩
        · have l11 : LL l 11 := LL_of (by simp [Region.binds, Array.getD_eq_getD_getElem?] at hi3; simp [hi3])
          clear hi3
          have hd : ∀ z ∈ dpC 12, LL l z := fun z hz => by
            simp only [dpC, List.mem_cons, List.not_mem_nil, or_false] at hz
            rcases hz with rfl
            all_goals assumption
          have w11 := (h.val 11 rfl l11).trans v11
          refine wpOp_step rfl (fun K hK => ?_)
          go_simp
          exact hK _ _ ⟨_, by simp [w11, v12], h.read 12 rfl (by omega) hjl hd (v 12) rfl⟩
        · have l12 : LL l 12 := LL_of (by simp [Region.binds, Array.getD_eq_getD_getElem?] at hi3; simp [hi3])
          clear hi3
          have hd : ∀ z ∈ dpC 13, LL l z := fun z hz => by
            simp only [dpC, List.mem_cons, List.not_mem_nil, or_false] at hz
            rcases hz with rfl
            all_goals assumption
          have n24 : ¬ LL l 24 := fun e => hjl (h.c24 e 13 (by omega))
          obtain ⟨p0, q0, c0, c1, c2⟩ := unhide HALL
          have hbw := h.bw n24
          have p0 := cell_below' hbw p0
          have q0 := cell_below' hbw q0
          have c0 := cell_below' hbw c0
          have c1 := cell_below' hbw c1
          have c2 := cell_below' hbw c2
          have w12 := (h.val 12 rfl l12).trans v12
          refine wpOp_step rfl (fun K hK => ?_)
          go_simp
          exact hK _ _ ⟨_, by simp [w12, v13], h.read 13 rfl (by omega) hjl hd (v 13) rfl⟩
        · clear hi3
          have hd : ∀ z ∈ dpC 14, LL l z := fun z hz => by simp [dpC] at hz
          refine wpOp_step rfl (fun K hK => ?_)
          go_simp
          exact hK _ _ ⟨_, by simp, h.s14 hjl hd⟩
        · clear hi3
          have hd : ∀ z ∈ dpC 15, LL l z := fun z hz => by simp [dpC] at hz
          refine wpOp_step rfl (fun K hK => ?_)
          go_simp
          exact hK _ _ ⟨_, by simp [v15], h.read 15 rfl (by omega) hjl hd (v 15) rfl⟩
        · have l15 : LL l 15 := LL_of (by simp [Region.binds, Array.getD_eq_getD_getElem?] at hi3; simp [hi3])
          clear hi3
          have hd : ∀ z ∈ dpC 16, LL l z := fun z hz => by
            simp only [dpC, List.mem_cons, List.not_mem_nil, or_false] at hz
            rcases hz with rfl
            all_goals assumption
          have n24 : ¬ LL l 24 := fun e => hjl (h.c24 e 16 (by omega))
          obtain ⟨p0, q0, c0, c1, c2⟩ := unhide HALL
          have hbw := h.bw n24
          have p0 := cell_below' hbw p0
          have q0 := cell_below' hbw q0
          have c0 := cell_below' hbw c0
          have c1 := cell_below' hbw c1
          have c2 := cell_below' hbw c2
          have w15 := (h.val 15 rfl l15).trans v15
          refine wpOp_step rfl (fun K hK => ?_)
          go_simp
          exact hK _ _ ⟨_, by simp [w15, v16], h.read 16 rfl (by omega) hjl hd (v 16) rfl⟩
        · clear hi3
          have hd : ∀ z ∈ dpC 17, LL l z := fun z hz => by simp [dpC] at hz
          refine wpOp_step rfl (fun K hK => ?_)
          go_simp
          exact hK _ _ ⟨_, by simp [v17], h.read 17 rfl (by omega) hjl hd (v 17) rfl⟩
        · have l16 : LL l 16 := LL_of (by simp [Region.binds, Array.getD_eq_getD_getElem?] at hi3; simp [hi3])
          have l17 : LL l 17 := LL_of (by simp [Region.binds, Array.getD_eq_getD_getElem?] at hi3; simp [hi3])
          clear hi3
          have hd : ∀ z ∈ dpC 18, LL l z := fun z hz => by
            simp only [dpC, List.mem_cons, List.not_mem_nil, or_false] at hz
            rcases hz with rfl | rfl
            all_goals assumption
          have w16 := (h.val 16 rfl l16).trans v16
          have w17 := (h.val 17 rfl l17).trans v17
          refine wpOp_step rfl (fun K hK => ?_)
          go_simp
          exact hK _ _ ⟨_, by simp [w16, w17, v18], h.read 18 rfl (by omega) hjl hd (v 18) rfl⟩
        · have l18 : LL l 18 := LL_of (by simp [Region.binds, Array.getD_eq_getD_getElem?] at hi3; simp [hi3])
          clear hi3
          have hd : ∀ z ∈ dpC 19, LL l z := fun z hz => by
            simp only [dpC, List.mem_cons, List.not_mem_nil, or_false] at hz
            rcases hz with rfl
            all_goals assumption
          have w18 := (h.val 18 rfl l18).trans v18
          refine wpOp_step rfl (fun K hK => ?_)
          go_simp
          exact hK _ _ ⟨_, by simp [w18, v19], h.read 19 rfl (by omega) hjl hd (v 19) rfl⟩
        · have l19 : LL l 19 := LL_of (by simp [Region.binds, Array.getD_eq_getD_getElem?] at hi3; simp [hi3])
          clear hi3
          have hd : ∀ z ∈ dpC 20, LL l z := fun z hz => by
            simp only [dpC, List.mem_cons, List.not_mem_nil, or_false] at hz
            rcases hz with rfl
            all_goals assumption
          have n24 : ¬ LL l 24 := fun e => hjl (h.c24 e 20 (by omega))
          obtain ⟨p0, q0, c0, c1, c2⟩ := unhide HALL
          have hbw := h.bw n24
          have p0 := cell_below' hbw p0
          have q0 := cell_below' hbw q0
          have c0 := cell_below' hbw c0
          have c1 := cell_below' hbw c1
          have c2 := cell_below' hbw c2
          have w19 := (h.val 19 rfl l19).trans v19
          refine wpOp_step rfl (fun K hK => ?_)
          go_simp
          exact hK _ _ ⟨_, by simp [w19, v20], h.read 20 rfl (by omega) hjl hd (v 20) rfl⟩
        · have l14 : LL l 14 := LL_of (by simp [Region.binds, Array.getD_eq_getD_getElem?] at hi3; simp [hi3])
          have l20 : LL l 20 := LL_of (by simp [Region.binds, Array.getD_eq_getD_getElem?] at hi3; simp [hi3])
          clear hi3
          have hd : ∀ z ∈ dpC 21, LL l z := fun z hz => by
            simp only [dpC, List.mem_cons, List.not_mem_nil, or_false] at hz
            rcases hz with rfl | rfl
            all_goals assumption
          have n24 : ¬ LL l 24 := fun e => hjl (h.c24 e 21 (by omega))
          have hbw := h.bw n24
          have w20 := (h.val 20 rfl l20).trans v20
          obtain ⟨⟨g, e14⟩, hk0⟩ := h.k0 l14 hjl
          rw [e14] at hk0
          refine wpOp_step rfl (fun K hK => ?_)
          refine step_append_ints rfl _ _ rfl wr.heap.size (.slice (some ⟨g, 0, none⟩) 0 0) (.slice ka nd.2.2.length kc) [] nd.2.2 (by exact e14) (by exact w20) hk0 ((unhide HK).below hbw) (by simp only [List.length_nil]; omega) hbw.size (some 38) rfl ?_
          intro v6 w6 hr6 hg6 _
          obtain ⟨ra', rc', rfl⟩ := own_form' hr6
          exact hK _ _ ⟨_, by simp [Act.put, e14, w20], h.s21 hjl hd l14 hr6 (by rw [e14]; exact hg6)⟩
        · have l7 : LL l 7 := LL_of (by simp [Region.binds, Array.getD_eq_getD_getElem?] at hi3; simp [hi3])
          have l13 : LL l 13 := LL_of (by simp [Region.binds, Array.getD_eq_getD_getElem?] at hi3; simp [hi3])
          have l21 : LL l 21 := LL_of (by simp [Region.binds, Array.getD_eq_getD_getElem?] at hi3; simp [hi3])
          clear hi3
          have hd : ∀ z ∈ dpC 22, LL l z := fun z hz => by
            simp only [dpC, List.mem_cons, List.not_mem_nil, or_false] at hz
            rcases hz with rfl | rfl | rfl
            all_goals assumption
          have w7 := (h.val 7 rfl l7).trans v7
          have w13 := (h.val 13 rfl l13).trans v13
          obtain ⟨ga, gc, e21⟩ := h.k1 l21
          refine wpOp_step rfl (fun K hK => ?_)
          go_simp
          exact hK _ _ ⟨_, (by simp [w7, w13, e21]; try exact e21.symm), h.s22 hjl hd l21 (.agg #[.int .i64 nd.1, .string (B nd.2.1), x 21]) rfl⟩
        · have l22 : LL l 22 := LL_of (by simp [Region.binds, Array.getD_eq_getD_getElem?] at hi3; simp [hi3])
          clear hi3
          have hd : ∀ z ∈ dpC 23, LL l z := fun z hz => by
            simp only [dpC, List.mem_cons, List.not_mem_nil, or_false] at hz
            rcases hz with rfl
            all_goals assumption
          have e22 := h.a1 l22
          obtain ⟨ga, gc, e21⟩ := h.k1 (h.c22 l22)
          have hs := h.s23 hjl hd l22
          rw [e21] at hs e22
          have HSS := hide hs
          clear hs
          refine wpOp_step rfl (fun K hK => ?_)
          go_simp
          exact hK _ _ ⟨_, by simp [e22, e21], unhide HSS⟩
        · have l1 : LL l 1 := LL_of (by simp [Region.binds, Array.getD_eq_getD_getElem?] at hi3; simp [hi3])
          have l23 : LL l 23 := LL_of (by simp [Region.binds, Array.getD_eq_getD_getElem?] at hi3; simp [hi3])
          clear hi3
          have hd : ∀ z ∈ dpC 24, LL l z := fun z hz => by
            simp only [dpC, List.mem_cons, List.not_mem_nil, or_false] at hz
            rcases hz with rfl | rfl
            all_goals assumption
          have w1 := (h.val 1 rfl l1).trans v1
          have hall := h.all l1 l23
          obtain ⟨g, e23, hg⟩ := h.n1 l23 hjl
          have hbw := h.bw hjl
          have hro := own_below (unhide HRN).2.1 hbw
          rw [hlk] at hro
          obtain ⟨ga, gc, e21⟩ := h.k1 (hall 21 (by omega))
          refine wpOp_step rfl (fun K hK => ?_)
          refine step_append_lies _ rfl _ _ _ rfl (V.heap.size + 1) 56 j0 (.agg #[.int .i64 0, .string ⟨#[]⟩, .slice none 0 0]) 3 48 Tryz.underlying23 hj hy0 hy1 hy2 rfl (by decide) (.slice ma k mc) k (flatN (ns.take k) kvs) (by exact w1) hro ⟨g, 0, none⟩ 1 1 (nd3 nd (x 21)) (by exact e23) rfl (World.news_of_block hg) (by intro u hu; simp [nd3] at hu; rcases hu with rfl | rfl | rfl <;> simp [Value.oneCell', e21]) (by decide) (by unfold maxLen; omega) (by omega) (by have := hbw.size; omega) w'.heap.size rfl ?_
          intro gg cap w9 hown9 hgrow9 _ _
          have hn := h.s24 hjl hd hall htl (unhide HBL) (unhide HA) (unhide HRN) (a := some ⟨gg, 0, none⟩) (c := cap) hvl (by rw [hlk]; exact hown9) hgrow9
          rw [hlk] at hn
          exact hK _ _ ⟨_, by simp [Act.put, w1, e23], hn⟩
        · clear hi3
          have hd : ∀ z ∈ dpC 25, LL l z := fun z hz => by simp [dpC] at hz
          refine wpOp_step rfl (fun K hK => ?_)
          go_simp
          exact hK _ _ ⟨_, by simp [v25], h.read 25 rfl (by omega) hjl hd (v 25) rfl⟩
        · have l24 : LL l 24 := LL_of (by simp [Region.binds, Array.getD_eq_getD_getElem?] at hi3; simp [hi3])
          have l25 : LL l 25 := LL_of (by simp [Region.binds, Array.getD_eq_getD_getElem?] at hi3; simp [hi3])
          clear hi3
          have hd : ∀ z ∈ dpC 26, LL l z := fun z hz => by simp [dpC] at hz
          have w25 := (h.val 25 rfl l25).trans v25
          obtain ⟨ga, gc, e24⟩ := h.m1 l24
          have hA := h.b1 l24 hjl
          have a0 := hA.n0
          have f0 := hA.f 0
          have hs := h.s26 hjl hd l24
          rw [e24] at hs
          rw [hlk] at hs e24
          have HSS := hide hs
          clear hs hA
          refine wpOp_step rfl (fun K hK => ?_)
          go_simp
          exact hK _ _ ⟨x, by simp [w25, e24], unhide HSS⟩
      case hend =>
      --ENDREGION5
        rintro l a' w' ⟨x, rfl, h⟩ hall
        have l24 : LL l 24 := hall 24 (by decide)
        have l26 : LL l 26 := hall 26 (by decide)
        obtain ⟨hb2, hr2⟩ := h.m2 l24
        have htk : ns.take k ++ [nd] = ns.take (k + 1) := by rw [List.take_add_one, hnd]; rfl
        rw [htk] at hr2
        have HA2 := hide (h.b2 l26)
        have HR2 := hide hr2
        have HB2 := hide hb2
        clear hb2 hr2 htk l24 l26 h hall
        go_wp2_with fail
        go_roundw
        case rel => exact ⟨k + 1, x 24, kvs ++ [x 21], by omega, by go_num, unhide HB2, HA2, HR2⟩
        case measure => simp [intOf]; omega
    · obtain rfl : k = ns.length := by omega
      have hq := (unhide HQV).below hbl
      have hvl : V.heap.size < wr.heap.size := (unhide HA).lt
      have hwv : w.heap.size + 1 < V.heap.size := (unhide HQV).lt
      have hX := (hq.st0 (.slice ma ns.length mc)).st1 (.slice rb rs.length rc)
      have z0 := hX.n0
      have z1 := hX.n1
      have hrn := unhide HRN
      rw [List.take_of_length_le (Nat.le_refl _)] at hrn
      have hN := ((hrn.far' (a := ⟨w.heap.size + 1, 0, none⟩) (by show w.heap.size + 1 < _; omega) (.slice ma ns.length mc)).far' (a := ⟨w.heap.size + 1, 1, none⟩) (by show w.heap.size + 1 < _; omega) (.slice rb rs.length rc)).at
      have hR := owns_ints (ownsRow_setCell_below (ownsRow_setCell_below (own_below (unhide HRV) hbl) (a := ⟨w.heap.size + 1, 0, none⟩) (by show w.heap.size + 1 < _; omega) (.slice ma ns.length mc)) (a := ⟨w.heap.size + 1, 1, none⟩) (by show w.heap.size + 1 < _; omega) (.slice rb rs.length rc))
      have HE := hide (((step_b (unhide HBV) hbl).setCell (p := ⟨w.heap.size + 1, 0, none⟩) (by show w.heap.size ≤ w.heap.size + 1; omega) (.slice ma ns.length mc)).setCell (p := ⟨w.heap.size + 1, 1, none⟩) (by show w.heap.size ≤ w.heap.size + 1; omega) (.slice rb rs.length rc))
      have HDD : Hid (DataAt ((wr.setCell ⟨w.heap.size + 1, 0, none⟩ (.slice ma ns.length mc)).setCell ⟨w.heap.size + 1, 1, none⟩ (.slice rb rs.length rc)) (.agg #[.slice ma ns.length mc, .slice rb rs.length rc]) (ns, rs)) := hide ⟨_, _, rfl, hN, hR⟩
      have e0 := hq.n0
      have e1 := hq.n1
      have ef := hq.f
      clear hX hrn hN hR hq hbl hwv hvl
      go_wp2_with fail
      refine bodyPost_ret (v := .agg #[.slice ma ns.length mc, .slice rb rs.length rc]) (by simp [results, Tryz.results30, go_sem, z0, z1]) rfl ⟨⟨_, _, _, _, rfl, unhide HDD⟩, unhide HE⟩
end Go.Proofs.YtpbnmhnbkfnaeaaGreatDoor
namespace Go.Proofs.YtpbnmhnbkfnaeaaGreatDoor
open Go.RowKit Nt

theorem Tryz.infoU64 : (Tryz.prog.info? 173).map (fun i => (i.zero, i.size, i.bytes)) = some (some (.int .u64 0), 1, 8) := by kernel_rfl

set_option maxRecDepth 100000 in
set_option maxHeartbeats 4000000 in
theorem trimmed_c (xs : List Nat) (base : Nat) (v : Value) (w : World) (hs : xs.length ≤ 1000000000) (h : w.ownsRow base 173 1 v xs.length (u64s xs)) :
    Calls Tryz.prog 205 #[v] w fun e w' => (∃ v', e = .returned v' ∧ w.ownsRow base 173 1 v' (strip xs).length (u64s (strip xs)) ∧ v'.ownBlock = v.ownBlock) ∧ w' = w := by
  rcases own_shape h with ⟨rfl, hn, hx⟩ | ⟨g, cap, rfl, hnc, hbg, hgw⟩
  · have : xs = [] := List.eq_nil_of_length_eq_zero hn
    subst this
    have H := hide h
    clear h hn hx hs
    go_enter Tryz.func205, Tryz.ntmps205
    go_wp2
    refine wp_loop_rounds 1 ?_; rw [rounds_succ]
    go_wp2
    go_ret
    exact ⟨⟨_, rfl, unhide H, rfl⟩, rfl⟩
  · go_enter Tryz.func205, Tryz.ntmps205
    go_wp2
    go_loop [0] (fun v' => ∃ ys : List Nat, v' = .slice (some ⟨g, 0, none⟩) ys.length cap ∧ ys.length ≤ xs.length ∧ w.ownsRow base 173 1 (.slice (some ⟨g, 0, none⟩) ys.length cap) ys.length (u64s ys) ∧ Hid (strip ys = strip xs))
      (fun v' => match v' with | .slice _ n _ => n | _ => 0)
    case atStart => exact ⟨xs, rfl, Nat.le_refl _, h, hide rfl⟩
    case round =>
      obtain ⟨ys, rfl, hyl, hown, hst⟩ := hrel
      by_cases hy0 : 0 < ys.length
      · have hc := hown.cellAt (ys.length - 1) (by omega)
        rw [u64s_get _ _ (by omega)] at hc
        have hsp : ys = ys.take (ys.length - 1) ++ [ys[ys.length - 1]'(by omega)] := by
          rw [← List.take_succ_eq_append_getElem (by omega), show ys.length - 1 + 1 = ys.length from by omega, List.take_length]
        have htk := own_take hown (ys.length - 1) (by omega)
        generalize hd : ys[ys.length - 1]'(by omega) = d at *
        by_cases hd0 : d = 0
        · have hst2 : strip (ys.take (ys.length - 1)) = strip xs := by
            rw [← unhide hst]
            conv => rhs; rw [hsp, hd0]
            rw [strip_snoc_zero]
          have hq : ((d : Int) == 0) = true := by rw [beq_iff_eq]; omega
          have e1 : u64s (ys.take (ys.length - 1)) = (u64s ys).take (ys.length - 1) := by simp [u64s, List.map_take]
          rw [← e1] at htk
          have hl1 : (ys.take (ys.length - 1)).length = ys.length - 1 := by simp
          generalize ys.take (ys.length - 1) = zs at *
          have hzl : zs.length + 1 = ys.length := by omega
          have Htk := hide htk
          have Hst2 := hide hst2
          clear hst2 htk hsp hd0 e1 hd
          go_wp2
          go_round
          case rel => exact ⟨zs, by rw [hl1], by omega, by rw [hl1]; exact unhide Htk, Hst2⟩
          case measure => show ys.length - 1 < ys.length; omega
        · have hq : ((d : Int) == 0) = false := by rw [beq_eq_false_iff_ne]; omega
          have hfin : strip xs = ys := by rw [← unhide hst, hsp, strip_snoc_pos _ _ hd0]
          have Hfin := hide hfin
          clear hfin hsp htk hd0 hd
          go_wp2
          go_ret
          refine ⟨⟨_, rfl, ?_, rfl⟩, rfl⟩
          rw [unhide Hfin]; exact hown
      · have : ys = [] := List.eq_nil_of_length_eq_zero (by omega)
        subst this
        have H := hide hown
        go_wp2
        go_ret
        refine ⟨⟨_, rfl, ?_, rfl⟩, rfl⟩
        rw [← unhide hst]; exact unhide H

/-- the groups of a number, the lowest first -/
def gr (x : Nat) : List Nat := dg 1000000000 x
theorem gr_ofd (x : Nat) : ofd 1000000000 (gr x) = x := ofd_dg (by omega) x
theorem gr_lt (x : Nat) : ∀ d ∈ gr x, d < 1000000000 := dg_lt (by omega) x
theorem gr_zero : gr 0 = [] := dg_zero _
theorem gr_nil {x : Nat} : gr x = [] ↔ x = 0 := dg_eq_nil (by omega)
theorem gr_strip {l : List Nat} (h : ∀ d ∈ l, d < 1000000000) : strip l = gr (ofd 1000000000 l) := strip_eq_dg (by omega) h
theorem gr_len_le {x y : Nat} (h : x ≤ y) : (gr x).length ≤ (gr y).length :=
  dg_len_le (by omega) (Nat.lt_of_le_of_lt h (lt_pow_dg (by omega) y))

/-- a value that holds a number as groups -/
def isNat (w : World) (v : Value) (x : Nat) : Prop := w.ownsRow 0 173 1 v (gr x).length (u64s (gr x))

/-- .. in a block from a number on -/
def isNatB (w : World) (base : Nat) (v : Value) (x : Nat) : Prop := w.ownsRow base 173 1 v (gr x).length (u64s (gr x))
theorem isNatB.nat {w : World} {base : Nat} {v : Value} {x : Nat} (h : isNatB w base v x) : isNat w v x := own_base h (Nat.zero_le _)

theorem isNat_below {w w' : World} {v : Value} {x : Nat} (h : isNat w v x) (hb : Below w.heap.size w w') : isNat w' v x := own_below h hb

/-- a slice of groups that is trimmed, whatever they are -/
theorem trimmed_n (xs : List Nat) (base : Nat) (v : Value) (w : World) (hs : xs.length ≤ 1000000000) (hd : ∀ d ∈ xs, d < 1000000000) (h : w.ownsRow base 173 1 v xs.length (u64s xs)) :
    Calls Tryz.prog 205 #[v] w fun e w' => (∃ v', e = .returned v' ∧ isNatB w base v' (ofd 1000000000 xs)) ∧ w' = w := by
  refine (trimmed_c xs base v w hs h).mono ?_
  rintro e w' ⟨⟨v', rfl, h1, _⟩, rfl⟩
  refine ⟨⟨v', rfl, ?_⟩, rfl⟩
  unfold isNatB
  rw [← gr_strip hd]
  exact h1

set_option maxRecDepth 100000 in
set_option maxHeartbeats 4000000 in
theorem isOne_c (x : Nat) (v : Value) (w : World) (h : isNat w v x) (hs : (gr x).length ≤ 1000000000) :
    Calls Tryz.prog 187 #[v] w fun e w' => e = .returned (.bool (decide (x = 1))) ∧ w' = w := by
  have g1 : gr 1 = [1] := by unfold gr; rw [dg_pos (by omega) (by omega)]; simp [dg_zero]
  have hx1 : x = 1 ↔ gr x = [1] := by
    constructor
    · intro hh; rw [hh, g1]
    · intro hh; rw [← gr_ofd x, hh]; simp [ofd]
  unfold isNat at h
  generalize gr x = xs at *
  rcases own_shape h with ⟨rfl, hn, hx⟩ | ⟨g, cap, rfl, hnc, hbg, hgw⟩
  · have hf : decide (x = 1) = false := by
      rw [decide_eq_false_iff_not, hx1]; intro hh; rw [hh] at hn; simp at hn
    rw [hf]
    clear h hn hx hs hx1 hf g1
    go_enter Tryz.func187, Tryz.ntmps187
    go_wp2
    go_ret
    exact ⟨rfl, rfl⟩
  · by_cases hl : xs.length = 1
    · have hc := h.cellAt 0 (by omega)
      rw [u64s_get _ _ (by omega)] at hc
      have hxs : xs = [xs[0]'(by omega)] := by
        match xs, hl with
        | [a], _ => rfl
      generalize xs[0]'(by omega) = a at *
      have hlI : ((xs.length : Int) == 1) = true := by rw [beq_iff_eq]; omega
      have hf : decide (x = 1) = ((a : Int) == 1) := by
        rw [Bool.eq_iff_iff, decide_eq_true_iff, hx1, hxs, beq_iff_eq]
        simp
        omega
      rw [hf]
      have h0 : 0 < xs.length := by omega
      clear hf hxs hx1 h hl g1
      go_enter Tryz.func187, Tryz.ntmps187
      go_wp2
      go_ret
      exact ⟨rfl, rfl⟩
    · have hlI : ((xs.length : Int) == 1) = false := by rw [beq_eq_false_iff_ne]; omega
      have hf : decide (x = 1) = false := by
        rw [decide_eq_false_iff_not, hx1]; intro hh; rw [hh] at hl; simp at hl
      rw [hf]
      clear hf hx1 hl g1
      go_enter Tryz.func187, Tryz.ntmps187
      go_wp2
      go_ret
      exact ⟨rfl, rfl⟩

theorem ofd_split (b : Nat) (l : List Nat) (i : Nat) (h : i < l.length) : ofd b l = ofd b (l.take i) + b ^ i * (l[i] + b * ofd b (l.drop (i + 1))) := by
  have e : l = l.take i ++ (l[i] :: l.drop (i + 1)) := by rw [← List.drop_eq_getElem_cons h, List.take_append_drop]
  conv => lhs; rw [e]
  rw [ofd_append]
  simp only [ofd, List.length_take]
  rw [Nat.min_eq_left (by omega)]

theorem less_at {l m : List Nat} {b i : Nat} (hl : i < l.length) (hm : i < m.length) (hlen : l.length = m.length) (hb : ∀ d ∈ l, d < b) (hup : ∀ t (h1 : t < l.length) (h2 : t < m.length), i < t → l[t] = m[t]) (hlt : l[i] < m[i]) :
    ofd b l < ofd b m := by
  have hdr : l.drop (i + 1) = m.drop (i + 1) := by
    apply List.ext_getElem
    · simp [hlen]
    · intro t h1 h2
      simp only [List.getElem_drop]
      exact hup _ _ _ (by omega)
  rw [ofd_split b l i hl, ofd_split b m i hm, hdr]
  have h1 := ofd_lt (b := b) (l.take i) (fun d hd => hb d (List.mem_of_mem_take hd))
  rw [List.length_take, Nat.min_eq_left (by omega)] at h1
  generalize ofd b (m.drop (i + 1)) = D
  have h2 : b ^ i * (l[i] + b * D + 1) ≤ b ^ i * (m[i] + b * D) := Nat.mul_le_mul_left _ (by omega)
  rw [Nat.mul_add] at h2
  omega

set_option maxRecDepth 100000 in
set_option maxHeartbeats 4000000 in
theorem less_c (x y : Nat) (v u : Value) (w : World) (hx : isNat w v x) (hy : isNat w u y) (hsx : (gr x).length ≤ 1000000) (_hsy : (gr y).length ≤ 1000000) :
    Calls Tryz.prog 202 #[v, u] w fun e w' => e = .returned (.bool (decide (x < y))) ∧ Below w.heap.size w w' := by
  by_cases hlen : (gr x).length = (gr y).length
  · by_cases h0 : (gr x).length = 0
    · have hx0 : x = 0 := gr_nil.1 (List.eq_nil_of_length_eq_zero h0)
      have hy0 : y = 0 := gr_nil.1 (List.eq_nil_of_length_eq_zero (by omega))
      obtain ⟨p1, c1, rfl⟩ := own_slice hx
      obtain ⟨p2, c2, rfl⟩ := own_slice hy
      rw [show decide (x < y) = false from by rw [hx0, hy0]; rfl, ← hlen, h0]
      clear hx hy hlen h0 hsx hx0 hy0
      go_enter Tryz.func202, Tryz.ntmps202
      go_wp2
      refine wp_loop_rounds 1 ?_; rw [rounds_succ]
      go_wp2
      go_ret
      exact ⟨rfl, Below.refl _ _⟩
    · obtain ⟨g, cap, rfl, hnc, _, hgw⟩ := own_some hx (by omega)
      obtain ⟨g2, cap2, rfl, hnc2, _, hgw2⟩ := own_some hy (by omega)
      have hxd := gr_lt x
      have hyd := gr_lt y
      have hxo := gr_ofd x
      have hyo := gr_ofd y
      unfold isNat at hx hy
      generalize gr x = xs at *
      generalize gr y = ys at *
      have Hxd := hide hxd
      have Hyd := hide hyd
      have Hxo := hide hxo
      have Hyo := hide hyo
      have Hlen := hide hlen
      have hneI : ((xs.length : Int) != (ys.length : Int)) = false := by rw [hlen]; simp
      have hleI : (ys.length : Int) = (xs.length : Int) := by omega
      clear hxd hyd hxo hyo
      go_enter Tryz.func202, Tryz.ntmps202
      go_wp2
      go_loopw [5] (fun i wr => ∃ k : Nat, k ≤ xs.length ∧ i = .int .i64 ((k : Int) - 1) ∧ (∃ m, wr = w.drewN m) ∧ Hid (∀ t (h1 : t < xs.length) (h2 : t < ys.length), k ≤ t → xs[t] = ys[t]))
        (fun i _ => ((intOf i) + 1).toNat)
      case atStart => exact ⟨xs.length, Nat.le_refl _, by go_num, ⟨0, rfl⟩, hide (fun t h1 _ h => by omega)⟩
      case round =>
        obtain ⟨k, hk, rfl, ⟨m, rfl⟩, hup⟩ := hrel
        cases k with
        | zero =>
          have hxy : x = y := by
            rw [← unhide Hxo, ← unhide Hyo]
            congr 1
            apply List.ext_getElem (unhide Hlen)
            intro t h1 h2
            exact unhide hup t h1 h2 (Nat.zero_le _)
          rw [show (((0 : Nat) : Int) - 1) = -1 from rfl]
          have hdf : decide (x < y) = false := by rw [hxy]; simp
          have Hdf := hide hdf
          clear hxy hdf
          go_wp2
          go_ret
          exact ⟨ret_bool (unhide Hdf).symm, below_drewN (Below.refl _ _) _⟩
        | succ k =>
          rw [show (((k + 1 : Nat) : Int) - 1) = (k : Int) from by omega]
          have hc1 := hx.cellAt k (by omega)
          have hc2 := hy.cellAt k (by omega)
          rw [u64s_get _ _ (by omega)] at hc1
          rw [u64s_get _ _ (by omega)] at hc2
          have hk2 : (k : Int) < xs.length := by omega
          obtain ⟨xk, hxk⟩ : ∃ a, xs[k]'(by omega) = a := ⟨_, rfl⟩
          obtain ⟨yk, hyk⟩ : ∃ a, ys[k]'(by omega) = a := ⟨_, rfl⟩
          rw [hxk] at hc1
          rw [hyk] at hc2
          have Hxk := hide hxk
          have Hyk := hide hyk
          have hc1' : (w.drewN m).cell? ⟨g, k, none⟩ = some (.int .u64 (xk : Int)) := hc1
          have hc2' : (w.drewN m).cell? ⟨g2, k, none⟩ = some (.int .u64 (yk : Int)) := hc2
          clear hxk hyk
          by_cases heq : xk = yk
          · have hq : ((xk : Int) != (yk : Int)) = false := by rw [heq]; simp
            have Heq := hide heq
            clear heq
            go_wp2
            go_quiet (fail)
            go_wp2
            go_roundw
            case rel =>
              refine ⟨k, by omega, rfl, ⟨m + nq, rfl⟩, ?_⟩
              intro t h1 h2 ht
              by_cases htk : t = k
              · subst htk; rw [unhide Hxk, unhide Hyk]; exact unhide Heq
              · exact unhide hup t h1 h2 (by omega)
            case measure => simp [intOf]
          · have hq : ((xk : Int) != (yk : Int)) = true := by rw [bne_iff_ne]; omega
            have Heq := hide heq
            clear heq
            go_wp2
            go_quiet (fail)
            go_wp2
            go_quiet (fail)
            go_wp2
            go_ret
            refine ⟨ret_bool ?_, below_drewN (below_drewN (below_drewN (Below.refl _ _) _) _) _⟩
            have hup' := unhide hup
            have hne := unhide Heq
            rcases Nat.lt_or_ge xk yk with h1 | h1
            · have := less_at (l := xs) (m := ys) (i := k) (by omega) (by omega) hlen (unhide Hxd) (fun t a b hh => hup' t a b (by omega)) (by rw [unhide Hxk, unhide Hyk]; exact h1)
              rw [unhide Hxo, unhide Hyo] at this
              rw [decide_eq_true this, decide_eq_true h1]
            · have := less_at (l := ys) (m := xs) (i := k) (by omega) (by omega) hlen.symm (unhide Hyd) (fun t a b hh => (hup' t b a (by omega)).symm) (by rw [unhide Hxk, unhide Hyk]; omega)
              rw [unhide Hxo, unhide Hyo] at this
              rw [decide_eq_false (show ¬ x < y by omega), decide_eq_false (show ¬ xk < yk by omega)]
  · have hf : decide (x < y) = decide ((gr x).length < (gr y).length) := by
      rw [Bool.eq_iff_iff, decide_eq_true_iff, decide_eq_true_iff]
      constructor
      · intro h; have := gr_len_le (Nat.le_of_lt h); omega
      · intro h
        rcases Nat.lt_or_ge x y with h1 | h1
        · exact h1
        · have := gr_len_le h1; omega
    rw [hf]
    unfold isNat at hx hy
    have hne : (((gr x).length : Int) != ((gr y).length : Int)) = true := by rw [bne_iff_ne]; omega
    generalize gr x = xs at *
    generalize gr y = ys at *
    obtain ⟨p1, c1, rfl⟩ := own_slice hx
    obtain ⟨p2, c2, rfl⟩ := own_slice hy
    clear hf hlen hx hy
    go_enter Tryz.func202, Tryz.ntmps202
    go_wp2
    go_ret
    exact ⟨rfl, Below.refl _ _⟩
end Go.Proofs.YtpbnmhnbkfnaeaaGreatDoor
namespace Go.Proofs.YtpbnmhnbkfnaeaaGreatDoor
open Go.RowKit Nt

theorem mulstep_fit {d f c : Nat} (hd : d < 1000000000) (hf : f < 1000000000) (hc : c < 1000000000) : c + d * f < 1000000000 * 1000000000 := by
  have : d * f ≤ 999999999 * 999999999 := Nat.mul_le_mul (by omega) (by omega)
  omega

/-- one group more of a number times a word -/
theorem tp_step {xs : List Nat} {k : Nat} (hk : k < xs.length) {f c0 c c' d X : Nat} (h : X + c * 1000000000 ^ k = ofd 1000000000 (xs.take k) * f + c0) (he : d + 1000000000 * c' = c + xs[k] * f) :
    X + 1000000000 ^ k * d + c' * 1000000000 ^ (k + 1) = ofd 1000000000 (xs.take (k + 1)) * f + c0 := by
  rw [List.take_succ_eq_append_getElem hk, ofd_snoc, List.length_take, Nat.min_eq_left (by omega), Nat.pow_succ]
  generalize 1000000000 ^ k = p at *
  have h2 := congrArg (p * ·) he
  simp only [Nat.mul_add] at h2
  rw [Nat.add_mul, Nat.mul_assoc]
  have e1 : c' * (p * 1000000000) = p * (1000000000 * c') := by rw [Nat.mul_comm c', Nat.mul_assoc]
  have e2 : c * p = p * c := Nat.mul_comm _ _
  omega


set_option maxRecDepth 100000 in
set_option maxHeartbeats 4000000 in
theorem timesPlus_c (x f c : Nat) (v : Value) (w : World) (hx : isNat w v x) (hs : (gr x).length ≤ 1000000) (hf : f < 1000000000) (hc : c < 1000000000) :
    Calls Tryz.prog 201 #[v, .int .u64 f, .int .u64 c] w fun e w' => (∃ v', e = .returned v' ∧ isNatB w' w.heap.size v' (x * f + c)) ∧ Below w.heap.size w w' := by
  obtain ⟨i0, hi, hz0, hz1, hz2⟩ := info_parts Tryz.infoU64
  have hxd := gr_lt x
  have hxo := gr_ofd x
  unfold isNat at hx
  generalize gr x = xs at *
  obtain ⟨p, cap, rfl⟩ := own_slice hx
  have Hxd := hide hxd
  have Hxo := hide hxo
  have Hx := hide hx
  clear hxd hxo
  go_enter Tryz.func201, Tryz.ntmps201
  go_wp2_with (refine wpList_make_full _ rfl (.tmp 11) (.tmp 11) 178 rfl w.heap.size 173 i0 (.int .u64 0) 1 Tryz.underlying178 hi hz0 hz1 .i64 .i64 ((xs.length + 1 : Nat) : Int) ((xs.length + 1 : Nat) : Int) (xs.length + 1) rfl rfl rfl rfl (by rw [hz2]; omega) (by unfold maxLen; omega) (Nat.le_refl _) ?_; intro w1 hown1 hg1)
  go_loopw [2, 15] (fun cy i wr => ∃ (k c' : Nat) (ys : List Nat), k ≤ xs.length ∧ cy = .int .u64 c' ∧ c' < 1000000000 ∧ i = .int .i64 k ∧ ys.length = xs.length + 1 ∧
      wr.ownsRow w.heap.size 173 1 (.slice (some ⟨w.heap.size, 0, none⟩) (xs.length + 1) (xs.length + 1)) (xs.length + 1) (u64s ys) ∧ Below w.heap.size w wr ∧
      Hid (∀ d ∈ ys, d < 1000000000) ∧ Hid (ofd 1000000000 (ys.take k) + c' * 1000000000 ^ k = ofd 1000000000 (xs.take k) * f + c))
    (fun _ i _ => xs.length - (intOf i).toNat)
  case atStart =>
    refine ⟨0, c, List.replicate (xs.length + 1) 0, Nat.zero_le _, rfl, hc, rfl, by simp, ?_, (Below.refl _ _).grown hg1 (Nat.le_refl _) (fun _ h => by cases h), ?_, ?_⟩
    · simpa [Value.cells, toList_madeCells_one, u64s_zero] using hown1
    · intro d hd; simp at hd; omega
    · show _ = _; simp [ofd]
  case round =>
    clear hown1 hg1
    obtain ⟨k, c', ys, hk, rfl, hc', rfl, hyl, hown, hb, hyd, hval⟩ := hrel
    by_cases hlt : k < xs.length
    · obtain ⟨g, cap', hv, _⟩ := own_some (unhide Hx) (by omega)
      simp only [Value.slice.injEq, true_and] at hv
      obtain ⟨rfl, rfl⟩ := hv
      have hcx := (own_below (unhide Hx) hb).cellAt k (by omega)
      rw [u64s_get _ _ hlt] at hcx
      obtain ⟨v0, hv0⟩ := own_cell_some hown k (by omega)
      have hfr := hown.frozenAt k
      have hxk : xs[k]'hlt < 1000000000 := unhide Hxd _ (List.getElem_mem _)
      have hstep := fun d c2 => @tp_step xs k hlt f c c' c2 d
      generalize xs[k]'hlt = xk at *
      have Hstep := hide hstep
      have hfit := mulstep_fit hxk hf hc'
      generalize hpp : xk * f = pp at *
      have hppI : (xk : Int) * f = pp := by rw [← hpp]; simp
      clear hstep hpp
      obtain ⟨d, hd⟩ : ∃ d : Nat, ((c' : Int) + pp) % 1000000000 = d := ⟨(c' + pp) % 1000000000, by omega⟩
      obtain ⟨c2, hc2⟩ : ∃ d : Nat, ((c' : Int) + pp) / 1000000000 = d := ⟨(c' + pp) / 1000000000, by omega⟩
      have hdl : d < 1000000000 := by omega
      have hcl : c2 < 1000000000 := by omega
      have hsum : Hid (d + 1000000000 * c2 = c' + pp) := by show _ = _; omega
      have hst := hown.stored k (.int .u64 (d : Int))
      rw [u64s_set _ _ d _ rfl] at hst
      have Hst := hide hst
      have hk2 : (k : Int) < (xs.length : Int) + 1 := by omega
      clear hst
      go_wp2
      go_roundw
      case rel =>
        refine ⟨k + 1, c2, ys.set k d, by omega, by rw [hc2], hcl, by go_num, by simpa using hyl, (unhide Hst).1, hb.setCell (by simp) _, set_all (unhide hyd) hdl, ?_⟩
        have h1 := unhide Hstep d c2 (unhide hval) (unhide hsum)
        show _ = _
        rw [← h1]
        congr 1
        rw [show (ys.set k d).take (k + 1) = ys.take k ++ [d] from by
          rw [List.take_succ_eq_append_getElem (by simp; omega), List.take_set_of_le (Nat.le_refl _), List.getElem_set_self], ofd_snoc, List.length_take, Nat.min_eq_left (by omega)]
      case measure => simp [intOf]; omega
    · have hkl : k = xs.length := by omega
      subst hkl
      obtain ⟨v0, hv0⟩ := own_cell_some hown xs.length (by omega)
      have hfr := hown.frozenAt xs.length
      have hst := hown.stored xs.length (.int .u64 (c' : Int))
      rw [u64s_set _ _ c' _ rfl] at hst
      have hbX := hb.setCell (p := ⟨w.heap.size, xs.length, none⟩) (by simp) (.int .u64 (c' : Int))
      have hk2 : (xs.length : Int) < (xs.length : Int) + 1 := by omega
      have hfin : ofd 1000000000 (ys.set xs.length c') = x * f + c := by
        have h1 := unhide hval
        rw [List.take_length, unhide Hxo] at h1
        rw [← h1, show ys.set xs.length c' = ys.take xs.length ++ [c'] from by
          conv => lhs; rw [← List.take_length (l := ys.set xs.length c')]
          rw [List.length_set, hyl, List.take_succ_eq_append_getElem (by simp; omega), List.take_set_of_le (Nat.le_refl _), List.getElem_set_self], ofd_snoc, List.length_take, Nat.min_eq_left (by omega), Nat.mul_comm]
      have hall := set_all (j := xs.length) (v := c') (unhide hyd) hc'
      have hyl2 : (ys.set xs.length c').length = xs.length + 1 := by simpa using hyl
      generalize ys.set xs.length c' = zs at *
      have Hst := hide hst
      have Hfin := hide hfin
      have Hall := hide hall
      clear hst hfin hall
      go_wp2_with fail
      refine (trimmed_n zs w.heap.size _ _ (by omega) (unhide Hall) (by rw [hyl2]; exact (unhide Hst).1)).mono ?_
      rintro e w2 ⟨⟨v', rfl, hv'⟩, rfl⟩
      rw [unhide Hfin] at hv'
      go_wp2
      go_ret
      exact ⟨⟨v', rfl, hv'⟩, hbX⟩

/-- one group of a number divided by a word -/
theorem ow_step {xs : List Nat} {k : Nat} (hk : k < xs.length) {by_ r X q r' : Nat} (h : ofd 1000000000 (xs.drop (k + 1)) = by_ * X + r) (he : r * 1000000000 + xs[k] = by_ * q + r') :
    ofd 1000000000 (xs.drop k) = by_ * (q + 1000000000 * X) + r' := by
  rw [List.drop_eq_getElem_cons hk]
  simp only [ofd]
  rw [h, Nat.mul_add, Nat.mul_add, ← Nat.mul_assoc, Nat.mul_comm 1000000000 by_, Nat.mul_assoc]
  rw [Nat.mul_comm r] at he
  have e : by_ * (1000000000 * X) = 1000000000 * (by_ * X) := by rw [Nat.mul_left_comm]
  omega

theorem ow_end {x b q r : Nat} (h : x = b * q + r) (hr : r < b) : x / b = q ∧ x % b = r := by
  have hb : 0 < b := by omega
  subst h
  rw [Nat.mul_add_div hb, Nat.mul_add_mod, Nat.div_eq_of_lt hr, Nat.mod_eq_of_lt hr]
  exact ⟨by omega, rfl⟩

set_option maxRecDepth 100000 in
set_option maxHeartbeats 4000000 in
theorem overWordB_c (x b : Nat) (v : Value) (w : World) (hx : isNat w v x) (hs : (gr x).length ≤ 1000000) (hb0 : 0 < b) (hb9 : b < 1000000000) :
    Calls Tryz.prog 206 #[v, .int .u64 b] w fun e w' => (∃ v', e = .returned (.tuple #[v', .int .u64 ((x % b : Nat) : Int)]) ∧ isNatB w' w.heap.size v' (x / b)) ∧ Below w.heap.size w w' := by
  obtain ⟨i0, hi, hz0, hz1, hz2⟩ := info_parts Tryz.infoU64
  have hxd := gr_lt x
  have hxo := gr_ofd x
  unfold isNat at hx
  generalize gr x = xs at *
  obtain ⟨p, cap, rfl⟩ := own_slice hx
  have Hxd := hide hxd
  have Hxo := hide hxo
  have Hx := hide hx
  clear hxd hxo
  go_enter Tryz.func206, Tryz.ntmps206
  go_wp2_with (refine wpList_make_full _ rfl (.tmp 10) (.tmp 10) 178 rfl w.heap.size 173 i0 (.int .u64 0) 1 Tryz.underlying178 hi hz0 hz1 .i64 .i64 xs.length xs.length xs.length rfl rfl rfl rfl (by rw [hz2]; omega) (by unfold maxLen; omega) (Nat.le_refl _) ?_; intro w1 hown1 hg1)
  go_loopw [7, 8] (fun lf i wr => ∃ (k r : Nat) (ys : List Nat), k ≤ xs.length ∧ lf = .int .u64 r ∧ r < b ∧ i = .int .i64 ((k : Int) - 1) ∧ ys.length = xs.length ∧
      wr.ownsRow w.heap.size 173 1 (.slice (some ⟨w.heap.size, 0, none⟩) xs.length xs.length) xs.length (u64s ys) ∧ Below w.heap.size w wr ∧
      Hid (∀ d ∈ ys, d < 1000000000) ∧ Hid (ofd 1000000000 (xs.drop k) = b * ofd 1000000000 (ys.drop k) + r))
    (fun _ i _ => ((intOf i) + 1).toNat)
  case atStart =>
    refine ⟨xs.length, 0, List.replicate xs.length 0, Nat.le_refl _, rfl, hb0, by go_num, by simp, ?_, (Below.refl _ _).grown hg1 (Nat.le_refl _) (fun _ h => by cases h), ?_, ?_⟩
    · simpa [Value.cells, toList_madeCells_one, u64s_zero] using hown1
    · intro d hd; simp at hd; omega
    · show _ = _; simp [ofd]
  case round =>
    clear hown1 hg1
    obtain ⟨k, r, ys, hk, rfl, hr, rfl, hyl, hown, hb, hyd, hval⟩ := hrel
    cases k with
    | succ k =>
      rw [show (((k + 1 : Nat) : Int) - 1) = (k : Int) from by omega]
      have hlt : k < xs.length := by omega
      obtain ⟨g, cap', hv, _⟩ := own_some (unhide Hx) (by omega)
      simp only [Value.slice.injEq, true_and] at hv
      obtain ⟨rfl, rfl⟩ := hv
      have hcx := (own_below (unhide Hx) hb).cellAt k (by omega)
      rw [u64s_get _ _ hlt] at hcx
      obtain ⟨v0, hv0⟩ := own_cell_some hown k (by omega)
      have hfr := hown.frozenAt k
      have hxk : xs[k]'hlt < 1000000000 := unhide Hxd _ (List.getElem_mem _)
      have hstep := fun q r' => @ow_step xs k hlt b r (ofd 1000000000 (ys.drop (k + 1))) q r' (unhide hval)
      generalize xs[k]'hlt = xk at *
      have Hstep := hide hstep
      clear hstep
      have hS : r * 1000000000 + xk < b * 1000000000 := by
        have : (r + 1) * 1000000000 ≤ b * 1000000000 := Nat.mul_le_mul_right _ hr
        omega
      have hq9 : (r * 1000000000 + xk) / b < 1000000000 := by
        rw [Nat.div_lt_iff_lt_mul hb0]; omega
      have hrb : (r * 1000000000 + xk) % b < b := Nat.mod_lt _ hb0
      have hdm := Nat.div_add_mod (r * 1000000000 + xk) b
      have hSI : ((r * 1000000000 + xk : Nat) : Int) = (r : Int) * 1000000000 + xk := by simp
      have hqI : ((r : Int) * 1000000000 + xk) / (b : Int) = (((r * 1000000000 + xk) / b : Nat) : Int) := by rw [← hSI]; rfl
      have hrI : ((r : Int) * 1000000000 + xk) % (b : Int) = (((r * 1000000000 + xk) % b : Nat) : Int) := by rw [← hSI]; rfl
      generalize hq : (r * 1000000000 + xk) / b = q at *
      generalize hr' : (r * 1000000000 + xk) % b = r' at *
      have Hdm := hide hdm
      have hst := hown.stored k (.int .u64 (q : Int))
      rw [u64s_set _ _ q _ rfl] at hst
      have Hst := hide hst
      have hkI : (k : Int) < xs.length := by omega
      have hbI : (0 : Int) < b := by omega
      clear hst hdm hSI hq hr'
      go_wp2
      go_roundw
      case rel =>
        refine ⟨k, r', ys.set k q, by omega, by rw [hrI], hrb, rfl, by simpa using hyl, (unhide Hst).1, hb.setCell (by simp) _, set_all (unhide hyd) hq9, ?_⟩
        show _ = _
        rw [unhide Hstep q r' (unhide Hdm).symm, List.drop_eq_getElem_cons (l := ys.set k q) (by simp; omega), List.getElem_set_self, List.drop_set_of_lt (by omega)]
        simp only [ofd]
      case measure => simp [intOf]
    | zero =>
      rw [show (((0 : Nat) : Int) - 1) = -1 from rfl]
      have hfin := ow_end (x := x) (b := b) (q := ofd 1000000000 ys) (r := r) (by rw [← unhide Hxo]; have := unhide hval; simpa using this) hr
      have Hfin := hide hfin
      clear hfin
      go_wp2_with fail
      refine (trimmed_n ys w.heap.size _ _ (by omega) (unhide hyd) (by rw [hyl]; exact hown)).mono ?_
      rintro e w2 ⟨⟨v', rfl, hv'⟩, rfl⟩
      rw [← (unhide Hfin).1] at hv'
      go_wp2
      go_ret2
      refine ⟨⟨v', ?_, hv'⟩, hb⟩
      rw [(unhide Hfin).2]; rfl

theorem overWord_c (x b : Nat) (v : Value) (w : World) (hx : isNat w v x) (hs : (gr x).length ≤ 1000000) (hb0 : 0 < b) (hb9 : b < 1000000000) :
    Calls Tryz.prog 206 #[v, .int .u64 b] w fun e w' => (∃ v', e = .returned (.tuple #[v', .int .u64 ((x % b : Nat) : Int)]) ∧ isNat w' v' (x / b)) ∧ Below w.heap.size w w' := by
  refine (overWordB_c x b v w hx hs hb0 hb9).mono ?_
  rintro e w' ⟨⟨v', h1, h2⟩, h3⟩
  exact ⟨⟨v', h1, h2.nat⟩, h3⟩
end Go.Proofs.YtpbnmhnbkfnaeaaGreatDoor
/- Plain arithmetic of sums, differences and products in groups: no program is named here. -/
namespace Go.Proofs.YtpbnmhnbkfnaeaaGreatDoor.Nt

theorem take_step (b : Nat) (l : List Nat) (k : Nat) : ofd b (l.take (k + 1)) = ofd b (l.take k) + b ^ k * l.getD k 0 := by
  by_cases h : k < l.length
  · rw [List.take_succ_eq_append_getElem h, ofd_snoc, List.length_take, Nat.min_eq_left (by omega), List.getD_eq_getElem?_getD, List.getElem?_eq_getElem h]; rfl
  · rw [List.take_of_length_le (by omega), List.take_of_length_le (by omega), List.getD_eq_getElem?_getD, List.getElem?_eq_none (by omega)]; simp

theorem set_take {L : List Nat} {k d : Nat} (h : k < L.length) : (L.set k d).take (k + 1) = L.take k ++ [d] := by
  rw [List.take_succ_eq_append_getElem (by simpa using h), List.take_set_of_le (Nat.le_refl k)]; simp

theorem minus_step {b : Nat} {L xs ys : List Nat} {k c c' d : Nat} (h : ofd b (L.take k) + ofd b (ys.take k) = ofd b (xs.take k) + c * b ^ k) (hk : k < L.length) (he : d + (c + ys.getD k 0) = xs.getD k 0 + c' * b) :
    ofd b ((L.set k d).take (k + 1)) + ofd b (ys.take (k + 1)) = ofd b (xs.take (k + 1)) + c' * b ^ (k + 1) := by
  rw [set_take hk, ofd_snoc, take_step, take_step, List.length_take, Nat.min_eq_left (by omega), Nat.pow_succ]
  generalize ys.getD k 0 = yk at *
  generalize xs.getD k 0 = xk at *
  generalize b ^ k = p at *
  have e := congrArg (p * ·) he
  simp only [Nat.mul_add] at e
  rw [Nat.mul_comm c p] at h
  rw [show c' * (p * b) = p * (c' * b) from by rw [Nat.mul_left_comm]]
  omega

theorem minus_end {b : Nat} {L xs ys : List Nat} {c : Nat} (hl : L.length = xs.length) (hly : ys.length ≤ xs.length) (hd : ∀ d ∈ L, d < b) (h : ofd b (L.take xs.length) + ofd b (ys.take xs.length) = ofd b (xs.take xs.length) + c * b ^ xs.length)
    (hle : ofd b ys ≤ ofd b xs) : ofd b L = ofd b xs - ofd b ys := by
  rw [List.take_of_length_le (by omega), List.take_of_length_le hly, List.take_of_length_le (by omega)] at h
  have hL := ofd_lt L hd
  rw [hl] at hL
  have : c = 0 := by
    rcases Nat.eq_zero_or_pos c with h0 | h0
    · exact h0
    · have := Nat.mul_le_mul_right (b ^ xs.length) h0
      omega
  subst this; omega

/-- one group of a sum is laid: what is at k and what is carried to k + 1 -/
theorem plus_step {b : Nat} {L : List Nat} {ys : List Nat} {k a x : Nat} {V : Nat} (hk : k + 1 < L.length) (ha : L[k] + ys.getD k 0 = a) (hx : L[k + 1] = x) (h : ofd b L + b ^ k * ofd b (ys.drop k) = V) :
    ofd b (((L.set k a).set (k + 1) (x + a / b)).set k (a % b)) + b ^ (k + 1) * ofd b (ys.drop (k + 1)) = V := by
  have h1 := ofd_set b L k a (by omega)
  have h2 := ofd_set b (L.set k a) (k + 1) (x + a / b) (by simpa using hk)
  have h3 := ofd_set b ((L.set k a).set (k + 1) (x + a / b)) k (a % b) (by simp; omega)
  have e2 : (L.set k a)[k + 1]'(by simpa using hk) = x := by rw [List.getElem_set_ne (by omega)]; exact hx
  have e3 : ((L.set k a).set (k + 1) (x + a / b))[k]'(by simp; omega) = a := by rw [List.getElem_set_ne (by omega)]; simp
  rw [e2] at h2
  rw [e3] at h3
  have hdrop : ofd b (ys.drop k) = ys.getD k 0 + b * ofd b (ys.drop (k + 1)) := by
    by_cases hh : k < ys.length
    · rw [List.drop_eq_getElem_cons hh, List.getD_eq_getElem?_getD, List.getElem?_eq_getElem hh]; rfl
    · rw [List.drop_of_length_le (by omega), List.drop_of_length_le (by omega), List.getD_eq_getElem?_getD, List.getElem?_eq_none (by omega)]; simp [ofd]
  rw [hdrop] at h
  have hdm := Nat.div_add_mod a b
  generalize ofd b (ys.drop (k + 1)) = Y at *
  generalize ys.getD k 0 = yk at *
  rw [← ha] at h1
  generalize L[k] = lk at *
  rw [Nat.pow_succ] at h2 ⊢
  generalize b ^ k = p at *
  have e4 : p * a = p * b * (a / b) + p * (a % b) := by rw [Nat.mul_assoc, ← Nat.mul_add, hdm]
  rw [Nat.mul_add] at h1 h2
  rw [Nat.mul_add, ← Nat.mul_assoc] at h
  rw [← ha] at h2 h3 e4 ⊢
  rw [Nat.mul_add] at e4
  rw [Nat.mul_add] at h3
  omega

/-- .. and what is known of the groups below, at, and above it -/
theorem plus_inv {b : Nat} {L : List Nat} {k a' v u : Nat} (hk : k + 1 < L.length) (h1 : ∀ d ∈ L.take k, d < b) (h2 : ∀ d ∈ L.drop (k + 1), d < b) (ha : a' < b) (hv : v ≤ b) :
    (∀ d ∈ (((L.set k u).set (k + 1) v).set k a').take (k + 1), d < b) ∧ (∀ d ∈ (((L.set k u).set (k + 1) v).set k a').drop (k + 1 + 1), d < b) ∧ (((L.set k u).set (k + 1) v).set k a').getD (k + 1) 0 ≤ b := by
  refine ⟨?_, ?_, ?_⟩
  · rw [set_take (by simp; omega)]
    intro d hd
    rcases List.mem_append.1 hd with h | h
    · rw [List.take_set_of_le (by omega), List.take_set_of_le (Nat.le_refl k)] at h
      exact h1 d h
    · simp at h; omega
  · intro d hd
    rw [List.drop_set_of_lt (by omega), List.drop_set_of_lt (by omega), List.drop_set_of_lt (by omega)] at hd
    apply h2 d
    rw [show k + 1 + 1 = (k + 1) + 1 from rfl, ← List.drop_drop] at hd
    exact List.mem_of_mem_drop hd
  · rw [List.getD_eq_getElem?_getD, List.getElem?_set_ne (by omega), List.getElem?_set_self (by simpa using hk)]
    simpa using hv
theorem drop_at {b : Nat} {L : List Nat} {k : Nat} (hk : k + 1 < L.length) (h2 : ∀ d ∈ L.drop (k + 1), d < b) : L[k + 1] < b := by
  apply h2
  rw [show List.drop (k + 1) L = L[k + 1] :: List.drop (k + 1 + 1) L from List.drop_eq_getElem_cons hk]; exact List.mem_cons_self

theorem top_small {b : Nat} {L : List Nat} {n V : Nat} (hl : L.length = n + 1) (h : ofd b L = V) (hV : V < 2 * b ^ n) (hb : 2 ≤ b) : L[n] < b := by
  have h1 := ofd_ge b L n (by omega)
  rcases Nat.lt_or_ge L[n] b with h2 | h2
  · exact h2
  · have h3 : b ^ n * b ≤ b ^ n * L[n] := Nat.mul_le_mul_left _ h2
    have h4 : b ^ n * 2 ≤ b ^ n * b := Nat.mul_le_mul_left _ hb
    omega

/-- one group of a product is laid -/
theorem times_step {b : Nat} {L ys : List Nat} {i j c t xi yj P : Nat} (hk : i + j < L.length) (hy : ys.getD j 0 = yj) (ht : L[i + j] + xi * yj + c = t) (h : ofd b L + c * b ^ (i + j) = P + b ^ i * (xi * ofd b (ys.take j))) :
    ofd b (L.set (i + j) (t % b)) + (t / b) * b ^ (i + (j + 1)) = P + b ^ i * (xi * ofd b (ys.take (j + 1))) := by
  have h1 := ofd_set b L (i + j) (t % b) hk
  rw [take_step, hy, ← Nat.add_assoc, Nat.pow_succ]
  have hdm := Nat.div_add_mod t b
  generalize ofd b (L.set (i + j) (t % b)) = A at *
  generalize L[i + j] = lk at *
  have e1 : b ^ i * (xi * (ofd b (ys.take j) + b ^ j * yj)) = b ^ i * (xi * ofd b (ys.take j)) + b ^ (i + j) * (xi * yj) := by
    rw [Nat.mul_add, Nat.mul_add, Nat.pow_add]; congr 1
    rw [Nat.mul_left_comm xi, Nat.mul_assoc]
  rw [e1]
  generalize b ^ i * (xi * ofd b (ys.take j)) = Q at *
  generalize b ^ (i + j) = p at *
  have e2 : p * t = p * lk + p * (xi * yj) + p * c := by rw [← ht, Nat.mul_add, Nat.mul_add]
  have e3 : p * t = t / b * (p * b) + p * (t % b) := by
    have := congrArg (p * ·) hdm
    simp only [Nat.mul_add] at this
    rw [← this]; congr 1
    rw [Nat.mul_comm b (t / b), Nat.mul_left_comm]
  rw [Nat.mul_comm c p] at h
  omega

theorem times_row {b : Nat} {L xs ys : List Nat} {i m c : Nat} (hk : i + m < L.length) (hm : ys.length = m) (h0 : L[i + m] = 0) (h : ofd b L + c * b ^ (i + m) = ofd b (xs.take i) * ofd b ys + b ^ i * (xs.getD i 0 * ofd b (ys.take m))) :
    ofd b (L.set (i + m) c) = ofd b (xs.take (i + 1)) * ofd b ys := by
  have h1 := ofd_set b L (i + m) c hk
  rw [h0, Nat.mul_zero, Nat.add_zero] at h1
  rw [List.take_of_length_le (l := ys) (by omega)] at h
  rw [take_step, Nat.add_mul, h1, Nat.mul_assoc, ← h, Nat.mul_comm c]
end Go.Proofs.YtpbnmhnbkfnaeaaGreatDoor.Nt
namespace Go.Proofs.YtpbnmhnbkfnaeaaGreatDoor
open Go.RowKit Nt

theorem getD_at {l : List Nat} {k : Nat} (h : k < l.length) : l.getD k 0 = l[k] := by rw [List.getD_eq_getElem?_getD, List.getElem?_eq_getElem h]; rfl
theorem getD_past {l : List Nat} {k : Nat} (h : l.length ≤ k) : l.getD k 0 = 0 := by rw [List.getD_eq_getElem?_getD, List.getElem?_eq_none h]; rfl
/-- the cell of an owned row of words -/
theorem u64_cell {w : World} {base e : Nat} {p : Option Addr} {cap : Nat} {xs : List Nat} (h : w.ownsRow base e 1 (.slice p xs.length cap) xs.length (u64s xs)) (k : Nat) (hk : k < xs.length) : ∃ g, p = some ⟨g, 0, none⟩ ∧ w.cell? ⟨g, k, none⟩ = some (.int .u64 ((xs[k] : Nat) : Int)) := by
  obtain ⟨g, cap', hv, _⟩ := own_some h (by omega)
  simp only [Value.slice.injEq, true_and] at hv
  obtain ⟨rfl, rfl⟩ := hv
  have hc := h.cellAt k (by omega)
  rw [u64s_get _ _ hk] at hc
  exact ⟨g, rfl, hc⟩

theorem store_u {wr : World} {base e g N cap : Nat} {L : List Nat} (hown : wr.ownsRow base e 1 (.slice (some ⟨g, 0, none⟩) N cap) N (u64s L)) (k d : Nat) (v : Int) (hv : v = (d : Int)) :
    (wr.setCell ⟨g, k, none⟩ (.int .u64 v)).ownsRow base e 1 (.slice (some ⟨g, 0, none⟩) N cap) N (u64s (L.set k d)) := by
  have h := hown.stored k (.int .u64 v)
  rw [u64s_set _ _ d _ hv] at h
  exact h.1


set_option maxRecDepth 100000 in
set_option maxHeartbeats 4000000 in
theorem minus_c (x y : Nat) (v u : Value) (w : World) (hx : isNat w v x) (hy : isNat w u y) (hyx : y ≤ x) (hs : (gr x).length ≤ 1000000) :
    Calls Tryz.prog 209 #[v, u] w fun e w' => (∃ v', e = .returned v' ∧ isNatB w' w.heap.size v' (x - y)) ∧ Below w.heap.size w w' := by
  obtain ⟨i0, hi, hz0, hz1, hz2⟩ := info_parts Tryz.infoU64
  have hxd := gr_lt x
  have hyd := gr_lt y
  have hxo := gr_ofd x
  have hyo := gr_ofd y
  have hlen := gr_len_le hyx
  have hend := fun L c => @minus_end 1000000000 L (gr x) (gr y) c
  rw [hxo, hyo] at hend
  unfold isNat at hx hy
  generalize gr x = xs at *
  generalize gr y = ys at *
  obtain ⟨p, cap, rfl⟩ := own_slice hx
  obtain ⟨q, cap2, rfl⟩ := own_slice hy
  have Hxd := hide hxd
  have Hyd := hide hyd
  have Hx := hide hx
  have Hy := hide hy
  have Hend := hide hend
  clear hxd hyd hxo hyo hx hy hend
  go_enter Tryz.func209, Tryz.ntmps209
  go_wp2_with (refine wpList_make_full _ rfl (.tmp 10) (.tmp 10) 178 rfl w.heap.size 173 i0 (.int .u64 0) 1 Tryz.underlying178 hi hz0 hz1 .i64 .i64 xs.length xs.length xs.length rfl rfl rfl rfl (by rw [hz2]; omega) (by unfold maxLen; omega) (Nat.le_refl _) ?_; intro w1 hown1 hg1)
  go_loopw [6, 14] (fun ow i wr => ∃ (k c : Nat) (L : List Nat), k ≤ xs.length ∧ i = .int .i64 (k : Int) ∧ ow = .int .u64 (c : Int) ∧ c ≤ 1 ∧ L.length = xs.length ∧
      wr.ownsRow w.heap.size 173 1 (.slice (some ⟨w.heap.size, 0, none⟩) xs.length xs.length) xs.length (u64s L) ∧ Below w.heap.size w wr ∧
      Hid (∀ d ∈ L, d < 1000000000) ∧ Hid (ofd 1000000000 (L.take k) + ofd 1000000000 (ys.take k) = ofd 1000000000 (xs.take k) + c * 1000000000 ^ k))
    (fun _ i _ => (xs.length - intOf i).toNat)
  case atStart =>
    refine ⟨0, 0, List.replicate xs.length 0, Nat.zero_le _, rfl, rfl, by omega, by simp, ?_, (Below.refl _ _).grown hg1 (Nat.le_refl _) (fun _ h => by cases h), ?_, ?_⟩
    · simpa [Value.cells, toList_madeCells_one, u64s_zero] using hown1
    · intro d hd; simp at hd; omega
    · show _ = _; simp [ofd]
  case round =>
    clear hown1 hg1
    obtain ⟨k, c, L, hk, rfl, rfl, hc, hLl, hown, hb, hLd, hval⟩ := hrel
    by_cases hlt : k < xs.length
    · obtain ⟨g, rfl, hcx⟩ := u64_cell (own_below (unhide Hx) hb) k hlt
      have hxk : xs[k]'hlt < 1000000000 := unhide Hxd _ (List.getElem_mem _)
      obtain ⟨v0, hv0⟩ := own_cell_some hown k (by omega)
      have hfr := hown.frozenAt k
      have hstep := fun d c' => @minus_step 1000000000 L xs ys k c c' d (unhide hval) (by omega)
      rw [getD_at hlt] at hstep
      generalize xs[k]'hlt = xk at *
      have hkI : (k : Int) < xs.length := by omega
      by_cases hky : k < ys.length
      · obtain ⟨g2, rfl, hcy⟩ := u64_cell (own_below (unhide Hy) hb) k hky
        have hyk : ys[k]'hky < 1000000000 := unhide Hyd _ (List.getElem_mem _)
        rw [getD_at hky] at hstep
        generalize ys[k]'hky = yk at *
        have Hstep := hide hstep
        clear hstep
        have hkyI : (k : Int) < ys.length := by omega
        by_cases hge : xk < c + yk
        · skip
          -- xk + 1000000000 - (c + yk) the digit, 1 owed on
          go_wp2
          go_roundw
          case rel => exact ⟨k + 1, 1, L.set k (xk + 1000000000 - (c + yk)), by omega, by go_num, rfl, by omega, by simpa using hLl, store_u hown k (xk + 1000000000 - (c + yk)) _ (by omega), hb.setCell (by simp) _, set_all (unhide hLd) (by omega), unhide Hstep (xk + 1000000000 - (c + yk)) 1 (by omega)⟩
          case measure => simp [intOf]; omega
        · skip
          -- xk - (c + yk) the digit, 0 owed on
          go_wp2
          go_roundw
          case rel => exact ⟨k + 1, 0, L.set k (xk - (c + yk)), by omega, by go_num, rfl, by omega, by simpa using hLl, store_u hown k (xk - (c + yk)) _ (by omega), hb.setCell (by simp) _, set_all (unhide hLd) (by omega), unhide Hstep (xk - (c + yk)) 0 (by omega)⟩
          case measure => simp [intOf]; omega
      · rw [getD_past (by omega)] at hstep
        have Hstep := hide hstep
        clear hstep
        have hkyI : ¬ (k : Int) < ys.length := by omega
        by_cases hge : xk < c
        · skip
          -- xk + 1000000000 - c the digit, 1 owed on
          go_wp2
          go_roundw
          case rel => exact ⟨k + 1, 1, L.set k (xk + 1000000000 - c), by omega, by go_num, rfl, by omega, by simpa using hLl, store_u hown k (xk + 1000000000 - c) _ (by omega), hb.setCell (by simp) _, set_all (unhide hLd) (by omega), unhide Hstep (xk + 1000000000 - c) 1 (by omega)⟩
          case measure => simp [intOf]; omega
        · skip
          -- xk - c the digit, 0 owed on
          go_wp2
          go_roundw
          case rel => exact ⟨k + 1, 0, L.set k (xk - c), by omega, by go_num, rfl, by omega, by simpa using hLl, store_u hown k (xk - c) _ (by omega), hb.setCell (by simp) _, set_all (unhide hLd) (by omega), unhide Hstep (xk - c) 0 (by omega)⟩
          case measure => simp [intOf]; omega
    · have hkn : k = xs.length := by omega
      subst hkn
      have hfin := unhide Hend L c hLl hlen (unhide hLd) (unhide hval) hyx
      have Hfin := hide hfin
      clear hfin
      go_wp2_with fail
      refine (trimmed_n L w.heap.size _ _ (by omega) (unhide hLd) (by rw [hLl]; exact hown)).mono ?_
      rintro e w2 ⟨⟨v', rfl, hv'⟩, rfl⟩
      rw [unhide Hfin] at hv'
      go_wp2
      go_ret
      exact ⟨⟨v', rfl, hv'⟩, hb⟩
end Go.Proofs.YtpbnmhnbkfnaeaaGreatDoor
namespace Go.Proofs.YtpbnmhnbkfnaeaaGreatDoor
open Go.RowKit Nt

theorem pad_ofd' (b : Nat) (l : List Nat) (k : Nat) : ofd b (l ++ List.replicate k 0) = ofd b l := by rw [ofd_append, ofd_replicate_zero]; omega

theorem len_add (x y : Nat) (h : (gr y).length ≤ (gr x).length) : x + y < 2 * 1000000000 ^ (gr x).length := by
  have h1 := lt_pow_dg (b := 1000000000) (by omega) x
  have h2 := lt_pow_dg (b := 1000000000) (by omega) y
  have h3 : 1000000000 ^ (gr y).length ≤ 1000000000 ^ (gr x).length := Nat.pow_le_pow_right (by omega) h
  unfold gr at *
  omega

/-- the built-in copy, into a row that the call made -/
theorem copy_run {P : Program} {w w0 : World} {dT ty elem t : TypeId} {g B dLen dCap sLen sCap : Nat} {sp : Option Addr} {cur cs : List Value} (hu : P.underlying dT = some (.slice elem)) (hsz : (P.info? elem).map (·.size) = some 1)
    (hg : w.heap[g]? = some (.cells cur.toArray t (0, 0))) (hn : cs.length = Nat.min sLen dLen) (hpos : 0 < cs.length → ∃ ad, sp = some ad ∧ ∀ j v, cs[j]? = some v → w.cell? (ad.add j) = some v)
    (hfit : cs.length ≤ cur.length) (h1 : ∀ v ∈ cs, v.oneCell' = true) (hb : Below B w0 w) (hBg : B ≤ g) :
    ∃ w', (Builtin.copy_ #[dT, dT] ty #[.slice (some ⟨g, 0, none⟩) dLen dCap, .slice sp sLen sCap]).run P w = .ok (.int .i64 (cs.length : Int)) w' ∧ w'.heap[g]? = some (.cells (splice cur 0 cs).toArray t (0, 0)) ∧ Below B w0 w' := by
  by_cases h0 : cs.length = 0
  · obtain rfl : cs = [] := List.eq_nil_of_length_eq_zero h0
    exact ⟨w, run_copy_none w dT dT ty elem _ _ _ _ _ _ hu hsz (by simpa using hn.symm), by simpa [splice] using hg, hb⟩
  · obtain ⟨ad, rfl, hsrc⟩ := hpos (by omega)
    refine ⟨_, run_copy_row (P := P) w dT dT ty elem g 0 dLen dCap ad sLen sCap cur.toArray t cs hu hsz hg hn hsrc (by simpa using hfit) h1, ?_, below_setRow hb hBg _⟩
    have hh := setRow_heap w g cur.toArray (cur.toArray.toList.take 0 ++ cs ++ cur.toArray.toList.drop (0 + cs.length)).toArray t (0, 0) hg
    simpa [splice] using hh


set_option maxRecDepth 100000 in
set_option maxHeartbeats 4000000 in
theorem plus_long (x y : Nat) (v u : Value) (w : World) (hx : isNat w v x) (hy : isNat w u y) (hl : (gr y).length ≤ (gr x).length) (hs : (gr x).length ≤ 1000000) :
    Calls Tryz.prog 208 #[v, u] w fun e w' => (∃ v', e = .returned v' ∧ isNatB w' w.heap.size v' (x + y)) ∧ Below w.heap.size w w' := by
  obtain ⟨i0, hi, hz0, hz1, hz2⟩ := info_parts Tryz.infoU64
  have hxd := gr_lt x
  have hyd := gr_lt y
  have hxo := gr_ofd x
  have hyo := gr_ofd y
  have hV := len_add x y hl
  unfold isNat at hx hy
  generalize gr x = xs at *
  generalize gr y = ys at *
  obtain ⟨p, cap, rfl⟩ := own_slice hx
  obtain ⟨q, cap2, rfl⟩ := own_slice hy
  have h2cells := fun g cap' (h : Value.slice p xs.length cap = .slice (some ⟨g, 0, none⟩) xs.length cap') (w1 : World) (hb : Below w.heap.size w w1) => (h ▸ own_below hx hb : w1.ownsRow 0 173 1 (.slice (some ⟨g, 0, none⟩) xs.length cap') xs.length (u64s xs)).cells (g := g) rfl
  have Hxd := hide hxd
  have Hyd := hide hyd
  have Hx := hide hx
  have Hy := hide hy
  have HV := hide hV
  have Hxo := hide hxo
  have Hyo := hide hyo
  have hnl : ¬ (xs.length : Int) < ys.length := by omega
  clear hxd hyd hxo hyo hx hy hV
  go_enter Tryz.func208, Tryz.ntmps208
  -- $1 the longer's value, $2 its capacity's name
  go_wp2_with (refine wpList_make_full _ rfl (.tmp 16) (.tmp 16) 178 rfl w.heap.size 173 i0 (.int .u64 0) 1 Tryz.underlying178 hi hz0 hz1 .i64 .i64 (xs.length + 1) (xs.length + 1) (xs.length + 1) rfl rfl (by go_num) (by go_num) (by rw [hz2]; omega) (by unfold maxLen; omega) (Nat.le_refl _) ?_; intro w1 hown1 hg1)
  have hb1 : Below w.heap.size w w1 := (Below.refl _ _).grown hg1 (Nat.le_refl _) (fun _ h => by cases h)
  have hown1' : w1.ownsRow w.heap.size 173 1 (.slice (some ⟨w.heap.size, 0, none⟩) (xs.length + 1) (xs.length + 1)) (xs.length + 1) (u64s (List.replicate (xs.length + 1) 0)) := by
    simpa [Value.cells, toList_madeCells_one, u64s_zero] using hown1
  have hblk := own_block_full hown1'
  have Hblk := hide hblk
  have hpos : 0 < (u64s xs).length → ∃ ad, p = some ad ∧ ∀ j v, (u64s xs)[j]? = some v → w1.cell? (ad.add j) = some v := by
    intro h
    obtain ⟨g, cap', hh, _⟩ := own_some (unhide Hx) (by rwa [u64s_length] at h)
    have h2 := (h2cells g cap' hh w1 hb1)
    simp only [Value.slice.injEq, true_and] at hh
    exact ⟨_, hh.1, h2⟩
  have Hpos := hide hpos
  clear hown1 hg1 hown1' hblk hpos
  obtain ⟨w2, hcopy, hg2, hb2⟩ := copy_run (P := Tryz.prog) (dT := 178) (ty := 3) (elem := 173) (sp := p) (sLen := xs.length) (sCap := cap) (dLen := xs.length + 1) (dCap := xs.length + 1) (cs := u64s xs) Tryz.underlying178 (by simp [hi, hz1]) (unhide Hblk) (by rw [u64s_length]; exact (Nat.min_eq_left (by omega)).symm) (unhide Hpos) (by simp [u64s]) (u64s_one _) hb1 (Nat.le_refl _)
  have hrow : splice (u64s (List.replicate (xs.length + 1) 0)) 0 (u64s xs) = u64s (xs ++ [0]) := by
    unfold splice
    rw [List.take_zero, List.nil_append, Nat.zero_add, u64s_length, ← u64s_drop, List.drop_replicate, u64s_append, show xs.length + 1 - xs.length = 1 from by omega]
    rfl
  rw [hrow] at hg2
  rw [u64s_length] at hcopy
  have hownL := own_of_block_full (base := w.heap.size) (n := xs.length + 1) hg2 (by rw [u64s_length]; simp) (by unfold maxLen; omega) (Nat.le_refl _)
  have HownL := hide hownL
  have Hb2 := hide hb2
  clear hrow hg2 hownL hb2 hb1 Hblk Hpos h2cells
  rw [hcopy]; simp only [Result.andThen]; rw [Oper.upon_value]
  clear hcopy
  go_wp2
  go_loopw [23] (fun i wr => ∃ (k : Nat) (L : List Nat), k ≤ xs.length ∧ i = .int .i64 (k : Int) ∧ L.length = xs.length + 1 ∧
      wr.ownsRow w.heap.size 173 1 (.slice (some ⟨w.heap.size, 0, none⟩) (xs.length + 1) (xs.length + 1)) (xs.length + 1) (u64s L) ∧ Below w.heap.size w wr ∧
      Hid (∀ d ∈ L.take k, d < 1000000000) ∧ Hid (∀ d ∈ L.drop (k + 1), d < 1000000000) ∧ L.getD k 0 ≤ 1000000000 ∧ Hid (ofd 1000000000 L + 1000000000 ^ k * ofd 1000000000 (ys.drop k) = x + y))
    (fun i _ => (xs.length - intOf i).toNat)
  case atStart =>
    refine ⟨0, xs ++ [0], Nat.zero_le _, rfl, by simp, unhide HownL, unhide Hb2, by show ∀ d ∈ _, _; simp, ?_, ?_, ?_⟩
    · intro d hd
      have := List.mem_of_mem_drop hd
      rcases List.mem_append.1 this with h | h
      · exact unhide Hxd d h
      · simp at h; omega
    · cases xs with
      | nil => simp
      | cons a r => have := unhide Hxd a (by simp); simp; omega
    · show _ = _
      rw [show [0] = List.replicate 1 0 from rfl, pad_ofd', List.drop_zero, unhide Hxo, unhide Hyo, Nat.pow_zero, Nat.one_mul]
  case round =>
    clear HownL Hb2
    obtain ⟨k, L, hk, rfl, hLl, hown, hb, hLt, hLd, hLk, hval⟩ := hrel
    by_cases hlt : k < xs.length
    · have hk1 : k + 1 < L.length := by omega
      have hx1 := drop_at hk1 (unhide hLd)
      have hc0 := hown.cellAt k (by omega)
      rw [u64s_get _ _ (by omega)] at hc0
      have hc1 := hown.cellAt (k + 1) (by omega)
      rw [u64s_get _ _ hk1] at hc1
      have hf0 := hown.frozenAt k
      have hf1 := hown.frozenAt (k + 1)
      rw [getD_at (by omega)] at hLk
      have hstep := fun a => @plus_step 1000000000 L ys k a L[k + 1] (x + y) hk1
      obtain ⟨a0, ha0⟩ : ∃ a0, L[k]'(by omega) = a0 := ⟨_, rfl⟩
      obtain ⟨x1, hx1e⟩ : ∃ x1, L[k + 1]'hk1 = x1 := ⟨_, rfl⟩
      rw [ha0] at hc0 hLk hstep
      rw [hx1e] at hc1 hx1 hstep
      have Hstep := hide hstep
      have Ha0 := hide ha0
      have hx1e' := hx1e
      have hkI : (k : Int) < xs.length := by omega
      clear hstep ha0 hx1e
      have Hx1e := hide hx1e'
      clear hx1e'
      by_cases hky : k < ys.length
      · obtain ⟨g2, rfl, hcy⟩ := u64_cell (own_below (unhide Hy) hb) k hky
        have hyk : ys[k]'hky < 1000000000 := unhide Hyd _ (List.getElem_mem _)
        obtain ⟨yk, hye⟩ : ∃ yk, ys[k]'hky = yk := ⟨_, rfl⟩
        rw [hye] at hcy hyk
        have Hye := hide hye
        clear hye
        have hkyI : (k : Int) < ys.length := by omega
        obtain ⟨a, ha⟩ : ∃ a : Nat, a0 + yk = a := ⟨_, rfl⟩
        have hIa : (a0 : Int) + yk = a := by omega
        have ha2 : a ≤ 1999999999 := by omega
        have e1 := wu64 (a : Int) (by omega) (by omega)
        have Haa : Hid (a0 + ys.getD k 0 = a) := by show _ = _; rw [getD_at hky, unhide Hye]; exact ha
        have hown1 := store_u hown k a (a : Int) rfl
        have Hown1 := hide (show ((wr.setCell ⟨w.heap.size, k, none⟩ (.int .u64 (a : Int))).drew).ownsRow w.heap.size 173 1 (.slice (some ⟨w.heap.size, 0, none⟩) (xs.length + 1) (xs.length + 1)) (xs.length + 1) (u64s (L.set k a)) from hown1)
        have Hb1 := hide ((hb.setCell (p := ⟨w.heap.size, k, none⟩) (Nat.le_refl _) (.int .u64 (a : Int))).drew)
        clear ha hown1 hown hb
        go_wp2
        go_region
        clear hc0 hc1 hf0 hf1 hcy hIa e1
        generalize (wr.setCell ⟨w.heap.size, k, none⟩ (.int .u64 (a : Int))).drew = W1 at *
        -- behind the first store: the group a stands at k in W1; what is carried is laid at k + 1
        have hL1 : (L.set k a).length = xs.length + 1 := by simpa using hLl
        have hc0 := (unhide Hown1).cellAt k (by omega)
        rw [u64s_get _ _ (by omega), List.getElem_set_self] at hc0
        have hc1 := (unhide Hown1).cellAt (k + 1) (by omega)
        rw [u64s_get _ _ (by simpa using hk1), List.getElem_set_ne (by omega), unhide Hx1e] at hc1
        have hf0 := (unhide Hown1).frozenAt k
        have hf1 := (unhide Hown1).frozenAt (k + 1)
        obtain ⟨q9, hq9⟩ : ∃ q9, a / 1000000000 = q9 := ⟨_, rfl⟩
        have hq9' : q9 ≤ 1 := by omega
        have e2 : (a : Int).tdiv 1000000000 = q9 := by rw [Int.tdiv_eq_ediv_of_nonneg (by omega)]; omega
        have e3 := wu64 (q9 : Int) (by omega) (by omega)
        have e4 := wu64 ((x1 : Int) + q9) (by omega) (by omega)
        have hstep := unhide Hstep a (unhide Haa) (by first | trivial | rfl) (unhide hval)
        rw [hq9] at hstep
        have hinv := @plus_inv 1000000000 L k (a % 1000000000) (x1 + q9) a hk1 (unhide hLt) (unhide hLd) (Nat.mod_lt _ (by omega)) (by omega)
        have hown2 := store_u (unhide Hown1) (k + 1) (x1 + q9) ((x1 : Int) + q9) (by omega)
        have Hinv := hide hinv
        have Hstep2 := hide hstep
        have Hown2 := hide hown2
        clear hstep hinv hown2
        go_wp2
        go_region
        clear hc0 hc1 hf0 hf1 e2 e3 e4
        have hb2 := ((unhide Hb1).setCell (p := ⟨w.heap.size, k + 1, none⟩) (Nat.le_refl _) (.int .u64 ((x1 : Int) + q9))).drew
        have hown2 : (World.drew (World.setCell _ ⟨w.heap.size, k + 1, none⟩ (.int .u64 ((x1 : Int) + q9)))).ownsRow w.heap.size 173 1 (.slice (some ⟨w.heap.size, 0, none⟩) (xs.length + 1) (xs.length + 1)) (xs.length + 1) (u64s ((L.set k a).set (k + 1) (x1 + q9))) := unhide Hown2
        have hc0 := hown2.cellAt k (by omega)
        rw [u64s_get _ _ (by simp; omega), List.getElem_set_ne (by omega), List.getElem_set_self] at hc0
        have hf0 := hown2.frozenAt k
        have hown3 := store_u hown2 k (a % 1000000000) ((a : Int) % 1000000000) (by omega)
        have Hown3 := hide hown3
        have Hb2 := hide hb2
        clear hown2 hown3 hb2
        go_wp2
        go_roundw
        case rel => exact ⟨k + 1, _, by omega, by go_num, by simpa using hLl, unhide Hown3, (unhide Hb2).setCell (Nat.le_refl _) _, (unhide Hinv).1, (unhide Hinv).2.1, (unhide Hinv).2.2, Hstep2⟩
        case measure => simp [intOf]; omega
      · obtain ⟨a, ha⟩ : ∃ a : Nat, a0 = a := ⟨_, rfl⟩
        have ha2 : a ≤ 1999999999 := by omega
        have Haa : Hid (a0 + ys.getD k 0 = a) := by show _ = _; rw [getD_past (by omega)]; exact ha
        have hLs : L.set k a = L := by rw [← ha, ← unhide Ha0]; exact List.set_getElem_self (by omega)
        have Hown1 := hide (show wr.ownsRow w.heap.size 173 1 (.slice (some ⟨w.heap.size, 0, none⟩) (xs.length + 1) (xs.length + 1)) (xs.length + 1) (u64s (L.set k a)) from by rw [hLs]; exact hown)
        have Hb1 := hide hb
        have hkyI : ¬ (k : Int) < ys.length := by omega
        clear ha hown hb hLs hc0 hc1 hf0 hf1
        obtain ⟨W1, hW1⟩ : ∃ W1, wr = W1 := ⟨_, rfl⟩
        subst hW1
        -- behind the first store: the group a stands at k in W1; what is carried is laid at k + 1
        have hL1 : (L.set k a).length = xs.length + 1 := by simpa using hLl
        have hc0 := (unhide Hown1).cellAt k (by omega)
        rw [u64s_get _ _ (by omega), List.getElem_set_self] at hc0
        have hc1 := (unhide Hown1).cellAt (k + 1) (by omega)
        rw [u64s_get _ _ (by simpa using hk1), List.getElem_set_ne (by omega), unhide Hx1e] at hc1
        have hf0 := (unhide Hown1).frozenAt k
        have hf1 := (unhide Hown1).frozenAt (k + 1)
        obtain ⟨q9, hq9⟩ : ∃ q9, a / 1000000000 = q9 := ⟨_, rfl⟩
        have hq9' : q9 ≤ 1 := by omega
        have e2 : (a : Int).tdiv 1000000000 = q9 := by rw [Int.tdiv_eq_ediv_of_nonneg (by omega)]; omega
        have e3 := wu64 (q9 : Int) (by omega) (by omega)
        have e4 := wu64 ((x1 : Int) + q9) (by omega) (by omega)
        have hstep := unhide Hstep a (unhide Haa) (by first | trivial | rfl) (unhide hval)
        rw [hq9] at hstep
        have hinv := @plus_inv 1000000000 L k (a % 1000000000) (x1 + q9) a hk1 (unhide hLt) (unhide hLd) (Nat.mod_lt _ (by omega)) (by omega)
        have hown2 := store_u (unhide Hown1) (k + 1) (x1 + q9) ((x1 : Int) + q9) (by omega)
        have Hinv := hide hinv
        have Hstep2 := hide hstep
        have Hown2 := hide hown2
        clear hstep hinv hown2
        go_wp2
        go_region
        clear hc0 hc1 hf0 hf1 e2 e3 e4
        have hb2 := ((unhide Hb1).setCell (p := ⟨w.heap.size, k + 1, none⟩) (Nat.le_refl _) (.int .u64 ((x1 : Int) + q9))).drew
        have hown2 : (World.drew (World.setCell _ ⟨w.heap.size, k + 1, none⟩ (.int .u64 ((x1 : Int) + q9)))).ownsRow w.heap.size 173 1 (.slice (some ⟨w.heap.size, 0, none⟩) (xs.length + 1) (xs.length + 1)) (xs.length + 1) (u64s ((L.set k a).set (k + 1) (x1 + q9))) := unhide Hown2
        have hc0 := hown2.cellAt k (by omega)
        rw [u64s_get _ _ (by simp; omega), List.getElem_set_ne (by omega), List.getElem_set_self] at hc0
        have hf0 := hown2.frozenAt k
        have hown3 := store_u hown2 k (a % 1000000000) ((a : Int) % 1000000000) (by omega)
        have Hown3 := hide hown3
        have Hb2 := hide hb2
        clear hown2 hown3 hb2
        go_wp2
        go_roundw
        case rel => exact ⟨k + 1, _, by omega, by go_num, by simpa using hLl, unhide Hown3, (unhide Hb2).setCell (Nat.le_refl _) _, (unhide Hinv).1, (unhide Hinv).2.1, (unhide Hinv).2.2, Hstep2⟩
        case measure => simp [intOf]; omega
    · have hkn : k = xs.length := by omega
      subst hkn
      have hval' := unhide hval
      rw [List.drop_of_length_le (by omega)] at hval'
      have hval2 : ofd 1000000000 L = x + y := by simpa [ofd] using hval'
      have htop := top_small hLl hval2 (unhide HV) (by omega)
      have hall : ∀ d ∈ L, d < 1000000000 := by
        intro d hd
        obtain ⟨j, hj, rfl⟩ := List.getElem_of_mem hd
        by_cases hjn : j = xs.length
        · subst hjn; exact htop
        · exact unhide hLt _ (by rw [List.mem_take_iff_getElem]; exact ⟨j, by omega, rfl⟩)
      have Hall := hide hall
      have Hv2 := hide hval2
      clear hval' hval2 htop hall
      go_wp2_with fail
      refine (trimmed_n L w.heap.size _ _ (by omega) (unhide Hall) (by rw [hLl]; exact hown)).mono ?_
      rintro e w2 ⟨⟨v', rfl, hv'⟩, rfl⟩
      rw [unhide Hv2] at hv'
      go_wp2
      go_ret
      exact ⟨⟨v', rfl, hv'⟩, hb⟩
set_option maxRecDepth 100000 in
set_option maxHeartbeats 4000000 in
theorem plus_short (x y : Nat) (v u : Value) (w : World) (hx : isNat w v x) (hy : isNat w u y) (hl : (gr y).length < (gr x).length) (hs : (gr x).length ≤ 1000000) :
    Calls Tryz.prog 208 #[u, v] w fun e w' => (∃ v', e = .returned v' ∧ isNatB w' w.heap.size v' (x + y)) ∧ Below w.heap.size w w' := by
  obtain ⟨i0, hi, hz0, hz1, hz2⟩ := info_parts Tryz.infoU64
  have hxd := gr_lt x
  have hyd := gr_lt y
  have hxo := gr_ofd x
  have hyo := gr_ofd y
  have hV := len_add x y (by omega)
  unfold isNat at hx hy
  generalize gr x = xs at *
  generalize gr y = ys at *
  obtain ⟨p, cap, rfl⟩ := own_slice hx
  obtain ⟨q, cap2, rfl⟩ := own_slice hy
  have h2cells := fun g cap' (h : Value.slice p xs.length cap = .slice (some ⟨g, 0, none⟩) xs.length cap') (w1 : World) (hb : Below w.heap.size w w1) => (h ▸ own_below hx hb : w1.ownsRow 0 173 1 (.slice (some ⟨g, 0, none⟩) xs.length cap') xs.length (u64s xs)).cells (g := g) rfl
  have Hxd := hide hxd
  have Hyd := hide hyd
  have Hx := hide hx
  have Hy := hide hy
  have HV := hide hV
  have Hxo := hide hxo
  have Hyo := hide hyo
  have hnl : (ys.length : Int) < xs.length := by omega
  clear hxd hyd hxo hyo hx hy hV
  go_enter Tryz.func208, Tryz.ntmps208
  -- $1 the longer's value, $2 its capacity's name
  go_wp2_with (refine wpList_make_full _ rfl (.tmp 16) (.tmp 16) 178 rfl w.heap.size 173 i0 (.int .u64 0) 1 Tryz.underlying178 hi hz0 hz1 .i64 .i64 (xs.length + 1) (xs.length + 1) (xs.length + 1) rfl rfl (by go_num) (by go_num) (by rw [hz2]; omega) (by unfold maxLen; omega) (Nat.le_refl _) ?_; intro w1 hown1 hg1)
  have hb1 : Below w.heap.size w w1 := (Below.refl _ _).grown hg1 (Nat.le_refl _) (fun _ h => by cases h)
  have hown1' : w1.ownsRow w.heap.size 173 1 (.slice (some ⟨w.heap.size, 0, none⟩) (xs.length + 1) (xs.length + 1)) (xs.length + 1) (u64s (List.replicate (xs.length + 1) 0)) := by
    simpa [Value.cells, toList_madeCells_one, u64s_zero] using hown1
  have hblk := own_block_full hown1'
  have Hblk := hide hblk
  have hpos : 0 < (u64s xs).length → ∃ ad, p = some ad ∧ ∀ j v, (u64s xs)[j]? = some v → w1.cell? (ad.add j) = some v := by
    intro h
    obtain ⟨g, cap', hh, _⟩ := own_some (unhide Hx) (by rwa [u64s_length] at h)
    have h2 := (h2cells g cap' hh w1 hb1)
    simp only [Value.slice.injEq, true_and] at hh
    exact ⟨_, hh.1, h2⟩
  have Hpos := hide hpos
  clear hown1 hg1 hown1' hblk hpos
  obtain ⟨w2, hcopy, hg2, hb2⟩ := copy_run (P := Tryz.prog) (dT := 178) (ty := 3) (elem := 173) (sp := p) (sLen := xs.length) (sCap := cap) (dLen := xs.length + 1) (dCap := xs.length + 1) (cs := u64s xs) Tryz.underlying178 (by simp [hi, hz1]) (unhide Hblk) (by rw [u64s_length]; exact (Nat.min_eq_left (by omega)).symm) (unhide Hpos) (by simp [u64s]) (u64s_one _) hb1 (Nat.le_refl _)
  have hrow : splice (u64s (List.replicate (xs.length + 1) 0)) 0 (u64s xs) = u64s (xs ++ [0]) := by
    unfold splice
    rw [List.take_zero, List.nil_append, Nat.zero_add, u64s_length, ← u64s_drop, List.drop_replicate, u64s_append, show xs.length + 1 - xs.length = 1 from by omega]
    rfl
  rw [hrow] at hg2
  rw [u64s_length] at hcopy
  have hownL := own_of_block_full (base := w.heap.size) (n := xs.length + 1) hg2 (by rw [u64s_length]; simp) (by unfold maxLen; omega) (Nat.le_refl _)
  have HownL := hide hownL
  have Hb2 := hide hb2
  clear hrow hg2 hownL hb2 hb1 Hblk Hpos h2cells
  rw [hcopy]; simp only [Result.andThen]; rw [Oper.upon_value]
  clear hcopy
  go_wp2
  go_loopw [23] (fun i wr => ∃ (k : Nat) (L : List Nat), k ≤ xs.length ∧ i = .int .i64 (k : Int) ∧ L.length = xs.length + 1 ∧
      wr.ownsRow w.heap.size 173 1 (.slice (some ⟨w.heap.size, 0, none⟩) (xs.length + 1) (xs.length + 1)) (xs.length + 1) (u64s L) ∧ Below w.heap.size w wr ∧
      Hid (∀ d ∈ L.take k, d < 1000000000) ∧ Hid (∀ d ∈ L.drop (k + 1), d < 1000000000) ∧ L.getD k 0 ≤ 1000000000 ∧ Hid (ofd 1000000000 L + 1000000000 ^ k * ofd 1000000000 (ys.drop k) = x + y))
    (fun i _ => (xs.length - intOf i).toNat)
  case atStart =>
    refine ⟨0, xs ++ [0], Nat.zero_le _, rfl, by simp, unhide HownL, unhide Hb2, by show ∀ d ∈ _, _; simp, ?_, ?_, ?_⟩
    · intro d hd
      have := List.mem_of_mem_drop hd
      rcases List.mem_append.1 this with h | h
      · exact unhide Hxd d h
      · simp at h; omega
    · cases xs with
      | nil => simp
      | cons a r => have := unhide Hxd a (by simp); simp; omega
    · show _ = _
      rw [show [0] = List.replicate 1 0 from rfl, pad_ofd', List.drop_zero, unhide Hxo, unhide Hyo, Nat.pow_zero, Nat.one_mul]
  case round =>
    clear HownL Hb2
    obtain ⟨k, L, hk, rfl, hLl, hown, hb, hLt, hLd, hLk, hval⟩ := hrel
    by_cases hlt : k < xs.length
    · have hk1 : k + 1 < L.length := by omega
      have hx1 := drop_at hk1 (unhide hLd)
      have hc0 := hown.cellAt k (by omega)
      rw [u64s_get _ _ (by omega)] at hc0
      have hc1 := hown.cellAt (k + 1) (by omega)
      rw [u64s_get _ _ hk1] at hc1
      have hf0 := hown.frozenAt k
      have hf1 := hown.frozenAt (k + 1)
      rw [getD_at (by omega)] at hLk
      have hstep := fun a => @plus_step 1000000000 L ys k a L[k + 1] (x + y) hk1
      obtain ⟨a0, ha0⟩ : ∃ a0, L[k]'(by omega) = a0 := ⟨_, rfl⟩
      obtain ⟨x1, hx1e⟩ : ∃ x1, L[k + 1]'hk1 = x1 := ⟨_, rfl⟩
      rw [ha0] at hc0 hLk hstep
      rw [hx1e] at hc1 hx1 hstep
      have Hstep := hide hstep
      have Ha0 := hide ha0
      have hx1e' := hx1e
      have hkI : (k : Int) < xs.length := by omega
      clear hstep ha0 hx1e
      have Hx1e := hide hx1e'
      clear hx1e'
      by_cases hky : k < ys.length
      · obtain ⟨g2, rfl, hcy⟩ := u64_cell (own_below (unhide Hy) hb) k hky
        have hyk : ys[k]'hky < 1000000000 := unhide Hyd _ (List.getElem_mem _)
        obtain ⟨yk, hye⟩ : ∃ yk, ys[k]'hky = yk := ⟨_, rfl⟩
        rw [hye] at hcy hyk
        have Hye := hide hye
        clear hye
        have hkyI : (k : Int) < ys.length := by omega
        obtain ⟨a, ha⟩ : ∃ a : Nat, a0 + yk = a := ⟨_, rfl⟩
        have hIa : (a0 : Int) + yk = a := by omega
        have ha2 : a ≤ 1999999999 := by omega
        have e1 := wu64 (a : Int) (by omega) (by omega)
        have Haa : Hid (a0 + ys.getD k 0 = a) := by show _ = _; rw [getD_at hky, unhide Hye]; exact ha
        have hown1 := store_u hown k a (a : Int) rfl
        have Hown1 := hide (show ((wr.setCell ⟨w.heap.size, k, none⟩ (.int .u64 (a : Int))).drew).ownsRow w.heap.size 173 1 (.slice (some ⟨w.heap.size, 0, none⟩) (xs.length + 1) (xs.length + 1)) (xs.length + 1) (u64s (L.set k a)) from hown1)
        have Hb1 := hide ((hb.setCell (p := ⟨w.heap.size, k, none⟩) (Nat.le_refl _) (.int .u64 (a : Int))).drew)
        clear ha hown1 hown hb
        go_wp2
        go_region
        clear hc0 hc1 hf0 hf1 hcy hIa e1
        generalize (wr.setCell ⟨w.heap.size, k, none⟩ (.int .u64 (a : Int))).drew = W1 at *
        -- behind the first store: the group a stands at k in W1; what is carried is laid at k + 1
        have hL1 : (L.set k a).length = xs.length + 1 := by simpa using hLl
        have hc0 := (unhide Hown1).cellAt k (by omega)
        rw [u64s_get _ _ (by omega), List.getElem_set_self] at hc0
        have hc1 := (unhide Hown1).cellAt (k + 1) (by omega)
        rw [u64s_get _ _ (by simpa using hk1), List.getElem_set_ne (by omega), unhide Hx1e] at hc1
        have hf0 := (unhide Hown1).frozenAt k
        have hf1 := (unhide Hown1).frozenAt (k + 1)
        obtain ⟨q9, hq9⟩ : ∃ q9, a / 1000000000 = q9 := ⟨_, rfl⟩
        have hq9' : q9 ≤ 1 := by omega
        have e2 : (a : Int).tdiv 1000000000 = q9 := by rw [Int.tdiv_eq_ediv_of_nonneg (by omega)]; omega
        have e3 := wu64 (q9 : Int) (by omega) (by omega)
        have e4 := wu64 ((x1 : Int) + q9) (by omega) (by omega)
        have hstep := unhide Hstep a (unhide Haa) (by first | trivial | rfl) (unhide hval)
        rw [hq9] at hstep
        have hinv := @plus_inv 1000000000 L k (a % 1000000000) (x1 + q9) a hk1 (unhide hLt) (unhide hLd) (Nat.mod_lt _ (by omega)) (by omega)
        have hown2 := store_u (unhide Hown1) (k + 1) (x1 + q9) ((x1 : Int) + q9) (by omega)
        have Hinv := hide hinv
        have Hstep2 := hide hstep
        have Hown2 := hide hown2
        clear hstep hinv hown2
        go_wp2
        go_region
        clear hc0 hc1 hf0 hf1 e2 e3 e4
        have hb2 := ((unhide Hb1).setCell (p := ⟨w.heap.size, k + 1, none⟩) (Nat.le_refl _) (.int .u64 ((x1 : Int) + q9))).drew
        have hown2 : (World.drew (World.setCell _ ⟨w.heap.size, k + 1, none⟩ (.int .u64 ((x1 : Int) + q9)))).ownsRow w.heap.size 173 1 (.slice (some ⟨w.heap.size, 0, none⟩) (xs.length + 1) (xs.length + 1)) (xs.length + 1) (u64s ((L.set k a).set (k + 1) (x1 + q9))) := unhide Hown2
        have hc0 := hown2.cellAt k (by omega)
        rw [u64s_get _ _ (by simp; omega), List.getElem_set_ne (by omega), List.getElem_set_self] at hc0
        have hf0 := hown2.frozenAt k
        have hown3 := store_u hown2 k (a % 1000000000) ((a : Int) % 1000000000) (by omega)
        have Hown3 := hide hown3
        have Hb2 := hide hb2
        clear hown2 hown3 hb2
        go_wp2
        go_roundw
        case rel => exact ⟨k + 1, _, by omega, by go_num, by simpa using hLl, unhide Hown3, (unhide Hb2).setCell (Nat.le_refl _) _, (unhide Hinv).1, (unhide Hinv).2.1, (unhide Hinv).2.2, Hstep2⟩
        case measure => simp [intOf]; omega
      · obtain ⟨a, ha⟩ : ∃ a : Nat, a0 = a := ⟨_, rfl⟩
        have ha2 : a ≤ 1999999999 := by omega
        have Haa : Hid (a0 + ys.getD k 0 = a) := by show _ = _; rw [getD_past (by omega)]; exact ha
        have hLs : L.set k a = L := by rw [← ha, ← unhide Ha0]; exact List.set_getElem_self (by omega)
        have Hown1 := hide (show wr.ownsRow w.heap.size 173 1 (.slice (some ⟨w.heap.size, 0, none⟩) (xs.length + 1) (xs.length + 1)) (xs.length + 1) (u64s (L.set k a)) from by rw [hLs]; exact hown)
        have Hb1 := hide hb
        have hkyI : ¬ (k : Int) < ys.length := by omega
        clear ha hown hb hLs hc0 hc1 hf0 hf1
        obtain ⟨W1, hW1⟩ : ∃ W1, wr = W1 := ⟨_, rfl⟩
        subst hW1
        -- behind the first store: the group a stands at k in W1; what is carried is laid at k + 1
        have hL1 : (L.set k a).length = xs.length + 1 := by simpa using hLl
        have hc0 := (unhide Hown1).cellAt k (by omega)
        rw [u64s_get _ _ (by omega), List.getElem_set_self] at hc0
        have hc1 := (unhide Hown1).cellAt (k + 1) (by omega)
        rw [u64s_get _ _ (by simpa using hk1), List.getElem_set_ne (by omega), unhide Hx1e] at hc1
        have hf0 := (unhide Hown1).frozenAt k
        have hf1 := (unhide Hown1).frozenAt (k + 1)
        obtain ⟨q9, hq9⟩ : ∃ q9, a / 1000000000 = q9 := ⟨_, rfl⟩
        have hq9' : q9 ≤ 1 := by omega
        have e2 : (a : Int).tdiv 1000000000 = q9 := by rw [Int.tdiv_eq_ediv_of_nonneg (by omega)]; omega
        have e3 := wu64 (q9 : Int) (by omega) (by omega)
        have e4 := wu64 ((x1 : Int) + q9) (by omega) (by omega)
        have hstep := unhide Hstep a (unhide Haa) (by first | trivial | rfl) (unhide hval)
        rw [hq9] at hstep
        have hinv := @plus_inv 1000000000 L k (a % 1000000000) (x1 + q9) a hk1 (unhide hLt) (unhide hLd) (Nat.mod_lt _ (by omega)) (by omega)
        have hown2 := store_u (unhide Hown1) (k + 1) (x1 + q9) ((x1 : Int) + q9) (by omega)
        have Hinv := hide hinv
        have Hstep2 := hide hstep
        have Hown2 := hide hown2
        clear hstep hinv hown2
        go_wp2
        go_region
        clear hc0 hc1 hf0 hf1 e2 e3 e4
        have hb2 := ((unhide Hb1).setCell (p := ⟨w.heap.size, k + 1, none⟩) (Nat.le_refl _) (.int .u64 ((x1 : Int) + q9))).drew
        have hown2 : (World.drew (World.setCell _ ⟨w.heap.size, k + 1, none⟩ (.int .u64 ((x1 : Int) + q9)))).ownsRow w.heap.size 173 1 (.slice (some ⟨w.heap.size, 0, none⟩) (xs.length + 1) (xs.length + 1)) (xs.length + 1) (u64s ((L.set k a).set (k + 1) (x1 + q9))) := unhide Hown2
        have hc0 := hown2.cellAt k (by omega)
        rw [u64s_get _ _ (by simp; omega), List.getElem_set_ne (by omega), List.getElem_set_self] at hc0
        have hf0 := hown2.frozenAt k
        have hown3 := store_u hown2 k (a % 1000000000) ((a : Int) % 1000000000) (by omega)
        have Hown3 := hide hown3
        have Hb2 := hide hb2
        clear hown2 hown3 hb2
        go_wp2
        go_roundw
        case rel => exact ⟨k + 1, _, by omega, by go_num, by simpa using hLl, unhide Hown3, (unhide Hb2).setCell (Nat.le_refl _) _, (unhide Hinv).1, (unhide Hinv).2.1, (unhide Hinv).2.2, Hstep2⟩
        case measure => simp [intOf]; omega
    · have hkn : k = xs.length := by omega
      subst hkn
      have hval' := unhide hval
      rw [List.drop_of_length_le (by omega)] at hval'
      have hval2 : ofd 1000000000 L = x + y := by simpa [ofd] using hval'
      have htop := top_small hLl hval2 (unhide HV) (by omega)
      have hall : ∀ d ∈ L, d < 1000000000 := by
        intro d hd
        obtain ⟨j, hj, rfl⟩ := List.getElem_of_mem hd
        by_cases hjn : j = xs.length
        · subst hjn; exact htop
        · exact unhide hLt _ (by rw [List.mem_take_iff_getElem]; exact ⟨j, by omega, rfl⟩)
      have Hall := hide hall
      have Hv2 := hide hval2
      clear hval' hval2 htop hall
      go_wp2_with fail
      refine (trimmed_n L w.heap.size _ _ (by omega) (unhide Hall) (by rw [hLl]; exact hown)).mono ?_
      rintro e w2 ⟨⟨v', rfl, hv'⟩, rfl⟩
      rw [unhide Hv2] at hv'
      go_wp2
      go_ret
      exact ⟨⟨v', rfl, hv'⟩, hb⟩

theorem plus_c (x y : Nat) (v u : Value) (w : World) (hx : isNat w v x) (hy : isNat w u y) (hsx : (gr x).length ≤ 1000000) (hsy : (gr y).length ≤ 1000000) :
    Calls Tryz.prog 208 #[v, u] w fun e w' => (∃ v', e = .returned v' ∧ isNatB w' w.heap.size v' (x + y)) ∧ Below w.heap.size w w' := by
  by_cases hl : (gr y).length ≤ (gr x).length
  · exact plus_long x y v u w hx hy hl hsx
  · have h := plus_short y x u v w hy hx (by omega) hsy
    rw [Nat.add_comm y x] at h
    exact h
end Go.Proofs.YtpbnmhnbkfnaeaaGreatDoor
namespace Go.Proofs.YtpbnmhnbkfnaeaaGreatDoor
open Go.RowKit Nt

theorem set_zero {L : List Nat} {n j d : Nat} (h : ∀ t, n ≤ t → L.getD t 0 = 0) (hj : j < n) : ∀ t, n ≤ t → (L.set j d).getD t 0 = 0 := by
  intro t ht
  rw [List.getD_eq_getElem?_getD, List.getElem?_set_ne (by omega), ← List.getD_eq_getElem?_getD]
  exact h t ht

theorem own_drewN_set {w : World} {base : Nat} {e : TypeId} {size : Nat} {v : Value} {n : Nat} {xs : List Value} {a : Addr} {u : Value} (h : (w.setCell a u).ownsRow base e size v n xs) (k : Nat) : ((w.drewN k).setCell a u).ownsRow base e size v n xs := h
theorem below_drewN' {B : Nat} {a w : World} (h : Below B a w) (n : Nat) : Below B a (w.drewN n) := ⟨h.os, h.tape, h.output, h.size, h.block⟩

set_option maxRecDepth 100000 in
set_option maxHeartbeats 4000000 in
theorem times_c (x y : Nat) (v u : Value) (w : World) (hx : isNat w v x) (hy : isNat w u y) (hsx : (gr x).length ≤ 1000000) (hsy : (gr y).length ≤ 1000000) :
    Calls Tryz.prog 188 #[v, u] w fun e w' => (∃ v', e = .returned v' ∧ isNatB w' w.heap.size v' (x * y)) ∧ Below w.heap.size w w' := by
  obtain ⟨i0, hi, hz0, hz1, hz2⟩ := info_parts Tryz.infoU64
  have hxd := gr_lt x
  have hyd := gr_lt y
  have hxo := gr_ofd x
  have hyo := gr_ofd y
  unfold isNat at hx hy
  generalize gr x = xs at *
  generalize gr y = ys at *
  obtain ⟨p, cap, rfl⟩ := own_slice hx
  obtain ⟨q, cap2, rfl⟩ := own_slice hy
  have Hxd := hide hxd
  have Hyd := hide hyd
  have Hx := hide hx
  have Hy := hide hy
  have Hxo := hide hxo
  have Hyo := hide hyo
  clear hxd hyd hxo hyo hx hy
  go_enter Tryz.func188, Tryz.ntmps188
  go_wp2_with (refine wpList_make_full _ rfl (.tmp 13) (.tmp 13) 178 rfl w.heap.size 173 i0 (.int .u64 0) 1 Tryz.underlying178 hi hz0 hz1 .i64 .i64 (xs.length + ys.length) (xs.length + ys.length) (xs.length + ys.length) rfl rfl (by go_num) (by go_num) (by rw [hz2]; omega) (by unfold maxLen; omega) (Nat.le_refl _) ?_; intro w1 hown1 hg1)
  go_loopw [17] (fun i wr => ∃ (k : Nat) (L : List Nat), k ≤ xs.length ∧ i = .int .i64 (k : Int) ∧ L.length = xs.length + ys.length ∧
      wr.ownsRow w.heap.size 173 1 (.slice (some ⟨w.heap.size, 0, none⟩) (xs.length + ys.length) (xs.length + ys.length)) (xs.length + ys.length) (u64s L) ∧ Below w.heap.size w wr ∧
      Hid (∀ d ∈ L, d < 1000000000) ∧ Hid (∀ t, k + ys.length ≤ t → L.getD t 0 = 0) ∧ Hid (ofd 1000000000 L = ofd 1000000000 (xs.take k) * ofd 1000000000 ys))
    (fun i _ => (xs.length - intOf i).toNat)
  case atStart =>
    refine ⟨0, List.replicate (xs.length + ys.length) 0, Nat.zero_le _, rfl, by simp, ?_, (Below.refl _ _).grown hg1 (Nat.le_refl _) (fun _ h => by cases h), ?_, ?_, ?_⟩
    · simpa [Value.cells, toList_madeCells_one, u64s_zero] using hown1
    · intro d hd; simp at hd; omega
    · intro t _; rw [List.getD_eq_getElem?_getD, List.getElem?_replicate]; split <;> rfl
    · show _ = _; simp [ofd, ofd_replicate_zero]
  case round =>
    clear hown1 hg1
    obtain ⟨k, L, hk, rfl, hLl, hown, hb, hLd, hLz, hval⟩ := hrel
    by_cases hlt : k < xs.length
    · obtain ⟨g, rfl, hcx⟩ := u64_cell (own_below (unhide Hx) hb) k hlt
      have hxk : xs[k]'hlt < 1000000000 := unhide Hxd _ (List.getElem_mem _)
      obtain ⟨xk, hxe⟩ : ∃ xk, xs[k]'hlt = xk := ⟨_, rfl⟩
      rw [hxe] at hcx hxk
      have Hxe := hide hxe
      have hkI : (k : Int) < xs.length := by omega
      have Hown := hide hown
      clear hxe hown hcx
      go_wp2
      go_loopw [7, 22] (fun cv jv wr => ∃ (j c : Nat) (L : List Nat), j ≤ ys.length ∧ jv = .int .i64 (j : Int) ∧ cv = .int .u64 (c : Int) ∧ c < 1000000000 ∧ L.length = xs.length + ys.length ∧
          wr.ownsRow w.heap.size 173 1 (.slice (some ⟨w.heap.size, 0, none⟩) (xs.length + ys.length) (xs.length + ys.length)) (xs.length + ys.length) (u64s L) ∧ Below w.heap.size w wr ∧
          Hid (∀ d ∈ L, d < 1000000000) ∧ Hid (∀ t, k + ys.length ≤ t → L.getD t 0 = 0) ∧ Hid (ofd 1000000000 L + c * 1000000000 ^ (k + j) = ofd 1000000000 (xs.take k) * ofd 1000000000 ys + 1000000000 ^ k * (xk * ofd 1000000000 (ys.take j))))
        (fun _ jv _ => (ys.length - intOf jv).toNat)
      case atStart =>
        refine ⟨0, 0, L, Nat.zero_le _, rfl, rfl, by omega, hLl, unhide Hown, hb, hLd, hLz, ?_⟩
        show _ = _
        rw [unhide hval]; simp [ofd]
      case round =>
        clear Hown hb hLd hLz hval hLl
        obtain ⟨j, c, L, hj, rfl, rfl, hc, hLl, hown, hb, hLd, hLz, hval⟩ := hrel
        by_cases hjl : j < ys.length
        · obtain ⟨g2, rfl, hcy⟩ := u64_cell (own_below (unhide Hy) hb) j hjl
          obtain ⟨g', hg', hcx⟩ := u64_cell (own_below (unhide Hx) hb) k hlt
          obtain rfl : g' = g := by simpa using hg'.symm
          have hyk : ys[j]'hjl < 1000000000 := unhide Hyd _ (List.getElem_mem _)
          obtain ⟨yk, hye⟩ : ∃ yk, ys[j]'hjl = yk := ⟨_, rfl⟩
          rw [hye] at hcy hyk
          rw [unhide Hxe] at hcx
          have hkj : k + j < L.length := by omega
          have hcL := hown.cellAt (k + j) (by omega)
          rw [u64s_get _ _ hkj] at hcL
          have hfL := hown.frozenAt (k + j)
          have hLk : L[k + j]'hkj < 1000000000 := unhide hLd _ (List.getElem_mem _)
          have hstep := fun t => @times_step 1000000000 L ys k j c t xk yk (ofd 1000000000 (xs.take k) * ofd 1000000000 ys) hkj (by rw [getD_at hjl]; exact hye) 
          obtain ⟨lk, hle⟩ : ∃ lk, L[k + j]'hkj = lk := ⟨_, rfl⟩
          rw [hle] at hcL hLk hstep
          have hxy : xk * yk ≤ 999999999 * 999999999 := Nat.mul_le_mul (by omega) (by omega)
          obtain ⟨m, hm⟩ : ∃ m, xk * yk = m := ⟨_, rfl⟩
          rw [hm] at hxy hstep
          have e0 : IntKind.u64.wrap ((xk : Int) * yk) = (m : Int) := by rw [show (xk : Int) * yk = (m : Int) from by rw [← hm]; simp]; exact wu64 _ (by omega) (by omega)
          obtain ⟨s1, hs1⟩ : ∃ s1, lk + m = s1 := ⟨_, rfl⟩
          have e1 : IntKind.u64.wrap ((lk : Int) + m) = (s1 : Int) := by rw [show (lk : Int) + m = (s1 : Int) from by omega]; exact wu64 _ (by omega) (by omega)
          obtain ⟨t, ht⟩ : ∃ t, s1 + c = t := ⟨_, rfl⟩
          have e2 : IntKind.u64.wrap ((c : Int) + s1) = (t : Int) := by rw [show (c : Int) + s1 = (t : Int) from by omega]; exact wu64 _ (by omega) (by omega)
          have ht9 : t ≤ 999999999999999999 := by omega
          have hst := hstep t (by omega) (unhide hval)
          have Hst := hide hst
          have hjI : (j : Int) < ys.length := by omega
          have hown2 := fun v hv => store_u hown (k + j) (t % 1000000000) v hv
          have Hown2 := hide hown2
          have hkj2 : (k : Int) + j < xs.length + ys.length := by omega
          clear hstep hst hye hle hm hs1 ht hown2 hg'
          go_wp2
          go_quiet (fail)
          go_wp2
          go_roundw
          case rel => exact ⟨j + 1, t / 1000000000, L.set (k + j) (t % 1000000000), by omega, by go_num, by go_num, by omega, by simpa using hLl, own_drewN_set (unhide Hown2 _ (by omega)) nq, (below_drewN' hb nq).setCell (Nat.le_refl _) _, set_all (unhide hLd) (Nat.mod_lt _ (by omega)), set_zero (unhide hLz) (by omega), unhide Hst⟩
          case measure => simp [intOf]; omega
        · have hjn : j = ys.length := by omega
          have hkm : k + ys.length < L.length := by omega
          have hz := unhide hLz (k + ys.length) (Nat.le_refl _)
          rw [getD_at hkm] at hz
          have hval' := unhide hval
          rw [hjn] at hval'
          have hrow := @times_row 1000000000 L xs ys k ys.length c hkm rfl hz (by rw [getD_at hlt, unhide Hxe]; exact hval')
          have hcL := hown.cellAt (k + ys.length) (by omega)
          rw [u64s_get _ _ hkm] at hcL
          have hfL := hown.frozenAt (k + ys.length)
          obtain ⟨lk, hle⟩ : ∃ lk, L[k + ys.length]'hkm = lk := ⟨_, rfl⟩
          rw [hle] at hcL
          have hown2 := fun v hv => store_u hown (k + ys.length) c v hv
          have Hown2 := hide hown2
          have Hrow := hide hrow
          have hkm2 : (k : Int) + ys.length < xs.length + ys.length := by omega
          clear hz hval' hrow hle hown2
          go_wp2
          go_roundw
          case rel => exact ⟨k + 1, L.set (k + ys.length) c, by omega, by go_num, by simpa using hLl, unhide Hown2 _ rfl, hb.setCell (Nat.le_refl _) _, set_all (unhide hLd) hc, fun t ht => set_zero (n := k + 1 + ys.length) (fun t ht => unhide hLz t (by omega)) (by omega) t ht, unhide Hrow⟩
          case measure => simp [intOf]; omega
    · have hkn : k = xs.length := by omega
      subst hkn
      have hval' := unhide hval
      rw [List.take_of_length_le (by omega), unhide Hxo, unhide Hyo] at hval'
      have Hv := hide hval'
      clear hval'
      go_wp2_with fail
      refine (trimmed_n L w.heap.size _ _ (by omega) (unhide hLd) (by rw [hLl]; exact hown)).mono ?_
      rintro e w2 ⟨⟨v', rfl, hv'⟩, rfl⟩
      rw [unhide Hv] at hv'
      go_wp2
      go_ret
      exact ⟨⟨v', rfl, hv'⟩, hb⟩
end Go.Proofs.YtpbnmhnbkfnaeaaGreatDoor
