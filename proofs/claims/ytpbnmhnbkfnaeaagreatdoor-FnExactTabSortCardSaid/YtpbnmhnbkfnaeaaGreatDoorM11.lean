/- A part of the proof, put together out of smaller texts: each piece says what it is for. -/
import Derived.Test.YtpbnmhnbkfnaeaaGreatDoorM10
import Derived.BigQuiet
import Derived.Deep.QuietTactic
import Derived.Lib.OthersKept
import Derived.Laws.IdiomStrings
import Derived.Laws.Runes
import Derived.WalkMore
import Derived.Lib.Strings
import Derived.Shelf.Unicode.ValidAny
import Derived.Handy
import Derived.Deep.RegionWith
/- tabEach over (ReadNode).copied: a list of nodes copied. -/
namespace Go.Proofs.YtpbnmhnbkfnaeaaGreatDoor
open Go.RowKit Nt

set_option maxRecDepth 100000 in
set_option maxHeartbeats 4000000 in
theorem tabEach_c (na : Option Addr) (nc : Nat) (ns : List Nd) (w : World) (h : NodesAt w (.slice na ns.length nc) ns) (hs : ns.length ≤ 1048576) (hns : NsSmall ns) :
    Calls Tryz.prog 43 #[.slice na ns.length nc, .func (.func 44) #[] #[]] w fun e w' =>
      (∃ kvs, e = .returned (.slice (some ⟨w.heap.size, 0, none⟩) ns.length ns.length) ∧ NodesOwn w' w.heap.size w.heap.size ns.length ns kvs) ∧ Below w.heap.size w w' := by
  obtain ⟨i0, hi, hz0, hz1, hz2⟩ := info_parts Tryz.infoNode
  obtain ⟨a, cap, e, h1, h2⟩ := h.form0
  injection e with e1 _ e3
  subst e1 e3
  unfold maxLen at h2
  have H := hide h
  clear h
  go_enter Tryz.func43, Tryz.ntmps43
  go_wp2_with (refine wpList_make_full _ rfl (.tmp 9) (.tmp 9) 23 rfl w.heap.size 56 i0 (.agg #[.int .i64 0, .string ⟨#[]⟩, .slice none 0 0]) 3 Tryz.underlying23 hi hz0 hz1 .i64 .i64 ns.length ns.length ns.length rfl rfl rfl rfl (by rw [hz2]; omega) (by unfold maxLen; omega) (Nat.le_refl _) ?_; intro w1 hown1 hg1)
  have hb1 := (Below.refl w.heap.size w).grown hg1 (Nat.le_refl _) (fun _ h => by cases h)
  have hlt1 := (hown1.lt w.heap.size rfl).2
  have Hmade := hide (NodesOwn.made hown1 hlt1)
  have HB1 := hide hb1
  clear hown1 hg1 hb1
  go_loopw [13] (fun i wr => ∃ (k : Nat) (kvs : List Value), k ≤ ns.length ∧ i = .int .i64 k ∧ Hid (NodesOwn wr w.heap.size w.heap.size ns.length (ns.take k) kvs) ∧ Below w.heap.size w wr)
    (fun i _ => ns.length - (intOf i).toNat)
  case atStart => exact ⟨0, [], by omega, rfl, Hmade, unhide HB1⟩
  case round =>
    clear Hmade HB1 hlt1
    obtain ⟨k, kvs, hk, rfl, hno, hbl⟩ := hrel
    by_cases hlt : k < ns.length
    · obtain ⟨nd, hnd⟩ : ∃ nd, ns[k]? = some nd := ⟨_, List.getElem?_eq_getElem hlt⟩
      obtain ⟨b, off, rfl, hb⟩ := ((unhide H).below hbl).addr (by omega)
      obtain ⟨kv, c0, c1, c2, htl, hk1⟩ := ((unhide H).below hbl).node hnd
      obtain ⟨ka, kc, rfl, hk2, hk3⟩ := hk1.form
      unfold maxLen at hk3
      have hks := hns nd (List.mem_of_getElem? hnd)
      have HK := hide (hk1.below (step_a (Below.refl _ _) (.cells #[.int .i64 nd.1, .string (B nd.2.1), .slice ka nd.2.2.length kc] 56)))
      have HBX := hide (step_a hbl (.cells #[.int .i64 nd.1, .string (B nd.2.1), .slice ka nd.2.2.length kc] 56))
      have hwl := (unhide hno).1.2.1
      have hx := AtC3.new wr (.int .i64 nd.1) (.string (B nd.2.1)) (.slice ka nd.2.2.length kc) 56
      have x0 := hx.n0
      have x1 := hx.n1
      have x2 := hx.n2
      have HNX := hide ((unhide hno).below (step_a (Below.refl _ _) (.cells #[.int .i64 nd.1, .string (B nd.2.1), .slice ka nd.2.2.length kc] 56)))
      clear hk1 hx
      go_wp2_with fail
      have h := copied_c nd ka kc _ (unhide HK) hks.2 hks.1
      refine h.mono ?_
      clear h
      rintro e w2 ⟨⟨ga, gc, rfl, hownk⟩, hb2⟩
      have hno2 := (unhide HNX).below hb2
      have hlen : (ns.take k).length = k := by rw [List.length_take]; omega
      have hold := (unhide HNX).old
      have hsz := hb2.size
      have hgg : ∀ i, (Value.slice ga nd.2.2.length gc).ownBlock = some i → wr.heap.size < i := fun i hi => by
        have := (hownk.lt i hi).1
        simp only [World.size_alloc] at this
        omega
      have hst := hno2.store (nd := nd) (kv := .slice ga nd.2.2.length gc) (by omega) htl (own_base hownk (unhide HBX).size) (fun e => by have := hgg _ e; omega) (fun k' hk' i hi e => by
        have := hold k' hk' i hi
        have := (hownk.lt i e).1
        omega)
      rw [hlen] at hst
      have htk : ns.take k ++ [nd] = ns.take (k + 1) := by rw [List.take_add_one, hnd]; rfl
      rw [htk] at hst
      have hcell := hno2.2.2.1
      obtain ⟨y0, hx0⟩ := hcell (k * 3) (by omega)
      obtain ⟨y1, hx1⟩ := hcell (k * 3 + 1) (by omega)
      obtain ⟨y2, hx2⟩ := hcell (k * 3 + 2) (by omega)
      have hfr := hno2.2.1
      have Hst := hide hst
      have HB := hide ((((step_b (unhide HBX) hb2).setCell (p := ⟨w.heap.size, k * 3, none⟩) (Nat.le_refl _) (.int .i64 nd.1)).setCell (p := ⟨w.heap.size, k * 3 + 1, none⟩) (Nat.le_refl _) (.string (B nd.2.1))).setCell (p := ⟨w.heap.size, k * 3 + 2, none⟩) (Nat.le_refl _) (.slice ga nd.2.2.length gc))
      clear hno hno2 hold hst hcell htk hownk hb2 hgg HNX HBX x0 x1 x2 hsz
      go_wp2
      go_roundw
      case rel => exact ⟨k + 1, _, by omega, by go_num, Hst, unhide HB⟩
      case measure => simp [intOf]; omega
    · go_wp2
      go_ret
      have : k = ns.length := by omega
      subst this
      have := unhide hno
      rw [List.take_of_length_le (Nat.le_refl _)] at this
      exact ⟨⟨kvs, rfl, this⟩, hbl⟩
end Go.Proofs.YtpbnmhnbkfnaeaaGreatDoor
/- Plain: labels of ok nodes are in an order. -/
namespace Go.Proofs.YtpbnmhnbkfnaeaaGreatDoor
open Go.RowKit Nt

theorem cmpI_pre : Pre cmpI where
  neg x y := by unfold cmpI; split <;> split <;> (try split) <;> omega
  le x y z := by unfold cmpI; intro h1 h2; split at h1 <;> split at h2 <;> (try split at h1) <;> (try split at h2) <;> split <;> (try split) <;> omega
theorem cmpB_neg : ∀ (a b : List UInt8), Lib.compareBytes b a = - Lib.compareBytes a b := fun a b => by
  obtain ⟨h1, h2, h3, h4⟩ := less_cmp a b
  obtain ⟨g1, g2, g3, g4⟩ := less_cmp b a
  rw [h1] at g2
  rw [h2] at g1
  rw [decide_eq_decide] at g1 g2
  omega
theorem bless_trans : ∀ {a b c : List UInt8}, Op.bytesLess a b = true → Op.bytesLess b c = true → Op.bytesLess a c = true
  | [], [], _, h, _ => by simp [Op.bytesLess] at h
  | [], _ :: _, [], _, h => by simp [Op.bytesLess] at h
  | [], _ :: _, _ :: _, _, _ => by simp [Op.bytesLess]
  | _ :: _, [], _, h, _ => by simp [Op.bytesLess] at h
  | _ :: _, _ :: _, [], _, h => by simp [Op.bytesLess] at h
  | a :: x, b :: y, c :: z, h1, h2 => by
    unfold Op.bytesLess at h1 h2 ⊢
    simp only [Bool.or_eq_true, decide_eq_true_eq, Bool.and_eq_true, beq_iff_eq] at h1 h2 ⊢
    rcases h1 with e1 | ⟨rfl, h1⟩
    · rcases h2 with e2 | ⟨rfl, h2⟩
      · exact .inl (UInt8.lt_trans e1 e2)
      · exact .inl e1
    · rcases h2 with e2 | ⟨rfl, h2⟩
      · exact .inl e2
      · exact .inr ⟨rfl, bless_trans h1 h2⟩
theorem cmpB_pre : Pre Lib.compareBytes where
  neg x y := cmpB_neg x y
  le x y z h1 h2 := by
    obtain ⟨a1, a2, a3, a4⟩ := less_cmp x y
    obtain ⟨b1, b2, b3, b4⟩ := less_cmp y z
    obtain ⟨c1, c2, c3, c4⟩ := less_cmp x z
    rcases a4 with e | e | e
    · rcases b4 with f | f | f
      · have := bless_trans (a1.trans (decide_eq_true e)) (b1.trans (decide_eq_true f))
        rw [c1] at this
        have := of_decide_eq_true this
        omega
      · rw [← b3.1 f, e]; omega
      · omega
    · rw [a3.1 e]; exact h2
    · omega
theorem sgI_le {z : Int} : sgI z ≤ 0 ↔ z ≤ 0 := by unfold sgI; split <;> (try split) <;> omega
theorem cmpRt_neg (p q : Rt) : cmpRt q p = - cmpRt p q := by
  unfold cmpRt
  rw [← sgI_neg]
  congr 1
  omega
theorem cross_le {a b c x y z : Int} (hx : 0 < x) (hy : 0 < y) (hz : 0 < z) (h1 : a * y - b * x ≤ 0) (h2 : b * z - c * y ≤ 0) : a * z - c * x ≤ 0 := by
  have k1 : a * y ≤ b * x := by omega
  have k2 : b * z ≤ c * y := by omega
  have m1 := Int.mul_le_mul_of_nonneg_right k1 (Int.le_of_lt hz)
  have m2 := Int.mul_le_mul_of_nonneg_right k2 (Int.le_of_lt hx)
  have e1 : b * x * z = b * z * x := by rw [Int.mul_assoc, Int.mul_comm x z, ← Int.mul_assoc]
  have e2 : a * y * z = a * z * y := by rw [Int.mul_assoc, Int.mul_comm y z, ← Int.mul_assoc]
  have e3 : c * y * x = c * x * y := by rw [Int.mul_assoc, Int.mul_comm y x, ← Int.mul_assoc]
  have k3 : a * z * y ≤ c * x * y := by rw [← e2, ← e3]; rw [e1] at m1; exact Int.le_trans m1 m2
  have k4 := Int.le_of_mul_le_mul_right k3 hy
  omega
theorem cmpRt_le {p q r : Rt} (hp : 0 < p.2.2) (hq : 0 < q.2.2) (hr : 0 < r.2.2) (h1 : cmpRt p q ≤ 0) (h2 : cmpRt q r ≤ 0) : cmpRt p r ≤ 0 := by
  unfold cmpRt at *
  rw [sgI_le] at *
  exact cross_le (by omega) (by omega) (by omega) h1 h2

/-- a node whose text is one of its sort -/
def GoodNd (nd : Nd) : Prop := textM nd.1 nd.2.1 = true ∧ cntOk nd.1 nd.2.2.length = true
theorem ndOk_good {n : Nat} {nd : Nd} (h : ndOk n nd = true) : GoodNd nd := by
  have c := ok_cnt h
  unfold ndOk at h
  simp only [Bool.and_eq_true] at h
  exact ⟨h.1.2, c⟩
theorem good_num {nd : Nd} (h : GoodNd nd) (h1 : nd.1 = 1) : okT (numTx nd.2.1) = true := by
  have h := h.1
  unfold textM at h
  rw [if_pos h1] at h
  unfold numTextM at h
  unfold numTx
  cases e : parseM nd.2.1 10 with
  | none => rw [e] at h; exact absurd h (by simp)
  | some p => exact okT_put (parse_ok (n := p.1) (x := p.2.1) (y := p.2.2) e)
theorem cmpT_val {a b : T3} (ha : okT a = true) (hb : okT b = true) : cmpT a b = cmpRt (valT a) (valT b) := by unfold cmpT; rw [ha, hb]; rfl
theorem val_pos {a : T3} (ha : okT a = true) : 0 < (valT a).2.2 := okP_pos (okP_val ha)
theorem lab_neg {a b : Nd} (ha : GoodNd a) (hb : GoodNd b) : labCmp b a = - labCmp a b := by
  by_cases h : a.1 = b.1
  · by_cases h1 : a.1 = 1
    · rw [lab_num h h1, lab_num h.symm (h ▸ h1), cmpT_val (good_num ha h1) (good_num hb (h ▸ h1)), cmpT_val (good_num hb (h ▸ h1)) (good_num ha h1), cmpRt_neg]
    · by_cases h2 : a.2.1 = b.2.1
      · rw [lab_len h h1 h2, lab_len h.symm (h ▸ h1) h2.symm, cmpI_pre.neg]
      · rw [lab_text h h1 h2, lab_text h.symm (h ▸ h1) (Ne.symm h2), cmpB_neg]
  · rw [lab_sort h, lab_sort (Ne.symm h), cmpI_pre.neg]
theorem cmpI_le {a b : Int} : cmpI a b ≤ 0 ↔ a ≤ b := by unfold cmpI; split <;> (try split) <;> omega
theorem lab_le {a b c : Nd} (ha : GoodNd a) (hb : GoodNd b) (hc : GoodNd c) (h1 : labCmp a b ≤ 0) (h2 : labCmp b c ≤ 0) : labCmp a c ≤ 0 := by
  unfold labCmp at *
  by_cases e1 : a.1 = b.1
  · by_cases e2 : b.1 = c.1
    · rw [if_neg (by simp [e1])] at h1
      rw [if_neg (by simp [e2])] at h2
      rw [if_neg (by simp [e1, e2])]
      by_cases k : a.1 = 1
      · rw [if_pos k] at h1 ⊢
        rw [if_pos (e1 ▸ k)] at h2
        have ga := good_num ha k
        have gb := good_num hb (e1 ▸ k)
        have gc := good_num hc (by omega)
        rw [cmpT_val ga gb] at h1
        rw [cmpT_val gb gc] at h2
        rw [cmpT_val ga gc]
        exact cmpRt_le (val_pos ga) (val_pos gb) (val_pos gc) h1 h2
      · rw [if_neg k] at h1 ⊢
        rw [if_neg (e1 ▸ k)] at h2
        by_cases t1 : a.2.1 = b.2.1
        · rw [if_neg (by simp [t1])] at h1
          by_cases t2 : b.2.1 = c.2.1
          · rw [if_neg (by simp [t2])] at h2
            rw [if_neg (by simp [t1, t2])]
            exact cmpI_pre.le _ _ _ h1 h2
          · rw [if_pos t2] at h2
            rw [if_pos (by rw [t1]; exact t2), t1]
            exact h2
        · rw [if_pos t1] at h1
          by_cases t2 : b.2.1 = c.2.1
          · rw [if_pos (by rw [← t2]; exact t1), ← t2]
            exact h1
          · rw [if_pos t2] at h2
            have h3 := cmpB_pre.le _ _ _ h1 h2
            by_cases t3 : a.2.1 = c.2.1
            · exfalso
              rw [t3] at h1
              have h4 := cmpB_neg c.2.1 b.2.1
              exact t2 ((less_cmp _ _).2.2.1.1 (by omega))
            · rw [if_pos t3]; exact h3
    · rw [if_pos e2] at h2
      rw [if_pos (by rw [e1]; exact e2), e1]
      exact h2
  · rw [if_pos e1] at h1
    rw [cmpI_le] at h1
    by_cases e2 : b.1 = c.1
    · rw [if_pos (by rw [← e2]; exact e1), cmpI_le]
      omega
    · rw [if_pos e2, cmpI_le] at h2
      rw [if_pos (by omega), cmpI_le]
      omega
end Go.Proofs.YtpbnmhnbkfnaeaaGreatDoor
/- Plain: ok nodes, with all that is in them, are in an order. -/
namespace Go.Proofs.YtpbnmhnbkfnaeaaGreatDoor
open Go.RowKit Nt

/-- the walk hangs on the pairs alone that it can come to -/
theorem walkP_congr {c c' : Int → Int → Int} {kids kids' : Int → Int → List (Int × Int)} {n m : Nat} (hk : ∀ a b, InP n m (a, b) → ∀ x ∈ kids a b, InP n m x)
    (hc : ∀ a b, InP n m (a, b) → c a b = c' a b) (hk' : ∀ a b, InP n m (a, b) → kids a b = kids' a b) : ∀ {f i : Nat} {l : List (Int × Int)}, (∀ x ∈ l, InP n m x) → walkP c kids f i l = walkP c' kids' f i l
  | 0, _, _, _ => rfl
  | f + 1, i, l, hl => by
    unfold walkP
    cases e : l[i]? with
    | none => rfl
    | some x =>
      obtain ⟨a, b⟩ := x
      have hab := hl _ (List.mem_of_getElem? e)
      simp only
      rw [hc a b hab, hk' a b hab]
      by_cases h0 : c' a b = 0
      · rw [if_pos h0, if_pos h0]
        refine walkP_congr hk hc hk' (fun x hx => ?_)
        have key : ∀ (ks l : List (Int × Int)), (∀ x ∈ l, InP n m x) → (∀ x ∈ ks, InP n m x) → ∀ x ∈ nxtP l ks, InP n m x := by
          intro ks
          induction ks with
          | nil => intro l hl _ x hx; exact hl x hx
          | cons y ks ih =>
            intro l hl hks x hx
            unfold nxtP at hx
            refine ih _ (fun z hz => ?_) (fun z hz => hks z (List.mem_cons_of_mem _ hz)) x hx
            split at hz
            · exact hl z hz
            · rcases List.mem_append.1 hz with hz | hz
              · exact hl z hz
              · have : z = y := by simpa using hz
                rw [this]; exact hks y List.mem_cons_self
        exact key _ l hl (by rw [← hk' a b hab]; exact hk a b hab) x hx
      · rw [if_neg h0, if_neg h0]

def clI (n : Nat) (x : Int) : Int := if 0 ≤ x ∧ x < n then x else 0
theorem clI_in {n : Nat} (h : 0 < n) (x : Int) : 0 ≤ clI n x ∧ clI n x < n := by unfold clI; split <;> omega
theorem clI_id {n : Nat} {x : Int} (h : 0 ≤ x ∧ x < n) : clI n x = x := by unfold clI; rw [if_pos h]
abbrev GNd := {nd : Nd // GoodNd nd}
theorem gPre : Pre (fun a b : GNd => labCmp a.1 b.1) := ⟨fun x y => lab_neg x.2 y.2, fun x y z => lab_le x.2 y.2 z.2⟩
section
variable {ns ms ls : List Nd}
def datN (ns : List Nd) (h : ns.all (ndOk ns.length) = true) (h0 : 0 < ns.length) : Dat GNd :=
  ⟨fun x => (ndI ns (clI ns.length x)).2.2, fun x => ⟨ndI ns (clI ns.length x), ndOk_good (List.all_eq_true.1 h _ (ndI_mem (clI_in h0 x)))⟩⟩
theorem lab_ar (a b : GNd) (h : labCmp a.1 b.1 = 0) : a.1.2.2.length = b.1.2.2.length := by
  obtain ⟨a, ha⟩ := a
  obtain ⟨b, hb⟩ := b
  simp only at h ⊢
  unfold labCmp at h
  by_cases h1 : a.1 ≠ b.1
  · rw [if_pos h1] at h
    exact absurd (cmpI_eq.1 h) h1
  · rw [if_neg h1] at h
    have h1 : a.1 = b.1 := Decidable.not_not.1 h1
    by_cases h2 : a.1 = 1
    · have c1 := ha.2
      have c2 := hb.2
      rw [h2] at c1
      rw [← h1, h2] at c2
      rw [cnt_num c1, cnt_num c2]
    · rw [if_neg h2] at h
      by_cases h3 : a.2.1 ≠ b.2.1
      · rw [if_pos h3] at h
        exact absurd ((less_cmp _ _).2.2.1.1 h) h3
      · rw [if_neg h3] at h
        have := cmpI_eq.1 h
        omega
theorem cmpAt_first (hn : ns.all (ndOk ns.length) = true) (hm : ms.all (ndOk ms.length) = true) (n0 : 0 < ns.length) (m0 : 0 < ms.length) {a b : Int} (hab : InP ns.length ms.length (a, b)) :
    IsFirst (fun s => cO (fun a b : GNd => labCmp a.1 b.1) ((datN ns hn n0).lb a s) ((datN ms hm m0).lb b s)) (cmpAt ns ms a b) := by
  have h := walkP_first (cmp := fun a b : GNd => labCmp a.1 b.1) (ar := fun a : GNd => a.1.2.2.length) (D := datN ns hn n0) (E := datN ms hm m0) (a := a) (b := b) (fun _ => rfl) (fun _ => rfl) lab_ar (n := ns.length) (m := ms.length) (g := ns.length * ms.length + 1)
    (fun x y hxy z hz => by
      have e1 := clI_id hxy.1
      have e2 := clI_id hxy.2
      simp only at e1 e2
      simp only [datN, e1, e2] at hz
      exact kidsP_in hn hm x y hxy z hz) hab (by omega)
  have e : cmpAt ns ms a b = walkP (fun x y => labCmp ((datN ns hn n0).lab x).1 ((datN ms hm m0).lab y).1) (fun x y => ((datN ns hn n0).kids x).zip ((datN ms hm m0).kids y)) (ns.length * ms.length + 1) 0 [(a, b)] := by
    unfold cmpAt
    refine walkP_congr (kidsP_in hn hm) (fun x y hxy => ?_) (fun x y hxy => ?_) (fun x hx => by
      have : x = (a, b) := by simpa using hx
      rw [this]; exact hab)
    · have e1 := clI_id hxy.1
      have e2 := clI_id hxy.2
      simp only at e1 e2
      simp only [datN, e1, e2, labP]
    · have e1 := clI_id hxy.1
      have e2 := clI_id hxy.2
      simp only at e1 e2
      simp only [datN, e1, e2, kidsP]
  rw [e]
  exact h
theorem cmpAt_neg (hn : ns.all (ndOk ns.length) = true) (hm : ms.all (ndOk ms.length) = true) {a b : Int} (hab : InP ns.length ms.length (a, b)) : cmpAt ms ns b a = - cmpAt ns ms a b := by
  have n0 : 0 < ns.length := by have := hab.1; omega
  have m0 : 0 < ms.length := by have := hab.2; omega
  exact tree_neg gPre (cmpAt_first hn hm n0 m0 hab) (cmpAt_first hm hn m0 n0 ⟨hab.2, hab.1⟩)
theorem cmpAt_le (hn : ns.all (ndOk ns.length) = true) (hm : ms.all (ndOk ms.length) = true) (hl : ls.all (ndOk ls.length) = true) {a b c : Int} (ha : 0 ≤ a ∧ a < ns.length) (hb : 0 ≤ b ∧ b < ms.length) (hc : 0 ≤ c ∧ c < ls.length)
    (h1 : cmpAt ns ms a b ≤ 0) (h2 : cmpAt ms ls b c ≤ 0) : cmpAt ns ls a c ≤ 0 ∧ (cmpAt ns ms a b < 0 ∨ cmpAt ms ls b c < 0 → cmpAt ns ls a c < 0) := by
  have n0 : 0 < ns.length := by omega
  have m0 : 0 < ms.length := by omega
  have l0 : 0 < ls.length := by omega
  exact tree_le (ar := fun a : GNd => a.1.2.2.length) gPre (fun _ => rfl) (fun _ => rfl) (fun _ => rfl) lab_ar (cmpAt_first hn hm n0 m0 ⟨ha, hb⟩) (cmpAt_first hm hl m0 l0 ⟨hb, hc⟩) (cmpAt_first hn hl n0 l0 ⟨ha, hc⟩) h1 h2
/-- places of one datum, put in order -/
def ordI (ns : List Nd) (a b : Int) : Int := cmpAt ns ns (clI ns.length a) (clI ns.length b)
theorem ordI_pre (hn : ns.all (ndOk ns.length) = true) (n0 : 0 < ns.length) : Pre (ordI ns) :=
  ⟨fun x y => cmpAt_neg hn hn ⟨clI_in n0 x, clI_in n0 y⟩, fun x y z h1 h2 => (cmpAt_le hn hn hn (clI_in n0 x) (clI_in n0 y) (clI_in n0 z) h1 h2).1⟩
theorem ordI_in {a b : Int} (ha : 0 ≤ a ∧ a < ns.length) (hb : 0 ≤ b ∧ b < ns.length) : ordI ns a b = cmpAt ns ns a b := by unfold ordI; rw [clI_id ha, clI_id hb]
end
end Go.Proofs.YtpbnmhnbkfnaeaaGreatDoor
/- The program's looks at a text, rune by rune: a rune among some signs. -/
namespace Go.Proofs.YtpbnmhnbkfnaeaaGreatDoor
open Go.RowKit Nt

def RuneOk (c : Nat) : Prop := c < 55296 ∨ (57344 ≤ c ∧ c ≤ 1114111)
theorem dec_rune (s : ByteArray) (k : Nat) : RuneOk (Utf8.decode s k).1 := by
  rw [Lib.decode_at]
  have l0 := (s.get! k).toNat_lt
  have key : ∀ (n b0 b1 b2 b3 : Nat), b0 < 256 → RuneOk (Lib.decodeN n b0 b1 b2 b3).1 := by
    intro n b0 b1 b2 b3 h0
    unfold Lib.decodeN RuneOk
    repeat' split
    all_goals (dsimp only at *; omega)
  exact key _ _ _ _ _ l0
theorem rune_valid (c : Nat) (hv : RuneOk c) : Utf8.valid (c : Int) = true := by
    unfold Utf8.valid
    rcases hv with hv | ⟨hv, hv2⟩
    · rw [decide_eq_true (show (0 : Int) ≤ (c : Int) by omega), decide_eq_true (show (c : Int) < 55296 by omega)]
      rfl
    · rw [decide_eq_true (show (57344 : Int) ≤ (c : Int) by omega), decide_eq_true (show (c : Int) ≤ 1114111 by omega)]
      simp
theorem enc_two (c : Nat) (h : 128 ≤ c) (h1 : c < 2048) (hv : Utf8.valid (c : Int) = true) : (Utf8.encode (c : Int)) = ⟨#[UInt8.ofNat (192 + c / 64), UInt8.ofNat (128 + c % 64)]⟩ := by
  unfold Utf8.encode
  simp only [hv, if_true, Int.toNat_natCast]
  rw [if_neg (by omega), if_pos h1]
theorem enc_three (c : Nat) (h : 2048 ≤ c) (h1 : c < 65536) (hv : Utf8.valid (c : Int) = true) : (Utf8.encode (c : Int)) = ⟨#[UInt8.ofNat (224 + c / 4096), UInt8.ofNat (128 + c / 64 % 64), UInt8.ofNat (128 + c % 64)]⟩ := by
  unfold Utf8.encode
  simp only [hv, if_true, Int.toNat_natCast]
  rw [if_neg (by omega), if_neg (by omega), if_pos h1]
theorem enc_four (c : Nat) (h : 65536 ≤ c) (hv : Utf8.valid (c : Int) = true) : (Utf8.encode (c : Int)) = ⟨#[UInt8.ofNat (240 + c / 262144), UInt8.ofNat (128 + c / 4096 % 64), UInt8.ofNat (128 + c / 64 % 64), UInt8.ofNat (128 + c % 64)]⟩ := by
  unfold Utf8.encode
  simp only [hv, if_true, Int.toNat_natCast]
  rw [if_neg (by omega), if_neg (by omega), if_neg (by omega)]
theorem get_two (x y : UInt8) (h : 1 < (⟨#[x, y]⟩ : ByteArray).size) : (⟨#[x, y]⟩ : ByteArray)[1]'h = y := by rw [ByteArray.getElem_eq_getElem_data]; rfl
theorem get_three (x y z : UInt8) (h : 2 < (⟨#[x, y, z]⟩ : ByteArray).size) : (⟨#[x, y, z]⟩ : ByteArray)[2]'h = z := by rw [ByteArray.getElem_eq_getElem_data]; rfl
theorem get_four (x y z u : UInt8) (h : 3 < (⟨#[x, y, z, u]⟩ : ByteArray).size) : (⟨#[x, y, z, u]⟩ : ByteArray)[3]'h = u := by rw [ByteArray.getElem_eq_getElem_data]; rfl
/-- what a rune from 128 on is written as ends in a byte from 128 on -/
theorem enc_last (c : Nat) (h : 128 ≤ c) (hv : RuneOk c) (E : ByteArray) (hE : Utf8.encode (c : Int) = E) : ∃ z : Nat, E.size = z + 1 ∧ 1 ≤ z ∧ z ≤ 3 ∧ ∃ b : UInt8, 128 ≤ b.toNat ∧ ∀ hz : z < E.size, E[z]'hz = b := by
  have hval := rune_valid c hv
  have hb : 128 ≤ (UInt8.ofNat (128 + c % 64)).toNat := by rw [UInt8.toNat_ofNat']; omega
  by_cases h1 : c < 2048
  · rw [enc_two c h h1 hval] at hE
    subst hE
    exact ⟨1, rfl, by omega, by omega, _, hb, fun hz => get_two _ _ hz⟩
  · by_cases h2 : c < 65536
    · rw [enc_three c (by omega) h2 hval] at hE
      subst hE
      exact ⟨2, rfl, by omega, by omega, _, hb, fun hz => get_three _ _ _ hz⟩
    · rw [enc_four c (by omega) hval] at hE
      subst hE
      exact ⟨3, rfl, by omega, by omega, _, hb, fun hz => get_four _ _ _ _ hz⟩
theorem index_no : ∀ {l : List UInt8} {b : UInt8}, (∀ c ∈ l, c ≠ b) → Lib.indexByte l b = -1
  | [], _, _ => rfl
  | c :: l, b, h => by
    unfold Lib.indexByte
    rw [index_no (fun d hd => h d (List.mem_cons_of_mem _ hd))]
    have : (c == b) = false := beq_eq_false_iff_ne.2 (h c List.mem_cons_self)
    rw [this]
    rfl
theorem index_yes : ∀ {l : List UInt8} {b : UInt8}, 0 ≤ Lib.indexByte l b ↔ b ∈ l
  | [], _ => by simp [Lib.indexByte]
  | c :: l, b => by
    have ih := index_yes (l := l) (b := b)
    have hg := Lib.indexByte_ge l b
    unfold Lib.indexByte
    by_cases e : c = b
    · subst e; simp
    · rw [if_neg (by simpa using e), List.mem_cons]
      by_cases e2 : Lib.indexByte l b = -1
      · rw [e2] at ih
        have : ¬ b ∈ l := fun h => by have := ih.2 h; omega
        simp [e2, this]
        exact fun h => e h.symm
      · rw [if_neg (by simpa using e2)]
        constructor
        · intro _; exact .inr (ih.1 (by omega))
        · rintro (h | h)
          · exact absurd h.symm e
          · have := ih.2 h; omega
theorem val_ok {c : Nat} (h : RuneOk c) : Lib.validRune (c : Int) = true := by
  unfold Lib.validRune RuneOk at *
  rw [decide_eq_true_eq]
  omega

set_option maxHeartbeats 4000000 in
set_option maxRecDepth 100000 in
theorem indexRune_high (l : List UInt8) (c : Nat) (w : World) (hl : ∀ d ∈ l, d.toNat < 128) (h128 : 128 ≤ c) (hv : RuneOk c) (_hlen : l.length ≤ 1000) :
    Calls Tryz.prog 225 #[.string (B l), .int .i32 c] w fun e w' => e = .returned (.int .i64 (-1)) ∧ Below w.heap.size w w' := by
  have c0 : (0 : Int) ≤ (c : Int) := by omega
  have c1 : ¬ (c : Int) < 128 := by omega
  have HL := hide hl
  by_cases he : c = 65533
  · subst he
    go_enter Tryz.func225, Tryz.ntmps225
    go_wp2_with fail
    go_loopw [4] (fun _ wr => ∃ pos : Nat, pos ≤ l.length ∧ wr.heap[w.heap.size]? = some (.stringIter (B l) pos) ∧ Below w.heap.size w wr)
      (fun _ wr => l.length - wr.iterPos w.heap.size)
    case atStart => exact ⟨0, Nat.zero_le _, World.iter_heap _ _ _, (Below.refl _ _).alloc (Nat.le_refl _) _⟩
    case round =>
      obtain ⟨pos, hpl, hit, hb⟩ := hrel
      have hpos0 := iterPos_of hit
      by_cases hlt : pos < l.length
      · have hlt2 : pos < (B l).size := by rw [B_size]; exact hlt
        have hd := (unhide HL) (l[pos]'hlt) (List.getElem_mem hlt)
        have hnx := fun ty => Lib.run_next_ascii_at (P := Tryz.prog) wr w.heap.size (B l) pos ty hit hlt2 (by rw [B_get]; exact hd)
        have hit2 := Lib.iterAt_heap wr w.heap.size (B l) pos (pos + 1) hit
        have hb2 := Lib.below_iterAt hb (k := w.heap.size) (Nat.le_refl _) (B l) (pos + 1)
        have hpos2 := iterPos_of hit2
        have hne : ((((B l)[pos]'hlt2).toNat : Int) == 65533) = false := by rw [beq_eq_false_iff_ne, B_get]; omega
        have Hit2 := hide hit2
        have Hp0 := hide hpos0
        have Hp2 := hide hpos2
        clear hit hit2 hpos0 hpos2 hd
        go_wp2_with fail
        go_roundw
        case rel => exact ⟨pos + 1, by omega, unhide Hit2, hb2⟩
        case measure => rw [unhide Hp0, unhide Hp2]; omega
      · have hlt2 : ¬ pos < (B l).size := by rw [B_size]; exact hlt
        have hnx := fun ty => Lib.run_next_end_at (P := Tryz.prog) wr w.heap.size (B l) pos ty hit hlt2
        clear hit hpos0
        go_wp2_with fail
        go_ret
        exact ⟨rfl, hb⟩
  · have hee : ((c : Int) == 65533) = false := by rw [beq_eq_false_iff_ne]; omega
    have HV := hide (fun W => (by have := Tryz.utf8_ValidRune (c : Int) W; rw [val_ok hv] at this; exact this : Calls Tryz.prog 229 #[.int .i32 c] W fun e w' => e = .returned (.bool true) ∧ w' = W))
    obtain ⟨E, hE⟩ : ∃ E, Utf8.encode (c : Int) = E := ⟨_, rfl⟩
    obtain ⟨z, hz, hz1, hz3, b, hb128, hzb⟩ := enc_last c h128 hv E hE
    have hzl : z < E.size := by omega
    have hzc : E[z]'hzl = b := hzb hzl
    clear hzb
    have HBB := hide hb128
    have hnb : ∀ d ∈ l, d ≠ b := fun d hd e => by have := hl d hd; rw [e] at this; omega
    have HNB := hide hnb
    have hsz := B_size l
    clear he hl hv h128 hb128 hnb
    go_enter Tryz.func225, Tryz.ntmps225
    go_wp2_with fail
    refine (unhide HV w).mono ?_
    rintro e w1 ⟨rfl, rfl⟩
    go_wp2_with fail
    go_step3
    go_wp2_with fail
    refine wp_loop_rounds 1 ?_
    rw [rounds_succ]
    by_cases hzl2 : z < l.length
    · have i0 : (z : Int) < ((B l).size : Int) := by omega
      have i1 : z < (B l).size := by omega
      obtain ⟨d, hd⟩ : ∃ d, (B l)[z]'i1 = d := ⟨_, rfl⟩
      have hdm : d ∈ l := by rw [← hd, B_get]; exact List.getElem_mem _
      obtain ⟨m, hm⟩ : ∃ m, d.toNat = m := ⟨_, rfl⟩
      obtain ⟨n, hn⟩ : ∃ n, b.toNat = n := ⟨_, rfl⟩
      have hdb : ((m : Int) == (n : Int)) = false := by
        rw [beq_eq_false_iff_ne]
        have := unhide HNB d hdm
        intro e
        exact this (UInt8.toNat_inj.1 (by omega))
      have hdn : ((m : Int) != (n : Int)) = true := by rw [bne, hdb]; rfl
      have hx : (B l).extract (z + 1) l.length = B (l.drop (z + 1)) := by rw [B_extract, List.take_length]
      have HI : Hid (∀ W, Calls Tryz.prog 228 #[.string ((B l).extract (z + 1) l.length), .int .u8 (n : Int)] W fun e w' => e = .returned (.int .i64 (-1)) ∧ w' = W) := hide (fun W => by
        rw [← hn]
        have h := Tryz.strings_IndexByte (B (l.drop (z + 1))) (b.toNat : Int) W
        rw [B_data, Int.toNat_natCast, show b.toNat.toUInt8 = b from by simp, index_no (fun c hc => unhide HNB c (List.mem_of_mem_drop hc))] at h
        rw [hx]
        exact h)
      have q0 : (0 : Int) ≤ (z : Int) := by omega
      have q1 : ((z : Int)).toNat = z := by omega
      have q2 : (z : Int) < (E.size : Int) := by omega
      have q3 : ((z : Int) + 1).toNat = z + 1 := by omega
      have q4 : IntKind.i64.wrap ((z : Int) + 1) = (z : Int) + 1 := by rw [wi64] <;> omega
      have q5 : (0 : Int) ≤ (z : Int) + 1 := by omega
      have q6 : (z : Int) + 1 ≤ ((B l).size : Int) := by omega
      have q7 : ¬ ((B l).size : Int) < (z : Int) + 1 := by omega
      clear hx
      go_wp2_with fail
      go_step3
      go_wp2_with fail
      go_big_quiet (fail)
      have HBW := hide (drewN_below w1 nq)
      obtain ⟨W2, hW2⟩ : ∃ W2, w1.drewN nq = W2 := ⟨_, rfl⟩
      rw [hW2] at HBW ⊢
      clear hW2
      go_wp2_with fail
      go_quiet ((go_at_call 228; exact Calls.quiet_of_same (unhide HI _)))
      go_wp2_with fail
      simp only [Exit.noGoto_ret, Exit.inBlock, Exit.then]
      go_ret
      exact ⟨rfl, step_b (unhide HBW) (drewN_below _ _)⟩
    · have i0 : ¬ (z : Int) < ((B l).size : Int) := by omega
      go_wp2_with fail
      go_ret
      exact ⟨rfl, Below.refl _ _⟩
end Go.Proofs.YtpbnmhnbkfnaeaaGreatDoor
/- The program's words of a text: how far a word goes. -/
namespace Go.Proofs.YtpbnmhnbkfnaeaaGreatDoor
open Go.RowKit Nt

def hasN (l : List UInt8) (c : Nat) : Bool := l.any fun d => d.toNat == c
theorem containsRune_c (l : List UInt8) (c : Nat) (w : World) (hl : ∀ d ∈ l, d.toNat < 128) (hv : RuneOk c) (hlen : l.length ≤ 1000) :
    Calls Tryz.prog 218 #[.string (B l), .int .i32 c] w fun e w' => e = .returned (.bool (hasN l c)) ∧ Below w.heap.size w w' := by
  by_cases h : c < 128
  · have h1 := Tryz.strings_ContainsRune_ascii (B l) (c : Int) w (by omega) (by omega)
    rw [B_data, Int.toNat_natCast] at h1
    have e : decide (0 ≤ Lib.indexByte l c.toUInt8) = hasN l c := by
      rw [Bool.eq_iff_iff, decide_eq_true_eq, index_yes]
      unfold hasN
      rw [List.any_eq_true]
      have hc : c.toUInt8.toNat = c := by rw [Nat.toUInt8, UInt8.toNat_ofNat']; omega
      constructor
      · intro hm; exact ⟨_, hm, by rw [hc]; simp⟩
      · rintro ⟨d, hd, he⟩
        have : d.toNat = c := by simpa using he
        rw [← UInt8.toNat_inj.1 (show d.toNat = c.toUInt8.toNat by rw [hc]; exact this)]
        exact hd
    rw [e] at h1
    refine h1.mono ?_
    rintro e w' ⟨rfl, rfl⟩
    exact ⟨rfl, Below.refl _ _⟩
  · have e : hasN l c = false := by
      unfold hasN
      rw [List.any_eq_false]
      intro d hd
      have := hl d hd
      simp; omega
    rw [e]
    have HI := hide (indexRune_high l c w hl (by omega) hv hlen)
    go_enter Tryz.func218, Tryz.ntmps218
    go_wp2_with fail
    refine (unhide HI).mono ?_
    rintro e w1 ⟨rfl, hb⟩
    have HB := hide hb
    clear hb
    go_wp2_with fail
    go_ret
    exact ⟨rfl, unhide HB⟩
def endersL : List UInt8 := [32, 9, 10, 13, 40, 41, 34, 59, 39]
theorem enders_has (c : Nat) : hasN endersL c = endN c := by
  unfold hasN endersL endN
  simp only [List.any_cons, List.any_nil, Bool.or_false]
  rw [Bool.eq_iff_iff]
  simp only [Bool.or_eq_true, beq_iff_eq, UInt8.toNat_ofNat]
  omega
theorem readEndsWord_c (c : Nat) (w : World) (hv : RuneOk c) :
    Calls Tryz.prog 211 #[.int .i32 c] w fun e w' => e = .returned (.bool (endN c)) ∧ Below w.heap.size w w' := by
  have HI : Hid (Calls Tryz.prog 218 #[.string ⟨#[32, 9, 10, 13, 40, 41, 34, 59, 39]⟩, .int .i32 c] w fun e w' => e = .returned (.bool (endN c)) ∧ Below w.heap.size w w') := hide (by
    have h := containsRune_c endersL c w (by decide) hv (by decide)
    rw [enders_has] at h
    exact h)
  go_enter Tryz.func211, Tryz.ntmps211
  go_wp2_with fail
  refine (unhide HI).mono ?_
  rintro e w1 ⟨rfl, hb⟩
  have HB := hide hb
  clear hb
  go_wp2_with fail
  go_ret
  exact ⟨rfl, unhide HB⟩

theorem end_small {c : Nat} (h : endN c = true) : c < 128 := by
  unfold endN at h
  simp only [Bool.or_eq_true, beq_iff_eq] at h
  omega
/-- the bytes of the character at a place, as p looks at them, p being false from 128 on -/
theorem rune_bytes {p : Nat → Bool} (hp : ∀ c, p c = true → c < 128) (t : List UInt8) (k : Nat) (h : k < t.length) :
    1 ≤ (Utf8.decode (B t) k).2 ∧ k + (Utf8.decode (B t) k).2 ≤ t.length ∧ (p (Utf8.decode (B t) k).1 = true → p (t[k]'h).toNat = true) ∧
    (p (Utf8.decode (B t) k).1 = false → ∀ i (hi : i < t.length), k ≤ i → i < k + (Utf8.decode (B t) k).2 → p (t[i]'hi).toNat = false) := by
  obtain ⟨a1, a2, a3, a4⟩ := dec_asc (B t) k (by rw [B_size]; exact h)
  rw [B_size] at a2
  have hg : ∀ i (hi : i < t.length), (B t).get! i = t[i]'hi := fun i hi => by
    rw [get!_lt _ _ (by rw [B_size]; exact hi), B_get]
  refine ⟨a1, a2, fun hq => ?_, fun hq i hi h1 h2 => ?_⟩
  · obtain ⟨_, e⟩ := a3 (hp _ hq)
    rw [hg k h] at e
    rw [e]; exact hq
  · by_cases hc : (Utf8.decode (B t) k).1 < 128
    · obtain ⟨e1, e⟩ := a3 hc
      obtain rfl : i = k := by omega
      rw [hg i hi] at e
      rw [e]; exact hq
    · have := a4 (by omega) i h1 h2
      rw [hg i hi] at this
      cases e : p (t[i]'hi).toNat with
      | false => rfl
      | true => have := hp _ e; omega

set_option maxHeartbeats 4000000 in
theorem readUntil_c (t : List UInt8) (w : World) (_hs : t.length ≤ 1048576) :
    Calls Tryz.prog 210 #[.string (B t), .func (.func 211) #[] #[]] w fun e w' => e = .returned (.int .i64 (untilM endN t : Nat)) ∧ Below w.heap.size w w' := by
  go_enter Tryz.func210, Tryz.ntmps210
  go_wp2_with fail
  go_loopw [5] (fun _ wr => ∃ pos : Nat, pos ≤ t.length ∧ Hid (wr.heap[w.heap.size]? = some (.stringIter (B t) pos)) ∧ Hid (Below w.heap.size w wr) ∧ Hid (∀ j (hj : j < t.length), j < pos → endN (t[j]'hj).toNat = false))
    (fun _ wr => t.length - wr.iterPos w.heap.size)
  case atStart => exact ⟨0, Nat.zero_le _, hide (World.iter_heap _ _ _), hide ((Below.refl _ _).alloc (Nat.le_refl _) _), hide (fun j _ h => by omega)⟩
  case round =>
    obtain ⟨pos, hpl, HIT, HB, HV⟩ := hrel
    have hpos0 := iterPos_of (unhide HIT)
    by_cases hlt : pos < t.length
    · have hlt2 : pos < (B t).size := by rw [B_size]; exact hlt
      have hnx := fun ty => Lib.run_next_any_at (P := Tryz.prog) wr w.heap.size (B t) pos ty (unhide HIT) hlt2
      have hb2 := Lib.below_iterAt (unhide HB) (k := w.heap.size) (Nat.le_refl _) (B t) (pos + (Utf8.decode (B t) pos).2)
      have hit2 := Lib.iterAt_heap wr w.heap.size (B t) pos (pos + (Utf8.decode (B t) pos).2) (unhide HIT)
      have HRB := hide (rune_bytes (p := endN) (fun c h => end_small h) t pos hlt)
      have HE := hide (fun W => readEndsWord_c (Utf8.decode (B t) pos).1 W (dec_rune (B t) pos))
      obtain ⟨c, wd, hcw⟩ : ∃ c wd, Utf8.decode (B t) pos = (c, wd) := ⟨_, _, rfl⟩
      rw [hcw] at hnx hb2 hit2 HRB HE
      simp only at hnx hb2 hit2 HRB HE
      have HB2 := hide hb2
      have HIT2 := hide hit2
      have HP0 := hide hpos0
      clear hcw hb2 hit2 hpos0 HB HIT
      go_wp2_with fail
      refine (unhide HE _).mono ?_
      rintro e w2 ⟨rfl, hb3⟩
      have HB3 := hide (step_b (unhide HB2) hb3)
      have HIT3 : Hid (w2.heap[w.heap.size]? = some (.stringIter (B t) (pos + wd))) := hide ((hb3.block w.heap.size (Array.getElem?_eq_some_iff.1 (unhide HIT2)).1).trans (unhide HIT2))
      have HP3 := hide (iterPos_of (unhide HIT3))
      clear hb3
      obtain ⟨r1, r2, r3, r4⟩ := unhide HRB
      rcases Bool.eq_false_or_eq_true (endN c) with he | he
      · have HU : Hid (untilM endN t = pos) := hide (until_eq (fun i h hi => unhide HV i h hi) (fun _ => r3 he) hpl)
        rw [he]
        clear he r3 r4
        go_wp2_with fail
        go_ret
        exact ⟨by rw [unhide HU]; rfl, unhide HB3⟩
      · have HV2 : Hid (∀ j (hj : j < t.length), j < pos + wd → endN (t[j]'hj).toNat = false) := hide (fun j hj h => by
          by_cases h2 : j < pos
          · exact unhide HV j hj h2
          · exact r4 he j hj (by omega) h)
        rw [he]
        clear he r3 r4
        go_wp2_with fail
        go_roundw
        case rel => exact ⟨pos + wd, r2, HIT3, HB3, HV2⟩
        case measure => rw [unhide HP0, unhide HP3]; omega
    · have hlt2 : ¬ pos < (B t).size := by rw [B_size]; exact hlt
      have hnx := fun ty => Lib.run_next_end_at (P := Tryz.prog) wr w.heap.size (B t) pos ty (unhide HIT) hlt2
      obtain rfl : pos = t.length := by omega
      have HU : Hid (((B t).size : Int) = (untilM endN t : Nat)) := hide (by rw [until_eq (fun i h hi => unhide HV i h hi) (fun h => by omega) (Nat.le_refl _), B_size])
      clear hpos0
      go_wp2_with fail
      go_ret
      exact ⟨ret_int (unhide HU), unhide HB⟩

set_option maxHeartbeats 4000000 in
theorem readWordSpan_c (t : List UInt8) (w : World) (hs : t.length ≤ 1048576) :
    Calls Tryz.prog 191 #[.string (B t)] w fun e w' => e = .returned (.string (B (headW t))) ∧ Below w.heap.size w w' := by
  have hle : untilM endN t ≤ t.length := by unfold untilM; exact (List.takeWhile_prefix _).length_le
  have HX : Hid ((B t).extract 0 (untilM endN t) = B (headW t)) := hide (by rw [B_extract, headW_eq]; simp)
  have hsz := B_size t
  have HU := hide (readUntil_c t w hs)
  obtain ⟨k, hk⟩ : ∃ k, untilM endN t = k := ⟨_, rfl⟩
  rw [hk] at hle HX HU
  clear hk
  go_enter Tryz.func191, Tryz.ntmps191
  go_wp2_with fail
  refine (unhide HU).mono ?_
  rintro e w1 ⟨rfl, hb⟩
  have HB := hide hb
  clear hb
  go_wp2_with fail
  go_ret
  exact ⟨by rw [← unhide HX]; rfl, unhide HB⟩

set_option maxHeartbeats 4000000 in
theorem readWordOf_c (t : List UInt8) (w : World) (hs : t.length ≤ 1048576) :
    Calls Tryz.prog 165 #[.string (B t)] w fun e w' => e = .returned (.iface 222 (.agg #[.string (B (headW t))])) ∧ Below w.heap.size w w' := by
  have HU := hide (readWordSpan_c t w hs)
  go_enter Tryz.func165, Tryz.ntmps165
  go_wp2_with fail
  refine (unhide HU).mono ?_
  rintro e w1 ⟨rfl, hb⟩
  have HB := hide hb
  clear hb
  go_wp2_with fail
  go_ret
  exact ⟨rfl, unhide HB⟩
end Go.Proofs.YtpbnmhnbkfnaeaaGreatDoor
/- Contracts of Go's library at this program: as the kit's lay-shelf.mjs and lay-plain.mjs print them (the numbers are this seat's: lay anew at another). -/
namespace Go.Proofs.YtpbnmhnbkfnaeaaGreatDoor
open Go.Shelf
def Tryz.lays196_ren : Go.Shelf.Ren := ⟨fun | 196 => 167 | 259 => 192 | n => n, fun | 9 => 9 | 4 => 4 | 3 => 3 | 5 => 5 | 12 => 12 | 119 => 224 | 0 => 0 | 46 => 150 | 139 => 227 | 138 => 226 | 53 => 173 | n => n, fun | 3 => 1 | 4 => 2 | n => n⟩
theorem Tryz.lays196 : Go.Proofs.Lays.n196 Tryz.prog Tryz.lays196_ren := {
  mixed := by kernel_rfl
  f196 := Tryz.func167.trans (congrArg some (by kernel_rfl))
  f259 := Tryz.func192.trans (congrArg some (by kernel_rfl))
  t0 := Tryz.underlying0
  a0 := Tryz.isAgg0
  z0 := Tryz.sizeOf0
  v0 := Tryz.zeroValue0
  t3 := Tryz.underlying3
  a3 := Tryz.isAgg3
  z3 := Tryz.sizeOf3
  v3 := Tryz.zeroValue3
  t4 := Tryz.underlying4
  a4 := Tryz.isAgg4
  z4 := Tryz.sizeOf4
  v4 := Tryz.zeroValue4
  t5 := Tryz.underlying5
  a5 := Tryz.isAgg5
  z5 := Tryz.sizeOf5
  v5 := Tryz.zeroValue5
  t9 := Tryz.underlying9
  a9 := Tryz.isAgg9
  z9 := Tryz.sizeOf9
  v9 := Tryz.zeroValue9
  t12 := Tryz.underlying12
  a12 := Tryz.isAgg12
  z12 := Tryz.sizeOf12
  v12 := Tryz.zeroValue12
  t46 := Tryz.underlying150
  a46 := Tryz.isAgg150
  z46 := Tryz.sizeOf150
  v46 := Tryz.zeroValue150
  t53 := Tryz.underlying173
  a53 := Tryz.isAgg173
  z53 := Tryz.sizeOf173
  v53 := Tryz.zeroValue173
  t119 := Tryz.underlying224
  a119 := Tryz.isAgg224
  z119 := Tryz.sizeOf224
  t138 := Tryz.underlying226
  a138 := Tryz.isAgg226
  z138 := Tryz.sizeOf226
  v138 := Tryz.zeroValue226
  t139 := Tryz.underlying227
  a139 := Tryz.isAgg227
  z139 := Tryz.sizeOf227
  v139 := Tryz.zeroValue227
  g3 := by kernel_rfl
  g4 := by kernel_rfl }
open Go.RowKit in
/-- unicode/utf8.ValidString at every string -/
theorem Tryz.utf8_ValidString (s : ByteArray) (w : World) (hs : s.size ≤ 9223372036854775807) (hT : Lib.Utf8Tabs 1 2 w) :
    Calls Tryz.prog 167 #[.string s] w fun e w' => e = .returned (.bool (Lib.validD s.data.toList)) ∧ Below w.heap.size w w' := Any.utf8_ValidString Tryz.lays196 s w hs hT
end Go.Proofs.YtpbnmhnbkfnaeaaGreatDoor
/- The program's looks at texts of strings, characters, symbols. -/
namespace Go.Proofs.YtpbnmhnbkfnaeaaGreatDoor
open Go.RowKit Nt

/-- the two tables of utf8 -/
def Tabz (w : World) : Prop := Lib.Utf8Tabs 1 2 w
theorem Tabz.below {B : Nat} {w w' : World} (h : Tabz w) (hB : 2 < B) (k : Below B w w') : Tabz w' := by
  refine ⟨fun c hc => ?_, fun i hi => ⟨?_, ?_⟩⟩
  · exact (k.cell (p := ⟨_, c, none⟩) (by show 1 < B; omega)).trans (h.1 c hc)
  · exact (k.cell (p := ⟨_, 2 * i, none⟩) (by show 2 < B; omega)).trans (h.2 i hi).1
  · exact (k.cell (p := ⟨_, 2 * i + 1, none⟩) (by show 2 < B; omega)).trans (h.2 i hi).2
theorem validString_c (t : List UInt8) (w : World) (hs : t.length ≤ 1048576) (hT : Tabz w) :
    Calls Tryz.prog 167 #[.string (B t)] w fun e w' => e = .returned (.bool (Lib.validD t)) ∧ Below w.heap.size w w' := by
  have h := Tryz.utf8_ValidString (B t) w (by rw [B_size]; omega) hT
  rw [B_data] at h
  exact h
theorem runeCount_c (t : List UInt8) (w : World) (hs : t.length ≤ 1048576) :
    Calls Tryz.prog 168 #[.string (B t)] w fun e w' => e = .returned (.int .i64 (Lib.runeCount (B t))) ∧ Below w.heap.size w w' := by
  refine (Tryz.utf8_RuneCountInString (B t) w (by rw [B_size]; omega)).mono ?_
  rintro e w' ⟨rfl, pos, rfl⟩
  exact ⟨rfl, (Below.refl _ _).alloc (Nat.le_refl _) _⟩

set_option maxHeartbeats 4000000 in
theorem readIsText_c (t : List UInt8) (w : World) (hs : t.length ≤ 1048576) (hT : Tabz w) :
    Calls Tryz.prog 136 #[.string (B t)] w fun e w' => e = .returned (.bool (decide (t.length ≤ 200) && Lib.validD t)) ∧ Below w.heap.size w w' := by
  have HV := hide (validString_c t w hs hT)
  by_cases h : t.length ≤ 200
  · have h' : ((B t).size : Int) ≤ 200 := by rw [B_size]; omega
    have HQ : Hid ((decide (t.length ≤ 200) && Lib.validD t) = Lib.validD t) := hide (by rw [decide_eq_true h, Bool.true_and])
    clear h
    go_enter Tryz.func136, Tryz.ntmps136
    go_wp2_with fail
    refine (unhide HV).mono ?_
    rintro e w1 ⟨rfl, hb⟩
    have HB := hide hb
    clear hb
    go_wp2_with fail
    go_ret
    exact ⟨by rw [unhide HQ]; rfl, unhide HB⟩
  · have h' : ¬ ((B t).size : Int) ≤ 200 := by rw [B_size]; omega
    have HQ : Hid ((decide (t.length ≤ 200) && Lib.validD t) = false) := hide (by rw [decide_eq_false h, Bool.false_and])
    clear h
    go_enter Tryz.func136, Tryz.ntmps136
    go_wp2_with fail
    go_ret
    exact ⟨by rw [unhide HQ]; rfl, Below.refl _ _⟩

set_option maxHeartbeats 4000000 in
theorem readIsCharacter_c (t : List UInt8) (w : World) (hs : t.length ≤ 1048576) (hT : Tabz w) :
    Calls Tryz.prog 137 #[.string (B t)] w fun e w' => e = .returned (.bool (oneM t)) ∧ Below w.heap.size w w' := by
  have HV := hide (validString_c t w hs hT)
  have HC := hide (fun W => runeCount_c t W hs)
  obtain ⟨n, hn⟩ : ∃ n, Lib.runeCount (B t) = n := ⟨_, rfl⟩
  have he := oneM_eq t
  rw [hn] at HC he
  have HE := hide he
  clear he hn
  cases hv : Lib.validD t with
  | false =>
    rw [hv] at HV HE
    clear hv
    go_enter Tryz.func137, Tryz.ntmps137
    go_wp2_with fail
    refine (unhide HV).mono ?_
    rintro e w1 ⟨rfl, hb⟩
    have HB := hide hb
    clear hb
    go_wp2_with fail
    go_ret
    exact ⟨by rw [unhide HE]; rfl, unhide HB⟩
  | true =>
    rw [hv] at HV HE
    have HQ : Hid (oneM t = ((n : Int) == 1)) := hide (by rw [unhide HE, Bool.true_and, Bool.eq_iff_iff]; simp; omega)
    clear hv
    go_enter Tryz.func137, Tryz.ntmps137
    go_wp2_with fail
    refine (unhide HV).mono ?_
    rintro e w1 ⟨rfl, hb⟩
    have HB := hide hb
    clear hb
    go_wp2_with fail
    refine (unhide HC w1).mono ?_
    rintro e w2 ⟨rfl, hb⟩
    have HB2 := hide (step_b (unhide HB) hb)
    clear hb
    go_wp2_with fail
    go_ret
    exact ⟨by rw [unhide HQ]; rfl, unhide HB2⟩

def firstsL : List UInt8 := [48, 49, 50, 51, 52, 53, 54, 55, 56, 57, 35, 44, 96]
def badsL : List UInt8 := [40, 41, 34, 59, 39, 92, 124]
theorem firsts_has (c : Nat) : hasN firstsL c = headN c := by
  unfold hasN firstsL headN
  simp only [List.any_cons, List.any_nil, Bool.or_false]
  rw [Bool.eq_iff_iff]
  simp only [Bool.or_eq_true, Bool.and_eq_true, beq_iff_eq, UInt8.toNat_ofNat, decide_eq_true_eq]
  omega
theorem bads_has (c : Nat) (h : ¬ c < 33) (h2 : c ≠ 127) : hasN badsL c = badN c := by
  unfold hasN badsL badN endN
  simp only [List.any_cons, List.any_nil, Bool.or_false]
  rw [Bool.eq_iff_iff]
  simp only [Bool.or_eq_true, beq_iff_eq, UInt8.toNat_ofNat, decide_eq_true_eq]
  omega
theorem bad_small {c : Nat} (h : badN c = true) : c < 128 := by
  unfold badN endN at h
  simp only [Bool.or_eq_true, beq_iff_eq, decide_eq_true_eq] at h
  omega
theorem bad_low {c : Nat} (h : c < 33) : badN c = true := by
  unfold badN; rw [decide_eq_true h]; simp
theorem bad_127 : badN 127 = true := by decide
theorem all_bads {l : List UInt8} {k : Nat} (h : k < l.length) (hb : badN (l[k]'h).toNat = true) : (l.all fun c => !badN c.toNat) = false := by
  rw [List.all_eq_false]; exact ⟨l[k]'h, List.getElem_mem h, by simp [hb]⟩
theorem all_goods {l : List UInt8} (h : ∀ i (hi : i < l.length), badN (l[i]'hi).toNat = false) : (l.all fun c => !badN c.toNat) = true := by
  rw [List.all_eq_true]
  intro c hc
  obtain ⟨i, hi, rfl⟩ := List.mem_iff_getElem.1 hc
  simp [h i hi]

set_option maxHeartbeats 4000000 in
set_option maxRecDepth 100000 in
theorem readSpellsSymbol_c (t : List UInt8) (w : World) (hs : t.length ≤ 1048576) (hT : Tabz w) :
    Calls Tryz.prog 250 #[.string (B t)] w fun e w' => e = .returned (.bool (wordM t)) ∧ Below w.heap.size w w' := by
  have HT := hide (readIsText_c t w hs hT)
  by_cases hne : t = []
  · have e0 : ((B t).toList.isEmpty) = true := by rw [hne, B_tl]; rfl
    have HQ : Hid (wordM t = false) := hide (by rw [hne]; rfl)
    clear hne
    go_enter Tryz.func250, Tryz.ntmps250
    go_wp2_with fail
    go_ret
    exact ⟨by rw [unhide HQ]; rfl, Below.refl _ _⟩
  · have e0 : ((B t).toList.isEmpty) = false := by rw [B_tl]; cases t with | nil => exact absurd rfl hne | cons a r => rfl
    obtain ⟨c, r, hcr⟩ : ∃ c r, t = c :: r := by cases t with | nil => exact absurd rfl hne | cons c r => exact ⟨c, r, rfl⟩
    have HW : Hid (wordM t = (!headN c.toNat && decide (t.length ≤ 200) && Lib.validD t && t.all fun c => !badN c.toNat)) := hide (by rw [hcr]; rfl)
    have hz : 0 < (B t).size := by rw [B_size, hcr]; simp
    have hc : (B t)[0]'hz = c := by rw [B_get]; subst hcr; rfl
    clear hcr hne
    rcases Bool.eq_false_or_eq_true (decide (t.length ≤ 200) && Lib.validD t) with hv | hv
    · rw [hv] at HT
      obtain ⟨n, hn⟩ : ∃ n, c.toNat = n := ⟨_, rfl⟩
      have hn256 : n < 256 := by rw [← hn]; exact c.toNat_lt
      have HC1 : Hid (∀ W, Calls Tryz.prog 218 #[.string ⟨#[48, 49, 50, 51, 52, 53, 54, 55, 56, 57, 35, 44, 96]⟩, .int .i32 n] W fun e w' => e = .returned (.bool (headN n)) ∧ Below W.heap.size W w') := hide (fun W => by
        have h := containsRune_c firstsL n W (by decide) (by unfold RuneOk; omega) (by decide)
        rw [firsts_has] at h
        exact h)
      have hw32 : wrap32 (n : Int) = (n : Int) := by unfold wrap32; omega
      have HW2 : Hid (wordM t = (!headN n && t.all fun c => !badN c.toNat)) := hide (by rw [unhide HW, hn, Bool.and_assoc (!headN n), hv, Bool.and_true])
      clear hv hn256 HW
      go_enter Tryz.func250, Tryz.ntmps250
      go_wp2_with fail
      refine (unhide HT).mono ?_
      rintro e w1 ⟨rfl, hb⟩
      have HB := hide hb
      clear hb
      go_wp2_with fail
      refine (unhide HC1 w1).mono ?_
      rintro e w2 ⟨rfl, hb⟩
      have HB2 := hide (step_b (unhide HB) hb)
      clear hb HB HC1
      rcases Bool.eq_false_or_eq_true (headN n) with hh | hh
      · have HQ : Hid (wordM t = false) := hide (by rw [unhide HW2, hh]; rfl)
        rw [hh]
        clear hh HW2
        go_wp2_with fail
        go_ret
        exact ⟨by rw [unhide HQ]; rfl, unhide HB2⟩
      · have HQ : Hid (wordM t = t.all fun c => !badN c.toNat) := hide (by rw [unhide HW2, hh]; rfl)
        rw [hh]
        have HIT0 : Hid ((w2.iter (B t) 0).heap[w2.heap.size]? = some (.stringIter (B t) 0)) := hide (World.iter_heap _ _ _)
        have HB0 : Hid (Below w.heap.size w (w2.iter (B t) 0)) := hide ((unhide HB2).alloc (unhide HB2).size _)
        have HBZ := hide (unhide HB2).size
        clear hh HW2 hc hn hw32 hz e0 HT HB2
        go_wp2_with fail
        go_loopw [4] (fun _ wr => ∃ pos : Nat, pos ≤ t.length ∧ Hid (wr.heap[w2.heap.size]? = some (.stringIter (B t) pos)) ∧ Hid (Below w.heap.size w wr) ∧ Hid (∀ j (hj : j < t.length), j < pos → badN (t[j]'hj).toNat = false))
          (fun _ wr => t.length - wr.iterPos w2.heap.size)
        case atStart => exact ⟨0, Nat.zero_le _, HIT0, HB0, hide (fun j _ h => by omega)⟩
        case round =>
          clear HIT0 HB0
          obtain ⟨pos, hpl, HIT, HB, HV⟩ := hrel
          have hpos0 := iterPos_of (unhide HIT)
          by_cases hlt : pos < t.length
          · have hlt2 : pos < (B t).size := by rw [B_size]; exact hlt
            have hnx := fun ty => Lib.run_next_any_at (P := Tryz.prog) wr w2.heap.size (B t) pos ty (unhide HIT) hlt2
            have hb2 := Lib.below_iterAt (unhide HB) (k := w2.heap.size) (unhide HBZ) (B t) (pos + (Utf8.decode (B t) pos).2)
            have hit2 := Lib.iterAt_heap wr w2.heap.size (B t) pos (pos + (Utf8.decode (B t) pos).2) (unhide HIT)
            have HRB := hide (rune_bytes (p := badN) (fun c h => bad_small h) t pos hlt)
            have hro := dec_rune (B t) pos
            obtain ⟨c, wd, hcw⟩ : ∃ c wd, Utf8.decode (B t) pos = (c, wd) := ⟨_, _, rfl⟩
            rw [hcw] at hnx hb2 hit2 HRB hro
            simp only at hnx hb2 hit2 HRB hro
            have HRO := hide hro
            have HB2 := hide hb2
            have HIT2 := hide hit2
            have HP0 := hide hpos0
            have HP2 := hide (iterPos_of hit2)
            clear hcw hb2 hit2 hpos0 HB HIT hro
            by_cases h33 : c < 33
            · have h33' : (c : Int) < 33 := by omega
              have HX : Hid (wordM t = false) := hide (by rw [unhide HQ]; exact all_bads hlt ((unhide HRB).2.2.1 (bad_low h33)))
              clear h33
              go_wp2_with fail
              go_ret
              exact ⟨by rw [unhide HX]; rfl, unhide HB2⟩
            · have h33' : ¬ (c : Int) < 33 := by omega
              by_cases h127 : c = 127
              · subst h127
                have HX : Hid (wordM t = false) := hide (by rw [unhide HQ]; exact all_bads hlt ((unhide HRB).2.2.1 bad_127))
                clear h33
                go_wp2_with fail
                go_ret
                exact ⟨by rw [unhide HX]; rfl, unhide HB2⟩
              · have h127' : ((c : Int) == 127) = false := by rw [beq_eq_false_iff_ne]; omega
                have HC : Hid (∀ W, Calls Tryz.prog 218 #[.string ⟨#[40, 41, 34, 59, 39, 92, 124]⟩, .int .i32 c] W fun e w' => e = .returned (.bool (badN c)) ∧ Below W.heap.size W w') := hide (fun W => by
                  have h := containsRune_c badsL c W (by decide) (unhide HRO) (by decide)
                  rw [bads_has c h33 h127] at h
                  exact h)
                clear h33 h127
                go_wp2_with fail
                refine (unhide HC _).mono ?_
                rintro e w3 ⟨rfl, hb3⟩
                have HB3 := hide (step_b (unhide HB2) hb3)
                have HIT3 : Hid (w3.heap[w2.heap.size]? = some (.stringIter (B t) (pos + wd))) := hide ((hb3.block w2.heap.size (Array.getElem?_eq_some_iff.1 (unhide HIT2)).1).trans (unhide HIT2))
                have HP3 := hide (iterPos_of (unhide HIT3))
                clear hb3
                obtain ⟨r1, r2, r3, r4⟩ := unhide HRB
                rcases Bool.eq_false_or_eq_true (badN c) with hb | hb
                · have HX : Hid (wordM t = false) := hide (by rw [unhide HQ]; exact all_bads hlt (r3 hb))
                  rw [hb]
                  clear hb r3 r4
                  go_wp2_with fail
                  go_ret
                  exact ⟨by rw [unhide HX]; rfl, unhide HB3⟩
                · have HV2 : Hid (∀ j (hj : j < t.length), j < pos + wd → badN (t[j]'hj).toNat = false) := hide (fun j hj h => by
                    by_cases h2 : j < pos
                    · exact unhide HV j hj h2
                    · exact r4 hb j hj (by omega) h)
                  rw [hb]
                  clear hb r3 r4
                  go_wp2_with fail
                  go_roundw
                  case rel => exact ⟨pos + wd, r2, HIT3, HB3, HV2⟩
                  case measure => rw [unhide HP0, unhide HP3]; omega
          · have hlt2 : ¬ pos < (B t).size := by rw [B_size]; exact hlt
            have hnx := fun ty => Lib.run_next_end_at (P := Tryz.prog) wr w2.heap.size (B t) pos ty (unhide HIT) hlt2
            have HX : Hid (wordM t = true) := hide (by rw [unhide HQ]; exact all_goods (fun i hi => unhide HV i hi (by omega)))
            clear hpos0
            go_wp2_with fail
            go_ret
            exact ⟨by rw [unhide HX]; rfl, unhide HB⟩
    · rw [hv] at HT
      have HQ : Hid (wordM t = false) := hide (by rw [unhide HW, Bool.and_assoc (!headN c.toNat), hv, Bool.and_false, Bool.false_and])
      clear hv HW
      go_enter Tryz.func250, Tryz.ntmps250
      go_wp2_with fail
      refine (unhide HT).mono ?_
      rintro e w1 ⟨rfl, hb⟩
      have HB := hide hb
      clear hb
      go_wp2_with fail
      go_ret
      exact ⟨by rw [unhide HQ]; rfl, unhide HB⟩
end Go.Proofs.YtpbnmhnbkfnaeaaGreatDoor
/- The program's word as a token; whether a text spells an atom. -/
namespace Go.Proofs.YtpbnmhnbkfnaeaaGreatDoor
open Go.RowKit Nt

/-- what a word says -/
def tokM (l : List UInt8) : (Int × Int × List UInt8) × Bool :=
  if l = [46] then ((3, 0, []), true) else match parseM l 10 with
    | some p => ((10, 1, printT p), true)
    | none => ((10, 2, l), wordM l)
theorem spells_tok (s : Int) (t : List UInt8) : spellsM s t = ((tokM (headW t)).2 && decide ((tokM (headW t)).1 = (10, s, t))) := by
  unfold spellsM tokM
  by_cases h : headW t = [46]
  · rw [if_pos h, if_pos h]
    simp
  · rw [if_neg h, if_neg h]
    cases parseM (headW t) 10 with
    | some p =>
      simp only [Bool.true_and]
      rw [Bool.eq_iff_iff]
      simp only [Bool.and_eq_true, decide_eq_true_eq, Prod.mk.injEq, true_and]
      constructor
      · rintro ⟨h1, h2⟩; exact ⟨h1.symm, h2⟩
      · rintro ⟨h1, h2⟩; exact ⟨h1.symm, h2⟩
    | none =>
      rw [Bool.eq_iff_iff]
      simp only [Bool.and_eq_true, decide_eq_true_eq, Prod.mk.injEq, true_and]
      constructor
      · rintro ⟨⟨h1, h2⟩, h3⟩; exact ⟨h3, h1.symm, h2⟩
      · rintro ⟨h3, h1, h2⟩; exact ⟨⟨h1.symm, h2⟩, h3⟩
def tokV (k : Int × Int × List UInt8) : Value := .agg #[.int .i64 k.1, .int .i64 k.2.1, .string (B k.2.2), .int .i64 0]

theorem tok_guard (W : World) (x y : Operand) (xs ys : Array Value) : (eqGuard .eql 192 x y (.agg xs) (.agg ys)).run Tryz.prog W = .ok () W := run_eqGuard_agg W .eql 192 x y xs ys (by kernel_rfl)
theorem tok_eq (W : World) (k k' : Int × Int × List UInt8) : (binOp .eql 192 (tokV k) (tokV k')).run Tryz.prog W = .ok (.bool (decide (k = k'))) W := by
  obtain ⟨a, b, l⟩ := k
  obtain ⟨a', b', l'⟩ := k'
  have hp : Tryz.prog.stoodInHeld 192 = false := by kernel_rfl
  unfold tokV
  rw [run_eql_struct]
  rw [show (10000 : Nat) = 9999 + 1 from rfl, run_equalIn_agg W 9999 192 _ _ (by kernel_rfl) hp]
  simp [go_sem, Op.eqFields, Program.fieldsOf, Tryz.underlying192, part, Tryz.underlying3, Tryz.underlying9, B_tl]
  by_cases h1 : a = a' <;> by_cases h2 : b = b' <;> by_cases h3 : l = l' <;> simp [h1, h2, h3]
theorem readAtom_c (s : Int) (t : List UInt8) (w : World) :
    Calls Tryz.prog 166 #[.int .i64 s, .string (B t)] w fun e w' => e = .returned (tokV (10, s, t)) ∧ Below w.heap.size w w' := by
  have HB := hide (step_a (Below.refl w.heap.size w) (.cells #[.int .i64 10, .int .i64 s, .string (B t), .int .i64 0] 192))
  go_enter Tryz.func166, Tryz.ntmps166
  go_wp2_with fail
  refine bodyPost_ret (v := tokV (10, s, t)) (by simp [results, Tryz.results166, go_sem, tokV]) rfl ⟨rfl, ?_⟩
  exact unhide HB

set_option maxHeartbeats 4000000 in
set_option maxRecDepth 100000 in
theorem token_c (l : List UInt8) (w : World) (hs : l.length ≤ 1048576) (hT : Tabz w) (hN : Tens w) (h2 : 3 < w.heap.size) :
    Calls Tryz.prog 248 #[.agg #[.string (B l)]] w fun e w' => e = .returned (.tuple #[tokV (tokM l).1, .bool (tokM l).2]) ∧ Below w.heap.size w w' := by
  have hb0 := step_a (step_a (Below.refl w.heap.size w) (.cells #[.string (B l)] 222)) (.cells #[.int .i64 0, .int .i64 0, .string ⟨#[]⟩, .int .i64 0] 192)
  have HB0 := hide hb0
  have HC0 := hide (AtC.new (w.alloc (.cells #[.string (B l)] 222)) #[.int .i64 0, .int .i64 0, .string ⟨#[]⟩, .int .i64 0] 192)
  rw [World.size_alloc] at HC0
  by_cases h46 : l = [46]
  · have e1 : ((B l).toList == [46]) = true := by rw [h46]; exact (by rw [B_tl]; rfl)
    have HQ : Hid (tokM l = ((3, 0, []), true)) := hide (by unfold tokM; rw [if_pos h46])
    have HBB := hide (step_a (step_a (Below.refl w.heap.size w) (.cells #[.string (B l)] 222)) (.cells #[.int .i64 3, .int .i64 0, .string ⟨#[]⟩, .int .i64 0] 192))
    clear h46 hb0
    go_enter Tryz.func248, Tryz.ntmps248
    go_wp2_with fail
    refine bodyPost_ret (v := .tuple #[tokV (3, 0, []), .bool true]) (by simp [results, Tryz.results248, go_sem, tokV]; rfl) rfl ⟨by rw [unhide HQ], ?_⟩
    exact unhide HBB
  · have e1 : ((B l).toList == [46]) = false := by rw [B_tl, beq_eq_false_iff_ne]; exact h46
    have HNP := hide (fun W h => implNumParse_c l 10 W (by omega) h)
    cases hp : parseM l 10 with
    | none =>
      have HQ : Hid (tokM l = ((10, 2, l), wordM l)) := hide (by unfold tokM; rw [if_neg h46, hp])
      rw [hp, show numAns none = .tuple #[.agg #[.bool false, .string ⟨#[]⟩, .string ⟨#[]⟩], .bool false] from rfl] at HNP
      clear h46 hp
      go_enter Tryz.func248, Tryz.ntmps248
      go_wp2_with fail
      obtain ⟨W, hW⟩ : ∃ W, (w.alloc (.cells #[.string (B l)] 222)).alloc (.cells #[.int .i64 0, .int .i64 0, .string ⟨#[]⟩, .int .i64 0] 192) = W := ⟨_, rfl⟩
      rw [hW] at hb0 HB0 HC0 ⊢
      clear hW
      refine (unhide HNP W (hN.belowB hb0 (by omega))).mono ?_
      rintro e w1 ⟨rfl, hb1⟩
      have hb2 := step_a hb1 (.cells #[.bool false, .string ⟨#[]⟩, .string ⟨#[]⟩] 79)
      have HB2 := hide (step_b (unhide HB0) hb2)
      have HC2 := hide ((unhide HC0).below hb2)
      clear hb1 hb2 HB0 HC0
      go_wp2_with fail
      refine (readAtom_c 2 l _).mono ?_
      rintro e w3 ⟨rfl, hb3⟩
      have HB3 := hide (step_b (unhide HB2) hb3)
      have HC3 := hide ((unhide HC2).below hb3)
      clear hb3 HB2 HC2
      go_wp2_with fail
      have h := readSpellsSymbol_c l w3 hs (hT.below (by omega) (unhide HB3))
      refine h.mono ?_
      clear h
      rintro e w4 ⟨rfl, hb4⟩
      have HB4 := hide (step_b (unhide HB3) hb4)
      have HC := hide ((unhide HC3).below hb4)
      clear hb4 HB3 HC3
      -- the token is stored into its box: w4 the world, HB4 its fact since w, (10, 2, l) the token, (wordM l) its value is so
      have c0 : (w4).cell? ⟨w.heap.size + 1, 0, none⟩ = some (.int .i64 0) := (unhide HC).c 0
      have c1 : (w4).cell? ⟨w.heap.size + 1, 1, none⟩ = some (.int .i64 0) := (unhide HC).c 1
      have c2 : (w4).cell? ⟨w.heap.size + 1, 2, none⟩ = some (.string ⟨#[]⟩) := (unhide HC).c 2
      have c3 : (w4).cell? ⟨w.heap.size + 1, 3, none⟩ = some (.int .i64 0) := (unhide HC).c 3
      have cf := (unhide HC).f
      have hlc := (unhide HC).lt
      unfold tokV
      go_wp2_with fail
      have hcc := And.intro c0 (And.intro c1 (And.intro c2 c3))
      refine bodyPost_ret (v := .tuple #[tokV (10, 2, l), .bool (wordM l)]) (by simp [results, Tryz.results248, go_sem, hcc, tokV]) rfl ⟨?_, ?_⟩
      · rw [unhide HQ]
      · exact ((((unhide HB4).setCell (by show w.heap.size ≤ w.heap.size + 1; omega) _).setCell (by show w.heap.size ≤ w.heap.size + 1; omega) _).setCell (by show w.heap.size ≤ w.heap.size + 1; omega) _).setCell (by show w.heap.size ≤ w.heap.size + 1; omega) _
    | some p =>
      obtain ⟨n, u, d⟩ := p
      have hok := parse_ok hp
      obtain ⟨_, _, hl1, hl2, _⟩ := ok_parts hok
      have HQ : Hid (tokM l = ((10, 1, printM n (txl 10 u) (txl 10 d) 10), true)) := hide (by unfold tokM; rw [if_neg h46, hp]; rfl)
      rw [hp, show numAns (some (n, u, d)) = .tuple #[.agg #[.bool n, .string (B (txl 10 u)), .string (B (txl 10 d))], .bool true] from rfl] at HNP
      clear h46 hp hok
      go_enter Tryz.func248, Tryz.ntmps248
      go_wp2_with fail
      obtain ⟨W, hW⟩ : ∃ W, (w.alloc (.cells #[.string (B l)] 222)).alloc (.cells #[.int .i64 0, .int .i64 0, .string ⟨#[]⟩, .int .i64 0] 192) = W := ⟨_, rfl⟩
      rw [hW] at hb0 HB0 HC0 ⊢
      clear hW
      refine (unhide HNP W (hN.belowB hb0 (by omega))).mono ?_
      rintro e w1 ⟨rfl, hb1⟩
      have hb2 := step_a hb1 (.cells #[.bool n, .string (B (txl 10 u)), .string (B (txl 10 d))] 79)
      have HB2 := hide (step_b (unhide HB0) hb2)
      have HC2 := hide ((unhide HC0).below hb2)
      clear hb1 hb2 HB0 HC0
      go_wp2_with fail
      have h := implNumPrint_c n (txl 10 u) (txl 10 d) 10 (w1.alloc (.cells #[.bool n, .string (B (txl 10 u)), .string (B (txl 10 d))] 79)) (by omega) (by omega) (hN.belowB (unhide HB2) (by omega))
      refine h.mono ?_
      clear h
      rintro e w3 ⟨rfl, hb3⟩
      have HB3 := hide (step_b (unhide HB2) hb3)
      have HC3 := hide ((unhide HC2).below hb3)
      clear hb3 HB2 HC2
      obtain ⟨P, hP⟩ : ∃ P, printM n (txl 10 u) (txl 10 d) 10 = P := ⟨_, rfl⟩
      rw [hP] at HQ ⊢
      clear hP
      go_wp2_with fail
      refine (readAtom_c 1 P _).mono ?_
      rintro e w4 ⟨rfl, hb4⟩
      have HB4 := hide (step_b (unhide HB3) hb4)
      have HC := hide ((unhide HC3).below hb4)
      clear hb4 HB3 HC3
      -- the token is stored into its box: w4 the world, HB4 its fact since w, (10, 1, P) the token, true its value is so
      have c0 : (w4).cell? ⟨w.heap.size + 1, 0, none⟩ = some (.int .i64 0) := (unhide HC).c 0
      have c1 : (w4).cell? ⟨w.heap.size + 1, 1, none⟩ = some (.int .i64 0) := (unhide HC).c 1
      have c2 : (w4).cell? ⟨w.heap.size + 1, 2, none⟩ = some (.string ⟨#[]⟩) := (unhide HC).c 2
      have c3 : (w4).cell? ⟨w.heap.size + 1, 3, none⟩ = some (.int .i64 0) := (unhide HC).c 3
      have cf := (unhide HC).f
      have hlc := (unhide HC).lt
      unfold tokV
      go_wp2_with fail
      have hcc := And.intro c0 (And.intro c1 (And.intro c2 c3))
      refine bodyPost_ret (v := .tuple #[tokV (10, 1, P), .bool true]) (by simp [results, Tryz.results248, go_sem, hcc, tokV]) rfl ⟨?_, ?_⟩
      · rw [unhide HQ]
      · exact ((((unhide HB4).setCell (by show w.heap.size ≤ w.heap.size + 1; omega) _).setCell (by show w.heap.size ≤ w.heap.size + 1; omega) _).setCell (by show w.heap.size ≤ w.heap.size + 1; omega) _).setCell (by show w.heap.size ≤ w.heap.size + 1; omega) _
end Go.Proofs.YtpbnmhnbkfnaeaaGreatDoor
/- The program's ReadOk: does a text spell an atom, do texts fit. -/
namespace Go.Proofs.YtpbnmhnbkfnaeaaGreatDoor
open Go.RowKit Nt

set_option maxHeartbeats 4000000 in
set_option maxRecDepth 100000 in
theorem readSpells_c (s : Int) (t : List UInt8) (w : World) (hs : t.length ≤ 1048576) (hT : Tabz w) (hN : Tens w) (h2 : 3 < w.heap.size) :
    Calls Tryz.prog 135 #[.int .i64 s, .string (B t)] w fun e w' => e = .returned (.bool (spellsM s t)) ∧ Below w.heap.size w w' := by
  have hle : (headW t).length ≤ 1048576 := by
    have : (headW t).length ≤ t.length := (List.takeWhile_prefix _).length_le
    omega
  have HQ := hide (spells_tok s t)
  have HW := hide (readWordOf_c t w hs)
  have HTK := hide (fun W hT hN h => token_c (headW t) W hle hT hN h)
  obtain ⟨K, hK⟩ : ∃ K, tokM (headW t) = K := ⟨_, rfl⟩
  rw [hK] at HQ HTK
  obtain ⟨⟨k1, k2, k3⟩, ok⟩ := K
  simp only at HQ HTK
  have hte := fun W => tok_eq W (k1, k2, k3) (10, s, t)
  obtain ⟨D, hD⟩ : ∃ D, decide ((k1, k2, k3) = (10, s, t)) = D := ⟨_, rfl⟩
  rw [hD] at HQ hte
  unfold tokV at hte HTK
  simp only at hte HTK
  have htg := tok_guard
  clear hK hle hD
  have HAT := hide (fun W => readAtom_c s t W)
  unfold tokV at HAT
  simp only at HAT
  go_enter Tryz.func135, Tryz.ntmps135
  go_wp2_with fail
  refine (unhide HW).mono ?_
  rintro e w1 ⟨rfl, hb1⟩
  have HB1 := hide hb1
  have hsz1 := hb1.size
  clear hb1
  go_wp2_with fail
  refine (unhide HTK w1 (hT.below (by omega) (unhide HB1)) (hN.belowB (unhide HB1) (by omega)) (by omega)).mono ?_
  rintro e w2 ⟨rfl, hb2⟩
  have HB2 := hide (step_a (step_b (unhide HB1) hb2) (.cells #[.int .i64 k1, .int .i64 k2, .string (B k3), .int .i64 0] 192))
  have HC := hide (AtC.new w2 #[.int .i64 k1, .int .i64 k2, .string (B k3), .int .i64 0] 192)
  clear hb2
  go_wp2_with fail
  obtain ⟨W, hW⟩ : ∃ W, w2.alloc (.cells #[.int .i64 k1, .int .i64 k2, .string (B k3), .int .i64 0] 192) = W := ⟨_, rfl⟩
  rw [hW] at HB2 HC ⊢
  clear hW
  have c0 : W.cell? ⟨w2.heap.size, 0, none⟩ = some (.int .i64 k1) := (unhide HC).c 0
  have c1 : W.cell? ⟨w2.heap.size, 1, none⟩ = some (.int .i64 k2) := (unhide HC).c 1
  have c2 : W.cell? ⟨w2.heap.size, 2, none⟩ = some (.string (B k3)) := (unhide HC).c 2
  have c3 : W.cell? ⟨w2.heap.size, 3, none⟩ = some (.int .i64 0) := (unhide HC).c 3
  cases ok with
  | false =>
    have HQ2 : Hid (spellsM s t = false) := hide (by rw [unhide HQ]; rfl)
    go_region
    all_goals
      go_wp2_with fail
      go_ret
      exact ⟨by rw [unhide HQ2]; rfl, by first | exact below_drewN (unhide HB2) _ | exact (unhide HB2).drew | exact unhide HB2⟩
  | true =>
    have HQ2 : Hid (spellsM s t = D) := hide (by rw [unhide HQ]; rfl)
    go_region_with ((go_at_call 166; refine (unhide HAT W.drew).mono ?_; rintro e w3 ⟨rfl, hb3⟩; have HB3 : Hid (Below W.heap.size W w3) := (Below.refl _ _).drew.trans hb3; have HC3 := hide ((unhide HC).below (unhide HB3)); have d0 : w3.cell? ⟨w2.heap.size, 0, none⟩ = some (.int .i64 k1) := (unhide HC3).c 0; have d1 : w3.cell? ⟨w2.heap.size, 1, none⟩ = some (.int .i64 k2) := (unhide HC3).c 1; have d2 : w3.cell? ⟨w2.heap.size, 2, none⟩ = some (.string (B k3)) := (unhide HC3).c 2; have d3 : w3.cell? ⟨w2.heap.size, 3, none⟩ = some (.int .i64 0) := (unhide HC3).c 3; clear hb3))
    all_goals
      go_wp2_with fail
      go_ret
      exact ⟨by rw [unhide HQ2]; rfl, step_b (unhide HB2) (unhide HB3)⟩
end Go.Proofs.YtpbnmhnbkfnaeaaGreatDoor
/- impl's checks of data: places of kids, numbers of kids. -/
namespace Go.Proofs.YtpbnmhnbkfnaeaaGreatDoor
open Go.RowKit Go.Shelf Nt
attribute [local go_sem] Oper.semAt_some

set_option maxHeartbeats 4000000 in
theorem hasPlace_c (a : Option Addr) (n c : Nat) (rv : Value) (k : Int) (w : World) :
    Calls Tryz.prog 109 #[.agg #[.slice a n c, rv], .int .i64 k] w fun e w' => e = .returned (.bool (inR k n)) ∧ Below w.heap.size w w' := by
  have HB := hide (step_a (Below.refl w.heap.size w) (.cells #[.slice a n c, rv] 26))
  by_cases h0 : 0 ≤ k
  · by_cases h1 : k < n
    · have HR : Hid (inR k n = true) := by show _ = _; unfold inR; simp [h0, h1]
      go_enter Tryz.func109, Tryz.ntmps109
      go_wp2
      go_ret
      exact ⟨by rw [unhide HR]; rfl, unhide HB⟩
    · have HR : Hid (inR k n = false) := by show _ = _; unfold inR; simp [h1]
      go_enter Tryz.func109, Tryz.ntmps109
      go_wp2
      go_ret
      exact ⟨by rw [unhide HR]; rfl, unhide HB⟩
  · have HR : Hid (inR k n = false) := by show _ = _; unfold inR; simp [h0]
    go_enter Tryz.func109, Tryz.ntmps109
    go_wp2
    go_ret
    exact ⟨by rw [unhide HR]; rfl, unhide HB⟩

set_option maxHeartbeats 4000000 in
theorem kidsFit_c (s : Int) (t : ByteArray) (a : Option Addr) (n c : Nat) (w : World) (hn : n ≤ 1048576) :
    Calls Tryz.prog 110 #[.agg #[.int .i64 s, .string t, .slice a n c]] w fun e w' => e = .returned (.bool (cntOk s n)) ∧ Below w.heap.size w w' := by
  have HB := hide (step_a (Below.refl w.heap.size w) (.cells #[.int .i64 s, .string t, .slice a n c] 56))
  by_cases h7 : s = 7
  · subst h7
    have HR : Hid (cntOk 7 n = ((n : Int) == 2)) := by
      show _ = _; unfold cntOk; rw [if_pos rfl]
      by_cases h : n = 2
      · subst h; rfl
      · rw [beq_eq_false_iff_ne.2 h, beq_eq_false_iff_ne.2 (by omega)]
    go_enter Tryz.func110, Tryz.ntmps110
    go_wp2
    go_ret
    exact ⟨by rw [unhide HR]; rfl, unhide HB⟩
  · by_cases h8 : s = 8
    · subst h8
      have HR : Hid (cntOk 8 n = decide ((n : Int) ≤ 40)) := by
        show _ = _; unfold cntOk; rw [if_neg h7, if_pos rfl]
        by_cases h : n ≤ 40
        · rw [decide_eq_true h, decide_eq_true (by omega)]
        · rw [decide_eq_false h, decide_eq_false (by omega)]
      go_enter Tryz.func110, Tryz.ntmps110
      go_wp2
      go_ret
      exact ⟨by rw [unhide HR]; rfl, unhide HB⟩
    · have HR : Hid (cntOk s n = ((n : Int) == 0)) := by
        show _ = _; unfold cntOk; rw [if_neg h7, if_neg h8]
        by_cases h : n = 0
        · subst h; rfl
        · rw [beq_eq_false_iff_ne.2 h, beq_eq_false_iff_ne.2 (by omega)]
      go_enter Tryz.func110, Tryz.ntmps110
      go_wp2
      go_ret
      exact ⟨by rw [unhide HR]; rfl, unhide HB⟩
end Go.Proofs.YtpbnmhnbkfnaeaaGreatDoor
/- impl.readIsPlaced: kids and roots are places. -/
namespace Go.Proofs.YtpbnmhnbkfnaeaaGreatDoor
open Go.RowKit Go.Shelf Nt
attribute [local go_sem] Oper.semAt_some

def kidsIn (n : Nat) (nd : Nd) : Bool := nd.2.2.all (inR · n)
def plcOk (d : Dt) : Bool := d.2.all (inR · d.1.length) && d.1.all (kidsIn d.1.length)

theorem ints_cell {W : World} {v : Value} {zs : List Int} (h : IntsAt W v zs) : ∃ a cap, v = .slice a zs.length cap ∧ zs.length ≤ cap ∧ cap ≤ maxLen ∧ ∀ j x, zs[j]? = some x → ∃ b off, a = some ⟨b, off, none⟩ ∧ b < W.heap.size ∧ W.cell? ⟨b, off + j, none⟩ = some (.int .i64 x) := by
  obtain ⟨a, cap, rfl, h1, h2, h3⟩ := h
  refine ⟨a, cap, rfl, h1, h2, fun j x hx => ?_⟩
  have hj := (List.getElem?_eq_some_iff.1 hx).1
  obtain ⟨b, off, rfl, hb, hc⟩ := h3 (by omega)
  exact ⟨b, off, rfl, hb, hc j x hx⟩

set_option maxRecDepth 100000 in
set_option maxHeartbeats 4000000 in
theorem readIsPlaced_c (nv rv : Value) (d : Dt) (w : World) (h : DataAt w (.agg #[nv, rv]) d) (hs : d.1.length ≤ 1048576 ∧ d.2.length ≤ 1048576 ∧ NsSmall d.1) :
    Calls Tryz.prog 70 #[.agg #[nv, rv]] w fun e w' => e = .returned (.bool (plcOk d)) ∧ Below w.heap.size w w' := by
  obtain ⟨nv', rv', e, hn0, hr0⟩ := h
  simp only [Value.agg.injEq, Array.mk.injEq, List.cons.injEq, and_true] at e
  obtain ⟨rfl, rfl⟩ := e
  have HN := hide hn0
  have HR := hide hr0
  obtain ⟨na, nc, rfl, hn1, hn2, _⟩ := hn0
  obtain ⟨ra, rc, rfl, hr1, hr2, _⟩ := hr0
  obtain ⟨s1, s2, s3⟩ := hs
  have HS3 := hide s3
  clear s3
  unfold maxLen at hn2 hr2
  have HB := hide (step_a (step_a (Below.refl w.heap.size w) (.cells #[.slice na d.1.length nc, .slice ra d.2.length rc] 26)) (.cells #[.bool false] 4))
  have HD := hide ((AtC2.new w (.slice na d.1.length nc) (.slice ra d.2.length rc) 26).alloc (.cells #[.bool false] 4))
  have HF := hide (Boxed.new (w.alloc (.cells #[.slice na d.1.length nc, .slice ra d.2.length rc] 26)) 4 (.bool false))
  rw [World.size_alloc] at HF
  refine (callsIn_wide (n := 3)).1 ?_
  refine callsIn_of_wp_marks Tryz.func70 rfl trivial ?_ rfl
  simp only [Tryz.ntmps70, List.size_toArray, List.length_cons, List.length_nil, Nat.reduceAdd, Nat.reduceSub, Array.replicate_succ, Array.replicate_zero, List.push_toArray, List.append_toArray, List.nil_append, List.cons_append]
  gi_wp2_with fail
  gi_loopw [11] (fun i wr => ∃ k : Nat, k ≤ d.2.length ∧ i = .int .i64 k ∧ (d.2.take k).all (inR · d.1.length) = true ∧ Below w.heap.size w wr ∧ Hid (AtC2 wr w.heap.size (.slice na d.1.length nc) (.slice ra d.2.length rc) 26) ∧ Hid (Boxed wr (w.heap.size + 1) 4 (.bool false)))
    (fun i _ => d.2.length - (intOf i).toNat)
  case atStart => exact ⟨0, by omega, rfl, by simp, unhide HB, HD, HF⟩
  case round =>
    obtain ⟨k, hk, rfl, hall, hbl, HDk, HFk⟩ := hrel
    have d0 := (unhide HDk).n0
    have d1 := (unhide HDk).n1
    have f0 := (unhide HFk).cell
    have f1 := (unhide HFk).frozen
    by_cases hlt : k < d.2.length
    · obtain ⟨x, hx⟩ : ∃ x, d.2[k]? = some x := ⟨_, List.getElem?_eq_getElem hlt⟩
      obtain ⟨a, cap, e1, _, _, h3⟩ := ints_cell ((unhide HR).below hbl)
      injection e1 with e2 e3 e4
      obtain ⟨b, off, rfl, hb, hcx⟩ := h3 k x hx
      subst e2
      clear e4 h3
      have ht := all_take_step (p := (inR · d.1.length)) hx
      rw [hall, Bool.true_and] at ht
      have HT := hide ht
      clear ht
      gi_wp2_with fail
      refine ⟨trivial, (callsIn_wide.2 (hasPlace_c _ _ _ _ _ wr)).mono ?_⟩
      rintro e w1 ⟨rfl, hb1⟩
      have HD1 := hide ((unhide HDk).below hb1)
      have HF1 := hide (boxed_below (unhide HFk) hb1)
      have hbl1 := step_b hbl hb1
      clear d0 d1 f0 f1
      have d0 := (unhide HD1).n0
      have d1 := (unhide HD1).n1
      have f0 := (unhide HF1).cell
      have f1 := (unhide HF1).frozen
      cases hr : inR x d.1.length with
      | true =>
        gi_wp2_with fail
        go_roundw
        case rel => exact ⟨k + 1, by omega, by go_num, by rw [unhide HT]; exact hr, hbl1, HD1, HF1⟩
        case measure => simp [intOf]; omega
      | false =>
        have HP : Hid (plcOk d = false) := hide (by unfold plcOk; rw [all_false hx hr, Bool.false_and])
        have HF2 := hide ((unhide HF1).set (.bool false))
        have f2 := (unhide HF2).cell
        gi_wp2_with fail
        refine ⟨.bool false, by simp [results, Tryz.f70, go_sem, f2], by rw [unhide HP], hbl1.setCell (p := ⟨w.heap.size + 1, 0, none⟩) (Nat.le_succ _) _⟩
    · obtain rfl : k = d.2.length := by omega
      rw [List.take_of_length_le (Nat.le_refl _)] at hall
      have HALL := hide hall
      clear hall hk hlt HR HB HD HF
      gi_wp2_with fail
      refine wpIn_loop (fun a' w' => ∃ (Ds : List Nat) (k : Nat) (u6 u24 u25 u26 u27 u28 u34 : Value), a' = ⟨#[.agg #[.slice na d.1.length nc, .slice ra d.2.length rc], .pointer (some ⟨w.heap.size, 0, none⟩), .pointer (some ⟨w.heap.size + 1, 0, none⟩), undef, u4, undef, u6, undef, .pointer (some ⟨w.heap.size, 1, none⟩), .slice ra d.2.length rc, .int .i64 ↑d.2.length, .int .i64 ↑d.2.length, .bool false, u13, u14, u15, u16, u17, u18, u19, .pointer (some ⟨w.heap.size, 0, none⟩), .slice na d.1.length nc, .int .i64 ↑d.1.length, .int .i64 k, u24, u25, u26, u27, u28, undef, undef, undef, undef, undef, u34], Ds.map markD⟩ ∧
          k ≤ d.1.length ∧ (d.1.take k).all (kidsIn d.1.length) = true ∧ Below w.heap.size w w' ∧ Hid (AtC2 w' w.heap.size (.slice na d.1.length nc) (.slice ra d.2.length rc) 26) ∧ Hid (Boxed w' (w.heap.size + 1) 4 (.bool false)) ∧ Hid (Marks w.heap.size w' Ds))
        (fun a' _ => d.1.length - (intOf (a'.tmps.getD 23 undef)).toNat) ?_ ?_
      · exact ⟨[], 0, _, _, _, _, _, _, _, rfl, by omega, by simp, hbl, HDk, HFk, hide (Marks.nil _ _)⟩
      · clear HDk HFk d0 d1 f0 f1 hbl
        rintro _ wr ⟨Ds, k, u6, u24, u25, u26, u27, u28, u34, rfl, hk, hall, hbl, HDk, HFk, HMk⟩
        have d0 := (unhide HDk).n0
        have d1 := (unhide HDk).n1
        by_cases hlt : k < d.1.length
        · obtain ⟨nd, hnd⟩ : ∃ nd, d.1[k]? = some nd := ⟨_, List.getElem?_eq_getElem hlt⟩
          obtain ⟨b, off, cap, e1, _, _, hb⟩ := ((unhide HN).below hbl).form (by omega)
          injection e1 with e2 e3 e4
          subst e2
          have hnode := ((unhide HN).below hbl).node hnd
          obtain ⟨kv, c0, c1, c2, htl, hki⟩ := hnode
          have HKI := hide hki
          obtain ⟨ka, kc, rfl, hk1, hk2, _⟩ := hki
          unfold maxLen at hk2
          have hks := (unhide HS3) nd (List.mem_of_getElem? hnd)
          clear e4
          gi_wp2_with fail
          refine ⟨trivial, (callsIn_wide.2 (beside_c _ _ _ _)).mono ?_⟩
          rintro e w1 ⟨rfl, rfl⟩
          obtain ⟨X, hX⟩ : ∃ X, Obj.cells #[.int .i64 nd.1, .string (B nd.2.1), .slice ka nd.2.2.length kc] 56 = X := ⟨_, rfl⟩
          have hbox : ((wr.alloc X).alloc X).cell? ⟨wr.heap.size + 1, 2, none⟩ = some (.slice ka nd.2.2.length kc) := by
            rw [← hX]
            simp
          have HX := hide hX
          clear hX
          have hB0 := step_a (step_a (Below.refl wr.heap.size wr) X) X
          have hsz : ((wr.alloc X).alloc X).heap.size = wr.heap.size + 2 := by simp
          have hD0 := (unhide HDk).below hB0
          have hF0 := boxed_below (unhide HFk) hB0
          have hM0 := (unhide HMk).below hB0
          gi_wp2_with fail
          rw [unhide HX]
          obtain ⟨W0, hW0⟩ : ∃ W0, (wr.alloc X).alloc X = W0 := ⟨_, rfl⟩
          rw [hW0] at hbox hB0 hsz hD0 hF0 hM0 ⊢
          have hwr := hbl.size
          clear HX hW0
          refine wpIn_rangeFunc_ownG rfl (by decide) (gf := 117) (lb := #[.pointer (some ⟨wr.heap.size + 1, 0, none⟩)]) rfl trivial (enters_of Tryz.func117 (by kernel_rfl) rfl)
            (beside_stops Fence.wide 2 trivial rfl (by decide) (wr.heap.size + 1) wr.heap.size (.slice ka nd.2.2.length kc) nd.2.2 (by omega) W0 (by omega) (by omega) hbox ((unhide HKI).in.below hB0))
            belowK_t (belowK_b (by omega)) (Below.refl _ _) (fun _ => rfl)
            (fun pre W => pre.all (inR · d.1.length) = true ∧ Below W0.heap.size W0 W)
            (fun c pre W => (c = .ret ∧ ∃ last ∈ pre, inR last d.1.length = false) ∧ Boxed W (w.heap.size + 1) 4 (.bool false) ∧ Kept (fun b => b = w.heap.size + 1) W0 W)
            (OwnFrom.and (ownFrom_pure _ _) (ownFrom_below (Nat.le_refl _) (Nat.le_refl _)))
            (fun c => OwnFrom.and (ownFrom_pure _ _) (OwnFrom.and (Own.from (boxed_own _ _ _) _) (ownFrom_kept (Nat.le_refl _))))
            ⟨rfl, Below.refl _ _⟩
            (fun x => ⟨#[.agg #[.slice (some ⟨b, off, none⟩) d.1.length nc, .slice ra d.2.length rc], .pointer (some ⟨w.heap.size, 0, none⟩), .pointer (some ⟨w.heap.size + 1, 0, none⟩), undef, u4, undef, .pointer (some ⟨wr.heap.size, 0, none⟩), .int .i64 x, .pointer (some ⟨w.heap.size, 1, none⟩), .slice ra d.2.length rc, .int .i64 ↑d.2.length, .int .i64 ↑d.2.length, .bool false, u13, u14, u15, u16, u17, u18, u19, .pointer (some ⟨w.heap.size, 0, none⟩), .slice (some ⟨b, off, none⟩) d.1.length nc, .int .i64 ↑d.1.length, .int .i64 ↑k, .bool true, .pointer (some ⟨b, off + k * 3, none⟩), .agg #[.int .i64 nd.1, .string (B nd.2.1), .slice ka nd.2.2.length kc], .agg #[.int .i64 nd.1, .string (B nd.2.1), .slice ka nd.2.2.length kc], .func (Fn.func 117) #[] #[.pointer (some ⟨wr.heap.size + 1, 0, none⟩)], .int .i64 x, undef, undef, undef, undef, u34], []⟩) ?assign ?body ?done ?stop
          case assign =>
            intro l x W K hK
            gi_wp2
            exact hK
          case body =>
            rintro l pre x W ⟨hpre, hbw⟩ _
            have hDw := hide (hD0.below hbw)
            have hFw := hide (boxed_below hF0 hbw)
            have d0 := (unhide hDw).n0
            have d1 := (unhide hDw).n1
            have h12 : 1 ≤ 3 - 1 - 1 := by decide
            gi_wp2_with fail
            refine ⟨trivial, (CallsIn.inRound l (callsIn_wide.2 (hasPlace_c _ _ _ _ _ W))).mono ?_⟩
            rintro e w2 ⟨rfl, hb2⟩
            have hFw2 := hide (boxed_below (unhide hFw) hb2)
            have f0 := (unhide hFw2).cell
            have f1 := (unhide hFw2).frozen
            cases hr : inR x d.1.length with
            | true =>
              gi_wp2_with fail
              exact ⟨(keepsOthers_below hb2).from _, hb2.mono (by have := hbw.size; omega), by rw [List.all_append, hpre]; simp [hr], step_b hbw hb2⟩
            | false =>
              gi_wp2_with fail
              exact ⟨((keepsOthers_below hb2).trans (KeepsOthers.setCell _ _ _)).from _, ⟨rfl, x, by simp, hr⟩, (unhide hFw2).set _, ((Kept.of_below hbw).trans (Kept.of_below hb2)).trans (Kept.set (S := fun b => b = w.heap.size + 1) (a := ⟨w.heap.size + 1, 0, none⟩) rfl _)⟩
          case done =>
            rintro D ys W hD rfl ⟨hpre, hbw⟩ hK
            have HM1 := hide (((hM0.below hbw).cons (D := D) (by have := hB0.size; omega) hK (hM0.fresh hD)))
            have HD1 := hide (hD0.below hbw)
            have HF1 := hide (boxed_below hF0 hbw)
            have HT : Hid ((d.1.take (k + 1)).all (kidsIn d.1.length) = true) := hide (by
              rw [List.take_add_one, hnd, List.all_append, hall]
              simpa [kidsIn] using hpre)
            have HB1 := hide (step_b (step_b hbl hB0) hbw)
            gi_wp2_with fail
            refine ⟨⟨D :: Ds, k + 1, _, _, _, _, _, _, _, rfl, by omega, unhide HT, unhide HB1, HD1, HF1, HM1⟩, by simp [intOf]; omega⟩
          case stop =>
            rintro D c pre W hD hpr ⟨⟨rfl, last, hl, hf⟩, hbx, hkp⟩ hK
            have hm := (hM0.kept hkp (fun D hD e => by subst e; have := (hM0.at' _ hD).2; rw [show W0.heap[w.heap.size + 1]? = _ from hF0] at this; cases this)).cons (D := D) (by have := hB0.size; omega) hK (hM0.fresh hD)
            have HP : Hid (plcOk d = false) := hide (by
              have h1 : kidsIn d.1.length nd = false := by
                unfold kidsIn
                rw [List.all_eq_false]
                exact ⟨last, List.IsPrefix.mem hl hpr, by simp [hf]⟩
              unfold plcOk
              rw [Bool.and_eq_false_iff]
              right
              rw [List.all_eq_false]
              exact ⟨nd, List.mem_of_getElem? hnd, by simp [h1]⟩)
            have HB1 := hide ((step_b hbl hB0).trans (hkp.below (base := w.heap.size) (by have := hB0.size; omega) (fun b e => by omega)))
            gi_wp2_with fail
            refine leaves_marks w.heap.size (D :: Ds) W hm (fun w' hst => ?_)
            have f2 := (still_boxed hst hbx).cell
            refine ⟨.bool false, by simp [results, Tryz.f70, go_sem, f2], by rw [unhide HP], (unhide HB1).trans hst.below⟩
        · obtain rfl : k = d.1.length := by omega
          rw [List.take_of_length_le (Nat.le_refl _)] at hall
          have HP : Hid (plcOk d = true) := hide (by unfold plcOk; rw [unhide HALL, hall]; rfl)
          have HB1 := hide (hbl.setCell (p := ⟨w.heap.size + 1, 0, none⟩) (Nat.le_succ _) (.bool true))
          have HF2 := hide ((unhide HFk).set (.bool true))
          have f1 := (unhide HFk).frozen
          have f0 := (unhide HFk).cell
          have hm := (unhide HMk).kept (Kept.set (S := fun b => b = w.heap.size + 1) (a := ⟨w.heap.size + 1, 0, none⟩) rfl (.bool true)) (fun D hD e => by subst e; have := ((unhide HMk).at' _ hD).2; rw [show wr.heap[w.heap.size + 1]? = _ from unhide HFk] at this; cases this)
          have HM := hide hm
          clear hm hall
          gi_wp2_with fail
          refine leaves_marks w.heap.size Ds _ (unhide HM) (fun w' hst => ?_)
          have f2 := (still_boxed hst (unhide HF2)).cell
          refine ⟨.bool true, by simp [results, Tryz.f70, go_sem, f2], by rw [unhide HP], (unhide HB1).trans hst.below⟩
end Go.Proofs.YtpbnmhnbkfnaeaaGreatDoor
/- impl.readHasKids. -/
namespace Go.Proofs.YtpbnmhnbkfnaeaaGreatDoor
open Go.RowKit Go.Shelf Nt

def cntsOk (d : Dt) : Bool := d.1.all fun nd => cntOk nd.1 nd.2.2.length
theorem take_all_nd {ns : List Nd} {p : Nd → Bool} {j : Nat} {x : Nd} (h : ns[j]? = some x) : (ns.take (j + 1)).all p = ((ns.take j).all p && p x) := by
  rw [List.take_add_one, h, List.all_append]; simp
theorem all_false_nd {ns : List Nd} {p : Nd → Bool} {j : Nat} {x : Nd} (h : ns[j]? = some x) (hp : p x = false) : ns.all p = false := by
  rw [List.all_eq_false]; exact ⟨x, List.mem_of_getElem? h, by simp [hp]⟩
set_option maxRecDepth 100000 in
set_option maxHeartbeats 4000000 in
theorem readHasKids_c (nv rv : Value) (d : Dt) (w : World) (h : DataAt w (.agg #[nv, rv]) d) (hs : d.1.length ≤ 1048576 ∧ d.2.length ≤ 1048576 ∧ NsSmall d.1) :
    Calls Tryz.prog 71 #[.agg #[nv, rv]] w fun e w' => e = .returned (.bool (cntsOk d)) ∧ Below w.heap.size w w' := by
  obtain ⟨nv', rv', e, hn0, hr0⟩ := h
  simp only [Value.agg.injEq, Array.mk.injEq, List.cons.injEq, and_true] at e
  obtain ⟨rfl, rfl⟩ := e
  have HN := hide hn0
  obtain ⟨na, nc, rfl, hn1, hn2, _⟩ := hn0
  obtain ⟨ra, rc, rfl, hr1, hr2, _⟩ := hr0
  obtain ⟨s1, s2, s3⟩ := hs
  have HS3 := hide s3
  clear s3
  unfold maxLen at hn2 hr2
  have HB := hide (step_a (Below.refl w.heap.size w) (.cells #[.slice na d.1.length nc, .slice ra d.2.length rc] 26))
  have HD := hide (AtC2.new w (.slice na d.1.length nc) (.slice ra d.2.length rc) 26)
  go_enter Tryz.func71, Tryz.ntmps71
  go_wp2_with fail
  go_loopw [8] (fun i wr => ∃ k : Nat, k ≤ d.1.length ∧ i = .int .i64 k ∧ ((d.1.take k).all fun nd => cntOk nd.1 nd.2.2.length) = true ∧ Below w.heap.size w wr)
    (fun i _ => d.1.length - (intOf i).toNat)
  case atStart => exact ⟨0, by omega, rfl, by simp, unhide HB⟩
  case round =>
    obtain ⟨k, hk, rfl, hall, hbl⟩ := hrel
    by_cases hlt : k < d.1.length
    · obtain ⟨nd, hnd⟩ : ∃ nd, d.1[k]? = some nd := ⟨_, List.getElem?_eq_getElem hlt⟩
      obtain ⟨b, off, cap, e1, _, _, hb⟩ := ((unhide HN).below hbl).form (by omega)
      injection e1 with e2 e3 e4
      subst e2
      obtain ⟨kv, c0, c1, c2, htl, hki⟩ := ((unhide HN).below hbl).node hnd
      obtain ⟨ka, kc, rfl, hk1, hk2, _⟩ := hki
      have hks := (unhide HS3) nd (List.mem_of_getElem? hnd)
      have HT := hide (take_all_nd (p := fun nd => cntOk nd.1 nd.2.2.length) hnd)
      have HL := hide hall
      clear e4 hall
      go_wp2_with fail
      have h := kidsFit_c nd.1 (B nd.2.1) ka nd.2.2.length kc (wr.alloc (.cells #[.int .i64 nd.1, .string (B nd.2.1), .slice ka nd.2.2.length kc] 56)) hks.2
      refine h.mono ?_
      clear h
      rintro e w1 ⟨rfl, hb1⟩
      have HB1 := hide (step_b (step_a hbl (.cells #[.int .i64 nd.1, .string (B nd.2.1), .slice ka nd.2.2.length kc] 56)) hb1)
      cases hr : cntOk nd.1 nd.2.2.length with
      | true =>
        go_wp2_with fail
        go_roundw
        case rel => exact ⟨k + 1, by omega, by go_num, by rw [unhide HT, unhide HL, hr]; rfl, unhide HB1⟩
        case measure => simp [intOf]; omega
      | false =>
        have HP : Hid (cntsOk d = false) := hide (by unfold cntsOk; exact all_false_nd hnd hr)
        go_wp2_with fail
        go_ret
        exact ⟨by rw [unhide HP]; rfl, unhide HB1⟩
    · obtain rfl : k = d.1.length := by omega
      rw [List.take_of_length_le (Nat.le_refl _)] at hall
      have HP : Hid (cntsOk d = true) := hide hall
      clear hall
      go_wp2_with fail
      go_ret
      exact ⟨by rw [unhide HP]; rfl, hbl⟩

end Go.Proofs.YtpbnmhnbkfnaeaaGreatDoor
/- The program's ReadOk: texts of nodes, and all checks. -/
namespace Go.Proofs.YtpbnmhnbkfnaeaaGreatDoor
open Go.RowKit Nt

def fitM (s : Int) (t : List UInt8) : Bool := (decide (1 ≤ s) && decide (s ≤ 9)) && textM s t
theorem fit_in {s : Int} {t : List UInt8} (h1 : 1 ≤ s) (h2 : s ≤ 9) : fitM s t = textM s t := by unfold fitM; rw [decide_eq_true h1, decide_eq_true h2]; rfl

set_option maxHeartbeats 4000000 in
set_option maxRecDepth 100000 in
theorem textFits_c (s : Int) (t : List UInt8) (ka : Option Addr) (kn kc : Nat) (w : World) (hs : t.length ≤ 1048576) (hT : Tabz w) (hN : Tens w) (h2 : 3 < w.heap.size) :
    Calls Tryz.prog 111 #[.agg #[.int .i64 s, .string (B t), .slice ka kn kc]] w fun e w' => e = .returned (.bool (fitM s t)) ∧ Below w.heap.size w w' := by
  have HB := hide (step_a (Below.refl w.heap.size w) (.cells #[.int .i64 s, .string (B t), .slice ka kn kc] 56))
  obtain ⟨R, hR⟩ : ∃ R, fitM s t = R := ⟨_, rfl⟩
  rw [hR]
  have HR := hide hR
  clear hR
  by_cases h1 : s = 1
  · subst h1
    have HQ : Hid (spellsM 1 t = R) := hide (by rw [← unhide HR, fit_in (by omega) (by omega)]; exact (spells_num t))
    go_enter Tryz.func111, Tryz.ntmps111
    go_wp2_with fail
    have h := readSpells_c 1 t (w.alloc (.cells #[.int .i64 1, .string (B t), .slice ka kn kc] 56)) hs (hT.below (by omega) (unhide HB)) (hN.belowB (unhide HB) (by omega)) (by simp; omega)
    refine h.mono ?_
    clear h
    rintro e w1 ⟨rfl, hb1⟩
    have HB1 := hide (step_b (unhide HB) hb1)
    rw [unhide HQ]
    clear hb1
    go_wp2_with fail
    go_ret
    exact ⟨rfl, unhide HB1⟩
  · have e1 : (s == 1) = false := beq_eq_false_iff_ne.2 h1
    by_cases h2' : s = 2
    · subst h2'
      have HQ : Hid (spellsM 2 t = R) := hide (by rw [← unhide HR, fit_in (by omega) (by omega)]; exact (spells_sym t))
      go_enter Tryz.func111, Tryz.ntmps111
      go_wp2_with fail
      have h := readSpells_c 2 t (w.alloc (.cells #[.int .i64 2, .string (B t), .slice ka kn kc] 56)) hs (hT.below (by omega) (unhide HB)) (hN.belowB (unhide HB) (by omega)) (by simp; omega)
      refine h.mono ?_
      clear h
      rintro e w1 ⟨rfl, hb1⟩
      have HB1 := hide (step_b (unhide HB) hb1)
      rw [unhide HQ]
      clear hb1
      go_wp2_with fail
      go_ret
      exact ⟨rfl, unhide HB1⟩
    · have e2 : (s == 2) = false := beq_eq_false_iff_ne.2 h2'
      by_cases h3 : s = 3
      · subst h3
        have HQ : Hid ((decide (t.length ≤ 200) && Lib.validD t) = R) := hide (by rw [← unhide HR, fit_in (by omega) (by omega)]; rfl)
        go_enter Tryz.func111, Tryz.ntmps111
        go_wp2_with fail
        have h := readIsText_c t (w.alloc (.cells #[.int .i64 3, .string (B t), .slice ka kn kc] 56)) hs (hT.below (by omega) (unhide HB))
        refine h.mono ?_
        clear h
        rintro e w1 ⟨rfl, hb1⟩
        have HB1 := hide (step_b (unhide HB) hb1)
        rw [unhide HQ]
        clear hb1
        go_wp2_with fail
        go_ret
        exact ⟨rfl, unhide HB1⟩
      · have e3 : (s == 3) = false := beq_eq_false_iff_ne.2 h3
        by_cases h4 : s = 4
        · subst h4
          have HQ : Hid (oneM t = R) := hide (by rw [← unhide HR, fit_in (by omega) (by omega)]; rfl)
          go_enter Tryz.func111, Tryz.ntmps111
          go_wp2_with fail
          have h := readIsCharacter_c t (w.alloc (.cells #[.int .i64 4, .string (B t), .slice ka kn kc] 56)) hs (hT.below (by omega) (unhide HB))
          refine h.mono ?_
          clear h
          rintro e w1 ⟨rfl, hb1⟩
          have HB1 := hide (step_b (unhide HB) hb1)
          rw [unhide HQ]
          clear hb1
          go_wp2_with fail
          go_ret
          exact ⟨rfl, unhide HB1⟩
        · have e4 : (s == 4) = false := beq_eq_false_iff_ne.2 h4
          by_cases h5 : s = 5
          · subst h5
            have HQ : Hid ((decide (t = [116]) || decide (t = [102])) = R) := hide (by rw [← unhide HR, fit_in (by omega) (by omega)]; rfl)
            by_cases ht : t = [116]
            · have f0 : ((B t).toList == [116]) = true := by rw [ht, B_tl]; rfl
              have HQ2 : Hid (R = true) := hide (by rw [← unhide HQ, decide_eq_true ht, Bool.true_or])
              clear ht
              go_enter Tryz.func111, Tryz.ntmps111
              go_wp2_with fail
              go_ret
              exact ⟨by rw [unhide HQ2]; rfl, unhide HB⟩
            · have f0 : ((B t).toList == [116]) = false := by rw [B_tl, beq_eq_false_iff_ne]; exact ht
              have HQ2 : Hid (((B t).toList == [102]) = R) := hide (by
                rw [← unhide HQ, decide_eq_false ht, Bool.false_or, B_tl]
                by_cases h : t = [102]
                · subst h; rfl
                · rw [decide_eq_false h, beq_eq_false_iff_ne.2 h])
              clear ht
              go_enter Tryz.func111, Tryz.ntmps111
              go_wp2_with fail
              go_ret
              exact ⟨by rw [← unhide HQ2]; rfl, unhide HB⟩
          · have e5 : (s == 5) = false := beq_eq_false_iff_ne.2 h5
            by_cases h6 : s = 6
            · subst h6
              have HQ : Hid ((B t).toList.isEmpty = R) := hide (by
                rw [← unhide HR, fit_in (by omega) (by omega), B_tl]
                show _ = decide (t = [])
                cases t <;> rfl)
              go_enter Tryz.func111, Tryz.ntmps111
              go_wp2_with fail
              go_ret
              exact ⟨by rw [← unhide HQ]; rfl, unhide HB⟩
            · have e6 : (s == 6) = false := beq_eq_false_iff_ne.2 h6
              by_cases h7 : s = 7
              · subst h7
                have HQ : Hid ((B t).toList.isEmpty = R) := hide (by
                  rw [← unhide HR, fit_in (by omega) (by omega), B_tl]
                  show _ = decide (t = [])
                  cases t <;> rfl)
                go_enter Tryz.func111, Tryz.ntmps111
                go_wp2_with fail
                go_ret
                exact ⟨by rw [← unhide HQ]; rfl, unhide HB⟩
              · have e7 : (s == 7) = false := beq_eq_false_iff_ne.2 h7
                by_cases h8 : s = 8
                · subst h8
                  have HQ : Hid ((B t).toList.isEmpty = R) := hide (by
                    rw [← unhide HR, fit_in (by omega) (by omega), B_tl]
                    show _ = decide (t = [])
                    cases t <;> rfl)
                  go_enter Tryz.func111, Tryz.ntmps111
                  go_wp2_with fail
                  go_ret
                  exact ⟨by rw [← unhide HQ]; rfl, unhide HB⟩
                · have e8 : (s == 8) = false := beq_eq_false_iff_ne.2 h8
                  by_cases h9 : s = 9
                  · subst h9
                    have HQ : Hid (decide (((B t).size : Int) ≤ 200) = R) := hide (by
                      rw [← unhide HR, fit_in (by omega) (by omega), B_size]
                      show _ = decide (t.length ≤ 200)
                      congr 1; rw [eq_iff_iff]; omega)
                    go_enter Tryz.func111, Tryz.ntmps111
                    go_wp2_with fail
                    go_ret
                    exact ⟨by rw [← unhide HQ]; rfl, unhide HB⟩
                  · have e9 : (s == 9) = false := beq_eq_false_iff_ne.2 h9
                    have HQ : Hid (R = false) := hide (by
                      rw [← unhide HR]
                      unfold fitM
                      by_cases a : 1 ≤ s
                      · rw [decide_eq_false (show ¬ s ≤ 9 by omega), Bool.and_false, Bool.false_and]
                      · rw [decide_eq_false a, Bool.false_and, Bool.false_and])
                    go_enter Tryz.func111, Tryz.ntmps111
                    go_wp2_with fail
                    go_ret
                    exact ⟨by rw [unhide HQ]; rfl, unhide HB⟩
end Go.Proofs.YtpbnmhnbkfnaeaaGreatDoor
/- The program's ReadOk. -/
namespace Go.Proofs.YtpbnmhnbkfnaeaaGreatDoor
open Go.RowKit Nt

def textsOk (d : Dt) : Bool := d.1.all fun nd => fitM nd.1 nd.2.1
theorem okD_eq (d : Dt) : okD d = (smallD d && plcOk d && cntsOk d && textsOk d) := by
  have h : ∀ ns : List Nd, ns.all (ndOk d.1.length) = (ns.all (kidsIn d.1.length) && (ns.all fun nd => cntOk nd.1 nd.2.2.length) && ns.all fun nd => fitM nd.1 nd.2.1) := by
    intro ns
    induction ns with
    | nil => rfl
    | cons x r ih =>
      simp only [List.all_cons, ih]
      have hx : ndOk d.1.length x = (kidsIn d.1.length x && cntOk x.1 x.2.2.length && fitM x.1 x.2.1) := by
        unfold ndOk kidsOk kidsIn fitM
        cases decide (1 ≤ x.1) && decide (x.1 ≤ 9) <;> cases textM x.1 x.2.1 <;> cases cntOk x.1 x.2.2.length <;> cases x.2.2.all (inR · d.1.length) <;> rfl
      rw [hx]
      cases kidsIn d.1.length x <;> cases cntOk x.1 x.2.2.length <;> cases fitM x.1 x.2.1 <;> simp
  unfold okD plcOk cntsOk textsOk
  rw [h]
  cases smallD d <;> cases d.1.all (kidsIn d.1.length) <;> cases (d.1.all fun nd => cntOk nd.1 nd.2.2.length) <;> cases (d.1.all fun nd => fitM nd.1 nd.2.1) <;> cases d.2.all (inR · d.1.length) <;> rfl

set_option maxRecDepth 100000 in
set_option maxHeartbeats 4000000 in
theorem readHasTexts_c (nv rv : Value) (d : Dt) (w : World) (h : DataAt w (.agg #[nv, rv]) d) (hs : d.1.length ≤ 1048576 ∧ d.2.length ≤ 1048576 ∧ NsSmall d.1) (hT : Tabz w) (hN : Tens w) (h3 : 3 < w.heap.size) :
    Calls Tryz.prog 72 #[.agg #[nv, rv]] w fun e w' => e = .returned (.bool (textsOk d)) ∧ Below w.heap.size w w' := by
  obtain ⟨nv', rv', e, hn0, hr0⟩ := h
  simp only [Value.agg.injEq, Array.mk.injEq, List.cons.injEq, and_true] at e
  obtain ⟨rfl, rfl⟩ := e
  have HN := hide hn0
  obtain ⟨na, nc, rfl, hn1, hn2, _⟩ := hn0
  obtain ⟨ra, rc, rfl, hr1, hr2, _⟩ := hr0
  obtain ⟨s1, s2, s3⟩ := hs
  have HS3 := hide s3
  clear s3
  unfold maxLen at hn2 hr2
  have HB := hide (step_a (Below.refl w.heap.size w) (.cells #[.slice na d.1.length nc, .slice ra d.2.length rc] 26))
  have HD := hide (AtC2.new w (.slice na d.1.length nc) (.slice ra d.2.length rc) 26)
  go_enter Tryz.func72, Tryz.ntmps72
  go_wp2_with fail
  go_loopw [8] (fun i wr => ∃ k : Nat, k ≤ d.1.length ∧ i = .int .i64 k ∧ ((d.1.take k).all fun nd => fitM nd.1 nd.2.1) = true ∧ Below w.heap.size w wr)
    (fun i _ => d.1.length - (intOf i).toNat)
  case atStart => exact ⟨0, by omega, rfl, by simp, unhide HB⟩
  case round =>
    obtain ⟨k, hk, rfl, hall, hbl⟩ := hrel
    by_cases hlt : k < d.1.length
    · obtain ⟨nd, hnd⟩ : ∃ nd, d.1[k]? = some nd := ⟨_, List.getElem?_eq_getElem hlt⟩
      obtain ⟨b, off, cap, e1, _, _, hb⟩ := ((unhide HN).below hbl).form (by omega)
      injection e1 with e2 e3 e4
      subst e2
      obtain ⟨kv, c0, c1, c2, htl, hki⟩ := ((unhide HN).below hbl).node hnd
      obtain ⟨ka, kc, rfl, hk1, hk2, _⟩ := hki
      have hks := (unhide HS3) nd (List.mem_of_getElem? hnd)
      have HT := hide (take_all_nd (p := fun nd => fitM nd.1 nd.2.1) hnd)
      have HL := hide hall
      clear e4 hall
      go_wp2_with fail
      have hbx := step_a hbl (.cells #[.int .i64 nd.1, .string (B nd.2.1), .slice ka nd.2.2.length kc] 56)
      have h := textFits_c nd.1 nd.2.1 ka nd.2.2.length kc (wr.alloc (.cells #[.int .i64 nd.1, .string (B nd.2.1), .slice ka nd.2.2.length kc] 56)) hks.1 (hT.below (by omega) hbx) (hN.belowB hbx (by omega)) (by have := hbx.size; omega)
      refine h.mono ?_
      clear h
      rintro e w1 ⟨rfl, hb1⟩
      have HB1 := hide (step_b (step_a hbl (.cells #[.int .i64 nd.1, .string (B nd.2.1), .slice ka nd.2.2.length kc] 56)) hb1)
      cases hr : fitM nd.1 nd.2.1 with
      | true =>
        go_wp2_with fail
        go_roundw
        case rel => exact ⟨k + 1, by omega, by go_num, by rw [unhide HT, unhide HL, hr]; rfl, unhide HB1⟩
        case measure => simp [intOf]; omega
      | false =>
        have HP : Hid (textsOk d = false) := hide (by unfold textsOk; exact all_false_nd hnd hr)
        go_wp2_with fail
        go_ret
        exact ⟨by rw [unhide HP]; rfl, unhide HB1⟩
    · obtain rfl : k = d.1.length := by omega
      rw [List.take_of_length_le (Nat.le_refl _)] at hall
      have HP : Hid (textsOk d = true) := hide hall
      clear hall
      go_wp2_with fail
      go_ret
      exact ⟨by rw [unhide HP]; rfl, hbl⟩

set_option maxHeartbeats 4000000 in
theorem readIsSmall_c (nv rv : Value) (d : Dt) (w : World) (h : DataAt w (.agg #[nv, rv]) d) :
    Calls Tryz.prog 69 #[.agg #[nv, rv]] w fun e w' => e = .returned (.bool (smallD d)) ∧ Below w.heap.size w w' := by
  obtain ⟨nv', rv', e, hn0, hr0⟩ := h
  simp only [Value.agg.injEq, Array.mk.injEq, List.cons.injEq, and_true] at e
  obtain ⟨rfl, rfl⟩ := e
  obtain ⟨na, nc, rfl, hn1, hn2, _⟩ := hn0
  obtain ⟨ra, rc, rfl, hr1, hr2, _⟩ := hr0
  unfold maxLen at hn2 hr2
  have HB := hide (step_a (Below.refl w.heap.size w) (.cells #[.slice na d.1.length nc, .slice ra d.2.length rc] 26))
  by_cases h8 : d.1.length ≤ 80
  · have h8' : (d.1.length : Int) ≤ 80 := by omega
    have HQ : Hid (decide ((d.2.length : Int) ≤ 12) = smallD d) := hide (by unfold smallD; rw [decide_eq_true h8, Bool.true_and]; congr 1; rw [eq_iff_iff]; omega)
    clear h8
    go_enter Tryz.func69, Tryz.ntmps69
    go_wp2_with fail
    go_ret
    exact ⟨by rw [← unhide HQ]; rfl, unhide HB⟩
  · have h8' : ¬ (d.1.length : Int) ≤ 80 := by omega
    have HQ : Hid (smallD d = false) := hide (by unfold smallD; rw [decide_eq_false h8, Bool.false_and])
    clear h8
    go_enter Tryz.func69, Tryz.ntmps69
    go_wp2_with fail
    go_ret
    exact ⟨by rw [unhide HQ]; rfl, unhide HB⟩

def checksV : Array Value := #[.func (.func 69) #[] #[], .func (.func 70) #[] #[], .func (.func 71) #[] #[], .func (.func 72) #[] #[]]
set_option maxRecDepth 100000 in
set_option maxHeartbeats 4000000 in
theorem readHolds4_c (nv rv : Value) (d : Dt) (g : Nat) (T : TypeId) (w : World) (h : DataAt w (.agg #[nv, rv]) d) (hs : d.1.length ≤ 1048576 ∧ d.2.length ≤ 1048576 ∧ NsSmall d.1)
    (hg : AtC w g checksV T) (hT : Tabz w) (hN : Tens w) (h3 : 3 < w.heap.size) :
    Calls Tryz.prog 68 #[.agg #[nv, rv], .slice (some ⟨g, 0, none⟩) 4 4] w fun e w' => e = .returned (.bool (okD d)) ∧ Below w.heap.size w w' := by
  have HDT := hide h
  obtain ⟨nv', rv', e, hn0, hr0⟩ := h
  simp only [Value.agg.injEq, Array.mk.injEq, List.cons.injEq, and_true] at e
  obtain ⟨rfl, rfl⟩ := e
  obtain ⟨na, nc, rfl, hn1, hn2, _⟩ := hn0
  obtain ⟨ra, rc, rfl, hr1, hr2, _⟩ := hr0
  have HS := hide hs
  unfold maxLen at hn2 hr2
  have HB0 := hide (step_a (Below.refl w.heap.size w) (.cells #[.slice na d.1.length nc, .slice ra d.2.length rc] 26))
  have HD0 := hide (AtC2.new w (.slice na d.1.length nc) (.slice ra d.2.length rc) 26)
  have HG0 := hide (hg.alloc (.cells #[.slice na d.1.length nc, .slice ra d.2.length rc] 26))
  clear hs hg
  go_enter Tryz.func68, Tryz.ntmps68
  go_wp2_with fail
  obtain ⟨wk0, hwk⟩ : ∃ wk0, w.alloc (.cells #[.slice na d.1.length nc, .slice ra d.2.length rc] 26) = wk0 := ⟨_, rfl⟩
  rw [hwk] at HB0 HD0 HG0 ⊢
  clear hwk
  refine wp_loop_rounds 5 ?_
  -- 0: which check; smallD d its answer; readIsSmall_c _ _ d wk0 ((unhide HDT).below (unhide HB0)) its contract; HV0: what it tells; 0, 1: ahead of it, behind it
  rw [rounds_succ]
  have g0 : wk0.cell? ⟨g, 0, none⟩ = some (.func (.func 69) #[] #[]) := (unhide HG0).c 0
  have d0 := (unhide HD0).n0
  have d1 := (unhide HD0).n1
  go_wp2_with fail
  have h := readIsSmall_c _ _ d wk0 ((unhide HDT).below (unhide HB0))
  refine h.mono ?_
  clear h
  rintro e wk1 ⟨rfl, hbn⟩
  have HB1 := hide (step_b (unhide HB0) hbn)
  have HG1 := hide ((unhide HG0).below hbn)
  have HD1 := hide ((unhide HD0).below hbn)
  clear hbn g0 d0 d1 HB0 HG0 HD0
  rcases Bool.eq_false_or_eq_true (smallD d) with hv | hv
  rotate_left
  · have HP : Hid (okD d = false) := hide (by rw [okD_eq, hv]; simp)
    rw [hv]
    clear hv
    go_wp2_with fail
    go_ret
    exact ⟨by rw [unhide HP]; rfl, unhide HB1⟩
  rw [hv]
  have HV0 := hide hv
  clear hv
  go_wp2_with fail
  -- 1: which check; plcOk d its answer; readIsPlaced_c _ _ d wk1 ((unhide HDT).below (unhide HB1)) (unhide HS) its contract; HV1: what it tells; 1, 2: ahead of it, behind it
  rw [rounds_succ]
  have g0 : wk1.cell? ⟨g, 1, none⟩ = some (.func (.func 70) #[] #[]) := (unhide HG1).c 1
  have d0 := (unhide HD1).n0
  have d1 := (unhide HD1).n1
  go_wp2_with fail
  have h := readIsPlaced_c _ _ d wk1 ((unhide HDT).below (unhide HB1)) (unhide HS)
  refine h.mono ?_
  clear h
  rintro e wk2 ⟨rfl, hbn⟩
  have HB2 := hide (step_b (unhide HB1) hbn)
  have HG2 := hide ((unhide HG1).below hbn)
  have HD2 := hide ((unhide HD1).below hbn)
  clear hbn g0 d0 d1 HB1 HG1 HD1
  rcases Bool.eq_false_or_eq_true (plcOk d) with hv | hv
  rotate_left
  · have HP : Hid (okD d = false) := hide (by rw [okD_eq, hv]; simp)
    rw [hv]
    clear hv
    go_wp2_with fail
    go_ret
    exact ⟨by rw [unhide HP]; rfl, unhide HB2⟩
  rw [hv]
  have HV1 := hide hv
  clear hv
  go_wp2_with fail
  -- 2: which check; cntsOk d its answer; readHasKids_c _ _ d wk2 ((unhide HDT).below (unhide HB2)) (unhide HS) its contract; HV2: what it tells; 2, 3: ahead of it, behind it
  rw [rounds_succ]
  have g0 : wk2.cell? ⟨g, 2, none⟩ = some (.func (.func 71) #[] #[]) := (unhide HG2).c 2
  have d0 := (unhide HD2).n0
  have d1 := (unhide HD2).n1
  go_wp2_with fail
  have h := readHasKids_c _ _ d wk2 ((unhide HDT).below (unhide HB2)) (unhide HS)
  refine h.mono ?_
  clear h
  rintro e wk3 ⟨rfl, hbn⟩
  have HB3 := hide (step_b (unhide HB2) hbn)
  have HG3 := hide ((unhide HG2).below hbn)
  have HD3 := hide ((unhide HD2).below hbn)
  clear hbn g0 d0 d1 HB2 HG2 HD2
  rcases Bool.eq_false_or_eq_true (cntsOk d) with hv | hv
  rotate_left
  · have HP : Hid (okD d = false) := hide (by rw [okD_eq, hv]; simp)
    rw [hv]
    clear hv
    go_wp2_with fail
    go_ret
    exact ⟨by rw [unhide HP]; rfl, unhide HB3⟩
  rw [hv]
  have HV2 := hide hv
  clear hv
  go_wp2_with fail
  -- 3: which check; textsOk d its answer; readHasTexts_c _ _ d wk3 ((unhide HDT).below (unhide HB3)) (unhide HS) (hT.below (by omega) (unhide HB3)) (hN.belowB (unhide HB3) (by omega)) (by have := (unhide HB3).size; omega) its contract; HV3: what it tells; 3, 4: ahead of it, behind it
  rw [rounds_succ]
  have g0 : wk3.cell? ⟨g, 3, none⟩ = some (.func (.func 72) #[] #[]) := (unhide HG3).c 3
  have d0 := (unhide HD3).n0
  have d1 := (unhide HD3).n1
  go_wp2_with fail
  have h := readHasTexts_c _ _ d wk3 ((unhide HDT).below (unhide HB3)) (unhide HS) (hT.below (by omega) (unhide HB3)) (hN.belowB (unhide HB3) (by omega)) (by have := (unhide HB3).size; omega)
  refine h.mono ?_
  clear h
  rintro e wk4 ⟨rfl, hbn⟩
  have HB4 := hide (step_b (unhide HB3) hbn)
  have HG4 := hide ((unhide HG3).below hbn)
  have HD4 := hide ((unhide HD3).below hbn)
  clear hbn g0 d0 d1 HB3 HG3 HD3
  rcases Bool.eq_false_or_eq_true (textsOk d) with hv | hv
  rotate_left
  · have HP : Hid (okD d = false) := hide (by rw [okD_eq, hv]; simp)
    rw [hv]
    clear hv
    go_wp2_with fail
    go_ret
    exact ⟨by rw [unhide HP]; rfl, unhide HB4⟩
  rw [hv]
  have HV3 := hide hv
  clear hv
  go_wp2_with fail
  rw [rounds_succ]
  have HP : Hid (okD d = true) := hide (by rw [okD_eq, unhide HV0, unhide HV1, unhide HV2, unhide HV3]; rfl)
  go_wp2_with fail
  go_ret
  exact ⟨by rw [unhide HP]; rfl, unhide HB4⟩

set_option maxHeartbeats 4000000 in
theorem implReadOk_c (nv rv : Value) (d : Dt) (w : World) (h : DataAt w (.agg #[nv, rv]) d) (hs : d.1.length ≤ 1048576 ∧ d.2.length ≤ 1048576 ∧ NsSmall d.1) (hT : Tabz w) (hN : Tens w) (h3 : 3 < w.heap.size) :
    Calls Tryz.prog 37 #[.agg #[nv, rv]] w fun e w' => e = .returned (.bool (okD d)) ∧ Below w.heap.size w w' := by
  have HDT := hide h
  obtain ⟨nv', rv', e, hn0, hr0⟩ := h
  simp only [Value.agg.injEq, Array.mk.injEq, List.cons.injEq, and_true] at e
  obtain ⟨rfl, rfl⟩ := e
  obtain ⟨na, nc, rfl, hn1, hn2, _⟩ := hn0
  obtain ⟨ra, rc, rfl, hr1, hr2, _⟩ := hr0
  have HS := hide hs
  have hb0 := step_a (step_a (Below.refl w.heap.size w) (.cells #[.slice na d.1.length nc, .slice ra d.2.length rc] 26)) (.cells checksV 30)
  have HB := hide hb0
  go_enter Tryz.func37, Tryz.ntmps37
  go_wp2_with fail
  have h := readHolds4_c _ _ d (w.heap.size + 1) 30 _ ((unhide HDT).below (unhide HB)) (unhide HS) (by have := AtC.new (w.alloc (.cells #[.slice na d.1.length nc, .slice ra d.2.length rc] 26)) checksV 30; rw [World.size_alloc] at this; exact this) (hT.below (by omega) (unhide HB)) (hN.belowB (unhide HB) (by omega)) (by simp; omega)
  refine h.mono ?_
  clear h
  rintro e w1 ⟨rfl, hb1⟩
  have HB1 := hide (step_b (unhide HB) hb1)
  clear hb1
  go_wp2_with fail
  go_ret
  exact ⟨rfl, unhide HB1⟩
end Go.Proofs.YtpbnmhnbkfnaeaaGreatDoor
/- tabHasRoot. -/
namespace Go.Proofs.YtpbnmhnbkfnaeaaGreatDoor
open Go.RowKit Nt

set_option maxRecDepth 100000 in
set_option maxHeartbeats 4000000 in
theorem hasRoot_c (nv rv : Value) (d : Dt) (w : World) (h : DataAt w (.agg #[nv, rv]) d) (hs : d.1.length ≤ 1048576 ∧ d.2.length ≤ 1048576 ∧ NsSmall d.1) (hT : Tabz w) (hN : Tens w) (h3 : 3 < w.heap.size) :
    Calls Tryz.prog 31 #[.agg #[nv, rv]] w fun e w' => e = .returned (.bool (okD d && decide (0 < d.2.length))) ∧ Below w.heap.size w w' := by
  have HD := hide h
  have HT := hide (And.intro hT (And.intro hN h3))
  have HS := hide hs
  obtain ⟨nv', rv', e, hn0, hr0⟩ := h
  simp only [Value.agg.injEq, Array.mk.injEq, List.cons.injEq, and_true] at e
  obtain ⟨rfl, rfl⟩ := e
  obtain ⟨na, nc, rfl, _⟩ := hn0
  obtain ⟨ra, rc, rfl, _⟩ := hr0
  obtain ⟨ln, hln⟩ : ∃ n, d.1.length = n := ⟨_, rfl⟩
  obtain ⟨lr, hlr⟩ : ∃ n, d.2.length = n := ⟨_, rfl⟩
  rw [hln, hlr] at HD ⊢
  rw [hln, hlr] at HS
  have HB := hide (step_a (Below.refl w.heap.size w) (.cells #[.slice na ln nc, .slice ra lr rc] 26))
  have HA := hide (AtC2.new w (.slice na ln nc) (.slice ra lr rc) 26)
  have HC : Hid (∀ W, Below w.heap.size w W → Calls Tryz.prog 37 #[.agg #[.slice na ln nc, .slice ra lr rc]] W fun e w' => e = .returned (.bool (okD d)) ∧ Below W.heap.size W w') := hide (fun W hb => implReadOk_c _ _ d W ((unhide HD).below hb) (by rw [hln, hlr]; exact unhide HS) ((unhide HT).1.below (by have := (unhide HT).2.2; omega) hb) ((unhide HT).2.1.belowB hb (unhide HT).2.2) (Nat.lt_of_lt_of_le (unhide HT).2.2 hb.size))
  clear hs hT hN h3 hln hlr
  obtain ⟨ok, hok⟩ : ∃ b, okD d = b := ⟨_, rfl⟩
  rw [hok] at HC ⊢
  clear hok HT HS HD
  go_enter Tryz.func31, Tryz.ntmps31
  go_wp2_with fail
  refine (unhide HC _ (unhide HB)).mono ?_
  rintro e w1 ⟨rfl, hb1⟩
  have HB1 := hide (step_b (unhide HB) hb1)
  have a1 := ((unhide HA).below hb1).n1
  clear hb1
  cases ok with
  | false =>
    go_wp2_with fail
    go_ret
    exact ⟨rfl, unhide HB1⟩
  | true =>
    go_wp2_with fail
    go_ret
    exact ⟨by simp, unhide HB1⟩
end Go.Proofs.YtpbnmhnbkfnaeaaGreatDoor
