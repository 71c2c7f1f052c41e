/- A part of the proof, put together out of smaller texts: each piece says what it is for. -/
import Derived.Test.YtpbnmhnbkfnaeaaGreatDoorM9
import Derived.RegionIn
import Derived.Stop.RegionWithIn
/- tabCompared's closure meet, walked. -/
namespace Go.Proofs.YtpbnmhnbkfnaeaaGreatDoor
open Go.RowKit Nt

theorem atC_ne {w : World} {a b : Nat} {cs cs' : Array Value} {T T' : TypeId} (h : AtC w a cs T) (k : AtC w b cs' T') (hne : T ≠ T') : a ≠ b := by
  rintro rfl
  have e := (show w.heap[a]? = _ from h).symm.trans k
  simp at e
  exact hne e.2
theorem own_neC {w : World} {b base n size : Nat} {kv : Value} {T e : TypeId} {xs : List Value} {cs : Array Value} (h : AtC w b cs T) (ho : w.ownsRow base e size kv n xs) (hne : e ≠ T) : kv.ownBlock ≠ some b := by
  rcases ho.2 with ⟨rfl, _⟩ | ⟨g1, c1, k1, rfl, _, hg1, _⟩
  · intro e; simp [Value.ownBlock] at e
  · intro q
    simp [Value.ownBlock] at q
    subst q
    have q := (show w.heap[g1]? = _ from h).symm.trans hg1
    simp at q
    exact hne q.2.symm
theorem own_far1 {w : World} {b base n size i : Nat} {kv u : Value} {e : TypeId} {xs : List Value} (h : w.ownsRow base e size kv n xs) (hg : kv.ownBlock ≠ some b) : (w.setCell ⟨b, i, none⟩ u).ownsRow base e size kv n xs := by
  refine ⟨h.1, ?_⟩
  rcases h.2 with ⟨rfl, h1⟩ | ⟨g1, cap, cur, rfl, hb, hg1, r⟩
  · exact .inl ⟨rfl, h1⟩
  · refine .inr ⟨g1, cap, cur, rfl, hb, ?_, r⟩
    have : g1 ≠ b := fun e => hg (by rw [e]; rfl)
    rw [Below.heap_setCell _ _ _ _ this]
    exact hg1
theorem AtC.grown {w w' : World} {b : Nat} {cs : Array Value} {T : TypeId} {row : Option Nat} (h : AtC w b cs T) (hg : w.grownBy w' row) (hne : row ≠ some b) : AtC w' b cs T :=
  (hg.block b h.lt (Ne.symm hne)).trans h

set_option maxRecDepth 100000 in
set_option maxHeartbeats 4000000 in
theorem meet_c (x y : Int) (n m B bB g mB pB nc : Nat) (na : Option Addr) (l : List (Int × Int)) (W : World) (hin : InP n m (x, y)) (hn : n ≤ 80) (hm : m ≤ 80) (hl : l.length ≤ 6400) (hb : W.cell? ⟨bB, 0, none⟩ = some (.slice na m nc)) (hM : MeetS W B g mB pB m (n * m) l) (hBW : B ≤ W.heap.size) :
    Calls Tryz.prog 98 #[.int .i64 x, .int .i64 y, .pointer (some ⟨bB, 0, none⟩), .pointer (some ⟨mB, 0, none⟩), .pointer (some ⟨pB, 0, none⟩)] W fun e W' => (∃ v, e = .returned v) ∧ Steps B W W' ∧ MeetS W' B g mB pB m (n * m) (if (x, y) ∈ l then l else l ++ [(x, y)]) ∧ ∀ b cs, AtC W b cs 56 → AtC W' b cs 56 := by
  obtain ⟨i0, hi, hz0, hz1, hz2⟩ := info_parts Tryz.infoTabPair
  obtain ⟨k, hk, hk1, hk2, hk3⟩ := met_at hin
  have hmem : metB m l k = decide ((x, y) ∈ l) := by unfold metB; rw [hk2, hk3]
  have hnm : n * m ≤ 6400 := Nat.mul_le_mul hn hm
  have HSET := hide (metA_set (m := m) (l := l) hk)
  rw [hk2, hk3] at HSET
  have hx0 := hin.1.1
  have hx1 := hin.1.2
  have hy0 := hin.2.1
  have hy1 := hin.2.2
  simp only at hx0 hx1 hy0 hy1
  obtain ⟨p, hp⟩ : ∃ p : Int, x * m = p := ⟨_, rfl⟩
  rw [hp] at hk1
  have HP := hide hp
  have hp0 : 0 ≤ p := by rw [← hp]; exact Int.mul_nonneg hx0 (by omega)
  have hg0 := hM.gm.c k
  rw [metA_get hk, hmem] at hg0
  have hgf := hM.gm.f k
  have hmb := hM.mb.c 0
  obtain ⟨v, hpv, hrow⟩ := hM.pb
  have HPV := hide hpv
  have HRW := hide hrow
  have hpb := hpv.c 0
  have hpf := hpv.f 0
  obtain ⟨rp, rc, rfl⟩ := own_form hrow
  have HM := hide hM
  obtain ⟨nm, hnm'⟩ : ∃ q, n * m = q := ⟨_, rfl⟩
  rw [hnm'] at hk hnm HM HSET hmb ⊢
  simp only [List.getElem?_toArray, List.getElem?_cons_zero] at hmb hpb
  obtain rfl : k = (p + y).toNat := by omega
  have hpy : p + y < (nm : Int) := by omega
  have hnm2 : p + y ≤ 6400 := by omega
  clear hin hM hpv hrow hnm' hmem hp hn hk2 hk3 hk hk1
  go_enter Tryz.func98, Tryz.ntmps98
  have e1 : wrap64 (x * (m : Int)) = p := by rw [unhide HP]; unfold wrap64; omega
  by_cases hin : (x, y) ∈ l
  · rw [decide_eq_true hin] at hg0
    rw [if_pos hin]
    clear HSET
    go_wp2_with fail
    go_end0
    exact ⟨⟨_, rfl⟩, Steps.refl _ _, unhide HM, fun _ _ h => h⟩
  · rw [decide_eq_false hin] at hg0
    rw [if_neg hin]
    have hgm := (unhide HM).gm
    have hmm := (unhide HM).mb
    have n1 : pB ≠ g := atC_ne (unhide HPV) hgm (by decide)
    have n2 : mB ≠ g := atC_ne hmm hgm (by decide)
    have ho := own_neC hgm (unhide HRW) (by decide)
    have G5 := hgm.put1 (i := (p + y).toNat) (.bool true)
    rw [unhide HSET] at G5
    have M5 := hmm.far1 (i := (p + y).toNat) n2 (.bool true)
    have P5 := (unhide HPV).far1 (i := (p + y).toNat) n1 (.bool true)
    have R5 := own_far1 (i := (p + y).toNat) (u := .bool true) (unhide HRW) ho
    have S5 := Steps.set (i := (p + y).toNat) hgm (unhide HM).lg (.bool true)
    have z5 : (W.setCell ⟨g, (p + y).toNat, none⟩ (.bool true)).heap.size = W.heap.size := by simp
    have p5 := P5.c 0
    simp only [List.getElem?_toArray, List.getElem?_cons_zero] at p5
    obtain ⟨W5, hW5⟩ : ∃ W5, W.setCell ⟨g, (p + y).toNat, none⟩ (.bool true) = W5 := ⟨_, rfl⟩
    have HW5 := hide hW5
    have p5' : (W.setCell ⟨g, (p + y).toNat, none⟩ (.bool true)).cell? ⟨pB, 0, none⟩ = some (.slice rp l.length rc) := by rw [hW5]; rw [hW5] at p5; exact p5
    rw [hW5] at G5 M5 P5 R5 S5 z5
    have hal := step_a (Below.refl W5.heap.size W5) (.cells #[.int .i64 x, .int .i64 y] 129)
    have G6 := hide (G5.below hal)
    have M6 := hide (M5.below hal)
    have P6 := hide (P5.below hal)
    have R6 := hide (own_below R5 hal)
    have S6 := hide (S5.trans (Steps.below (by omega) hal))
    have HFAR : Hid (∀ b cs, AtC W b cs 56 → AtC (W5.alloc (.cells #[.int .i64 x, .int .i64 y] 129)) b cs 56) := hide (fun b cs h => by
      have h5 := h.far1 (i := (p + y).toNat) (atC_ne h hgm (by decide)) (.bool true)
      rw [hW5] at h5
      exact h5.below hal)
    have HLG := hide (And.intro (unhide HM).lg (And.intro (unhide HM).lm (unhide HM).lp))
    have hb5 : B ≤ W5.heap.size := by omega
    have HZ5 := hide z5
    have HNEW : Hid ((W5.alloc (.cells #[.int .i64 x, .int .i64 y] 129)).heap[W.heap.size]? = some (.cells #[.int .i64 x, .int .i64 y] 129 (0, 0))) := hide (by rw [← z5]; exact heap_alloc_new W5 _)
    clear hgm hmm n1 n2 ho G5 M5 P5 R5 S5 hal p5 z5 hW5 HM HPV HRW HSET
    go_wp2_with (at_builtin; rw [unhide HW5]; refine wpList_append_own _ rfl (.tmp 23) (.tmp 27) 127 rfl B 129 i0 (.agg #[.int .i64 0, .int .i64 0]) 2 16 Tryz.underlying127 hi hz0 hz1 hz2 rfl (by decide) _ l.length (pv l) rfl (unhide R6) ⟨W.heap.size, 0, none⟩ 1 1 [.int .i64 x, .int .i64 y] rfl rfl (World.news_of_block (cs := #[.int .i64 x, .int .i64 y]) (t := 129) (fr := (0, 0)) (unhide HNEW)) (by intro u hu; simp at hu; rcases hu with rfl | rfl <;> rfl) (by unfold maxLen; omega) (by omega) (by have := unhide HZ5; simp; omega) ?_; intro v' w7 hown7 hg7 hnil7; clear hnil7; have HP7 := hide ((unhide P6).grown hg7 (own_neC (unhide P6) (unhide R6) (by decide))); have p7c := (unhide HP7).c 0; have p7f := (unhide HP7).f 0; simp only [List.getElem?_toArray, List.getElem?_cons_zero] at p7c; have HOWN := hide hown7; have HGR := hide hg7; obtain ⟨p7, c7, rfl⟩ := own_form hown7; clear hown7 hg7 p5')
    go_end0
    have hg7 := unhide HGR
    have G7 := (unhide G6).grown hg7 (own_neC (unhide G6) (unhide R6) (by decide))
    have M7 := (unhide M6).grown hg7 (own_neC (unhide M6) (unhide R6) (by decide))
    have S7 := (unhide S6).trans (Steps.grown (unhide R6) hg7 (Nat.le_refl _) (Nat.le_trans hBW (unhide S6).bl.size))
    have n3 : g ≠ pB := atC_ne G7 (unhide HP7) (by decide)
    have n4 : mB ≠ pB := atC_ne M7 (unhide HP7) (by decide)
    have hR7 : RowP w7 B 129 (.slice p7 (l.length + 1) c7) (l ++ [(x, y)]) := by unfold RowP; rw [pv_snoc, List.length_append]; exact unhide HOWN
    obtain ⟨l1, l2, l3⟩ := unhide HLG
    exact ⟨⟨_, rfl⟩, S7.trans (Steps.set (i := 0) (unhide HP7) l3 _), ⟨G7.far1 n3 _, M7.far1 n4 _, ⟨_, (unhide HP7).put1 _, own_far1 hR7 (own_neC (unhide HP7) hR7 (by decide))⟩, l1, l2, l3⟩, fun b cs h => by
      have h6 := unhide HFAR b cs h
      have h7 := h6.grown hg7 (own_neC h6 (unhide R6) (by decide))
      exact h7.far1 (atC_ne h7 (unhide HP7) (by decide)) _⟩
end Go.Proofs.YtpbnmhnbkfnaeaaGreatDoor
/- A region that reads, makes two boxes and fills them, by what holds whichever of its operations have been carried out. -/
namespace Go.Proofs.YtpbnmhnbkfnaeaaGreatDoor
open Go.RowKit Nt

abbrev st3 (w : World) (b : Nat) (u0 u1 u2 : Value) : World := ((w.setCell ⟨b, 0, none⟩ u0).setCell ⟨b, 1, none⟩ u1).setCell ⟨b, 2, none⟩ u2
theorem AtC.put3 {w : World} {b : Nat} {x y z : Value} {T : TypeId} (h : AtC w b #[x, y, z] T) (u v t : Value) : AtC (st3 w b u v t) b #[u, v, t] T :=
  ((h.put1 (i := 0) u).put1 (i := 1) v).put1 (i := 2) t
theorem AtC.far3 {w : World} {b g : Nat} {cs : Array Value} {T : TypeId} (h : AtC w g cs T) (hne : g ≠ b) (u v t : Value) : AtC (st3 w b u v t) g cs T := ((h.far1 hne u).far1 hne v).far1 hne t
theorem below_st3 {B : Nat} {a w : World} (h : Below B a w) {b : Nat} (hb : B ≤ b) (u v t : Value) : Below B a (st3 w b u v t) :=
  ((h.setCell (p := ⟨b, 0, none⟩) hb u).setCell (p := ⟨b, 1, none⟩) hb v).setCell (p := ⟨b, 2, none⟩) hb t
/-- a box that operation k fills -/
def Bx (l : Array Bool) (k : Nat) (w : World) (g : Nat) (z c : Array Value) (T : TypeId) : Prop := (¬ LL l k ∧ AtC w g z T) ∨ (LL l k ∧ AtC w g c T)
theorem Bx.lt {l : Array Bool} {k g : Nat} {w : World} {z c : Array Value} {T : TypeId} (h : Bx l k w g z c T) : g < w.heap.size := by
  rcases h with ⟨_, h⟩ | ⟨_, h⟩ <;> exact h.lt
theorem Bx.below {l : Array Bool} {k g : Nat} {w w' : World} {z c : Array Value} {T : TypeId} (h : Bx l k w g z c T) (hb : Below w.heap.size w w') : Bx l k w' g z c T := by
  rcases h with ⟨e, h⟩ | ⟨e, h⟩
  · exact .inl ⟨e, h.below hb⟩
  · exact .inr ⟨e, h.below hb⟩
theorem Bx.far {l : Array Bool} {k g b : Nat} {w : World} {z c : Array Value} {T : TypeId} (h : Bx l k w g z c T) (hne : g ≠ b) (u0 u1 u2 : Value) : Bx l k (st3 w b u0 u1 u2) g z c T := by
  rcases h with ⟨e, h⟩ | ⟨e, h⟩
  · exact .inl ⟨e, h.far3 hne _ _ _⟩
  · exact .inr ⟨e, h.far3 hne _ _ _⟩
theorem Bx.step {l l' : Array Bool} {k g : Nat} {w : World} {z c : Array Value} {T : TypeId} (h : Bx l k w g z c T) (hk : LL l' k ↔ LL l k) : Bx l' k w g z c T := by
  unfold Bx at h ⊢
  rw [hk]; exact h
/-- operations below N read (what is read is v); N and N + 1 make the boxes; N + 2 and N + 3 fill them -/
structure TwoB (N : Nat) (W : World) (v : Nat → Value) (z c d : Array Value) (T : TypeId) (l : Array Bool) (x : Nat → Value) (w : World) : Prop where
  sz : l.size = N + 4
  bl : Below W.heap.size W w
  val : ∀ i, i < N → LL l i → x i = v i
  f1 : LL l (N + 2) → LL l N
  f2 : LL l (N + 3) → LL l (N + 1)
  b1 : LL l N → ∃ g, x N = .pointer (some ⟨g, 0, none⟩) ∧ W.heap.size ≤ g ∧ Bx l (N + 2) w g z c T
  b2 : LL l (N + 1) → ∃ g, x (N + 1) = .pointer (some ⟨g, 0, none⟩) ∧ W.heap.size ≤ g ∧ Bx l (N + 3) w g z d T
  ne : LL l N → LL l (N + 1) → x N ≠ x (N + 1)
section
variable {N : Nat} {W w w' : World} {v x : Nat → Value} {z c d : Array Value} {T : TypeId} {l : Array Bool}
theorem TwoB.start (n : l = Array.replicate (N + 4) false) (h : Below W.heap.size W w) : TwoB N W v z c d T l x w := by
  subst n
  have hn : ∀ j, ¬ LL (Array.replicate (N + 4) false) j := fun j h => by
    unfold LL at h
    rw [Array.getElem?_replicate] at h
    split at h <;> simp at h
  exact ⟨by simp, h, fun i _ h => absurd h (hn _), fun h => absurd h (hn _), fun h => absurd h (hn _), fun h => absurd h (hn _), fun h => absurd h (hn _), fun h => absurd h (hn _)⟩
theorem TwoB.next (h : TwoB N W v z c d T l x w) (i : Nat) (hi : i < N + 2) (hl : ¬ LL l i) (u : Value) (hb : Below w.heap.size w w') (hv : i < N → u = v i)
    (hn : N ≤ i → u = .pointer (some ⟨w.heap.size, 0, none⟩) ∧ AtC w' w.heap.size z T) : TwoB N W v z c d T (l.setIfInBounds i true) (fun j => if j = i then u else x j) w' := by
  have hs := fun j => LL_set (l := l) (i := i) (by rw [h.sz]; omega) j
  have hk : ∀ {j}, j ≠ i → (LL (l.setIfInBounds i true) j ↔ LL l j) := fun {j} e => by rw [hs]; simp [e]
  have hx : ∀ {j}, j ≠ i → (if j = i then u else x j) = x j := fun {j} e => if_neg e
  have hB : Below W.heap.size W w' := step_b h.bl hb
  refine ⟨by simp [h.sz], hB, fun j hj e => ?_, fun e => ?_, fun e => ?_, fun e => ?_, fun e => ?_, fun e e' => ?_⟩
  · by_cases q : j = i
    · subst q
      show (if j = j then u else x j) = v j
      rw [if_pos rfl]; exact hv hj
    · show (if j = i then u else x j) = v j
      rw [hx q]; exact h.val j hj ((hk q).1 e)
  · exact (hs N).2 (.inr (h.f1 ((hk (by omega)).1 e)))
  · exact (hs (N + 1)).2 (.inr (h.f2 ((hk (by omega)).1 e)))
  · by_cases q : N = i
    · subst q
      obtain ⟨e1, e2⟩ := hn (Nat.le_refl _)
      refine ⟨w.heap.size, ?_, h.bl.size, .inl ⟨fun q => hl (h.f1 ((hk (by omega)).1 q)), e2⟩⟩
      show (if N = N then u else x N) = _
      rw [if_pos rfl]; exact e1
    · obtain ⟨g, e1, e2, e3⟩ := h.b1 ((hk q).1 e)
      refine ⟨g, ?_, e2, (e3.below hb).step (hk (by omega))⟩
      show (if N = i then u else x N) = _
      rw [hx q]; exact e1
  · by_cases q : N + 1 = i
    · subst q
      obtain ⟨e1, e2⟩ := hn (by omega)
      refine ⟨w.heap.size, ?_, h.bl.size, .inl ⟨fun q => hl (h.f2 ((hk (by omega)).1 q)), e2⟩⟩
      show (if N + 1 = N + 1 then u else x (N + 1)) = _
      rw [if_pos rfl]; exact e1
    · obtain ⟨g, e1, e2, e3⟩ := h.b2 ((hk q).1 e)
      refine ⟨g, ?_, e2, (e3.below hb).step (hk (by omega))⟩
      show (if N + 1 = i then u else x (N + 1)) = _
      rw [hx q]; exact e1
  · show (if N = i then u else x N) ≠ (if N + 1 = i then u else x (N + 1))
    by_cases q : N = i
    · subst q
      obtain ⟨e1, _⟩ := hn (Nat.le_refl _)
      obtain ⟨g, q1, _, q3⟩ := h.b2 ((hk (by omega)).1 e')
      rw [if_pos rfl, if_neg (by omega), e1, q1]
      intro q; simp at q; have := q3.lt; omega
    · by_cases q' : N + 1 = i
      · subst q'
        obtain ⟨e1, _⟩ := hn (by omega)
        obtain ⟨g, q1, _, q3⟩ := h.b1 ((hk q).1 e)
        rw [if_neg q, if_pos rfl, e1, q1]
        intro q; simp at q; have := q3.lt; omega
      · rw [hx q, hx q']
        exact h.ne ((hk q).1 e) ((hk q').1 e')
theorem TwoB.put1 {y0 y1 y2 u0 u1 u2 : Value} (h : TwoB N W v #[y0, y1, y2] #[u0, u1, u2] d T l x w) (hl : ¬ LL l (N + 2)) (h1 : LL l N) : ∃ g, x N = .pointer (some ⟨g, 0, none⟩) ∧ AtC w g #[y0, y1, y2] T ∧ TwoB N W v #[y0, y1, y2] #[u0, u1, u2] d T (l.setIfInBounds (N + 2) true) x (st3 w g u0 u1 u2) := by
  obtain ⟨g, e1, e2, e3⟩ := h.b1 h1
  rcases e3 with ⟨_, e3⟩ | ⟨e, _⟩
  · have hs := fun j => LL_set (l := l) (i := N + 2) (by rw [h.sz]; omega) j
    have hk : ∀ {j}, j ≠ N + 2 → (LL (l.setIfInBounds (N + 2) true) j ↔ LL l j) := fun {j} e => by rw [hs]; simp [e]
    refine ⟨g, e1, e3, by simp [h.sz], below_st3 h.bl e2 _ _ _, fun j hj e => h.val j hj ((hk (by omega)).1 e), fun _ => (hk (by omega)).2 h1, fun e => (hk (by omega)).2 (h.f2 ((hk (by omega)).1 e)), fun _ => ⟨g, e1, e2, .inr ⟨(hs _).2 (.inl rfl), e3.put3 _ _ _⟩⟩, fun e => ?_, fun e e' => h.ne ((hk (by omega)).1 e) ((hk (by omega)).1 e')⟩
    obtain ⟨g', r1, r2, r3⟩ := h.b2 ((hk (by omega)).1 e)
    exact ⟨g', r1, r2, (r3.far (fun q => h.ne h1 ((hk (by omega)).1 e) (by rw [e1, r1, q])) _ _ _).step (hk (by omega))⟩
  · exact absurd e hl
theorem TwoB.put2 {y0 y1 y2 u0 u1 u2 : Value} (h : TwoB N W v #[y0, y1, y2] c #[u0, u1, u2] T l x w) (hl : ¬ LL l (N + 3)) (h1 : LL l (N + 1)) : ∃ g, x (N + 1) = .pointer (some ⟨g, 0, none⟩) ∧ AtC w g #[y0, y1, y2] T ∧ TwoB N W v #[y0, y1, y2] c #[u0, u1, u2] T (l.setIfInBounds (N + 3) true) x (st3 w g u0 u1 u2) := by
  obtain ⟨g, e1, e2, e3⟩ := h.b2 h1
  rcases e3 with ⟨_, e3⟩ | ⟨e, _⟩
  · have hs := fun j => LL_set (l := l) (i := N + 3) (by rw [h.sz]; omega) j
    have hk : ∀ {j}, j ≠ N + 3 → (LL (l.setIfInBounds (N + 3) true) j ↔ LL l j) := fun {j} e => by rw [hs]; simp [e]
    refine ⟨g, e1, e3, by simp [h.sz], below_st3 h.bl e2 _ _ _, fun j hj e => h.val j hj ((hk (by omega)).1 e), fun e => (hk (by omega)).2 (h.f1 ((hk (by omega)).1 e)), fun _ => (hk (by omega)).2 h1, fun e => ?_, fun _ => ⟨g, e1, e2, .inr ⟨(hs _).2 (.inl rfl), e3.put3 _ _ _⟩⟩, fun e e' => h.ne ((hk (by omega)).1 e) ((hk (by omega)).1 e')⟩
    obtain ⟨g', r1, r2, r3⟩ := h.b1 ((hk (by omega)).1 e)
    exact ⟨g', r1, r2, (r3.far (fun q => h.ne ((hk (by omega)).1 e) h1 (by rw [e1, r1, q])) _ _ _).step (hk (by omega))⟩
  · exact absurd e hl
/-- behind the region -/
theorem TwoB.done (h : TwoB N W v z c d T l x w) (h1 : LL l (N + 2)) (h2 : LL l (N + 3)) : ∃ g g', x N = .pointer (some ⟨g, 0, none⟩) ∧ x (N + 1) = .pointer (some ⟨g', 0, none⟩) ∧ W.heap.size ≤ g ∧ W.heap.size ≤ g' ∧ AtC w g c T ∧ AtC w g' d T ∧ Below W.heap.size W w := by
  obtain ⟨g, e1, e2, e3⟩ := h.b1 (h.f1 h1)
  obtain ⟨g', r1, r2, r3⟩ := h.b2 (h.f2 h2)
  rcases e3 with ⟨e, _⟩ | ⟨_, e3⟩
  · exact absurd h1 e
  rcases r3 with ⟨e, _⟩ | ⟨_, r3⟩
  · exact absurd h2 e
  exact ⟨g, g', e1, r1, e2, r2, e3, r3, h.bl⟩
end
end Go.Proofs.YtpbnmhnbkfnaeaaGreatDoor
/- tabCompared's iterator: it tells the pairs level by level. -/
namespace Go.Proofs.YtpbnmhnbkfnaeaaGreatDoor
open Go.RowKit Go.Shelf Nt
attribute [local go_sem] Oper.semAt_some

theorem cell_kc {w w' : World} (k : KC w w') {a : Addr} {v : Value} (h : w.cell? a = some v) : w'.cell? a = some v := by
  unfold World.cell? at h ⊢
  cases e : w.heap[a.block]? with
  | none => rw [e] at h; simp at h
  | some o =>
    cases o with
    | cells cs T fr => rw [k.cells _ _ e rfl]; rw [e] at h; exact h
    | _ => rw [e] at h; simp at h
theorem IntsAt.kc {w w' : World} {v : Value} {xs : List Int} (h : IntsAt w v xs) (k : KC w w') : IntsAt w' v xs := by
  obtain ⟨a, cap, rfl, h1, h2, h3⟩ := h
  refine ⟨a, cap, rfl, h1, h2, fun h0 => ?_⟩
  obtain ⟨b, off, rfl, hb, hc⟩ := h3 h0
  exact ⟨b, off, rfl, Nat.lt_of_lt_of_le hb k.size, fun j x hx => cell_kc k (hc j x hx)⟩
theorem NodesAt.kc {w w' : World} {v : Value} {ns : List Nd} (h : NodesAt w v ns) (k : KC w w') : NodesAt w' v ns := by
  obtain ⟨a, cap, rfl, h1, h2, h3⟩ := h
  refine ⟨a, cap, rfl, h1, h2, fun h0 => ?_⟩
  obtain ⟨b, off, rfl, hb, hc⟩ := h3 h0
  refine ⟨b, off, rfl, Nat.lt_of_lt_of_le hb k.size, fun j nd hx => ?_⟩
  obtain ⟨c0, c1, hl, kv, c2, hk⟩ := hc j nd hx
  exact ⟨cell_kc k c0, cell_kc k c1, hl, kv, cell_kc k c2, hk.kc k⟩
theorem KC.steps {w wr wr' : World} (h : KC w wr) (k : Steps w.heap.size wr wr') : KC w wr' :=
  ⟨Nat.le_trans h.size k.bl.size, fun b o e ho => (k.bl.block b (Array.getElem?_eq_some_iff.1 e).1).trans (h.cells b o e ho)⟩
theorem mk_run {P : Program} {t e : TypeId} {i : TypeInfo} {z : Value} {bytes : Nat} (ht : P.underlying t = some (.slice e)) (hi : P.info? e = some i) (hz : i.zero = some z) (hs : i.size = 1) (hb : i.bytes = bytes) (hc : z.cells = #[z]) (n : Nat) (hn : bytes * n ≤ 281474976710656) (hn2 : n ≤ 281474976710656) (W : World) :
    (Instr.makeSlice t (.int .i64 (n : Int)) (.int .i64 (n : Int))).run P W = .ok (.slice (some ⟨W.heap.size, 0, none⟩) n n) (W.alloc (.cells (madeCells #[z] n) e)) := by
  have h := run_make (P := P) W t e i z ht hi hz .i64 .i64 (n : Int) (n : Int) (by omega) (by omega) (by rw [hb, ← Int.natCast_mul]; omega) (by omega)
  rw [hc, hs] at h
  simpa using h
theorem Tryz.infoBoolC : (Tryz.prog.info? 4).map (fun i => (i.zero, i.size, i.bytes)) = some (some (.bool false), 1, 1) := by kernel_rfl
theorem metA_nil (m nm : Nat) : madeCells #[.bool false] nm = metA m nm [] := by
  apply Array.ext'
  rw [toList_madeCells_one]
  unfold metA metB
  simp [List.map_const']
/-- a node as it is handed on -/
def nvA (ns : List Nd) (w : World) (b off : Nat) (x : Int) : Value := .agg #[.int .i64 (ndI ns x).1, .string (B (ndI ns x).2.1), (w.cell? ⟨b, off + x.toNat * 3 + 2, none⟩).getD undef]

set_option maxRecDepth 100000 in
set_option maxHeartbeats 8000000 in
theorem compared_seq (ns ms : List Nd) (a b : Int) (xb xo xc yb yo yc aB bB : Nat) (w0 : World) (hx : NodesAt w0 (.slice (some ⟨xb, xo, none⟩) ns.length xc) ns) (hy : NodesAt w0 (.slice (some ⟨yb, yo, none⟩) ms.length yc) ms)
    (okn : ns.all (ndOk ns.length) = true) (okm : ms.all (ndOk ms.length) = true) (hab : InP ns.length ms.length (a, b)) (hl1 : ns.length ≤ 80) (hl2 : ms.length ≤ 80)
    (ha : AtC w0 aB #[.slice (some ⟨xb, xo, none⟩) ns.length xc, .int .i64 a] 52) (hb : AtC w0 bB #[.slice (some ⟨yb, yo, none⟩) ms.length yc, .int .i64 b] 52) :
    SeqC Fence.wide 2 Tryz.prog 97 #[.pointer (some ⟨aB, 0, none⟩), .pointer (some ⟨bB, 0, none⟩)] (fun x : Int × Int => #[nvA ns w0 xb xo x.1, nvA ms w0 yb yo x.2]) (allL ns ms a b) w0 := by
  intro l J Jx w hW hJ hJx hY h0
  have HX := hide (hx.below hW)
  have HY := hide (hy.below hW)
  have HXV : Hid (∀ (x : Int) nd, ns[x.toNat]? = some nd → ∀ kv, w.cell? ⟨xb, xo + x.toNat * 3 + 2, none⟩ = some kv → nvA ns w0 xb xo x = .agg #[.int .i64 nd.1, .string (B nd.2.1), kv]) := hide (fun x nd h kv hkv => by
    obtain ⟨kv', _, _, c2, _, _⟩ := hx.node h
    have e := (cell_below hW c2).symm.trans hkv
    injection e with e
    unfold nvA
    rw [ndI_get h, c2, e]
    rfl)
  have HYV : Hid (∀ (x : Int) nd, ms[x.toNat]? = some nd → ∀ kv, w.cell? ⟨yb, yo + x.toNat * 3 + 2, none⟩ = some kv → nvA ms w0 yb yo x = .agg #[.int .i64 nd.1, .string (B nd.2.1), kv]) := hide (fun x nd h kv hkv => by
    obtain ⟨kv', _, _, c2, _, _⟩ := hy.node h
    have e := (cell_below hW c2).symm.trans hkv
    injection e with e
    unfold nvA
    rw [ndI_get h, c2, e]
    rfl)
  have HA := hide (ha.below hW)
  have HB := hide (hb.below hW)
  have hLs := Lst.start okn okm hab
  have HY0 := hide hY
  have HJ := hide hJ
  obtain ⟨L, hL⟩ : ∃ L, allL ns ms a b = L := ⟨_, rfl⟩
  rw [hL] at HY0 hLs ⊢
  have HLS := hide hLs
  have hnm : ns.length * ms.length ≤ 6400 := Nat.mul_le_mul hl1 hl2
  have HOK := hide (And.intro okn okm)
  have HAB := hide hab
  have HJ0 := hide h0
  clear hx hy hW ha hb hLs hY hJ hJx hL okn okm h0
  refine callsIn_of_wp Tryz.func97 rfl trivial ?_ rfl
  simp only [Tryz.ntmps97, List.size_toArray, List.length_cons, List.length_nil, Nat.reduceAdd, Nat.reduceSub, Array.replicate_succ, Array.replicate_zero, List.push_toArray, List.append_toArray, List.nil_append, List.cons_append]
  obtain ⟨nm, hnm'⟩ : ∃ q, ns.length * ms.length = q := ⟨_, rfl⟩
  rw [hnm'] at hnm
  have e1 : wrap64 ((ns.length : Int) * (ms.length : Int)) = (nm : Int) := by
    rw [← Int.natCast_mul, hnm']
    unfold wrap64
    omega
  have HNM := hide hnm'
  clear hnm'
  obtain ⟨ib, hib, hb0, hb1, hb2⟩ := info_parts Tryz.infoBoolC
  have hmk := fun W => mk_run Tryz.underlying126 hib hb0 hb1 hb2 rfl nm (by omega) (by omega) W
  rw [metA_nil ms.length nm] at hmk
  have a0 := (unhide HA).c 0
  have a1 := (unhide HA).c 1
  have b0 := (unhide HB).c 0
  have b1 := (unhide HB).c 1
  simp only [List.getElem?_toArray, List.getElem?_cons_zero, List.getElem?_cons_succ] at a0 a1 b0 b1
  have hbel := step_a (step_a (step_a (step_a (Below.refl w.heap.size w) (.cells (metA ms.length nm []) 4)) (.cells #[.slice (some ⟨w.heap.size, 0, none⟩) nm nm] 126)) (.cells #[] 129)) (.cells #[.slice (some ⟨w.heap.size + 1 + 1, 0, none⟩) 0 0] 127)
  have a1' := cell_below hbel a1
  have b1' := cell_below hbel b1
  have b0' := cell_below hbel b0
  have HM0 : Hid (MeetS ((((w.alloc (.cells (metA ms.length nm []) 4)).alloc (.cells #[.slice (some ⟨w.heap.size, 0, none⟩) nm nm] 126)).alloc (.cells #[] 129)).alloc (.cells #[.slice (some ⟨w.heap.size + 1 + 1, 0, none⟩) 0 0] 127)) w.heap.size w.heap.size (w.heap.size + 1) (w.heap.size + 1 + 1 + 1) ms.length nm []) := hide (by
    have h1 := ((AtC.new w (metA ms.length nm []) 4).alloc (.cells #[.slice (some ⟨w.heap.size, 0, none⟩) nm nm] 126)).alloc (.cells #[] 129)
    have h2 := (AtC.new (w.alloc (.cells (metA ms.length nm []) 4)) #[.slice (some ⟨w.heap.size, 0, none⟩) nm nm] 126).alloc (.cells #[] 129)
    rw [World.size_alloc] at h2
    have h3 := AtC.new (((w.alloc (.cells (metA ms.length nm []) 4)).alloc (.cells #[.slice (some ⟨w.heap.size, 0, none⟩) nm nm] 126)).alloc (.cells #[] 129)) #[.slice (some ⟨w.heap.size + 1 + 1, 0, none⟩) 0 0] 127
    rw [World.size_alloc, World.size_alloc, World.size_alloc] at h3
    have h4 : RowP (((w.alloc (.cells (metA ms.length nm []) 4)).alloc (.cells #[.slice (some ⟨w.heap.size, 0, none⟩) nm nm] 126)).alloc (.cells #[] 129)) w.heap.size 129 (.slice (some ⟨w.heap.size + 1 + 1, 0, none⟩) 0 0) [] := by
      have h := heap_alloc_new ((w.alloc (.cells (metA ms.length nm []) 4)).alloc (.cells #[.slice (some ⟨w.heap.size, 0, none⟩) nm nm] 126)) (.cells #[] 129)
      rw [World.size_alloc, World.size_alloc] at h
      exact ⟨rfl, .inr ⟨w.heap.size + 1 + 1, 0, _, rfl, by omega, h, Nat.le_refl _, by unfold maxLen; omega, rfl, rfl⟩⟩
    exact ⟨h1.alloc _, h2.alloc _, ⟨_, h3, own_below h4 (step_a (Below.refl _ _) _)⟩, Nat.le_refl _, by omega, by omega⟩)
  have HBE := hide hbel
  gi_wp2_with fail
  obtain ⟨W4, hW4⟩ : ∃ W4, (((w.alloc (.cells (metA ms.length nm []) 4)).alloc (.cells #[.slice (some ⟨w.heap.size, 0, none⟩) nm nm] 126)).alloc (.cells #[] 129)).alloc (.cells #[.slice (some ⟨w.heap.size + 1 + 1, 0, none⟩) 0 0] 127) = W4 := ⟨_, rfl⟩
  rw [hW4] at HM0 HBE b0' ⊢
  clear a0 a1 b0 b1 a1' b1' hbel hW4 hmk e1
  have hs4 := (unhide HBE).size
  have hmt := unhide HM0
  rw [← unhide HNM] at hmt
  refine ⟨trivial, (callsIn_wide.2 (meet_c a b ns.length ms.length w.heap.size bB w.heap.size (w.heap.size + 1) (w.heap.size + 1 + 1 + 1) yc (some ⟨yb, yo, none⟩) [] W4 (unhide HAB) hl1 hl2 (by simp) b0' hmt hs4)).mono ?_⟩
  clear hmt b0'
  rintro e W5 ⟨⟨vm, rfl⟩, hst5, hm5, _⟩
  rw [unhide HNM] at hm5
  have HM5 : Hid (MeetS W5 w.heap.size w.heap.size (w.heap.size + 1) (w.heap.size + 1 + 1 + 1) ms.length nm [(a, b)]) := hide (by simpa using hm5)
  have hst := (Steps.below (Nat.le_refl _) (unhide HBE)).trans hst5
  have HJ5 : Hid (J [] W5) := hide (hst.tr J [] (unhide HJ) (unhide HJ0))
  have HK5 : Hid (KC w W5) := hide ((KC.refl w).steps hst)
  have HL5 : Hid ([(a, b)].Nodup ∧ ∀ x ∈ [(a, b)], InP ns.length ms.length x) := hide ⟨by simp, fun x hx => by
    have : x = (a, b) := by simpa using hx
    rw [this]; exact unhide HAB⟩
  clear hst hst5 hm5 hs4 HM0 HBE HJ0
  gi_wp2_with fail
  gi_loopw [7] (fun iv wr => ∃ (lp : List (Int × Int)) (i : Nat), i ≤ lp.length ∧ iv = .int .i64 i ∧ Hid (MeetS wr w.heap.size w.heap.size (w.heap.size + 1) (w.heap.size + 1 + 1 + 1) ms.length nm lp) ∧ Hid (J (L.take i) wr) ∧ Hid (KC w wr) ∧ Hid (lp.Nodup ∧ ∀ x ∈ lp, InP ns.length ms.length x) ∧ Hid (Lst ns ms L i lp))
    (fun iv _ => 6400 - (intOf iv).toNat)
  case atStart => exact ⟨[(a, b)], 0, by simp, rfl, HM5, hide (by simpa using unhide HJ5), HK5, HL5, HLS⟩
  case round =>
    clear HM5 HJ5 HK5 HL5 HLS
    obtain ⟨lp, i, hil, rfl, HM, HJi, HK, HL, HLS⟩ := hrel
    obtain ⟨v, hpv, hrow⟩ := (unhide HM).pb
    have hll : lp.length ≤ 6400 := by have := pairs_few (unhide HL).1 (unhide HL).2; rw [unhide HNM] at this; omega
    obtain ⟨rp, rc, rfl⟩ := own_form hrow
    have pc := hpv.c 0
    simp only [List.getElem?_toArray, List.getElem?_cons_zero] at pc
    by_cases hlt : i < lp.length
    · obtain ⟨g, cap, ev, hc1, hc2, hgb, hcell⟩ := RowP.form hrow (by omega)
      injection ev with ev1 ev2 ev3
      subst ev1
      subst ev3
      obtain ⟨⟨pa, pb⟩, hp⟩ : ∃ p, lp[i]? = some p := ⟨_, List.getElem?_eq_getElem hlt⟩
      obtain ⟨g0, g1⟩ := hcell i _ hp
      simp only at g0 g1
      obtain ⟨⟨pa0, pa1⟩, pb0, pb1⟩ := inP_iff.1 ((unhide HL).2 _ (List.mem_of_getElem? hp))
      obtain ⟨na, hna⟩ : ∃ nd, ns[pa.toNat]? = some nd := ⟨_, List.getElem?_eq_getElem (by omega)⟩
      obtain ⟨nb, hnb⟩ : ∃ nd, ms[pb.toNat]? = some nd := ⟨_, List.getElem?_eq_getElem (by omega)⟩
      obtain ⟨kva, x0, x1, x2, _, hka⟩ := (unhide HX).node hna
      obtain ⟨kvb, y0, y1, y2, _, hkb⟩ := (unhide HY).node hnb
      have HVA : Hid (nvA ns w0 xb xo pa = .agg #[.int .i64 na.1, .string (B na.2.1), kva]) := hide ((unhide HXV) pa na hna kva x2)
      have HVB : Hid (nvA ms w0 yb yo pb = .agg #[.int .i64 nb.1, .string (B nb.2.1), kvb]) := hide ((unhide HYV) pb nb hnb kvb y2)
      have x0 := cell_kc (unhide HK) x0
      have x1 := cell_kc (unhide HK) x1
      have x2 := cell_kc (unhide HK) x2
      have y0 := cell_kc (unhide HK) y0
      have y1 := cell_kc (unhide HK) y1
      have y2 := cell_kc (unhide HK) y2
      have HKA := hide hka
      have HKB := hide hkb
      obtain ⟨aka, akc, rfl, ak1, ak2⟩ := hka.form
      obtain ⟨bka, bkc, rfl, bk1, bk2⟩ := hkb.form
      have HPI := hide hp
      have HNA := hide hna
      have HNB := hide hnb
      obtain ⟨sa, ta, ka⟩ := na
      obtain ⟨sb, tb, kb⟩ := nb
      simp only at x0 x1 x2 y0 y1 y2 HKA HKB HVA HVB ak1 bk1
      have qa := ((unhide HA).kc (unhide HK)).c 0
      have qb := ((unhide HB).kc (unhide HK)).c 0
      simp only [List.getElem?_toArray, List.getElem?_cons_zero] at qa qb
      have pan : pa.toNat * 3 + 0 = pa.toNat * 3 := rfl
      have HALL := hide (And.intro g0 (And.intro g1 (And.intro x0 (And.intro x1 (And.intro x2 (And.intro y0 (And.intro y1 (And.intro y2 (And.intro qa (And.intro qb pc))))))))))
      clear hp hna hnb hka hkb hcell hpv hrow pan
      gi_wp2_with fail
      --REGION7
      obtain ⟨v, hv⟩ : ∃ v : Nat → Value, v = fun j => match j with
        | 0 => .pointer (some ⟨aB, 0, none⟩)
        | 1 => .slice (some ⟨xb, xo, none⟩) ns.length xc
        | 2 => .slice (some ⟨g, 0, none⟩) lp.length rc
        | 3 => .int .i64 (i : Int)
        | 4 => .pointer (some ⟨g, i * 2, none⟩)
        | 5 => .pointer (some ⟨g, i * 2, none⟩)
        | 6 => .int .i64 pa
        | 7 => .pointer (some ⟨xb, xo + pa.toNat * 3, none⟩)
        | 8 => .agg #[.int .i64 sa, .string (B ta), .slice aka ka.length akc]
        | 9 => .pointer (some ⟨bB, 0, none⟩)
        | 10 => .slice (some ⟨yb, yo, none⟩) ms.length yc
        | 11 => .slice (some ⟨g, 0, none⟩) lp.length rc
        | 12 => .int .i64 (i : Int)
        | 13 => .pointer (some ⟨g, i * 2, none⟩)
        | 14 => .pointer (some ⟨g, i * 2 + 1, none⟩)
        | 15 => .int .i64 pb
        | 16 => .pointer (some ⟨yb, yo + pb.toNat * 3, none⟩)
        | 17 => .agg #[.int .i64 sb, .string (B tb), .slice bka kb.length bkc]
        | _ => undef := ⟨_, rfl⟩
      have v0 : v 0 = .pointer (some ⟨aB, 0, none⟩) := by subst hv; rfl
      have v1 : v 1 = .slice (some ⟨xb, xo, none⟩) ns.length xc := by subst hv; rfl
      have v2 : v 2 = .slice (some ⟨g, 0, none⟩) lp.length rc := by subst hv; rfl
      have v3 : v 3 = .int .i64 (i : Int) := by subst hv; rfl
      have v4 : v 4 = .pointer (some ⟨g, i * 2, none⟩) := by subst hv; rfl
      have v5 : v 5 = .pointer (some ⟨g, i * 2, none⟩) := by subst hv; rfl
      have v6 : v 6 = .int .i64 pa := by subst hv; rfl
      have v7 : v 7 = .pointer (some ⟨xb, xo + pa.toNat * 3, none⟩) := by subst hv; rfl
      have v8 : v 8 = .agg #[.int .i64 sa, .string (B ta), .slice aka ka.length akc] := by subst hv; rfl
      have v9 : v 9 = .pointer (some ⟨bB, 0, none⟩) := by subst hv; rfl
      have v10 : v 10 = .slice (some ⟨yb, yo, none⟩) ms.length yc := by subst hv; rfl
      have v11 : v 11 = .slice (some ⟨g, 0, none⟩) lp.length rc := by subst hv; rfl
      have v12 : v 12 = .int .i64 (i : Int) := by subst hv; rfl
      have v13 : v 13 = .pointer (some ⟨g, i * 2, none⟩) := by subst hv; rfl
      have v14 : v 14 = .pointer (some ⟨g, i * 2 + 1, none⟩) := by subst hv; rfl
      have v15 : v 15 = .int .i64 pb := by subst hv; rfl
      have v16 : v 16 = .pointer (some ⟨yb, yo + pb.toNat * 3, none⟩) := by subst hv; rfl
      have v17 : v 17 = .agg #[.int .i64 sb, .string (B tb), .slice bka kb.length bkc] := by subst hv; rfl
      clear hv
      refine wpIn_region_any (by kernel_rfl) ?_
      change wpAnyIn _ _ _ _ _ _ _ _ _ (World.drew _)
      refine wpAnyIn_inv (fun l' a' w' => ∃ x : Nat → Value, a' = ⟨#[.func (Fn.yield l) #[] #[], .pointer (some ⟨aB, 0, none⟩), .pointer (some ⟨bB, 0, none⟩), undef, .pointer (some ⟨w.heap.size + 1, 0, none⟩), .pointer (some ⟨w.heap.size + 1 + 1 + 1, 0, none⟩), .func (Fn.func (98 : Nat)) #[] #[.pointer (some ⟨bB, 0, none⟩), .pointer (some ⟨w.heap.size + 1, 0, none⟩), .pointer (some ⟨w.heap.size + 1 + 1 + 1, 0, none⟩)], .int .i64 ↑i, x 18, x 19, u10, .pointer (some ⟨aB, 0, none⟩), .slice (some ⟨xb, xo, none⟩) ns.length xc, .int .i64 ↑ns.length, .pointer (some ⟨bB, 0, none⟩), .slice (some ⟨yb, yo, none⟩) ms.length yc, .int .i64 ↑ms.length, .int .i64 ↑nm, .slice (some ⟨w.heap.size, 0, none⟩) nm nm, .slice (some ⟨w.heap.size + 1 + 1, 0, none⟩) 0 0, .func (Fn.func (98 : Nat)) #[] #[.pointer (some ⟨bB, 0, none⟩), .pointer (some ⟨w.heap.size + 1, 0, none⟩), .pointer (some ⟨w.heap.size + 1 + 1 + 1, 0, none⟩)], .func (Fn.func (98 : Nat)) #[] #[.pointer (some ⟨bB, 0, none⟩), .pointer (some ⟨w.heap.size + 1, 0, none⟩), .pointer (some ⟨w.heap.size + 1 + 1 + 1, 0, none⟩)], .pointer (some ⟨aB, 1, none⟩), .int .i64 a, .pointer (some ⟨bB, 1, none⟩), .int .i64 b, vm, .int .i64 ↑i, .slice (some ⟨g, 0, none⟩) lp.length rc, .int .i64 ↑lp.length, .bool true, u31, u32, x 0, x 1, x 2, x 3, x 4, x 5, x 6, x 7, x 8, x 9, x 10, x 11, x 12, x 13, x 14, x 15, x 16, x 17, u51, u52, u53, u54, u55, u56, u57, u58, u59, u60, u61, u62, u63, u64, u65, u66, u67, u68, u69, u70, u71, u72, u73, u74, u75, u76, u77, u78], []⟩ ∧ TwoB 18 wr v #[.int .i64 0, .string ⟨#[]⟩, .slice none 0 0] #[.int .i64 sa, .string (B ta), .slice aka ka.length akc] #[.int .i64 sb, .string (B tb), .slice bka kb.length bkc] 56 l' x w') ?hsz ?hend ?hstep ?hgo _ _ _ _ ?h0 ?hc
      case hsz =>
        rintro l' a' w' ⟨x, _, h⟩
        exact h.sz
      case h0 => exact ⟨fun j => [u33, u34, u35, u36, u37, u38, u39, u40, u41, u42, u43, u44, u45, u46, u47, u48, u49, u50, u8, u9].getD j undef, rfl, TwoB.start rfl (Below.refl _ _).drew⟩
      case hc => exact Nat.le_of_eq rfl
      case hgo =>
        rintro l' a' w' ⟨x, rfl, h⟩ hr j hj
        have k0 : l'[0]? = some true := LL_ready hr 0 (by simp) (by rw [h.sz]; rfl) (by simp [Region.binds, Array.getD_eq_getD_getElem?])
        have k1 : l'[1]? = some true := LL_ready hr 1 (by simp) (by rw [h.sz]; rfl) (by simp [Region.binds, Array.getD_eq_getD_getElem?, k0])
        have k2 : l'[2]? = some true := LL_ready hr 2 (by simp) (by rw [h.sz]; rfl) (by simp [Region.binds, Array.getD_eq_getD_getElem?])
        have k3 : l'[3]? = some true := LL_ready hr 3 (by simp) (by rw [h.sz]; rfl) (by simp [Region.binds, Array.getD_eq_getD_getElem?])
        have k4 : l'[4]? = some true := LL_ready hr 4 (by simp) (by rw [h.sz]; rfl) (by simp [Region.binds, Array.getD_eq_getD_getElem?, k2, k3])
        have k5 : l'[5]? = some true := LL_ready hr 5 (by simp) (by rw [h.sz]; rfl) (by simp [Region.binds, Array.getD_eq_getD_getElem?, k4])
        have k6 : l'[6]? = some true := LL_ready hr 6 (by simp) (by rw [h.sz]; rfl) (by simp [Region.binds, Array.getD_eq_getD_getElem?, k5])
        have k7 : l'[7]? = some true := LL_ready hr 7 (by simp) (by rw [h.sz]; rfl) (by simp [Region.binds, Array.getD_eq_getD_getElem?, k1, k6])
        have k8 : l'[8]? = some true := LL_ready hr 8 (by simp) (by rw [h.sz]; rfl) (by simp [Region.binds, Array.getD_eq_getD_getElem?, k7])
        have k9 : l'[9]? = some true := LL_ready hr 9 (by simp) (by rw [h.sz]; rfl) (by simp [Region.binds, Array.getD_eq_getD_getElem?])
        have k10 : l'[10]? = some true := LL_ready hr 10 (by simp) (by rw [h.sz]; rfl) (by simp [Region.binds, Array.getD_eq_getD_getElem?, k9])
        have k11 : l'[11]? = some true := LL_ready hr 11 (by simp) (by rw [h.sz]; rfl) (by simp [Region.binds, Array.getD_eq_getD_getElem?])
        have k12 : l'[12]? = some true := LL_ready hr 12 (by simp) (by rw [h.sz]; rfl) (by simp [Region.binds, Array.getD_eq_getD_getElem?])
        have k13 : l'[13]? = some true := LL_ready hr 13 (by simp) (by rw [h.sz]; rfl) (by simp [Region.binds, Array.getD_eq_getD_getElem?, k11, k12])
        have k14 : l'[14]? = some true := LL_ready hr 14 (by simp) (by rw [h.sz]; rfl) (by simp [Region.binds, Array.getD_eq_getD_getElem?, k13])
        have k15 : l'[15]? = some true := LL_ready hr 15 (by simp) (by rw [h.sz]; rfl) (by simp [Region.binds, Array.getD_eq_getD_getElem?, k14])
        have k16 : l'[16]? = some true := LL_ready hr 16 (by simp) (by rw [h.sz]; rfl) (by simp [Region.binds, Array.getD_eq_getD_getElem?, k10, k15])
        have k17 : l'[17]? = some true := LL_ready hr 17 (by simp) (by rw [h.sz]; rfl) (by simp [Region.binds, Array.getD_eq_getD_getElem?, k16])
        have k18 : l'[18]? = some true := LL_ready hr 18 (by simp) (by rw [h.sz]; rfl) (by simp [Region.binds, Array.getD_eq_getD_getElem?])
        have k19 : l'[19]? = some true := LL_ready hr 19 (by simp) (by rw [h.sz]; rfl) (by simp [Region.binds, Array.getD_eq_getD_getElem?])
        have k20 : l'[20]? = some true := LL_ready hr 20 (by simp) (by rw [h.sz]; rfl) (by simp [Region.binds, Array.getD_eq_getD_getElem?, k0, k1, k2, k3, k4, k5, k6, k7, k8, k9, k10, k11, k12, k13, k14, k15, k16, k17, k18, k19])
        have k21 : l'[21]? = some true := LL_ready hr 21 (by simp) (by rw [h.sz]; rfl) (by simp [Region.binds, Array.getD_eq_getD_getElem?, k0, k1, k2, k3, k4, k5, k6, k7, k8, k9, k10, k11, k12, k13, k14, k15, k16, k17, k18, k19, k20])
        have hj : j < 22 := by simpa using hj
        rcases (by omega : j = 0 ∨ j = 1 ∨ j = 2 ∨ j = 3 ∨ j = 4 ∨ j = 5 ∨ j = 6 ∨ j = 7 ∨ j = 8 ∨ j = 9 ∨ j = 10 ∨ j = 11 ∨ j = 12 ∨ j = 13 ∨ j = 14 ∨ j = 15 ∨ j = 16 ∨ j = 17 ∨ j = 18 ∨ j = 19 ∨ j = 20 ∨ j = 21) with rfl | rfl | rfl | rfl | rfl | rfl | rfl | rfl | rfl | rfl | rfl | rfl | rfl | rfl | rfl | rfl | rfl | rfl | rfl | rfl | rfl | rfl
        all_goals assumption
      case hstep =>
        rintro l' a' w' j ⟨x, rfl, h⟩ hi
        have hi2 := hi
        unfold Region.ready at hi2
        rw [List.mem_filter] at hi2
        obtain ⟨hjj, hi3⟩ := hi2
        have hjj : j < 22 := by simpa using hjj
        have hjl : ¬ LL l' j := fun e => by
          unfold LL at e
          simp [Array.getD_eq_getD_getElem?, e] at hi3
        clear hi
        obtain ⟨g0, g1, x0, x1, x2, y0, y1, y2, qa, qb, pc⟩ := unhide HALL
        have g0 := cell_below h.bl g0
        have g1 := cell_below h.bl g1
        have x0 := cell_below h.bl x0
        have x1 := cell_below h.bl x1
        have x2 := cell_below h.bl x2
        have y0 := cell_below h.bl y0
        have y1 := cell_below h.bl y1
        have y2 := cell_below h.bl y2
        have qa := cell_below h.bl qa
        have qb := cell_below h.bl qb
        have pc := cell_below h.bl pc
        rcases (by omega : j = 0 ∨ j = 1 ∨ j = 2 ∨ j = 3 ∨ j = 4 ∨ j = 5 ∨ j = 6 ∨ j = 7 ∨ j = 8 ∨ j = 9 ∨ j = 10 ∨ j = 11 ∨ j = 12 ∨ j = 13 ∨ j = 14 ∨ j = 15 ∨ j = 16 ∨ j = 17 ∨ j = 18 ∨ j = 19 ∨ j = 20 ∨ j = 21) with rfl | rfl | rfl | rfl | rfl | rfl | rfl | rfl | rfl | rfl | rfl | rfl | rfl | rfl | rfl | rfl | rfl | rfl | rfl | rfl | rfl | rfl
        · clear hi3
          refine wpOpIn_step rfl (fun K hK => ?_)
          go_simp
          exact hK _ _ ⟨_, by simp [v0], h.next 0 (by omega) hjl (v 0) (Below.refl _ _) (fun _ => rfl) (fun e => by omega)⟩
        · have l0 : LL l' 0 := LL_of (by simp [Region.binds, Array.getD_eq_getD_getElem?] at hi3; simp [hi3])
          clear hi3
          have w0 := (h.val 0 (by omega) l0).trans v0
          refine wpOpIn_step rfl (fun K hK => ?_)
          go_simp
          exact hK _ _ ⟨_, by simp [w0, v1], h.next 1 (by omega) hjl (v 1) (Below.refl _ _) (fun _ => rfl) (fun e => by omega)⟩
        · clear hi3
          refine wpOpIn_step rfl (fun K hK => ?_)
          go_simp
          exact hK _ _ ⟨_, by simp [v2], h.next 2 (by omega) hjl (v 2) (Below.refl _ _) (fun _ => rfl) (fun e => by omega)⟩
        · clear hi3
          refine wpOpIn_step rfl (fun K hK => ?_)
          go_simp
          exact hK _ _ ⟨_, by simp [v3], h.next 3 (by omega) hjl (v 3) (Below.refl _ _) (fun _ => rfl) (fun e => by omega)⟩
        · have l2 : LL l' 2 := LL_of (by simp [Region.binds, Array.getD_eq_getD_getElem?] at hi3; simp [hi3])
          have l3 : LL l' 3 := LL_of (by simp [Region.binds, Array.getD_eq_getD_getElem?] at hi3; simp [hi3])
          clear hi3
          have w2 := (h.val 2 (by omega) l2).trans v2
          have w3 := (h.val 3 (by omega) l3).trans v3
          refine wpOpIn_step rfl (fun K hK => ?_)
          go_simp
          exact hK _ _ ⟨_, by simp [w2, w3, v4], h.next 4 (by omega) hjl (v 4) (Below.refl _ _) (fun _ => rfl) (fun e => by omega)⟩
        · have l4 : LL l' 4 := LL_of (by simp [Region.binds, Array.getD_eq_getD_getElem?] at hi3; simp [hi3])
          clear hi3
          have w4 := (h.val 4 (by omega) l4).trans v4
          refine wpOpIn_step rfl (fun K hK => ?_)
          go_simp
          exact hK _ _ ⟨_, by simp [w4, v5], h.next 5 (by omega) hjl (v 5) (Below.refl _ _) (fun _ => rfl) (fun e => by omega)⟩
        · have l5 : LL l' 5 := LL_of (by simp [Region.binds, Array.getD_eq_getD_getElem?] at hi3; simp [hi3])
          clear hi3
          have w5 := (h.val 5 (by omega) l5).trans v5
          refine wpOpIn_step rfl (fun K hK => ?_)
          go_simp
          exact hK _ _ ⟨_, by simp [w5, v6], h.next 6 (by omega) hjl (v 6) (Below.refl _ _) (fun _ => rfl) (fun e => by omega)⟩
        · have l1 : LL l' 1 := LL_of (by simp [Region.binds, Array.getD_eq_getD_getElem?] at hi3; simp [hi3])
          have l6 : LL l' 6 := LL_of (by simp [Region.binds, Array.getD_eq_getD_getElem?] at hi3; simp [hi3])
          clear hi3
          have w1 := (h.val 1 (by omega) l1).trans v1
          have w6 := (h.val 6 (by omega) l6).trans v6
          refine wpOpIn_step rfl (fun K hK => ?_)
          go_simp
          exact hK _ _ ⟨_, by simp [w1, w6, v7], h.next 7 (by omega) hjl (v 7) (Below.refl _ _) (fun _ => rfl) (fun e => by omega)⟩
        · have l7 : LL l' 7 := LL_of (by simp [Region.binds, Array.getD_eq_getD_getElem?] at hi3; simp [hi3])
          clear hi3
          have w7 := (h.val 7 (by omega) l7).trans v7
          refine wpOpIn_step rfl (fun K hK => ?_)
          go_simp
          exact hK _ _ ⟨_, by simp [w7, v8], h.next 8 (by omega) hjl (v 8) (Below.refl _ _) (fun _ => rfl) (fun e => by omega)⟩
        · clear hi3
          refine wpOpIn_step rfl (fun K hK => ?_)
          go_simp
          exact hK _ _ ⟨_, by simp [v9], h.next 9 (by omega) hjl (v 9) (Below.refl _ _) (fun _ => rfl) (fun e => by omega)⟩
        · have l9 : LL l' 9 := LL_of (by simp [Region.binds, Array.getD_eq_getD_getElem?] at hi3; simp [hi3])
          clear hi3
          have w9 := (h.val 9 (by omega) l9).trans v9
          refine wpOpIn_step rfl (fun K hK => ?_)
          go_simp
          exact hK _ _ ⟨_, by simp [w9, v10], h.next 10 (by omega) hjl (v 10) (Below.refl _ _) (fun _ => rfl) (fun e => by omega)⟩
        · clear hi3
          refine wpOpIn_step rfl (fun K hK => ?_)
          go_simp
          exact hK _ _ ⟨_, by simp [v11], h.next 11 (by omega) hjl (v 11) (Below.refl _ _) (fun _ => rfl) (fun e => by omega)⟩
        · clear hi3
          refine wpOpIn_step rfl (fun K hK => ?_)
          go_simp
          exact hK _ _ ⟨_, by simp [v12], h.next 12 (by omega) hjl (v 12) (Below.refl _ _) (fun _ => rfl) (fun e => by omega)⟩
        · have l11 : LL l' 11 := LL_of (by simp [Region.binds, Array.getD_eq_getD_getElem?] at hi3; simp [hi3])
          have l12 : LL l' 12 := LL_of (by simp [Region.binds, Array.getD_eq_getD_getElem?] at hi3; simp [hi3])
          clear hi3
          have w11 := (h.val 11 (by omega) l11).trans v11
          have w12 := (h.val 12 (by omega) l12).trans v12
          refine wpOpIn_step rfl (fun K hK => ?_)
          go_simp
          exact hK _ _ ⟨_, by simp [w11, w12, v13], h.next 13 (by omega) hjl (v 13) (Below.refl _ _) (fun _ => rfl) (fun e => by omega)⟩
        · have l13 : LL l' 13 := LL_of (by simp [Region.binds, Array.getD_eq_getD_getElem?] at hi3; simp [hi3])
          clear hi3
          have w13 := (h.val 13 (by omega) l13).trans v13
          refine wpOpIn_step rfl (fun K hK => ?_)
          go_simp
          exact hK _ _ ⟨_, by simp [w13, v14], h.next 14 (by omega) hjl (v 14) (Below.refl _ _) (fun _ => rfl) (fun e => by omega)⟩
        · have l14 : LL l' 14 := LL_of (by simp [Region.binds, Array.getD_eq_getD_getElem?] at hi3; simp [hi3])
          clear hi3
          have w14 := (h.val 14 (by omega) l14).trans v14
          refine wpOpIn_step rfl (fun K hK => ?_)
          go_simp
          exact hK _ _ ⟨_, by simp [w14, v15], h.next 15 (by omega) hjl (v 15) (Below.refl _ _) (fun _ => rfl) (fun e => by omega)⟩
        · have l10 : LL l' 10 := LL_of (by simp [Region.binds, Array.getD_eq_getD_getElem?] at hi3; simp [hi3])
          have l15 : LL l' 15 := LL_of (by simp [Region.binds, Array.getD_eq_getD_getElem?] at hi3; simp [hi3])
          clear hi3
          have w10 := (h.val 10 (by omega) l10).trans v10
          have w15 := (h.val 15 (by omega) l15).trans v15
          refine wpOpIn_step rfl (fun K hK => ?_)
          go_simp
          exact hK _ _ ⟨_, by simp [w10, w15, v16], h.next 16 (by omega) hjl (v 16) (Below.refl _ _) (fun _ => rfl) (fun e => by omega)⟩
        · have l16 : LL l' 16 := LL_of (by simp [Region.binds, Array.getD_eq_getD_getElem?] at hi3; simp [hi3])
          clear hi3
          have w16 := (h.val 16 (by omega) l16).trans v16
          refine wpOpIn_step rfl (fun K hK => ?_)
          go_simp
          exact hK _ _ ⟨_, by simp [w16, v17], h.next 17 (by omega) hjl (v 17) (Below.refl _ _) (fun _ => rfl) (fun e => by omega)⟩
        · clear hi3
          refine wpOpIn_step rfl (fun K hK => ?_)
          go_simp
          exact hK _ _ ⟨_, by simp, h.next 18 (by omega) hjl (.pointer (some ⟨w'.heap.size, 0, none⟩)) (step_a (Below.refl _ _) (.cells #[.int .i64 0, .string ⟨#[]⟩, .slice none 0 0] 56)) (fun e => by omega) (fun _ => ⟨rfl, AtC.new _ _ _⟩)⟩
        · clear hi3
          refine wpOpIn_step rfl (fun K hK => ?_)
          go_simp
          exact hK _ _ ⟨_, by simp, h.next 19 (by omega) hjl (.pointer (some ⟨w'.heap.size, 0, none⟩)) (step_a (Below.refl _ _) (.cells #[.int .i64 0, .string ⟨#[]⟩, .slice none 0 0] 56)) (fun e => by omega) (fun _ => ⟨rfl, AtC.new _ _ _⟩)⟩
        · have l8 : LL l' 8 := LL_of (by simp [Region.binds, Array.getD_eq_getD_getElem?] at hi3; simp [hi3])
          have l18 : LL l' 18 := LL_of (by simp [Region.binds, Array.getD_eq_getD_getElem?] at hi3; simp [hi3])
          clear hi3
          have w8 := (h.val 8 (by omega) l8).trans v8
          obtain ⟨gg, e5, hM, hn⟩ := h.put1 hjl l18
          have m0 := hM.c 0
          have m1 := hM.c 1
          have m2 := hM.c 2
          have mf := hM.f
          simp only [List.getElem?_toArray, List.getElem?_cons_zero, List.getElem?_cons_succ] at m0 m1 m2
          have HN := hide hn
          clear hM hn
          refine wpOpIn_step rfl (fun K hK => ?_)
          go_simp
          exact hK _ _ ⟨_, by simp [w8, e5], unhide HN⟩
        · have l17 : LL l' 17 := LL_of (by simp [Region.binds, Array.getD_eq_getD_getElem?] at hi3; simp [hi3])
          have l19 : LL l' 19 := LL_of (by simp [Region.binds, Array.getD_eq_getD_getElem?] at hi3; simp [hi3])
          clear hi3
          have w17 := (h.val 17 (by omega) l17).trans v17
          obtain ⟨gg, e5, hM, hn⟩ := h.put2 hjl l19
          have m0 := hM.c 0
          have m1 := hM.c 1
          have m2 := hM.c 2
          have mf := hM.f
          simp only [List.getElem?_toArray, List.getElem?_cons_zero, List.getElem?_cons_succ] at m0 m1 m2
          have HN := hide hn
          clear hM hn
          refine wpOpIn_step rfl (fun K hK => ?_)
          go_simp
          exact hK _ _ ⟨_, by simp [w17, e5], unhide HN⟩
      case hend =>
      --ENDREGION7
        rintro l' a' w' ⟨x, rfl, h⟩ hall
        obtain ⟨b8, b9, e1, e2, hg8, hg9, A8, A9, hbl⟩ := h.done (hall 20 (by simp)) (hall 21 (by simp))
        rw [e1, e2]
        have hst := Steps.below (B := w.heap.size) (unhide HK).size hbl
        have HK1 := hide ((unhide HK).steps hst)
        have HM1 := hide ((unhide HM).below hbl)
        have hJ1 := hst.tr J (L.take i) (unhide HJ) (unhide HJi)
        have hLi := pre_get (unhide HLS).pre (unhide HPI)
        have htk : L.take i ++ [(pa, pb)] = L.take (i + 1) := by rw [List.take_add_one, hLi]; rfl
        have hyy := (unhide HY0) (L.take i) (pa, pb) w' hJ1 (by rw [htk]; exact List.take_prefix _ _)
        simp only at hyy
        rw [unhide HVA, unhide HVB, htk] at hyy
        obtain ⟨fn, tmps, assign, body, hyr, hR⟩ := hyy
        have m0 := A8.c 0
        have m1 := A8.c 1
        have m2 := A8.c 2
        have n0 := A9.c 0
        have n1 := A9.c 1
        have n2 := A9.c 2
        simp only [List.getElem?_toArray, List.getElem?_cons_zero, List.getElem?_cons_succ] at m0 m1 m2 n0 n1 n2
        have HA8 := hide A8
        have HA9 := hide A9
        clear h hall hst hJ1 hLi htk A8 A9 hbl HALL HK HM HJi v0 v1 v2 v3 v4 v5 v6 v7 v8 v9 v10 v11 v12 v13 v14 v15 v16 v17 g0 g1 x0 x1 x2 y0 y1 y2 qa qb pc
        gi_wp2_with fail
        refine hR.mono ?_
        rintro e W8 (⟨rfl, hJ8, hk8⟩ | ⟨rfl, hJx8⟩)
        · have HK8 := hide ((unhide HK1).trans hk8)
          have HM8 := hide ((unhide HM1).kc hk8)
          have HB8 := hide ((unhide HA8).kc hk8)
          have HB9 := hide ((unhide HA9).kc hk8)
          have HJ8 := hide hJ8
          have p2 := (unhide HB8).c 2
          have q2 := (unhide HB9).c 2
          simp only [List.getElem?_toArray, List.getElem?_cons_zero, List.getElem?_cons_succ] at p2 q2
          clear hk8 hJ8 m0 m1 m2 n0 n1 n2 HA8 HA9 HM1 HK1 hyr hR
          obtain ⟨zl, hzl⟩ : ∃ z, (ka.zip kb).length = z := ⟨_, rfl⟩
          have hz : min (ka.length : Int) (kb.length : Int) = (zl : Int) := by rw [← hzl, List.length_zip]; omega
          have HZL := hide hzl
          clear hzl
          gi_wp2_with fail
          gi_loopw [63] (fun kv wr2 => ∃ (k : Nat) (lq : List (Int × Int)), k ≤ zl ∧ kv = .int .i64 k ∧ Hid (lq = nxtP lp ((ka.zip kb).take k)) ∧ Hid (MeetS wr2 w.heap.size w.heap.size (w.heap.size + 1) (w.heap.size + 1 + 1 + 1) ms.length nm lq) ∧ Hid (J (L.take (i + 1)) wr2) ∧ Hid (KC w wr2) ∧ Hid (AtC wr2 b8 #[.int .i64 sa, .string (B ta), .slice aka ka.length akc] 56) ∧ Hid (AtC wr2 b9 #[.int .i64 sb, .string (B tb), .slice bka kb.length bkc] 56))
            (fun kv _ => zl - (intOf kv).toNat)
          case atStart => exact ⟨0, lp, by omega, rfl, hide rfl, HM8, HJ8, HK8, HB8, HB9⟩
          case round =>
            clear HM8 HJ8 HK8 HB8 HB9 p2 q2
            obtain ⟨k, lq, hkz, rfl, HLQ, HM, HJk, HK, HB8, HB9⟩ := hrel
            by_cases hkl : k < zl
            · have HKL : Hid (k + 1 ≤ zl ∧ zl - (k + 1) < zl - k) := hide ⟨by omega, by omega⟩
              have hzz := unhide HZL
              rw [List.length_zip] at hzz
              have hk9 : k < 9223372036854775807 := by
                have h1 := ak2
                unfold maxLen at h1
                omega
              obtain ⟨px, hpx⟩ : ∃ z, ka[k]? = some z := ⟨_, List.getElem?_eq_getElem (by omega)⟩
              obtain ⟨py, hpy⟩ : ∃ z, kb[k]? = some z := ⟨_, List.getElem?_eq_getElem (by omega)⟩
              have hkid : kidsP ns ms pa pb = ka.zip kb := by unfold kidsP; rw [ndI_get (unhide HNA), ndI_get (unhide HNB)]
              have hzk : (ka.zip kb)[k]? = some (px, py) := by rw [List.getElem?_zip_eq_some]; exact ⟨hpx, hpy⟩
              have hinn := fun z hz => kidsP_in (unhide HOK).1 (unhide HOK).2 pa pb ((unhide HL).2 _ (List.mem_of_getElem? (unhide HPI))) z hz
              rw [hkid] at hinn
              have HIN := hide (hinn _ (List.mem_of_getElem? hzk))
              have hok := nxtP_ok (unhide HL).1 (unhide HL).2 (ks := (ka.zip kb).take k) (fun z hz => hinn z (List.mem_of_mem_take hz))
              rw [← unhide HLQ] at hok
              have hlq : lq.length ≤ 6400 := by have := pairs_few hok.1 hok.2.1; rw [unhide HNM] at this; omega
              have HNX : Hid ((if (px, py) ∈ lq then lq else lq ++ [(px, py)]) = nxtP lp ((ka.zip kb).take (k + 1))) := hide (by rw [nxt_take hzk, ← unhide HLQ])
              obtain ⟨kb1, ko1, rfl, _, c1⟩ := ((unhide HKA).kc (unhide HK)).cell hpx
              obtain ⟨kb2, ko2, rfl, _, c2⟩ := ((unhide HKB).kc (unhide HK)).cell hpy
              have p2 := (unhide HB8).c 2
              have q2 := (unhide HB9).c 2
              have qb := ((unhide HB).kc (unhide HK)).c 0
              simp only [List.getElem?_toArray, List.getElem?_cons_zero, List.getElem?_cons_succ] at p2 q2 qb
              have hka : k < ka.length := by omega
              have hkb : k < kb.length := by omega
              have HMC : Hid (∀ W, Below wr.heap.size wr W → Calls Tryz.prog 98 #[.int .i64 px, .int .i64 py, .pointer (some ⟨bB, 0, none⟩), .pointer (some ⟨w.heap.size + 1, 0, none⟩), .pointer (some ⟨w.heap.size + 1 + 1 + 1, 0, none⟩)] W fun e W' => (∃ v, e = .returned v) ∧ Steps w.heap.size W W' ∧ MeetS W' w.heap.size w.heap.size (w.heap.size + 1) (w.heap.size + 1 + 1 + 1) ms.length nm (if (px, py) ∈ lq then lq else lq ++ [(px, py)]) ∧ ∀ b cs, AtC W b cs 56 → AtC W' b cs 56) := hide (fun W hb => by
                have hm := (unhide HM).below hb
                rw [← unhide HNM] at hm ⊢
                exact meet_c px py ns.length ms.length w.heap.size bB w.heap.size (w.heap.size + 1) (w.heap.size + 1 + 1 + 1) yc (some ⟨yb, yo, none⟩) lq W (unhide HIN) hl1 hl2 hlq (cell_below hb qb) hm (Nat.le_trans (unhide HK).size hb.size))
              clear hzz hpx hpy hkid hzk hinn hok hlq qb HLQ
              gi_wp2_with fail
              gi_region_with ((refine ⟨trivial, (callsIn_wide.2 (unhide HMC wr.drew (Below.refl _ _).drew)).mono ?_⟩; rintro e w9 ⟨⟨v9, rfl⟩, hs9, hm9, hf9⟩; have HS9 := hide hs9; have HM9 := hide hm9; have HF9 := hide hf9; clear hs9 hm9 hf9))
              all_goals
                have hst := (Steps.below (unhide HK).size (Below.refl wr.heap.size wr).drew).trans (unhide HS9)
                have HK9 := hide ((unhide HK).steps hst)
                have HJ9 := hide (hst.tr J _ (unhide HJ) (unhide HJk))
                have HC8 := hide (unhide HF9 _ _ ((unhide HB8).below (Below.refl wr.heap.size wr).drew))
                have HC9 := hide (unhide HF9 _ _ ((unhide HB9).below (Below.refl wr.heap.size wr).drew))
                have hm9 := unhide HM9
                rw [unhide HNX] at hm9
                have HM9' := hide hm9
                clear hst hm9
                gi_wp2_with fail
                exact ⟨⟨_, _, (unhide HKL).1, by go_num, hide rfl, HM9', HJ9, HK9, HC8, HC9⟩, by have := (unhide HKL).2; simpa [intOf] using this⟩
            · obtain rfl : k = zl := by omega
              have hkid : kidsP ns ms pa pb = ka.zip kb := by unfold kidsP; rw [ndI_get (unhide HNA), ndI_get (unhide HNB)]
              have hq : lq = nxtP lp (kidsP ns ms pa pb) := by rw [unhide HLQ, hkid, List.take_of_length_le (by rw [unhide HZL]; exact Nat.le_refl _)]
              have hok := nxtP_ok (unhide HL).1 (unhide HL).2 (ks := kidsP ns ms pa pb) (fun z hz => kidsP_in (unhide HOK).1 (unhide HOK).2 pa pb ((unhide HL).2 _ (List.mem_of_getElem? (unhide HPI))) z hz)
              have hF2 := (unhide HLS).next (unhide HPI)
              have hlen : i + 1 ≤ (nxtP lp (kidsP ns ms pa pb)).length := by
                obtain ⟨r, hr⟩ := hok.2.2
                rw [hr, List.length_append]; omega
              rw [← hq] at hok hF2 hlen
              have HL2 := hide (And.intro hok.1 hok.2.1)
              have HF2 := hide hF2
              clear hkid hq hok hF2
              gi_wp2_with fail
              exact ⟨⟨lq, i + 1, hlen, by go_num, HM, HJk, HK, HL2, HF2⟩, by simp [intOf]; omega⟩
        · have HJX := hide hJx8
          clear hJx8
          gi_wp2_with fail
          refine bodyPost_ret (results_none rfl _ _ _) rfl ?_
          exact ⟨⟨_, rfl⟩, .inr ⟨_, List.take_prefix _ _, unhide HJX⟩⟩
    · obtain rfl : i = lp.length := by omega
      have e := (unhide HLS).done
      subst e
      have hj := unhide HJi
      rw [List.take_of_length_le (Nat.le_refl _)] at hj
      have HJL := hide hj
      clear hj HJi hpv hrow hil hll
      gi_wp2_with fail
      go_end0
      exact ⟨⟨_, rfl⟩, .inl (unhide HJL)⟩
end Go.Proofs.YtpbnmhnbkfnaeaaGreatDoor
/- tabCompared. -/
namespace Go.Proofs.YtpbnmhnbkfnaeaaGreatDoor
open Go.RowKit Nt

theorem tabCompared_c (s t : Value) (a b : Int) (p q : Option Addr) (l r c d : Nat) (hs : s = .slice p l c) (ht : t = .slice q r d) (w : World) :
    Calls Tryz.prog 61 #[.agg #[s, .int .i64 a], .agg #[t, .int .i64 b]] w fun e w' => e = .returned (.func (.func 97) #[] #[.pointer (some ⟨w.heap.size, 0, none⟩), .pointer (some ⟨w.heap.size + 1, 0, none⟩)]) ∧ w' = (w.alloc (.cells #[s, .int .i64 a] 52)).alloc (.cells #[t, .int .i64 b] 52) := by
  subst hs
  subst ht
  go_enter Tryz.func61, Tryz.ntmps61
  go_wp2_with fail
  go_ret
  exact ⟨rfl, rfl⟩
end Go.Proofs.YtpbnmhnbkfnaeaaGreatDoor
/- Marks that loops over iterators leave on a call: taken up at its end. -/
namespace Go.Proofs.YtpbnmhnbkfnaeaaGreatDoor
open Go.RowKit Go.Shelf Nt

def markD (D : Nat) : Deferred := { target := .collected D, args := #[] }
/-- blocks of cells lie as they lay -/
structure Still (B : Nat) (w w' : World) : Prop where
  below : Below B w w'
  cells : ∀ (k : Nat) (o : Obj), w.heap[k]? = some o → o.isCells = true → w'.heap[k]? = some o
theorem Still.refl (B : Nat) (w : World) : Still B w w := ⟨Below.refl _ _, fun _ _ h _ => h⟩
theorem Still.trans {B : Nat} {a b c : World} (h : Still B a b) (k : Still B b c) : Still B a c := ⟨h.below.trans k.below, fun i o hi ho => k.cells i o (h.cells i o hi ho) ho⟩
theorem Still.kept {B : Nat} {w w' : World} (h : Still B w w') : Kept (fun b => ∃ o : Obj, w.heap[b]? = some o ∧ o.isCells = false) w w' :=
  ⟨h.below.os, h.below.tape, h.below.output, h.below.size, fun b hb hn => by
    have e := Array.getElem?_eq_getElem hb
    cases hc : (w.heap[b]'hb).isCells with
    | true => rw [h.cells b _ e hc, e]
    | false => exact absurd ⟨_, e, hc⟩ hn⟩
theorem Still.cell {B : Nat} {w w' : World} (h : Still B w w') {a : Addr} {v : Value} (hc : w.cell? a = some v) : w'.cell? a = some v := by
  obtain ⟨o, ho, hk⟩ := cells_of_cell hc
  have := h.cells _ o ho hk
  rw [World.cell?_of_block (this.trans ho.symm)]; exact hc
theorem Still.put {B : Nat} {w : World} {D : Nat} {o o' : Obj} (hB : B ≤ D) (h : w.heap[D]? = some o) (ho : o.isCells = false) : Still B w (w.putObj D o') :=
  ⟨⟨rfl, rfl, rfl, by simp, fun k hk => World.putObj_heap_other (by omega)⟩, fun k p hk hp => by
    have hne : k ≠ D := fun e => by subst e; rw [h] at hk; cases hk; rw [ho] at hp; cases hp
    rw [World.putObj_heap_other hne]; exact hk⟩

/-- marks: each at a block of its own, from B on, without deferred calls -/
structure Marks (B : Nat) (w : World) (Ds : List Nat) : Prop where
  nodup : Ds.Nodup
  at' : ∀ D ∈ Ds, B ≤ D ∧ w.heap[D]? = some (.deferred (some []))
theorem Marks.nil (B : Nat) (w : World) : Marks B w [] := ⟨List.nodup_nil, fun D h => by simp at h⟩
theorem Marks.cons {B : Nat} {w : World} {Ds : List Nat} {D : Nat} (h : Marks B w Ds) (hB : B ≤ D) (hD : w.heap[D]? = some (.deferred (some []))) (hn : D ∉ Ds) : Marks B w (D :: Ds) :=
  ⟨List.nodup_cons.2 ⟨hn, h.nodup⟩, fun d hd => by rcases List.mem_cons.1 hd with rfl | hd; exact ⟨hB, hD⟩; exact h.at' d hd⟩
theorem Marks.keeps {B C : Nat} {w w' : World} {Ds : List Nat} (h : Marks B w Ds) (k : KeepsFrom C w w') (hC : C ≤ B) : Marks B w' Ds :=
  ⟨h.nodup, fun D hD => ⟨(h.at' D hD).1, k.same D _ (Nat.le_trans hC (h.at' D hD).1) (h.at' D hD).2 rfl⟩⟩
theorem Marks.lt {B : Nat} {w : World} {Ds : List Nat} (h : Marks B w Ds) {D : Nat} (hD : D ∈ Ds) : D < w.heap.size := (Array.getElem?_eq_some_iff.1 (h.at' D hD).2).1
theorem Marks.fresh {B : Nat} {w : World} {Ds : List Nat} (h : Marks B w Ds) {D : Nat} (hD : w.heap.size ≤ D) : D ∉ Ds := fun hm => by have := h.lt hm; omega
theorem Marks.kept {B : Nat} {S : Nat → Prop} {w w' : World} {Ds : List Nat} (h : Marks B w Ds) (k : Kept S w w') (hS : ∀ D ∈ Ds, ¬ S D) : Marks B w' Ds :=
  ⟨h.nodup, fun D hD => ⟨(h.at' D hD).1, (k.block D (h.lt hD) (hS D hD)).trans (h.at' D hD).2⟩⟩
theorem Marks.below {B : Nat} {w w' : World} {Ds : List Nat} (h : Marks B w Ds) (k : Below w.heap.size w w') : Marks B w' Ds :=
  ⟨h.nodup, fun D hD => ⟨(h.at' D hD).1, (k.block D (h.lt hD)).trans (h.at' D hD).2⟩⟩

theorem leaves_marks {F : Fence} {n : Nat} {P : Program} {fn : Func} {tmps : Array Value} {R : Ending → World → Prop} (B : Nat) :
    ∀ (Ds : List Nat) (w : World), Marks B w Ds → (∀ w', Still B w w' → LeavesInM F n P fn tmps R [] .returning w') → LeavesInM F n P fn tmps R (Ds.map markD) .returning w
  | [], w, _, h => h w (Still.refl B w)
  | D :: Ds, w, hm, h => by
    have h0 := hm.at' D (by simp)
    have hnd := List.nodup_cons.1 hm.nodup
    refine ⟨by simp, .inl ⟨D, _, rfl, run_takeDeferred h0.2, ?_⟩⟩
    have hs : Still B w (w.putObj D (.deferred none)) := Still.put h0.1 h0.2 rfl
    refine leaves_marks B Ds _ ⟨hnd.2, fun d hd => ⟨(hm.at' d (by simp [hd])).1, ?_⟩⟩ (fun w' hw => h w' (hs.trans hw))
    rw [World.putObj_heap_other (fun e => hnd.1 (by rw [← e]; exact hd))]
    exact (hm.at' d (by simp [hd])).2
theorem ownFrom_kept {β : Type} {B : Nat} {S : Nat → Prop} {w₀ : World} (hB : w₀.heap.size ≤ B) : OwnFrom B (fun (_ : β) W => Kept S w₀ W) :=
  fun _ X Y row hs hg hr => ⟨hg.os.trans hs.os, hg.tape.trans hs.tape, hg.output.trans hs.output, Nat.le_trans hs.size hg.size, fun b hb hn => by
    refine (hg.block b (Nat.lt_of_lt_of_le hb hs.size) (fun e => ?_)).trans (hs.block b hb hn)
    have := (hr b e.symm).1
    omega⟩
theorem keepsOthers_below {W W' : World} (h : Below W.heap.size W W') : KeepsOthers W W' := ⟨h.size, fun k _ hk _ => (h.block k (Array.getElem?_eq_some_iff.1 hk).1).trans hk⟩
theorem still_boxed {B b : Nat} {w w' : World} {t : TypeId} {v : Value} (h : Still B w w') (hb : Boxed w b t v) : Boxed w' b t v := h.cells b _ hb rfl
theorem boxed_kept {S : Nat → Prop} {w w' : World} {b : Nat} {t : TypeId} {v : Value} (h : Boxed w b t v) (k : Kept S w w') (hS : ¬ S b) : Boxed w' b t v := (k.block b h.lt hS).trans h
theorem boxed_below {w w' : World} {b : Nat} {t : TypeId} {v : Value} (h : Boxed w b t v) (k : Below w.heap.size w w') : Boxed w' b t v := (k.block b h.lt).trans h
end Go.Proofs.YtpbnmhnbkfnaeaaGreatDoor
/- A range over a function whose iterator keeps cells of its own and whose variables are boxed (the assigning makes memory). -/
namespace Go.Proofs.YtpbnmhnbkfnaeaaGreatDoor
open Go.RowKit Nt

variable {F : Fence} {n : Nat} {P : Program}
theorem wpIn_range_boxes {α : Type} {g : Operand} {ps : Array Tmp} {assign body : Code} {Q : Exit → Act → World → Prop} {a : Act} {w : World}
    (hro : F.round = none) (h1 : 1 ≤ n) {gf : Nat} {lb : Array Value} (hg : a.eval g = .func (.func gf) #[] lb) (hFg : F.fn gf) (eg : ∀ args w, (callFunc gf args).run P w = .ok (.enter gf args) w)
    {encs : α → Array Value} {L : List α} (hseq : SeqC F (n - 1) P gf lb encs L w) (hps : ∀ x, (encs x).size = ps.size)
    (I Ix : List α → World → Prop) (hI : Turns w.heap.size I) (hIx : Turns w.heap.size Ix) (h0 : I [] w) (Asg : α → World → Act → World → Prop) (hA : ∀ {x W a1 W1}, Asg x W a1 W1 → Below W.heap.size W W1)
    (hassign : ∀ (l : Nat) (x : α), x ∈ L → ∀ (W : World) (K : Act → World → Prop), (∀ a1 W1, Asg x W a1 W1 → K a1 W1) →
      assign.wpIn (F.inRound l) (n - 1 - 1) P (Exit.then K (fun _ _ _ => False)) { tmps := (ps.zip (encs x)).foldl (fun t (p, v) => t.setIfInBounds p v) a.tmps, defers := [] } W)
    (hbody : ∀ (l : Nat) (pre : List α) (x : α) (W W1 W2 : World) (a1 : Act), Asg x W a1 W1 → KC W1 W2 → I pre W2 → (pre ++ [x]) <+: L → body.wpIn (F.inRound l) (n - 1 - 1) P (LeftC w.heap.size I Ix (pre ++ [x]) W2) a1 W2)
    (hdone : ∀ (D : Nat) (W : World), w.heap.size ≤ D → I L W → W.heap[D]? = some (.deferred (some [])) → Q .normal { a with defers := { target := .collected D, args := #[] } :: a.defers } W)
    (hstop : ∀ (D : Nat) (pre : List α) (W : World), w.heap.size ≤ D → pre <+: L → Ix pre W → W.heap[D]? = some (.deferred (some [])) → Code.ret.wpIn F n P Q { a with defers := { target := .collected D, args := #[] } :: a.defers } W) :
    (Code.rangeFunc g ps assign body).wpIn F n P Q a w := by
  refine wpIn_rangeFunc (fun fn hfn => ?_)
  rw [hro]
  obtain ⟨R, hR⟩ : ∃ R : LoopState → Option Code → Loop, ∀ s p, R s p = { state := s, pending := p, fn, tmps := a.tmps, params := ps, assign, body, defers := w.heap.size } := ⟨_, fun _ _ => rfl⟩
  have hne : w.heap.size ≠ w.heap.size + 1 := by omega
  have hrec : Recs ((w.alloc (.deferred (some []))).alloc (.loop (R .ready none))) w.heap.size (w.heap.size + 1) (R .ready none) := by
    refine ⟨?_, (Below.heap_alloc _ _ _ (by simp)).trans (World.alloc_heap_new w _)⟩
    have h := World.alloc_heap_new (w.alloc (.deferred (some []))) (.loop (R .ready none))
    rwa [World.size_alloc] at h
  have hin : I [] ((w.alloc (.deferred (some []))).alloc (.loop (R .ready none))) := hI.new (hI.new h0 _) _
  have hbel := step_a (step_a (Below.refl w.heap.size w) (.deferred (some []))) (.loop (R .ready none))
  have hent : (Instr.enterLoop fn a.tmps ps assign body none).run P w = .ok (w.heap.size + 1, [{ target := .collected w.heap.size, args := #[] }]) ((w.alloc (.deferred (some []))).alloc (.loop (R .ready none))) := by
    rw [hR]; exact run_enterLoop_outer _ _ _ _ _
  have hsz : w.heap.size + 2 = ((w.alloc (.deferred (some []))).alloc (.loop (R .ready none))).heap.size := by simp
  obtain ⟨W1, hW1⟩ : ∃ W1, (w.alloc (.deferred (some []))).alloc (.loop (R .ready none)) = W1 := ⟨_, rfl⟩
  rw [hW1] at hrec hin hbel hent hsz
  have turn : ∀ {β : Type} {K : β → World → Prop}, Turns w.heap.size K → TurnsC W1.heap.size K := fun hK s A B row hs hg' hr => hK s A B row hs hg' (fun r e => by have := (hr r e).1; omega)
  refine ⟨w.heap.size + 1, _, W1, { target := .fn (.func gf) lb, args := #[.func (.yield (w.heap.size + 1)) #[] #[]] }, W1, gf, #[.func (.yield (w.heap.size + 1)) #[] #[]] ++ lb, W1, hent, ?_, ?_, ?_, fun _ => h1, ?_⟩
  · simp only [resolve, hg]
    simp [go_sem]
  · intro f' hf'
    simp [Target.leads] at hf'
    subst hf'
    exact hFg
  · simp [invoke, go_sem, eg]
  refine (hseq (w.heap.size + 1) (fun pre W => I pre W ∧ Recs W w.heap.size (w.heap.size + 1) (R .ready none)) (fun pre W => Ix pre W ∧ Recs W w.heap.size (w.heap.size + 1) (R .done (some .ret))) W1 hbel
    (fun s A B row hs hg' hr => ⟨turn hI s A B row hs.1 hg' hr, hs.2.turn hg' (fun k e => (hr k e).2)⟩)
    (fun s A B row hs hg' hr => ⟨turn hIx s A B row hs.1 hg' hr, hs.2.turn hg' (fun k e => (hr k e).2)⟩)
    ?_ ⟨hin, hrec⟩).mono ?_
  · rintro pre x W ⟨hi, hr⟩ hpx
    have hy := run_yield (P := P) (args := encs x) hr.1 (by rw [hR]; exact hps x)
    rw [hR] at hy
    refine ⟨fn, _, assign, body, hy, roundIn_of_wpIn hfn (hassign _ x (List.IsPrefix.mem (by simp) hpx) W _ (fun a1 Wn hasg => ?_))⟩
    have hbn := hA hasg
    have hgn : W.grownBy Wn none := ⟨hbn.os, hbn.tape, hbn.output, hbn.size, fun k hk _ => hbn.block k hk⟩
    have hi := hI pre W Wn none hi hgn (fun r e => by cases e)
    have hr := hr.turn hgn (fun k e => by cases e)
    refine ⟨_, run_beginRound hr.1 (by rw [hR]), ?_⟩
    have hr2 := hr.put hne { R .ready none with state := .busy }
    refine wpIn_mono (hbody _ pre x W Wn _ a1 hasg (KC.put hr.1 rfl) (hI.put (by omega) hi _) hpx) ?_
    have kcn := KC.of_below hbn
    have kc := KC.put (o' := .loop { R .ready none with state := .busy }) hr.1 rfl
    obtain ⟨W2, hW2⟩ : ∃ W2, Wn.putObj (w.heap.size + 1) (.loop { R .ready none with state := .busy }) = W2 := ⟨_, rfl⟩
    rw [hW2] at hr2 kc ⊢
    rintro e a3 W3 hp
    cases e with
    | normal =>
      obtain ⟨k1, k2, k3⟩ := hp
      have hr3 := hr2.from k1 (by omega) (by omega)
      have he := run_endRound (P := P) none hr3.1
      have hr4 := hr3.put hne (R .ready none)
      rw [hR] at he hr4 ⊢
      exact ⟨_, _, he, .inl ⟨rfl, ⟨hI.put (by omega) k3 _, hr4⟩, ((kcn.trans kc).trans k2).trans (KC.put hr3.1 rfl)⟩⟩
    | ret =>
      obtain ⟨k1, k3⟩ := hp
      have hr3 := hr2.from k1 (by omega) (by omega)
      have he := run_endRound (P := P) (some .ret) hr3.1
      have hr4 := hr3.put hne (R .done (some .ret))
      rw [hR] at he
      rw [hR] at hr4
      exact ⟨_, _, he, .inr ⟨rfl, hIx.put (by omega) k3 _, by rw [hR]; exact hr4⟩⟩
    | exit id => exact hp.elim
    | goto t => exact hp.elim
    | panic ch => exact hp.elim
    | outgrown => exact hp.elim
  · rintro e W2 ⟨⟨v, rfl⟩, (⟨hi, hr⟩ | ⟨pre, hp, hi, hr⟩)⟩
    · have he := run_endLoop (P := P) hr.1 (by rw [hR]; simp)
      have hr4 := hr.put hne { R .ready none with state := .exhausted }
      rw [hR] at he hr4
      exact ⟨none, _, he, hdone _ _ (Nat.le_refl _) (hI.put (by omega) hi _) hr4.2⟩
    · have he := run_endLoop (P := P) hr.1 (by rw [hR]; simp)
      have hr4 := hr.put hne { R .done (some .ret) with state := .exhausted }
      rw [hR] at he hr4
      exact ⟨some .ret, _, he, hstop _ pre _ (Nat.le_refl _) hp (hIx.put (by omega) hi _) hr4.2⟩
end Go.Proofs.YtpbnmhnbkfnaeaaGreatDoor
/- tabSpot.cmp: two nodes with all that is in them. -/
namespace Go.Proofs.YtpbnmhnbkfnaeaaGreatDoor
open Go.RowKit Go.Shelf Nt
attribute [local go_sem] Oper.semAt_some

theorem sizeM_le4 (s : ByteArray) : sizeM s ≤ 4 := by
  unfold sizeM
  split
  · omega
  · rw [encode_size]
    split
    · omega
    · split
      · omega
      · split <;> omega
theorem textM_len {s : Int} {t : List UInt8} (h : textM s t = true) : t.length ≤ 1000 := by
  unfold textM at h
  split at h
  · unfold numTextM at h
    cases e : parseM t 10 with
    | none => rw [e] at h; exact absurd h (by simp)
    | some p =>
      unfold parseM at e
      split at e
      · rename_i e'
        simp only [Bool.and_eq_true, decide_eq_true_eq] at e'
        omega
      · cases e
  · split at h
    · unfold symM at h
      simp only [Bool.and_eq_true] at h
      have h := h.2
      unfold wordM at h
      cases t with
      | nil => simp
      | cons a r =>
        simp only [Bool.and_eq_true, decide_eq_true_eq] at h
        omega
    · split at h
      · simp only [Bool.and_eq_true, decide_eq_true_eq] at h
        omega
      · split at h
        · unfold oneM at h
          simp only [Bool.and_eq_true, decide_eq_true_eq] at h
          have := sizeM_le4 (B t)
          omega
        · split at h
          · simp only [Bool.or_eq_true, decide_eq_true_eq] at h
            rcases h with rfl | rfl <;> simp
          · split at h
            · simp only [decide_eq_true_eq] at h
              omega
            · simp only [decide_eq_true_eq] at h
              rw [h]; simp
theorem ok_text {n : Nat} {nd : Nd} (h : ndOk n nd = true) : nd.2.1.length ≤ 1000 := by
  unfold ndOk at h
  simp only [Bool.and_eq_true] at h
  exact textM_len h.1.2
theorem nvA_open {ns : List Nd} {w : World} {b off c : Nat} (h : NodesAt w (.slice (some ⟨b, off, none⟩) ns.length c) ns) {x : Int} (hx : 0 ≤ x ∧ x < ns.length) :
    ∃ ka kc, nvA ns w b off x = .agg #[.int .i64 (ndI ns x).1, .string (B (ndI ns x).2.1), .slice ka (ndI ns x).2.2.length kc] := by
  obtain ⟨nd, hnd⟩ : ∃ nd, ns[x.toNat]? = some nd := ⟨_, List.getElem?_eq_getElem (show x.toNat < ns.length by omega)⟩
  obtain ⟨kv, _, _, c2, _, ka, kc, rfl, _⟩ := h.node hnd
  refine ⟨ka, kc, ?_⟩
  unfold nvA
  rw [ndI_get hnd, c2]
  rfl
theorem Turns.kept {β : Type} {B : Nat} {S : Nat → Prop} {w₀ : World} (hB : w₀.heap.size ≤ B) : Turns B (fun (_ : β) W => Kept S w₀ W) :=
  fun _ X Y row hs hg hr => ⟨hg.os.trans hs.os, hg.tape.trans hs.tape, hg.output.trans hs.output, Nat.le_trans hs.size hg.size, fun b hb hn => by
    refine (hg.block b (Nat.lt_of_lt_of_le hb hs.size) (fun e => ?_)).trans (hs.block b hb hn)
    have := hr b e.symm
    omega⟩

set_option maxRecDepth 100000 in
set_option maxHeartbeats 4000000 in
theorem spotCmp_c (ns ms : List Nd) (a b : Int) (xb xo xc yb yo yc : Nat) (w : World) (hx : NodesAt w (.slice (some ⟨xb, xo, none⟩) ns.length xc) ns) (hy : NodesAt w (.slice (some ⟨yb, yo, none⟩) ms.length yc) ms)
    (okn : ns.all (ndOk ns.length) = true) (okm : ms.all (ndOk ms.length) = true) (hab : InP ns.length ms.length (a, b)) (hl1 : ns.length ≤ 80) (hl2 : ms.length ≤ 80) (hT : Tens w) (h3 : 3 < w.heap.size) :
    Calls Tryz.prog 32 #[.agg #[.slice (some ⟨xb, xo, none⟩) ns.length xc, .int .i64 a], .agg #[.slice (some ⟨yb, yo, none⟩) ms.length yc, .int .i64 b]] w fun e w' => e = .returned (.int .i64 (cmpAt ns ms a b)) ∧ Below w.heap.size w w' := by
  refine (callsIn_wide (n := 3)).1 ?_
  refine callsIn_of_wp_marks Tryz.func32 rfl trivial ?_ rfl
  simp only [Tryz.ntmps32, List.size_toArray, List.length_cons, List.length_nil, Nat.reduceAdd, Nat.reduceSub, Array.replicate_succ, Array.replicate_zero, List.push_toArray, List.append_toArray, List.nil_append, List.cons_append]
  gi_wp2_with fail
  refine ⟨trivial, (callsIn_wide.2 (tabCompared_c _ _ a b (some ⟨xb, xo, none⟩) (some ⟨yb, yo, none⟩) ns.length ms.length xc yc rfl rfl _)).mono ?_⟩
  rintro e w1 ⟨rfl, rfl⟩
  have hbel := step_a (step_a (step_a (step_a (step_a (Below.refl w.heap.size w) (.cells #[.slice (some ⟨xb, xo, none⟩) ns.length xc, .int .i64 a] 52)) (.cells #[.slice (some ⟨yb, yo, none⟩) ms.length yc, .int .i64 b] 52)) (.cells #[.int .i64 0] 3)) (.cells #[.slice (some ⟨xb, xo, none⟩) ns.length xc, .int .i64 a] 52)) (.cells #[.slice (some ⟨yb, yo, none⟩) ms.length yc, .int .i64 b] 52)
  have hbx : Boxed (((((w.alloc (.cells #[.slice (some ⟨xb, xo, none⟩) ns.length xc, .int .i64 a] 52)).alloc (.cells #[.slice (some ⟨yb, yo, none⟩) ms.length yc, .int .i64 b] 52)).alloc (.cells #[.int .i64 0] 3)).alloc (.cells #[.slice (some ⟨xb, xo, none⟩) ns.length xc, .int .i64 a] 52)).alloc (.cells #[.slice (some ⟨yb, yo, none⟩) ms.length yc, .int .i64 b] 52)) (w.heap.size + 1 + 1) 3 (.int .i64 0) := by
    have h := ((Boxed.new ((w.alloc (.cells #[.slice (some ⟨xb, xo, none⟩) ns.length xc, .int .i64 a] 52)).alloc (.cells #[.slice (some ⟨yb, yo, none⟩) ms.length yc, .int .i64 b] 52)) 3 (.int .i64 0)).alloc (.cells #[.slice (some ⟨xb, xo, none⟩) ns.length xc, .int .i64 a] 52)).alloc (.cells #[.slice (some ⟨yb, yo, none⟩) ms.length yc, .int .i64 b] 52)
    rwa [World.size_alloc, World.size_alloc] at h
  have ha : AtC (((((w.alloc (.cells #[.slice (some ⟨xb, xo, none⟩) ns.length xc, .int .i64 a] 52)).alloc (.cells #[.slice (some ⟨yb, yo, none⟩) ms.length yc, .int .i64 b] 52)).alloc (.cells #[.int .i64 0] 3)).alloc (.cells #[.slice (some ⟨xb, xo, none⟩) ns.length xc, .int .i64 a] 52)).alloc (.cells #[.slice (some ⟨yb, yo, none⟩) ms.length yc, .int .i64 b] 52)) (w.heap.size + 1 + 1 + 1) #[.slice (some ⟨xb, xo, none⟩) ns.length xc, .int .i64 a] 52 := by
    have h := (AtC.new (((w.alloc (.cells #[.slice (some ⟨xb, xo, none⟩) ns.length xc, .int .i64 a] 52)).alloc (.cells #[.slice (some ⟨yb, yo, none⟩) ms.length yc, .int .i64 b] 52)).alloc (.cells #[.int .i64 0] 3)) #[.slice (some ⟨xb, xo, none⟩) ns.length xc, .int .i64 a] 52).alloc (.cells #[.slice (some ⟨yb, yo, none⟩) ms.length yc, .int .i64 b] 52)
    rwa [World.size_alloc, World.size_alloc, World.size_alloc] at h
  have hb : AtC (((((w.alloc (.cells #[.slice (some ⟨xb, xo, none⟩) ns.length xc, .int .i64 a] 52)).alloc (.cells #[.slice (some ⟨yb, yo, none⟩) ms.length yc, .int .i64 b] 52)).alloc (.cells #[.int .i64 0] 3)).alloc (.cells #[.slice (some ⟨xb, xo, none⟩) ns.length xc, .int .i64 a] 52)).alloc (.cells #[.slice (some ⟨yb, yo, none⟩) ms.length yc, .int .i64 b] 52)) (w.heap.size + 1 + 1 + 1 + 1) #[.slice (some ⟨yb, yo, none⟩) ms.length yc, .int .i64 b] 52 := by
    have h := AtC.new ((((w.alloc (.cells #[.slice (some ⟨xb, xo, none⟩) ns.length xc, .int .i64 a] 52)).alloc (.cells #[.slice (some ⟨yb, yo, none⟩) ms.length yc, .int .i64 b] 52)).alloc (.cells #[.int .i64 0] 3)).alloc (.cells #[.slice (some ⟨xb, xo, none⟩) ns.length xc, .int .i64 a] 52)) #[.slice (some ⟨yb, yo, none⟩) ms.length yc, .int .i64 b] 52
    rwa [World.size_alloc, World.size_alloc, World.size_alloc, World.size_alloc] at h
  gi_wp2_with fail
  obtain ⟨W0, hW0⟩ : ∃ W0, ((((w.alloc (.cells #[.slice (some ⟨xb, xo, none⟩) ns.length xc, .int .i64 a] 52)).alloc (.cells #[.slice (some ⟨yb, yo, none⟩) ms.length yc, .int .i64 b] 52)).alloc (.cells #[.int .i64 0] 3)).alloc (.cells #[.slice (some ⟨xb, xo, none⟩) ns.length xc, .int .i64 a] 52)).alloc (.cells #[.slice (some ⟨yb, yo, none⟩) ms.length yc, .int .i64 b] 52) = W0 := ⟨_, rfl⟩
  rw [hW0] at hbel hbx ha hb ⊢
  have hseq := compared_seq ns ms a b xb xo xc yb yo yc (w.heap.size + 1 + 1 + 1) (w.heap.size + 1 + 1 + 1 + 1) W0 (hx.below hbel) (hy.below hbel) okn okm hab hl1 hl2 ha hb
  have HOK := hide (And.intro okn okm)
  have HFST := hide (cmpAt_fst okn okm hab)
  have HNX := hide (hx.below hbel)
  have HNY := hide (hy.below hbel)
  have HT0 := hide (And.intro (hT.belowB hbel h3) (Nat.lt_of_lt_of_le h3 hbel.size))
  have hbl := hbx.lt
  have HBX := hide hbx
  have HBL := hide hbel
  clear hx hy okn okm hab hT h3 hW0 ha hb hbx hbel
  refine wpIn_range_boxes rfl (by decide) (gf := 97) (lb := #[.pointer (some ⟨w.heap.size + 1 + 1 + 1, 0, none⟩), .pointer (some ⟨w.heap.size + 1 + 1 + 1 + 1, 0, none⟩)]) rfl trivial (enters_of Tryz.func97 (by kernel_rfl) rfl) hseq (fun _ => rfl)
    (fun pre W => (∀ x ∈ pre, labP ns ms x.1 x.2 = 0) ∧ Below W0.heap.size W0 W)
    (fun pre W => (∃ p y, pre = p ++ [y] ∧ (∀ x ∈ p, labP ns ms x.1 x.2 = 0) ∧ labP ns ms y.1 y.2 ≠ 0 ∧ Boxed W (w.heap.size + 1 + 1) 3 (.int .i64 (labP ns ms y.1 y.2))) ∧ Kept (fun b => b = w.heap.size + 1 + 1) W0 W)
    (Turns.and (Turns.pure _ _) (Turns.below (Nat.le_refl _) (Nat.le_refl _))) ?tix ⟨by simp, Below.refl _ _⟩
    (fun x W a1 W1 => ∃ ka kc la lc, a1 = ⟨#[.agg #[.slice (some ⟨xb, xo, none⟩) ns.length xc, .int .i64 a], .agg #[.slice (some ⟨yb, yo, none⟩) ms.length yc, .int .i64 b], .pointer (some ⟨w.heap.size, 0, none⟩), .pointer (some ⟨w.heap.size + 1, 0, none⟩), .pointer (some ⟨w.heap.size + 1 + 1, 0, none⟩), .pointer (some ⟨W.heap.size, 0, none⟩), .pointer (some ⟨W.heap.size + 1, 0, none⟩), undef, .agg #[.slice (some ⟨xb, xo, none⟩) ns.length xc, .int .i64 a], .agg #[.slice (some ⟨yb, yo, none⟩) ms.length yc, .int .i64 b], .func (.func 97) #[] #[.pointer (some ⟨w.heap.size + 1 + 1 + 1, 0, none⟩), .pointer (some ⟨w.heap.size + 1 + 1 + 1 + 1, 0, none⟩)], .agg #[.int .i64 (ndI ns x.1).1, .string (B (ndI ns x.1).2.1), .slice ka (ndI ns x.1).2.2.length kc], .agg #[.int .i64 (ndI ms x.2).1, .string (B (ndI ms x.2).2.1), .slice la (ndI ms x.2).2.2.length lc], undef, undef, undef, undef, undef, undef], []⟩ ∧
      W1 = (W.alloc (.cells #[.int .i64 (ndI ns x.1).1, .string (B (ndI ns x.1).2.1), .slice ka (ndI ns x.1).2.2.length kc] 56)).alloc (.cells #[.int .i64 (ndI ms x.2).1, .string (B (ndI ms x.2).2.1), .slice la (ndI ms x.2).2.2.length lc] 56))
    (fun ⟨_, _, _, _, _, h⟩ => by rw [h]; exact step_a (step_a (Below.refl _ _) _) _) ?assign ?body ?done ?stop
  case tix =>
    refine Turns.and ?_ (Turns.kept (Nat.le_refl _))
    rintro s W W' row ⟨p, y, e1, e2, e3, h⟩ hg hr
    exact ⟨p, y, e1, e2, e3, (hg.block _ h.lt (fun e => by have := hr _ e.symm; omega)).trans h⟩
  case assign =>
    intro l x hx W K hK
    have hin := (unhide HFST).2 x hx
    obtain ⟨ka, kc, e1⟩ := nvA_open (unhide HNX) hin.1
    obtain ⟨la, lc, e2⟩ := nvA_open (unhide HNY) hin.2
    have hK' := hK _ _ ⟨ka, kc, la, lc, rfl, rfl⟩
    clear hK
    have HK := hide hK'
    clear hK'
    rw [e1, e2]
    clear e1 e2
    gi_wp2
    exact unhide HK
  case body =>
    rintro l pre x W W1 W2 _ ⟨ka, kc, la, lc, rfl, rfl⟩ hkc ⟨hpre, hbw⟩ hpx
    have hin := (unhide HFST).2 x (List.IsPrefix.mem (by simp) hpx)
    have ok1 := List.all_eq_true.1 (unhide HOK).1 _ (ndI_mem hin.1)
    have ok2 := List.all_eq_true.1 (unhide HOK).2 _ (ndI_mem hin.2)
    obtain ⟨n1, hn1⟩ : ∃ n, ndI ns x.1 = n := ⟨_, rfl⟩
    obtain ⟨n2, hn2⟩ : ∃ n, ndI ms x.2 = n := ⟨_, rfl⟩
    have hlab : labP ns ms x.1 x.2 = labCmp n1 n2 := by unfold labP; rw [hn1, hn2]
    rw [hn1] at ok1 hkc ⊢
    rw [hn2] at ok2 hkc ⊢
    have hA1 : AtC3 W2 W.heap.size (.int .i64 n1.1) (.string (B n1.2.1)) (.slice ka n1.2.2.length kc) 56 := hkc.cells _ _ ((AtC3.new W (.int .i64 n1.1) (.string (B n1.2.1)) (.slice ka n1.2.2.length kc) 56).below (step_a (Below.refl _ _) (.cells #[.int .i64 n2.1, .string (B n2.2.1), .slice la n2.2.2.length lc] 56))) rfl
    have hA2 : AtC3 W2 (W.heap.size + 1) (.int .i64 n2.1) (.string (B n2.2.1)) (.slice la n2.2.2.length lc) 56 := by
      have h := AtC3.new (W.alloc (.cells #[.int .i64 n1.1, .string (B n1.2.1), .slice ka n1.2.2.length kc] 56)) (.int .i64 n2.1) (.string (B n2.2.1)) (.slice la n2.2.2.length lc) 56
      rw [World.size_alloc] at h
      exact hkc.cells _ _ h rfl
    have HN := hide (nodeCmp_c n1 n2 ka la kc lc W2 (kidOk_of ok1) (kidOk_of ok2) (ok_text ok1) (ok_text ok2) ((unhide HT0).1.belowB hbw (unhide HT0).2) (Nat.lt_of_lt_of_le (unhide HT0).2 hbw.size))
    have p0 := hA1.n0
    have p1 := hA1.n1
    have p2 := hA1.n2
    have q0 := hA2.n0
    have q1 := hA2.n1
    have q2 := hA2.n2
    obtain ⟨R, hR⟩ : ∃ R, labCmp n1 n2 = R := ⟨_, rfl⟩
    rw [hR] at hlab HN
    have HBW := hide hbw
    have HPRE := hide hpre
    have HLAB := hide hlab
    have HBX2 := hide (boxed_below (unhide HBX) hbw)
    clear hA1 hA2 hkc hR hlab ok1 ok2 hn1 hn2 hpre hbw hpx
    have h12 : 1 ≤ 3 - 1 - 1 := by decide
    gi_wp2_with fail
    refine ⟨trivial, (CallsIn.inRound l (callsIn_wide.2 (unhide HN))).mono ?_⟩
    rintro e w3 ⟨rfl, hb3⟩
    have HB3 := hide hb3
    clear hb3 p0 p1 p2 q0 q1 q2 HN
    by_cases h0 : R = 0
    · subst h0
      gi_wp2_with fail
      exact ⟨(keepsOthers_below (unhide HB3)).from _, KC.of_below (unhide HB3), fun y hy => by
        rcases List.mem_append.1 hy with hy | hy
        · exact unhide HPRE y hy
        · have : y = x := by simpa using hy
          rw [this]; exact unhide HLAB, step_b (unhide HBW) (unhide HB3)⟩
    · have k : (R != 0) = true := by simp [h0]
      have hbx3 := boxed_below (unhide HBX2) (unhide HB3)
      have HBX3 := hide hbx3
      have f0 := hbx3.cell
      have f1 := hbx3.frozen
      clear hbx3
      gi_wp2_with fail
      exact ⟨((keepsOthers_below (unhide HB3)).trans (KeepsOthers.setCell _ _ _)).from _, ⟨pre, x, rfl, unhide HPRE, by rw [unhide HLAB]; exact h0, by rw [unhide HLAB]; exact (unhide HBX3).set _⟩, ((Kept.of_below (unhide HBW)).trans (Kept.of_below (unhide HB3))).trans (Kept.set (S := fun b => b = w.heap.size + 1 + 1) (a := ⟨w.heap.size + 1 + 1, 0, none⟩) rfl _)⟩
  case done =>
    rintro D W hD ⟨hpre, hbw⟩ hK
    have HZ : Hid (cmpAt ns ms a b = 0) := hide (by rw [(unhide HFST).1]; exact fst_zero hpre)
    have hbx := boxed_below (unhide HBX) hbw
    have HM := hide (((Marks.nil w.heap.size W).cons (D := D) (by have := (unhide HBL).size; omega) hK (by simp)).kept (Kept.set (S := fun b => b = w.heap.size + 1 + 1) (a := ⟨w.heap.size + 1 + 1, 0, none⟩) rfl (.int .i64 0)) (fun d hd e => by
      have : d = D := by simpa using hd
      omega))
    have HBX3 := hide (hbx.set (.int .i64 0))
    have HBW := hide ((step_b (unhide HBL) hbw).setCell (p := ⟨w.heap.size + 1 + 1, 0, none⟩) (by show w.heap.size ≤ w.heap.size + 1 + 1; omega) (.int .i64 0))
    have f0 := hbx.cell
    have f1 := hbx.frozen
    clear hbx hpre hbw hK
    gi_wp2_with fail
    refine leaves_marks w.heap.size [D] _ (unhide HM) (fun w' hst => ?_)
    have f2 := (still_boxed hst (unhide HBX3)).cell
    refine ⟨.int .i64 0, by simp [results, Tryz.f32, go_sem, f2], by rw [unhide HZ], (unhide HBW).trans hst.below⟩
  case stop =>
    rintro D pre W hD hpr ⟨⟨p, y, rfl, hp, hy, hbx⟩, hkp⟩ hK
    have HZ : Hid (cmpAt ns ms a b = labP ns ms y.1 y.2) := hide (by rw [(unhide HFST).1]; exact fst_at hy hpr hp)
    have hm := (Marks.nil w.heap.size W).cons (D := D) (by have := (unhide HBL).size; omega) hK (by simp)
    have HBW := hide ((unhide HBL).trans (hkp.below (base := w.heap.size) (unhide HBL).size (fun b e => by omega)))
    have HM := hide hm
    have HB3 := hide hbx
    obtain ⟨R, hR⟩ : ∃ R, labP ns ms y.1 y.2 = R := ⟨_, rfl⟩
    rw [hR] at HZ HB3
    clear hm hbx hkp hK hp hy hpr hR
    gi_wp2_with fail
    refine leaves_marks w.heap.size [D] W (unhide HM) (fun w' hst => ?_)
    have f2 := (still_boxed hst (unhide HB3)).cell
    refine ⟨.int .i64 R, by simp [results, Tryz.f32, go_sem, f2], by rw [unhide HZ], (unhide HBW).trans hst.below⟩
end Go.Proofs.YtpbnmhnbkfnaeaaGreatDoor
/- TabSort's closure: two roots held against each other. -/
namespace Go.Proofs.YtpbnmhnbkfnaeaaGreatDoor
open Go.RowKit Nt

set_option maxRecDepth 100000 in
set_option maxHeartbeats 4000000 in
theorem sortOrd_c (ns : List Nd) (x y : Int) (nb no nc dB : Nat) (rv : Value) (W : World) (hd : AtC2 W dB (.slice (some ⟨nb, no, none⟩) ns.length nc) rv 26) (hx : NodesAt W (.slice (some ⟨nb, no, none⟩) ns.length nc) ns)
    (okn : ns.all (ndOk ns.length) = true) (hxy : InP ns.length ns.length (x, y)) (hl : ns.length ≤ 80) (hT : Tens W) (h3 : 3 < W.heap.size) :
    Calls Tryz.prog 42 #[.int .i64 x, .int .i64 y, .pointer (some ⟨dB, 0, none⟩)] W fun e w' => e = .returned (.int .i64 (cmpAt ns ns x y)) ∧ Below W.heap.size W w' := by
  have HC := hide (spotCmp_c ns ns x y nb no nc nb no nc W hx hx okn okn hxy hl hl hT h3)
  have p0 := hd.n0
  obtain ⟨R, hR⟩ : ∃ R, cmpAt ns ns x y = R := ⟨_, rfl⟩
  rw [hR] at HC ⊢
  clear hd hx okn hxy hl hT h3 hR
  go_enter Tryz.func42, Tryz.ntmps42
  go_wp2_with fail
  refine (unhide HC).mono ?_
  rintro e w5 ⟨rfl, hb5⟩
  have HB5 := hide hb5
  clear hb5
  go_wp2_with fail
  go_ret
  exact ⟨rfl, unhide HB5⟩
end Go.Proofs.YtpbnmhnbkfnaeaaGreatDoor
/- tabMerged: one list of two that are in order. -/
namespace Go.Proofs.YtpbnmhnbkfnaeaaGreatDoor
open Go.RowKit Nt

theorem mrg_len {α : Type} {r : α → α → Int} : ∀ {f : Nat} {a b : List α}, (mrg r f a b).length = a.length + b.length
  | 0, a, b => by simp [mrg]
  | _ + 1, [], b => by simp [mrg]
  | _ + 1, x :: a, [] => by simp [mrg]
  | f + 1, x :: a, y :: b => by
    unfold mrg
    split
    · simp [mrg_len (f := f)]; omega
    · simp [mrg_len (f := f)]; omega
theorem mrg_nil1 {α : Type} {r : α → α → Int} (f : Nat) (b : List α) : mrg r f [] b = b := by cases f <;> simp [mrg]
theorem mrg_nil2 {α : Type} {r : α → α → Int} (f : Nat) (a : List α) : mrg r f a [] = a := by
  cases f with
  | zero => simp [mrg]
  | succ f => cases a <;> simp [mrg]
theorem rowI_cap (w : World) (n : Nat) (hn : n ≤ maxLen) : RowI (w.alloc (.cells (madeCells #[.int .i64 0] n) 3)) w.heap.size (.slice (some ⟨w.heap.size, 0, none⟩) 0 n) [] :=
  ⟨rfl, .inr ⟨w.heap.size, n, _, rfl, Nat.le_refl _, heap_alloc_new w _, Nat.zero_le _, hn, by
    have h : (madeCells #[Value.int .i64 0] n).toList.length = n := by rw [toList_madeCells_one]; simp
    simpa using h, rfl⟩⟩
theorem mk_run0 (n : Nat) (hn : n ≤ 1000) (W : World) :
    (Instr.makeSlice 24 (.int .i64 0) (.int .i64 (n : Int))).run Tryz.prog W = .ok (.slice (some ⟨W.heap.size, 0, none⟩) 0 n) (W.alloc (.cells (madeCells #[.int .i64 0] n) 3)) := by
  obtain ⟨i0, hi, hz0, hz1, hz2⟩ := info_parts Tryz.infoInt
  have h := run_make (P := Tryz.prog) W 24 3 i0 (.int .i64 0) Tryz.underlying24 hi hz0 .i64 .i64 0 (n : Int) (by omega) (by omega) (by rw [hz2]; omega) (by omega)
  rw [hz1] at h
  simpa [Value.cells] using h

theorem rowI_snoc {w : World} {b c : Nat} {a : Option Addr} {m : List Int} {x : Int} (h : RowI w b (.slice a (m ++ [x]).length c) (m ++ [x])) : RowI w b (.slice a (m.length + 1) c) (m ++ [x]) := by
  have e : (m ++ [x]).length = m.length + 1 := by simp
  rw [← e]; exact h
theorem ints_one {w : World} {b o n c : Nat} {x : Int} {p : List Int} (h : IntsAt w (.slice (some ⟨b, o, none⟩) n c) (x :: p)) (hn : n = (x :: p).length) (_ : c ≠ 1) : IntsAt w (.slice (some ⟨b, o + 1, none⟩) p.length (c - 1)) p := by
  have := h.drop (k := 1) (by simp) hn
  rw [hn] at this
  simpa [Addr.add] using this
theorem ints_last {w : World} {b o n : Nat} {x : Int} {p : List Int} (h : IntsAt w (.slice (some ⟨b, o, none⟩) n 1) (x :: p)) : IntsAt w (.slice (some ⟨b, o, none⟩) p.length 0) p := by
  obtain ⟨a, c, e, h1, h2, h3⟩ := h
  injection e with e1 e2 e3
  subst e3
  have : p = [] := by cases p with | nil => rfl | cons a t => simp at h1
  subst this
  exact ⟨_, 0, rfl, Nat.le_refl _, by unfold maxLen; omega, fun h => absurd h (by simp)⟩
theorem mrg_l {r : Int → Int → Int} {x y : Int} {p q m M : List Int} (h : r x y ≤ 0) (e : M = m ++ mrg r ((x :: p).length + (y :: q).length) (x :: p) (y :: q)) : M = (m ++ [x]) ++ mrg r (p.length + (y :: q).length) p (y :: q) := by
  rw [e, show (x :: p).length + (y :: q).length = (p.length + (y :: q).length) + 1 by simp only [List.length_cons]; omega]
  conv => lhs; unfold mrg
  rw [if_pos h, List.append_assoc]
  rfl
theorem mrg_r {r : Int → Int → Int} {x y : Int} {p q m M : List Int} (h : ¬ r x y ≤ 0) (e : M = m ++ mrg r ((x :: p).length + (y :: q).length) (x :: p) (y :: q)) : M = (m ++ [y]) ++ mrg r ((x :: p).length + q.length) (x :: p) q := by
  rw [e, show (x :: p).length + (y :: q).length = ((x :: p).length + q.length) + 1 by simp only [List.length_cons]; omega]
  conv => lhs; unfold mrg
  rw [if_neg h, List.append_assoc]
  rfl

theorem rowI_app {w : World} {b c : Nat} {a : Option Addr} {m p : List Int} (h : RowI w b (.slice a (m ++ p).length c) (m ++ p)) : RowI w b (.slice a (m.length + p.length) c) (m ++ p) := by
  have e : (m ++ p).length = m.length + p.length := by simp
  rw [← e]; exact h
/-- while two lists are put together: what is left of each, and what stands already -/
def MrgI (r : Int → Int → Int) (F : Nat) (xs ys : List Int) (w : World) (v0 v1 v7 : Value) (wr : World) : Prop :=
  ∃ (p q m : List Int), IntsAt w v0 p ∧ IntsAt w v1 q ∧ RowI wr w.heap.size v7 m ∧ m.length + (p.length + q.length) = F ∧ mrg r F xs ys = m ++ mrg r (p.length + q.length) p q ∧ Below w.heap.size w wr ∧ (∀ x ∈ p, x ∈ xs) ∧ (∀ x ∈ q, x ∈ ys)
theorem one_new (w : World) (x : Int) : IntsAt (w.alloc (.cells #[.int .i64 x] 3)) (.slice (some ⟨w.heap.size, 0, none⟩) 1 1) [x] := by
  refine ⟨some ⟨w.heap.size, 0, none⟩, 1, rfl, Nat.le_refl _, by unfold maxLen; omega, fun _ => ⟨w.heap.size, 0, rfl, by simp, fun j y hj => ?_⟩⟩
  match j, hj with
  | 0, hj =>
    simp at hj
    subst hj
    have h := heap_alloc_new w (.cells #[.int .i64 x] 3)
    unfold World.cell?
    simp only [Nat.zero_add]
    rw [h]
    rfl

set_option maxRecDepth 100000 in
set_option maxHeartbeats 4000000 in
theorem tabMerged_c (r : Int → Int → Int) (xs ys : List Int) (aa ba : Option Addr) (ac bc dB : Nat) (w : World) (ha : IntsAt w (.slice aa xs.length ac) xs) (hb : IntsAt w (.slice ba ys.length bc) ys) (hl : xs.length + ys.length ≤ 12)
    (hO : ∀ x ∈ xs, ∀ y ∈ ys, ∀ W, Below w.heap.size w W → Calls Tryz.prog 42 #[.int .i64 x, .int .i64 y, .pointer (some ⟨dB, 0, none⟩)] W fun e w' => e = .returned (.int .i64 (r x y)) ∧ Below W.heap.size W w') :
    Calls Tryz.prog 87 #[.slice aa xs.length ac, .slice ba ys.length bc, .func (.func 42) #[] #[.pointer (some ⟨dB, 0, none⟩)]] w fun e w' =>
      (∃ v, e = .returned v ∧ RowI w' w.heap.size v (mrg r (xs.length + ys.length) xs ys)) ∧ Below w.heap.size w w' := by
  have HA := hide ha
  have HB := hide hb
  have HO := hide hO
  have hmk := fun W => mk_run0 (xs.length + ys.length) (by omega) W
  have hsum : wrap64 ((xs.length : Int) + (ys.length : Int)) = ((xs.length + ys.length : Nat) : Int) := by unfold wrap64; omega
  obtain ⟨F, hF⟩ : ∃ F, xs.length + ys.length = F := ⟨_, rfl⟩
  rw [hF] at hmk hsum hl ⊢
  have HF := hide hF
  clear ha hb hO hF
  go_enter Tryz.func87, Tryz.ntmps87
  go_wp2_with fail
  have h0 : MrgI r F xs ys w (.slice aa xs.length ac) (.slice ba ys.length bc) (.slice (some ⟨w.heap.size, 0, none⟩) 0 F) (w.alloc (.cells (madeCells #[.int .i64 0] F) 3)) :=
    ⟨xs, ys, [], unhide HA, unhide HB, rowI_cap w F (by unfold maxLen; omega), by have := unhide HF; simp only [List.length_nil]; omega, by rw [unhide HF]; rfl, step_a (Below.refl _ _) _, fun _ h => h, fun _ h => h⟩
  go_loopw [0, 1, 7] (fun v0 v1 v7 wr => MrgI r F xs ys w v0 v1 v7 wr) (fun v0 v1 _ _ => lenV v0 + lenV v1)
  case atStart => exact h0
  case round =>
    clear h0 hmk hsum
    obtain ⟨p, q, m, hp, hq, hm, hlen, he, hbl, hpx, hqy⟩ := hrel
    obtain ⟨pa, pc, rfl, hp1, hp2⟩ := hp.form
    obtain ⟨qa, qc, rfl, hq1, hq2⟩ := hq.form
    obtain ⟨ma, mc, rfl⟩ := own_form hm
    unfold maxLen at hp2 hq2
    have HP := hide hp
    have HQ := hide hq
    have HM := hide hm
    have HE := hide he
    have HBL := hide hbl
    by_cases hp0 : p.length = 0
    · have k1 : decide (0 < (p.length : Int)) = false := by rw [hp0]; rfl
      have k1n : decide (0 < p.length) = false := by rw [hp0]; rfl
      have k1m : ¬ 0 < (p.length : Int) := by omega
      have hp' := List.length_eq_zero_iff.1 hp0
      clear hp0
      -- by rw [he, hp', mrg_nil1, List.append_nil] what the answer is
      have HANS : Hid (mrg r F xs ys = (m ++ p) ++ q) := hide (by rw [he, hp', mrg_nil1, List.append_nil])
      have hlen2 : m.length + p.length + q.length ≤ 12 := by omega
      clear hp hq hm he hbl hpx hqy
      first | clear hp' | clear hq'
      go_wp2_with (at_builtin; first | (refine wpList_append_ints rfl (.tmp 47) (.tmp 48) rfl w.heap.size (.slice ma m.length mc) (.slice pa p.length pc) m p rfl rfl (unhide HM) ((unhide HP).below (unhide HBL)) (by omega) (unhide HBL).size ?_; intro v6 w6 hr6 hg6 _; obtain ⟨ra, rc, rfl⟩ := own_form hr6; have HR6 := hide (rowI_app hr6); have HB6 : Hid (Below w.heap.size w w6) := hide (below_grown (unhide HBL) (unhide HM) hg6 (unhide HBL).size); clear hr6 hg6) | (refine wpList_append_ints rfl (.tmp 49) (.tmp 50) rfl w.heap.size (.slice ra (m.length + p.length) rc) (.slice qa q.length qc) (m ++ p) q rfl rfl (unhide HR6) ((unhide HQ).below (unhide HB6)) (by rw [List.length_append]; omega) (unhide HB6).size ?_; intro v7 w7 hr7 hg7 _; have HR7 := hide hr7; have HB7 : Hid (Below w.heap.size w w7) := hide (below_grown (unhide HB6) (unhide HR6) hg7 (unhide HB6).size); clear hr7 hg7))
      go_ret
      exact ⟨⟨_, rfl, by rw [unhide HANS]; exact unhide HR7⟩, unhide HB7⟩
    · have k1 : decide (0 < (p.length : Int)) = true := decide_eq_true (by omega)
      by_cases hq0 : q.length = 0
      · have k2 : decide (0 < (q.length : Int)) = false := by rw [hq0]; rfl
        have k2n : decide (0 < q.length) = false := by rw [hq0]; rfl
        have k2m : ¬ 0 < (q.length : Int) := by omega
        have k1m : 0 < (p.length : Int) := by omega
        have hq' := List.length_eq_zero_iff.1 hq0
        clear hq0 hp0
        -- by rw [he, hq', mrg_nil2, List.append_nil] what the answer is
        have HANS : Hid (mrg r F xs ys = (m ++ p) ++ q) := hide (by rw [he, hq', mrg_nil2, List.append_nil])
        have hlen2 : m.length + p.length + q.length ≤ 12 := by omega
        clear hp hq hm he hbl hpx hqy
        first | clear hp' | clear hq'
        go_wp2_with (at_builtin; first | (refine wpList_append_ints rfl (.tmp 47) (.tmp 48) rfl w.heap.size (.slice ma m.length mc) (.slice pa p.length pc) m p rfl rfl (unhide HM) ((unhide HP).below (unhide HBL)) (by omega) (unhide HBL).size ?_; intro v6 w6 hr6 hg6 _; obtain ⟨ra, rc, rfl⟩ := own_form hr6; have HR6 := hide (rowI_app hr6); have HB6 : Hid (Below w.heap.size w w6) := hide (below_grown (unhide HBL) (unhide HM) hg6 (unhide HBL).size); clear hr6 hg6) | (refine wpList_append_ints rfl (.tmp 49) (.tmp 50) rfl w.heap.size (.slice ra (m.length + p.length) rc) (.slice qa q.length qc) (m ++ p) q rfl rfl (unhide HR6) ((unhide HQ).below (unhide HB6)) (by rw [List.length_append]; omega) (unhide HB6).size ?_; intro v7 w7 hr7 hg7 _; have HR7 := hide hr7; have HB7 : Hid (Below w.heap.size w w7) := hide (below_grown (unhide HB6) (unhide HR6) hg7 (unhide HB6).size); clear hr7 hg7))
        go_ret
        exact ⟨⟨_, rfl, by rw [unhide HANS]; exact unhide HR7⟩, unhide HB7⟩
      · have k2 : decide (0 < (q.length : Int)) = true := decide_eq_true (by omega)
        obtain ⟨x, p', rfl⟩ : ∃ x t, p = x :: t := by cases p with | nil => exact absurd rfl hp0 | cons x t => exact ⟨x, t, rfl⟩
        obtain ⟨y, q', rfl⟩ : ∃ x t, q = x :: t := by cases q with | nil => exact absurd rfl hq0 | cons x t => exact ⟨x, t, rfl⟩
        obtain ⟨pb, po, rfl, hpb, cx⟩ := hp.cell (k := 0) (x := x) rfl
        obtain ⟨qb, qo, rfl, hqb, cy⟩ := hq.cell (k := 0) (x := y) rfl
        rw [Nat.add_zero] at cx cy
        have HCX := hide cx
        have HCY := hide cy
        have HOO := hide ((unhide HO) x (hpx x List.mem_cons_self) y (hqy y List.mem_cons_self))
        have cx1 := cell_below hbl cx
        have cy1 := cell_below hbl cy
        obtain ⟨R, hR⟩ : ∃ R, r x y = R := ⟨_, rfl⟩
        rw [hR] at HOO
        have HR := hide hR
        have HX := hide hpx
        have HY := hide hqy
        have t0 : (0 : Int) < ((x :: p').length : Int) := by simp only [List.length_cons]; omega
        have t1 : (0 : Int) < ((y :: q').length : Int) := by simp only [List.length_cons]; omega
        clear hp hq hm he hbl hpx hqy cx cy hR
        have cx2 : wr.drew.cell? ⟨pb, po, none⟩ = some (.int .i64 x) := cx1
        have cy2 : wr.drew.cell? ⟨qb, qo, none⟩ = some (.int .i64 y) := cy1
        go_wp2_with fail
        go_region_held3 (fun w' => w'.cell? ⟨pb, po, none⟩ = some (.int .i64 x) ∧ w'.cell? ⟨qb, qo, none⟩ = some (.int .i64 y)) (((try dsimp only); (repeat' apply And.intro) <;> (with_reducible assumption))) ((go_at_call 42; refine (unhide HOO wr.drew (unhide HBL).drew).mono ?_; rintro e w5 ⟨rfl, hb5⟩; have HB5 : Hid (Below w.heap.size w w5) := step_b (unhide HBL).drew hb5; have RM5 : Hid (RowI w5 w.heap.size (.slice ma m.length mc) m) := own_below (unhide HM) ((Below.refl _ _).drew.trans hb5); have c1 := cell_below (unhide HB5) (unhide HCX); have c2 := cell_below (unhide HB5) (unhide HCY); clear hb5))
        have BA : Hid (∀ z, Below w.heap.size w (w5.alloc (.cells #[.int .i64 z] 3)).drew) := hide (fun z => (step_a (unhide HB5) _).drew)
        have RA : Hid (∀ z, RowI (w5.alloc (.cells #[.int .i64 z] 3)).drew w.heap.size (.slice ma m.length mc) m) := hide (fun z => own_below (unhide RM5) (step_a (Below.refl _ _) (.cells #[.int .i64 z] 3)).drew)
        have NA : Hid (∀ z, IntsAt (w5.alloc (.cells #[.int .i64 z] 3)).drew (.slice (some ⟨w5.heap.size, 0, none⟩) 1 1) [z]) := hide (fun z => one_new w5 z)
        clear cx1 cy1 cx2 cy2
        by_cases hR0 : R ≤ 0
        · have k3 : decide (R ≤ 0) = true := decide_eq_true hR0
          by_cases hpc : pc = 1
          · subst hpc
            -- ints_last (unhide HP) what is left of the first; .slice (some ⟨pb, po, none⟩) p'.length 0 its value
            have HI := hide (ints_last (unhide HP))
            have HEE := hide (mrg_l (by rw [unhide HR]; exact hR0) (unhide HE))
            -- x the number; pb, po its place; HCX the fact of its cell
            have g0 := cell_below (unhide BA x) (unhide HCX)
            have g1 : w5.drew.cell? ⟨pb, po, none⟩ = some (.int .i64 x) := cell_below (unhide HB5) (unhide HCX)
            have RX := hide (unhide RA x)
            have NX := hide (unhide NA x)
            go_wp2_with fail
            go_region_held_law (fun w' => w'.cell? ⟨pb, po, none⟩ = some (.int .i64 x)) (((try dsimp only); (with_reducible assumption))) ((refine step_append_ints (by rfl) _ _ (by rfl) w.heap.size (.slice ma m.length mc) (.slice (some ⟨w5.heap.size, 0, none⟩) 1 1) m [x] (by rfl) (by rfl) (by with_reducible exact unhide RX) (by with_reducible exact unhide NX) (by simp only [List.length_cons, List.length_nil]; omega) (unhide BA x).size (some 36) (by rfl) ?_; intro v6 w6 hr6 hg6 _; obtain ⟨ra, rc, rfl⟩ := own_form hr6; have HR6 := hide (rowI_snoc hr6); have HB6 : Hid (Below w.heap.size w w6) := hide (below_grown (unhide BA x) (unhide RX) hg6 (unhide BA x).size); have h0 := cell_below (unhide HB6) (unhide HCX); have HMI : Hid (MrgI r F xs ys w (.slice (some ⟨pb, po, none⟩) p'.length 0) (.slice (some ⟨qb, qo, none⟩) (y :: q').length qc) (.slice ra (m.length + 1) rc) w6) := hide ⟨p', y :: q', m ++ [x], unhide HI, unhide HQ, unhide HR6, (by simp only [List.length_append, List.length_cons, List.length_nil] at hlen ⊢; omega), unhide HEE, unhide HB6, fun z hz => unhide HX z (List.mem_cons_of_mem _ hz), unhide HY⟩; clear hr6 hg6; (try dsimp only)))
            all_goals (go_wp2_with fail)
            all_goals go_roundw
            all_goals first
              | exact unhide HMI
              | (refine ⟨_, _, _, unhide HMI, ?_⟩; (repeat apply Exists.intro); rfl)
              | (simp [lenV]; done)
              | (simp [lenV]; omega)
          ·
            -- ints_one (unhide HP) rfl hpc what is left of the first; .slice (some ⟨pb, po + 1, none⟩) p'.length (pc - 1) its value
            have HI := hide (ints_one (unhide HP) rfl hpc)
            have HEE := hide (mrg_l (by rw [unhide HR]; exact hR0) (unhide HE))
            -- x the number; pb, po its place; HCX the fact of its cell
            have g0 := cell_below (unhide BA x) (unhide HCX)
            have g1 : w5.drew.cell? ⟨pb, po, none⟩ = some (.int .i64 x) := cell_below (unhide HB5) (unhide HCX)
            have RX := hide (unhide RA x)
            have NX := hide (unhide NA x)
            go_wp2_with fail
            go_region_held_law (fun w' => w'.cell? ⟨pb, po, none⟩ = some (.int .i64 x)) (((try dsimp only); (with_reducible assumption))) ((refine step_append_ints (by rfl) _ _ (by rfl) w.heap.size (.slice ma m.length mc) (.slice (some ⟨w5.heap.size, 0, none⟩) 1 1) m [x] (by rfl) (by rfl) (by with_reducible exact unhide RX) (by with_reducible exact unhide NX) (by simp only [List.length_cons, List.length_nil]; omega) (unhide BA x).size (some 36) (by rfl) ?_; intro v6 w6 hr6 hg6 _; obtain ⟨ra, rc, rfl⟩ := own_form hr6; have HR6 := hide (rowI_snoc hr6); have HB6 : Hid (Below w.heap.size w w6) := hide (below_grown (unhide BA x) (unhide RX) hg6 (unhide BA x).size); have h0 := cell_below (unhide HB6) (unhide HCX); have HMI : Hid (MrgI r F xs ys w (.slice (some ⟨pb, po + 1, none⟩) p'.length (pc - 1)) (.slice (some ⟨qb, qo, none⟩) (y :: q').length qc) (.slice ra (m.length + 1) rc) w6) := hide ⟨p', y :: q', m ++ [x], unhide HI, unhide HQ, unhide HR6, (by simp only [List.length_append, List.length_cons, List.length_nil] at hlen ⊢; omega), unhide HEE, unhide HB6, fun z hz => unhide HX z (List.mem_cons_of_mem _ hz), unhide HY⟩; clear hr6 hg6; (try dsimp only)))
            all_goals (go_wp2_with fail)
            all_goals go_roundw
            all_goals first
              | exact unhide HMI
              | (refine ⟨_, _, _, unhide HMI, ?_⟩; (repeat apply Exists.intro); rfl)
              | (simp [lenV]; done)
              | (simp [lenV]; omega)
        · have k3 : decide (R ≤ 0) = false := decide_eq_false hR0
          by_cases hqc : qc = 1
          · subst hqc
            have HI := hide (ints_last (unhide HQ))
            have HEE := hide (mrg_r (by rw [unhide HR]; exact hR0) (unhide HE))
            -- y the number; qb, qo its place; HCY the fact of its cell
            have g0 := cell_below (unhide BA y) (unhide HCY)
            have g1 : w5.drew.cell? ⟨qb, qo, none⟩ = some (.int .i64 y) := cell_below (unhide HB5) (unhide HCY)
            have RX := hide (unhide RA y)
            have NX := hide (unhide NA y)
            go_wp2_with fail
            go_region_held_law (fun w' => w'.cell? ⟨qb, qo, none⟩ = some (.int .i64 y)) (((try dsimp only); (with_reducible assumption))) ((refine step_append_ints (by rfl) _ _ (by rfl) w.heap.size (.slice ma m.length mc) (.slice (some ⟨w5.heap.size, 0, none⟩) 1 1) m [y] (by rfl) (by rfl) (by with_reducible exact unhide RX) (by with_reducible exact unhide NX) (by simp only [List.length_cons, List.length_nil]; omega) (unhide BA y).size (some 44) (by rfl) ?_; intro v6 w6 hr6 hg6 _; obtain ⟨ra, rc, rfl⟩ := own_form hr6; have HR6 := hide (rowI_snoc hr6); have HB6 : Hid (Below w.heap.size w w6) := hide (below_grown (unhide BA y) (unhide RX) hg6 (unhide BA y).size); have h0 := cell_below (unhide HB6) (unhide HCY); have HMI : Hid (MrgI r F xs ys w (.slice (some ⟨pb, po, none⟩) (x :: p').length pc) (.slice (some ⟨qb, qo, none⟩) q'.length 0) (.slice ra (m.length + 1) rc) w6) := hide ⟨x :: p', q', m ++ [y], unhide HP, unhide HI, unhide HR6, (by simp only [List.length_append, List.length_cons, List.length_nil] at hlen ⊢; omega), unhide HEE, unhide HB6, unhide HX, fun z hz => unhide HY z (List.mem_cons_of_mem _ hz)⟩; clear hr6 hg6; (try dsimp only)))
            all_goals (go_wp2_with fail)
            all_goals go_roundw
            all_goals first
              | exact unhide HMI
              | (refine ⟨_, _, _, unhide HMI, ?_⟩; (repeat apply Exists.intro); rfl)
              | (simp [lenV]; done)
              | (simp [lenV]; omega)
          ·
            have HI := hide (ints_one (unhide HQ) rfl hqc)
            have HEE := hide (mrg_r (by rw [unhide HR]; exact hR0) (unhide HE))
            -- y the number; qb, qo its place; HCY the fact of its cell
            have g0 := cell_below (unhide BA y) (unhide HCY)
            have g1 : w5.drew.cell? ⟨qb, qo, none⟩ = some (.int .i64 y) := cell_below (unhide HB5) (unhide HCY)
            have RX := hide (unhide RA y)
            have NX := hide (unhide NA y)
            go_wp2_with fail
            go_region_held_law (fun w' => w'.cell? ⟨qb, qo, none⟩ = some (.int .i64 y)) (((try dsimp only); (with_reducible assumption))) ((refine step_append_ints (by rfl) _ _ (by rfl) w.heap.size (.slice ma m.length mc) (.slice (some ⟨w5.heap.size, 0, none⟩) 1 1) m [y] (by rfl) (by rfl) (by with_reducible exact unhide RX) (by with_reducible exact unhide NX) (by simp only [List.length_cons, List.length_nil]; omega) (unhide BA y).size (some 44) (by rfl) ?_; intro v6 w6 hr6 hg6 _; obtain ⟨ra, rc, rfl⟩ := own_form hr6; have HR6 := hide (rowI_snoc hr6); have HB6 : Hid (Below w.heap.size w w6) := hide (below_grown (unhide BA y) (unhide RX) hg6 (unhide BA y).size); have h0 := cell_below (unhide HB6) (unhide HCY); have HMI : Hid (MrgI r F xs ys w (.slice (some ⟨pb, po, none⟩) (x :: p').length pc) (.slice (some ⟨qb, qo + 1, none⟩) q'.length (qc - 1)) (.slice ra (m.length + 1) rc) w6) := hide ⟨x :: p', q', m ++ [y], unhide HP, unhide HI, unhide HR6, (by simp only [List.length_append, List.length_cons, List.length_nil] at hlen ⊢; omega), unhide HEE, unhide HB6, unhide HX, fun z hz => unhide HY z (List.mem_cons_of_mem _ hz)⟩; clear hr6 hg6; (try dsimp only)))
            all_goals (go_wp2_with fail)
            all_goals go_roundw
            all_goals first
              | exact unhide HMI
              | (refine ⟨_, _, _, unhide HMI, ?_⟩; (repeat apply Exists.intro); rfl)
              | (simp [lenV]; done)
              | (simp [lenV]; omega)
end Go.Proofs.YtpbnmhnbkfnaeaaGreatDoor
/- tabSorted: a list put in order by halves. -/
namespace Go.Proofs.YtpbnmhnbkfnaeaaGreatDoor
open Go.RowKit Nt

theorem row_form {w : World} {b k : Nat} {v : Value} {l : List Int} (h : RowI w b v l) (e : l.length = k) : ∃ a c, v = .slice a k c ∧ RowI w b (.slice a k c) l := by
  subst e
  obtain ⟨a, c, rfl⟩ := own_form h
  exact ⟨a, c, rfl, h⟩
theorem row_at {w : World} {b k : Nat} {a : Option Addr} {c : Nat} {l : List Int} (h : RowI w b (.slice a k c) l) : IntsAt w (.slice a k c) l := owns_ints h

set_option maxRecDepth 100000 in
set_option maxHeartbeats 4000000 in
theorem tabSorted_c (r : Int → Int → Int) (hpre : Pre r) (dB : Nat) : ∀ (n : Nat) (xs : List Int) (xa : Option Addr) (xc : Nat) (w : World), xs.length ≤ n → xs.length ≤ 12 → IntsAt w (.slice xa xs.length xc) xs →
    (∀ x ∈ xs, ∀ y ∈ xs, ∀ W, Below w.heap.size w W → Calls Tryz.prog 42 #[.int .i64 x, .int .i64 y, .pointer (some ⟨dB, 0, none⟩)] W fun e w' => e = .returned (.int .i64 (r x y)) ∧ Below W.heap.size W w') →
    Calls Tryz.prog 45 #[.slice xa xs.length xc, .func (.func 42) #[] #[.pointer (some ⟨dB, 0, none⟩)]] w fun e w' =>
      (∃ v, e = .returned v ∧ RowI w' w.heap.size v (srt r xs)) ∧ Below w.heap.size w w' := by
  intro n
  induction n with
  | zero =>
    intro xs xa xc w hn h12 hx hO
    have h2 : xs.length < 2 := by omega
    have hlt : decide ((xs.length : Int) < 2) = true := decide_eq_true (by omega)
    have HX := hide (hx.below (step_a (Below.refl _ _) (.cells #[] 3)))
    have HN := hide (rowI_made w)
    have HS := hide (srt_small (r := r) (l := xs) (by omega))
    obtain ⟨a, c, e, h1, hc, h3⟩ := hx
    injection e with e1 _ e3
    subst e1 e3
    unfold maxLen at hc
    clear hO h2 h3
    go_enter Tryz.func45, Tryz.ntmps45
    go_wp2_with (at_builtin; refine wpList_append_ints rfl (.tmp 9) (.tmp 10) rfl w.heap.size (.slice (some ⟨w.heap.size, 0, none⟩) 0 0) (.slice xa xs.length xc) [] xs rfl rfl (unhide HN) (unhide HX) (by simp only [List.length_nil]; omega) (by simp) ?_; intro v6 w6 hr6 hg6 _; have HR6 := hide hr6; have HB6 : Hid (Below w.heap.size w w6) := hide (below_grown (step_a (Below.refl _ _) (.cells #[] 3)) (unhide HN) hg6 (by simp)); clear hr6 hg6)
    go_ret
    exact ⟨⟨_, rfl, by rw [unhide HS]; exact unhide HR6⟩, unhide HB6⟩
  | succ n ih =>
    intro xs xa xc w hn h12 hx hO
    by_cases h2 : xs.length < 2
    ·
      clear ih
      have hlt : decide ((xs.length : Int) < 2) = true := decide_eq_true (by omega)
      have HX := hide (hx.below (step_a (Below.refl _ _) (.cells #[] 3)))
      have HN := hide (rowI_made w)
      have HS := hide (srt_small (r := r) (l := xs) (by omega))
      obtain ⟨a, c, e, h1, hc, h3⟩ := hx
      injection e with e1 _ e3
      subst e1 e3
      unfold maxLen at hc
      clear hO h2 h3
      go_enter Tryz.func45, Tryz.ntmps45
      go_wp2_with (at_builtin; refine wpList_append_ints rfl (.tmp 9) (.tmp 10) rfl w.heap.size (.slice (some ⟨w.heap.size, 0, none⟩) 0 0) (.slice xa xs.length xc) [] xs rfl rfl (unhide HN) (unhide HX) (by simp only [List.length_nil]; omega) (by simp) ?_; intro v6 w6 hr6 hg6 _; have HR6 := hide hr6; have HB6 : Hid (Below w.heap.size w w6) := hide (below_grown (step_a (Below.refl _ _) (.cells #[] 3)) (unhide HN) hg6 (by simp)); clear hr6 hg6)
      go_ret
      exact ⟨⟨_, rfl, by rw [unhide HS]; exact unhide HR6⟩, unhide HB6⟩
    · have hlt : decide ((xs.length : Int) < 2) = false := decide_eq_false (by omega)
      obtain ⟨a, c, e, h1, hc, h3⟩ := hx
      injection e with e1 _ e3
      subst e1 e3
      obtain ⟨b, off, e, hb, _⟩ := h3 (by omega)
      subst e
      have hx : IntsAt w (.slice (some ⟨b, off, none⟩) xs.length xc) xs := ⟨_, _, rfl, h1, hc, h3⟩
      obtain ⟨h, hh⟩ : ∃ h, xs.length / 2 = h := ⟨_, rfl⟩
      have hq : Int.tdiv (xs.length : Int) 2 = (h : Int) := by rw [← hh]; simp [Int.tdiv]
      have hl1 : (xs.take h).length = h := by rw [List.length_take]; omega
      have hl2 : (xs.drop h).length = xs.length - h := List.length_drop
      have ht := hx.take (k := h) (by omega)
      have hd : IntsAt w (.slice (some ⟨b, off + h, none⟩) (xs.length - h) (xc - h)) (xs.drop h) := by
        have := hx.drop (k := h) (by omega) rfl
        have e : (⟨b, off, none⟩ : Addr).add h = ⟨b, off + h, none⟩ := by unfold Addr.add; split <;> simp_all
        rwa [e] at this
      have C1 : Hid (∀ W, Below w.heap.size w W → Calls Tryz.prog 45 #[.slice (some ⟨b, off, none⟩) h xc, .func (.func 42) #[] #[.pointer (some ⟨dB, 0, none⟩)]] W fun e w' => (∃ ra rc, e = .returned (.slice ra h rc) ∧ RowI w' W.heap.size (.slice ra h rc) (srt r (xs.take h))) ∧ Below W.heap.size W w') := hide (fun W hW => by
        have := ih (xs.take h) (some ⟨b, off, none⟩) xc W (by omega) (by omega) (by rw [hl1]; exact ht.below hW) (fun x hx y hy W' hW' => hO x (List.mem_of_mem_take hx) y (List.mem_of_mem_take hy) W' (step_b hW hW'))
        rw [hl1] at this
        refine this.mono ?_
        rintro e w' ⟨⟨v, rfl, hr⟩, hb⟩
        obtain ⟨a, c, rfl, hr'⟩ := row_form (k := h) hr (by rw [srt_len, hl1])
        exact ⟨⟨a, c, rfl, hr'⟩, hb⟩)
      have C2 : Hid (∀ W, Below w.heap.size w W → Calls Tryz.prog 45 #[.slice (some ⟨b, off + h, none⟩) (xs.length - h) (xc - h), .func (.func 42) #[] #[.pointer (some ⟨dB, 0, none⟩)]] W fun e w' => (∃ ra rc, e = .returned (.slice ra (xs.length - h) rc) ∧ RowI w' W.heap.size (.slice ra (xs.length - h) rc) (srt r (xs.drop h))) ∧ Below W.heap.size W w') := hide (fun W hW => by
        have := ih (xs.drop h) (some ⟨b, off + h, none⟩) (xc - h) W (by omega) (by omega) (by rw [hl2]; exact hd.below hW) (fun x hx y hy W' hW' => hO x (List.mem_of_mem_drop hx) y (List.mem_of_mem_drop hy) W' (step_b hW hW'))
        rw [hl2] at this
        refine this.mono ?_
        rintro e w' ⟨⟨v, rfl, hr⟩, hb⟩
        obtain ⟨a, c, rfl, hr'⟩ := row_form (k := xs.length - h) hr (by rw [srt_len, hl2])
        exact ⟨⟨a, c, rfl, hr'⟩, hb⟩)
      have C3 : Hid (∀ W ra rc qa qc, Below w.heap.size w W → IntsAt W (.slice ra h rc) (srt r (xs.take h)) → IntsAt W (.slice qa (xs.length - h) qc) (srt r (xs.drop h)) → Calls Tryz.prog 87 #[.slice ra h rc, .slice qa (xs.length - h) qc, .func (.func 42) #[] #[.pointer (some ⟨dB, 0, none⟩)]] W fun e w' => (∃ ra rc, e = .returned (.slice ra xs.length rc) ∧ RowI w' W.heap.size (.slice ra xs.length rc) (srt r xs)) ∧ Below W.heap.size W w') := hide (fun W ra rc qa qc hW hr1 hr2 => by
        have k1 : (srt r (xs.take h)).length = h := by rw [srt_len]; exact hl1
        have k2 : (srt r (xs.drop h)).length = xs.length - h := by rw [srt_len]; exact hl2
        have := tabMerged_c r (srt r (xs.take h)) (srt r (xs.drop h)) ra qa rc qc dB W (by rw [k1]; exact hr1) (by rw [k2]; exact hr2) (by rw [k1, k2]; omega) (fun x hx y hy W' hW' => hO x (List.mem_of_mem_take ((srt_mem hpre _ _).1 hx)) y (List.mem_of_mem_drop ((srt_mem hpre _ _).1 hy)) W' (step_b hW hW'))
        rw [k1, k2] at this
        rw [mrg_srt hpre _ _ (by omega), List.take_append_drop] at this
        refine this.mono ?_
        rintro e w' ⟨⟨v, rfl, hr⟩, hb⟩
        obtain ⟨a, c, rfl, hr'⟩ := row_form hr (srt_len _)
        exact ⟨⟨a, c, rfl, hr'⟩, hb⟩)
      have n1 : ¬ xc = h := by omega
      have n0 : ¬ xc = 0 := by omega
      unfold maxLen at hc
      clear hx hO ih h3 ht hd hl1 hl2
      go_enter Tryz.func45, Tryz.ntmps45
      go_wp2_with fail
      go_region_with (first
        | (go_at_call 87; refine (unhide C3 w2 ra rc qa qc (unhide HB2) (row_at (unhide HR1')) (row_at (unhide HR2))).mono ?_; rintro e w3 ⟨⟨sa, sc, rfl, hr3⟩, hb3⟩; have HR3 := hide (own_base hr3 (unhide HB2).size); have HB3 : Hid (Below w.heap.size w w3) := step_b (unhide HB2) hb3; clear hr3 hb3)
        | (go_at_call 45; refine (unhide C2 w1 (unhide HB1)).mono ?_; rintro e w2 ⟨⟨qa, qc, rfl, hr2⟩, hb2⟩; have HR1' := hide (own_below (unhide HR1) hb2); have HR2 := hide hr2; have HB2 : Hid (Below w.heap.size w w2) := step_b (unhide HB1) hb2; clear hr2 hb2)
        | (go_at_call 45; refine (unhide C1 w.drew (Below.refl _ _).drew).mono ?_; rintro e w1 ⟨⟨ra, rc, rfl, hr1⟩, hb1⟩; have HR1 := hide hr1; have HB1 : Hid (Below w.heap.size w w1) := (Below.refl _ _).drew.trans hb1; clear hr1 hb1)
        | fail)
      all_goals (go_wp2_with fail)
      all_goals
        go_ret
        exact ⟨⟨.slice sa xs.length sc, rfl, unhide HR3⟩, unhide HB3⟩
end Go.Proofs.YtpbnmhnbkfnaeaaGreatDoor
