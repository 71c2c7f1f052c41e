/- A part of the proof, put together out of smaller texts. -/
import Derived.Test.YtpbnmhnbkfnaeaaGreatDoorM3
import Derived.Deep.AppendLies
import Derived.Deep.CutRange
set_option linter.all false
set_option maxRecDepth 100000
set_option maxHeartbeats 32000000
namespace Go.Proofs.YtpbnmhnbkfnaeaaGreatDoor
open Go.RowKit Nt
theorem AtC2.grown' {w w' : World} {b : Nat} {x y : Value} {T : TypeId} {row : Option Nat} (h : AtC2 w b x y T) (hg : w.grownBy w' row) (hne : row ≠ some b) : AtC2 w' b x y T :=
 (hg.block b (Array.getElem?_eq_some_iff.1 h).1 (Ne.symm hne)).trans h
theorem zaY {w : World} {base : Nat} {e : TypeId} {size : Nat} {v : Value} {n : Nat} {xs : List Value} (h : w.ownsRow base e size v n xs) {k : Nat} (hk : k < base) : v.ownBlock ≠ some k := by
 rcases h.2 with ⟨rfl, _⟩ | ⟨g, c, k1, rfl, hb, _⟩
 ·intro e; simp [Value.ownBlock] at e
 ·intro e
  simp [Value.ownBlock] at e
  omega
theorem Vm {w : World} {b base n size : Nat} {x y kv : Value} {T e : TypeId} {xs : List Value} (h : AtC2 w b x y T) (ho : w.ownsRow base e size kv n xs) (hne : e ≠ T) : kv.ownBlock ≠ some b := by
 unfold AtC2 at h
 rcases ho.2 with ⟨rfl, _⟩ | ⟨g1, c1, k1, rfl, _, hg1, _⟩
 ·intro e; simp [Value.ownBlock] at e
 ·intro e
  simp [Value.ownBlock] at e
  subst e
  rw [hg1] at h
  simp at h
  exact hne h.2
theorem qZ {w : World} {base size : Nat} {T : TypeId} {v : Value} {n : Nat} {xs : List Value} (h : w.ownsRow base T size v n xs) : ∃ p cap, v = .slice p n cap := by
 rcases h.2 with ⟨rfl, h1⟩ | ⟨g, cap, cur, rfl, _⟩
 ·exact ⟨none, 0, by rw [h1]⟩
 ·exact ⟨_, _, rfl⟩
theorem RowN.far' {w : World} {base : Nat} {v : Value} {ns : List Nd} {kvs : List Value} (h : RowN w base v ns kvs) {a : Addr} (ha : a.block < base) (u : Value) : RowN (w.setCell a u) base v ns kvs :=
 ⟨h.1, ownsRow_setCell_below h.2.1 ha u, fun j nd kv e1 e2 => ⟨(h.2.2 j nd kv e1 e2).1, ownsRow_setCell_below (h.2.2 j nd kv e1 e2).2 ha u⟩⟩
theorem LL_ne {l : Array Bool} {i j : Nat} (hj : j ≠ i) : LL (l.setIfInBounds i true) j = LL l j := by
 unfold LL
 rw [Array.getElem?_setIfInBounds, if_neg (Ne.symm hj)]
theorem LL_eq {l : Array Bool} {i : Nat} (h : i < l.size) : LL (l.setIfInBounds i true) i := by
 unfold LL
 rw [Array.getElem?_setIfInBounds, if_pos rfl, if_pos h]
def rdC (i : Nat) : Bool := decide (i < 14) || (decide (14 < i) && decide (i < 21)) || decide (i = 25)
def dpC : Nat → List Nat
 | 1 => [0]
 | 3 => [2]
 | 5 => [3, 4]
 | 6 => [5]
 | 7 => [6]
 | 9 => [8]
 | 11 => [9, 10]
 | 12 => [11]
 | 13 => [12]
 | 16 => [15]
 | 18 => [16, 17]
 | 19 => [18]
 | 20 => [19]
 | 21 => [14, 20]
 | 22 => [7, 13, 21]
 | 23 => [22]
 | 24 => [1, 23]
 | _ => []
theorem vS {l : Array Bool} {i : Nat} (h : ∀ i d, d ∈ dpC i → LL l i → LL l d) (hi : i < l.size) (hd : ∀ d ∈ dpC i, LL l d) : ∀ j d, d ∈ dpC j → LL (l.setIfInBounds i true) j → LL (l.setIfInBounds i true) d := by
 have mono : ∀ d, LL l d → LL (l.setIfInBounds i true) d := fun d e => by
  by_cases q : d = i
  ·subst q; exact LL_eq hi
  ·rw [LL_ne q]; exact e
 intro j d hjd e
 by_cases q : j = i
 ·subst q; exact mono d (hd d hjd)
 ·rw [LL_ne q] at e; exact mono d (h j d hjd e)
structure CpS (V W : World) (v : Nat → Value) (nd : Nd) (mv rv : Value) (nk : List Nd) (kvs : List Value) (l : Array Bool) (x : Nat → Value) (w' : World) : Prop where
 sz : l.size = 27
 val : ∀ i, rdC i = true → LL l i → x i = v i
 bw : ¬ LL l 24 → Below W.heap.size W w'
 k0 : LL l 14 → ¬ LL l 21 → (∃ g, x 14 = .slice (some ⟨g, 0, none⟩) 0 0) ∧ RowI w' W.heap.size (x 14) []
 k1 : LL l 21 → ∃ a c, x 21 = .slice a nd.2.2.length c
 r1 : LL l 21 → ¬ LL l 24 → RowI w' W.heap.size (x 21) nd.2.2
 a1 : LL l 22 → x 22 = .agg #[.int .i64 nd.1, .string (B nd.2.1), x 21]
 n1 : LL l 23 → ¬ LL l 24 → ∃ g, x 23 = .slice (some ⟨g, 0, none⟩) 1 1 ∧ w'.heap[g]? = some (.cells #[.int .i64 nd.1, .string (B nd.2.1), x 21] 56 (0, 0))
 c21 : LL l 21 → LL l 14
 c22 : LL l 22 → LL l 21
 c23 : LL l 23 → LL l 22
 c24 : LL l 24 → ∀ j, j < 24 → LL l j
 c26 : LL l 26 → LL l 24
 m1 : LL l 24 → ∃ a c, x 24 = .slice a (nk.length + 1) c
 m2 : LL l 24 → Below V.heap.size V w' ∧ RowN w' (V.heap.size + 1) (x 24) (nk ++ [nd]) (kvs ++ [x 21])
 b1 : LL l 24 → ¬ LL l 26 → AtC2 w' V.heap.size mv rv 26
 b2 : LL l 26 → AtC2 w' V.heap.size (x 24) rv 26
 cl : ∀ i d, d ∈ dpC i → LL l i → LL l d
section
variable {V W w' w2 : World} {v x : Nat → Value} {nd : Nd} {mv rv : Value} {nk : List Nd} {kvs : List Value} {l : Array Bool}
theorem CpS.start (hl : l = Array.replicate 27 false) (h : Below W.heap.size W w') : CpS V W v nd mv rv nk kvs l x w' := by
 subst hl
 have hn : ∀ j, ¬ LL (Array.replicate 27 false) j := fun j h => by
  unfold LL at h
  rw [Array.getElem?_replicate] at h
  split at h <;> simp at h
 exact ⟨by simp, fun i _ h => absurd h (hn _), fun _ => h, fun h => absurd h (hn _), fun h => absurd h (hn _), fun h => absurd h (hn _), fun h => absurd h (hn _), fun h => absurd h (hn _), fun h => absurd h (hn _), fun h => absurd h (hn _), fun h => absurd h (hn _), fun h => absurd h (hn _), fun h => absurd h (hn _), fun h => absurd h (hn _), fun h => absurd h (hn _), fun h => absurd h (hn _), fun h => absurd h (hn _), fun _ _ _ e => absurd e (hn _)⟩
theorem CpS.read (h : CpS V W v nd mv rv nk kvs l x w') (i : Nat) (hi : rdC i = true) (hi27 : i < 27) (hn : ¬ LL l i) (hd : ∀ d ∈ dpC i, LL l d) (u : Value) (hu : u = v i) : CpS V W v nd mv rv nk kvs (l.setIfInBounds i true) (fun j => if j = i then u else x j) w' := by
 have n14 : 14 ≠ i := by rintro rfl; revert hi; decide
 have n21 : 21 ≠ i := by rintro rfl; revert hi; decide
 have n22 : 22 ≠ i := by rintro rfl; revert hi; decide
 have n23 : 23 ≠ i := by rintro rfl; revert hi; decide
 have n24 : 24 ≠ i := by rintro rfl; revert hi; decide
 have n26 : 26 ≠ i := by rintro rfl; revert hi; decide
 refine ⟨by simp [h.sz], fun j hj e => ?_, ?_, ?_, ?_, ?_, ?_, ?_, ?_, ?_, ?_, ?_, ?_, ?_, ?_, ?_, ?_, vS h.cl (by rw [h.sz]; exact hi27) hd⟩
 ·show (if j = i then u else x j) = v j
  by_cases q : j = i
  ·subst q; rw [if_pos rfl]; exact hu
  ·rw [if_neg q]; exact h.val j hj (by rwa [LL_ne q] at e)
 ·rw [LL_ne n24]; exact h.bw
 ·rw [LL_ne n14, LL_ne n21]; simp only [if_neg n14]; exact h.k0
 ·rw [LL_ne n21]; simp only [if_neg n21]; exact h.k1
 ·rw [LL_ne n21, LL_ne n24]; simp only [if_neg n21]; exact h.r1
 ·rw [LL_ne n22]; simp only [if_neg n22, if_neg n21]; exact h.a1
 ·rw [LL_ne n23, LL_ne n24]; simp only [if_neg n23, if_neg n21]; exact h.n1
 ·rw [LL_ne n21, LL_ne n14]; exact h.c21
 ·rw [LL_ne n22, LL_ne n21]; exact h.c22
 ·rw [LL_ne n23, LL_ne n22]; exact h.c23
 ·rw [LL_ne n24]
  intro e j hj
  by_cases q : j = i
  ·subst q; exact absurd (h.c24 e j hj) hn
  ·rw [LL_ne q]; exact h.c24 e j hj
 ·rw [LL_ne n26, LL_ne n24]; exact h.c26
 ·rw [LL_ne n24]; simp only [if_neg n24]; exact h.m1
 ·rw [LL_ne n24]; simp only [if_neg n24, if_neg n21]; exact h.m2
 ·rw [LL_ne n24, LL_ne n26]; exact h.b1
 ·rw [LL_ne n26]; simp only [if_neg n24]; exact h.b2
theorem CpS.all (h : CpS V W v nd mv rv nk kvs l x w') (h1 : LL l 1) (h23 : LL l 23) : ∀ j, j < 24 → LL l j := by
 have g := fun i d => h.cl i d
 have h0 := g 1 0 (by decide) h1
 have h22 := g 23 22 (by decide) h23
 have h7 := g 22 7 (by decide) h22
 have h13 := g 22 13 (by decide) h22
 have h21 := g 22 21 (by decide) h22
 have h6 := g 7 6 (by decide) h7
 have h5 := g 6 5 (by decide) h6
 have h3 := g 5 3 (by decide) h5
 have h4 := g 5 4 (by decide) h5
 have h2 := g 3 2 (by decide) h3
 have h12 := g 13 12 (by decide) h13
 have h11 := g 12 11 (by decide) h12
 have h9 := g 11 9 (by decide) h11
 have h10 := g 11 10 (by decide) h11
 have h8 := g 9 8 (by decide) h9
 have h14 := g 21 14 (by decide) h21
 have h20 := g 21 20 (by decide) h21
 have h19 := g 20 19 (by decide) h20
 have h18 := g 19 18 (by decide) h19
 have h16 := g 18 16 (by decide) h18
 have h17 := g 18 17 (by decide) h18
 have h15 := g 16 15 (by decide) h16
 intro j hj
 rcases (by omega : j = 0 ∨ j = 1 ∨ j = 2 ∨ j = 3 ∨ j = 4 ∨ j = 5 ∨ j = 6 ∨ j = 7 ∨ j = 8 ∨ j = 9 ∨ j = 10 ∨ j = 11 ∨ j = 12 ∨ j = 13 ∨ j = 14 ∨ j = 15 ∨ j = 16 ∨ j = 17 ∨ j = 18 ∨ j = 19 ∨ j = 20 ∨ j = 21 ∨ j = 22 ∨ j = 23) with rfl | rfl | rfl | rfl | rfl | rfl | rfl | rfl | rfl | rfl | rfl | rfl | rfl | rfl | rfl | rfl | rfl | rfl | rfl | rfl | rfl | rfl | rfl | rfl
 all_goals assumption
theorem CpS.s14 (h : CpS V W v nd mv rv nk kvs l x w') (hn : ¬ LL l 14) (hd : ∀ d ∈ dpC 14, LL l d) : CpS V W v nd mv rv nk kvs (l.setIfInBounds 14 true) (fun j => if j = 14 then .slice (some ⟨w'.heap.size, 0, none⟩) 0 0 else x j) (w'.alloc (.cells #[] 3)) := by
 have n24 : ¬ LL l 24 := fun e => hn (h.c24 e 14 (by omega))
 have n21 : ¬ LL l 21 := fun e => hn (h.c21 e)
 have n22 : ¬ LL l 22 := fun e => n21 (h.c22 e)
 have n23 : ¬ LL l 23 := fun e => n22 (h.c23 e)
 have n26 : ¬ LL l 26 := fun e => n24 (h.c26 e)
 have e21 : LL (l.setIfInBounds 14 true) 21 = LL l 21 := LL_ne (by decide)
 have e22 : LL (l.setIfInBounds 14 true) 22 = LL l 22 := LL_ne (by decide)
 have e23 : LL (l.setIfInBounds 14 true) 23 = LL l 23 := LL_ne (by decide)
 have e24 : LL (l.setIfInBounds 14 true) 24 = LL l 24 := LL_ne (by decide)
 have e26 : LL (l.setIfInBounds 14 true) 26 = LL l 26 := LL_ne (by decide)
 have hb := h.bw n24
 refine ⟨by simp [h.sz], fun j hj e => ?_, fun _ => zf hb _, fun _ _ => ⟨⟨_, rfl⟩, zK (jp w') hb.size⟩, fun e => absurd (e21 ▸ e) n21, fun e => absurd (e21 ▸ e) n21, fun e => absurd (e22 ▸ e) n22, fun e => absurd (e23 ▸ e) n23, fun e => absurd (e21 ▸ e) n21, fun e => absurd (e22 ▸ e) n22, fun e => absurd (e23 ▸ e) n23, fun e => absurd (e24 ▸ e) n24, fun e => absurd (e26 ▸ e) n26, fun e => absurd (e24 ▸ e) n24, fun e => absurd (e24 ▸ e) n24, fun e => absurd (e24 ▸ e) n24, fun e => absurd (e26 ▸ e) n26, vS h.cl (by rw [h.sz]; omega) hd⟩
 have q : j ≠ 14 := by rintro rfl; revert hj; decide
 show (if j = 14 then _ else x j) = v j
 rw [if_neg q]; exact h.val j hj (by rwa [LL_ne q] at e)
theorem CpS.s21 (h : CpS V W v nd mv rv nk kvs l x w') (hn : ¬ LL l 21) (hd : ∀ d ∈ dpC 21, LL l d) (h14 : LL l 14) {a : Option Addr} {c : Nat} (hr : RowI w2 W.heap.size (.slice a nd.2.2.length c) nd.2.2) (hg : w'.grownBy w2 (x 14).ownBlock) :
  CpS V W v nd mv rv nk kvs (l.setIfInBounds 21 true) (fun j => if j = 21 then .slice a nd.2.2.length c else x j) w2 := by
 have n24 : ¬ LL l 24 := fun e => hn (h.c24 e 21 (by omega))
 have n22 : ¬ LL l 22 := fun e => hn (h.c22 e)
 have n23 : ¬ LL l 23 := fun e => n22 (h.c23 e)
 have n26 : ¬ LL l 26 := fun e => n24 (h.c26 e)
 have e14 : LL (l.setIfInBounds 21 true) 14 = LL l 14 := LL_ne (by decide)
 have e22 : LL (l.setIfInBounds 21 true) 22 = LL l 22 := LL_ne (by decide)
 have e23 : LL (l.setIfInBounds 21 true) 23 = LL l 23 := LL_ne (by decide)
 have e24 : LL (l.setIfInBounds 21 true) 24 = LL l 24 := LL_ne (by decide)
 have e26 : LL (l.setIfInBounds 21 true) 26 = LL l 26 := LL_ne (by decide)
 have e21 : LL (l.setIfInBounds 21 true) 21 := LL_eq (by rw [h.sz]; omega)
 have hb := h.bw n24
 have hk := (h.k0 h14 hn).2
 refine ⟨by simp [h.sz], fun j hj e => ?_, fun _ => zw hb hk hg hb.size, fun _ e => absurd e21 e, fun _ => ⟨a, c, rfl⟩, fun _ _ => hr, fun e => absurd (e22 ▸ e) n22, fun e => absurd (e23 ▸ e) n23, fun _ => by rw [e14]; exact h14, fun e => absurd (e22 ▸ e) n22, fun e => absurd (e23 ▸ e) n23, fun e => absurd (e24 ▸ e) n24, fun e => absurd (e26 ▸ e) n26, fun e => absurd (e24 ▸ e) n24, fun e => absurd (e24 ▸ e) n24, fun e => absurd (e24 ▸ e) n24, fun e => absurd (e26 ▸ e) n26, vS h.cl (by rw [h.sz]; omega) hd⟩
 have q : j ≠ 21 := by rintro rfl; revert hj; decide
 show (if j = 21 then _ else x j) = v j
 rw [if_neg q]; exact h.val j hj (by rwa [LL_ne q] at e)
theorem CpS.s22 (h : CpS V W v nd mv rv nk kvs l x w') (hn : ¬ LL l 22) (hd : ∀ d ∈ dpC 22, LL l d) (h21 : LL l 21) (u : Value) (hu : u = .agg #[.int .i64 nd.1, .string (B nd.2.1), x 21]) :
  CpS V W v nd mv rv nk kvs (l.setIfInBounds 22 true) (fun j => if j = 22 then u else x j) w' := by
 have n24 : ¬ LL l 24 := fun e => hn (h.c24 e 22 (by omega))
 have n23 : ¬ LL l 23 := fun e => hn (h.c23 e)
 have n26 : ¬ LL l 26 := fun e => n24 (h.c26 e)
 have e14 : LL (l.setIfInBounds 22 true) 14 = LL l 14 := LL_ne (by decide)
 have e21 : LL (l.setIfInBounds 22 true) 21 = LL l 21 := LL_ne (by decide)
 have e23 : LL (l.setIfInBounds 22 true) 23 = LL l 23 := LL_ne (by decide)
 have e24 : LL (l.setIfInBounds 22 true) 24 = LL l 24 := LL_ne (by decide)
 have e26 : LL (l.setIfInBounds 22 true) 26 = LL l 26 := LL_ne (by decide)
 refine ⟨by simp [h.sz], fun j hj e => ?_, fun _ => h.bw n24, fun _ e => absurd (by rw [e21]; exact h21) e, fun _ => h.k1 h21, fun _ _ => h.r1 h21 n24, fun _ => hu, fun e => absurd (e23 ▸ e) n23, fun _ => by rw [e14]; exact h.c21 h21, fun _ => by rw [e21]; exact h21, fun e => absurd (e23 ▸ e) n23, fun e => absurd (e24 ▸ e) n24, fun e => absurd (e26 ▸ e) n26, fun e => absurd (e24 ▸ e) n24, fun e => absurd (e24 ▸ e) n24, fun e => absurd (e24 ▸ e) n24, fun e => absurd (e26 ▸ e) n26, vS h.cl (by rw [h.sz]; omega) hd⟩
 have q : j ≠ 22 := by rintro rfl; revert hj; decide
 show (if j = 22 then _ else x j) = v j
 rw [if_neg q]; exact h.val j hj (by rwa [LL_ne q] at e)
theorem CpS.s23 (h : CpS V W v nd mv rv nk kvs l x w') (hn : ¬ LL l 23) (hd : ∀ d ∈ dpC 23, LL l d) (h22 : LL l 22) :
  CpS V W v nd mv rv nk kvs (l.setIfInBounds 23 true) (fun j => if j = 23 then .slice (some ⟨w'.heap.size, 0, none⟩) 1 1 else x j) (w'.alloc (.cells #[.int .i64 nd.1, .string (B nd.2.1), x 21] 56)) := by
 have n24 : ¬ LL l 24 := fun e => hn (h.c24 e 23 (by omega))
 have n26 : ¬ LL l 26 := fun e => n24 (h.c26 e)
 have h21 := h.c22 h22
 have e14 : LL (l.setIfInBounds 23 true) 14 = LL l 14 := LL_ne (by decide)
 have e21 : LL (l.setIfInBounds 23 true) 21 = LL l 21 := LL_ne (by decide)
 have e22 : LL (l.setIfInBounds 23 true) 22 = LL l 22 := LL_ne (by decide)
 have e24 : LL (l.setIfInBounds 23 true) 24 = LL l 24 := LL_ne (by decide)
 have e26 : LL (l.setIfInBounds 23 true) 26 = LL l 26 := LL_ne (by decide)
 have hb := h.bw n24
 refine ⟨by simp [h.sz], fun j hj e => ?_, fun _ => zf hb _, fun _ e => absurd (by rw [e21]; exact h21) e, fun _ => h.k1 h21, fun _ _ => zr (h.r1 h21 n24) (zf (Below.refl _ _) _), fun _ => h.a1 h22, fun _ _ => ⟨_, rfl, heap_alloc_new w' _⟩, fun _ => by rw [e14]; exact h.c21 h21, fun _ => by rw [e21]; exact h21, fun _ => by rw [e22]; exact h22, fun e => absurd (e24 ▸ e) n24, fun e => absurd (e26 ▸ e) n26, fun e => absurd (e24 ▸ e) n24, fun e => absurd (e24 ▸ e) n24, fun e => absurd (e24 ▸ e) n24, fun e => absurd (e26 ▸ e) n26, vS h.cl (by rw [h.sz]; omega) hd⟩
 have q : j ≠ 23 := by rintro rfl; revert hj; decide
 show (if j = 23 then _ else x j) = v j
 rw [if_neg q]; exact h.val j hj (by rwa [LL_ne q] at e)
theorem CpS.s24 (h : CpS V W v nd mv rv nk kvs l x w') (hn : ¬ LL l 24) (hd : ∀ d ∈ dpC 24, LL l d) (hall : ∀ j, j < 24 → LL l j) (ht : nd.2.1.length ≤ maxLen) (hVW : Below V.heap.size V W) (hbx : AtC2 W V.heap.size mv rv 26) (hN : RowN W (V.heap.size + 1) mv nk kvs)
  {a : Option Addr} {c : Nat} (hV : V.heap.size < W.heap.size) (hr : w2.ownsRow (V.heap.size + 1) 56 3 (.slice a (nk.length + 1) c) (nk.length + 1) (flatN nk kvs ++ nd3 nd (x 21))) (hg : w'.grownBy w2 mv.ownBlock) :
  CpS V W v nd mv rv nk kvs (l.setIfInBounds 24 true) (fun j => if j = 24 then .slice a (nk.length + 1) c else x j) w2 := by
 have n26 : ¬ LL l 26 := fun e => hn (h.c26 e)
 have h21 := hall 21 (by omega)
 have e14 : LL (l.setIfInBounds 24 true) 14 = LL l 14 := LL_ne (by decide)
 have e21 : LL (l.setIfInBounds 24 true) 21 = LL l 21 := LL_ne (by decide)
 have e22 : LL (l.setIfInBounds 24 true) 22 = LL l 22 := LL_ne (by decide)
 have e23 : LL (l.setIfInBounds 24 true) 23 = LL l 23 := LL_ne (by decide)
 have e26 : LL (l.setIfInBounds 24 true) 26 = LL l 26 := LL_ne (by decide)
 have e24 : LL (l.setIfInBounds 24 true) 24 := LL_eq (by rw [h.sz]; omega)
 have hb := h.bw hn
 have hN' := hN.below hb
 have hbl : Below V.heap.size V w' := hVW.trans (hb.mono hVW.size)
 refine ⟨by simp [h.sz], fun j hj e => ?_, fun e => absurd e24 e, fun _ e => absurd (by rw [e21]; exact h21) e, fun _ => h.k1 h21, fun _ e => absurd e24 e, fun _ => h.a1 (hall 22 (by omega)), fun _ e => absurd e24 e, fun _ => by rw [e14]; exact hall 14 (by omega), fun _ => by rw [e21]; exact h21, fun _ => by rw [e22]; exact hall 22 (by omega), fun _ j hj => by rw [LL_ne (by omega)]; exact hall j hj, fun e => absurd (e26 ▸ e) n26, fun _ => ⟨a, c, rfl⟩, fun _ => ⟨?_, ?_⟩, fun _ _ => ?_, fun e => absurd (e26 ▸ e) n26, vS h.cl (by rw [h.sz]; omega) hd⟩
 ·have q : j ≠ 24 := by rintro rfl; revert hj; decide
  show (if j = 24 then _ else x j) = v j
  rw [if_neg q]; exact h.val j hj (by rwa [LL_ne q] at e)
 ·exact zw hbl (zK hN'.2.1 (by omega)) hg hbl.size
 ·exact hN'.push ht (zK (h.r1 h21 hn) (by omega)) hr hg
 ·exact (hbx.below hb).grown' hg (zaY hN'.2.1 (by omega))
theorem CpS.s26 (h : CpS V W v nd mv rv nk kvs l x w') (hn : ¬ LL l 26) (hd : ∀ d ∈ dpC 26, LL l d) (h24 : LL l 24) :
  CpS V W v nd mv rv nk kvs (l.setIfInBounds 26 true) x (w'.setCell ⟨V.heap.size, 0, none⟩ (x 24)) := by
 have e14 : LL (l.setIfInBounds 26 true) 14 = LL l 14 := LL_ne (by decide)
 have e21 : LL (l.setIfInBounds 26 true) 21 = LL l 21 := LL_ne (by decide)
 have e22 : LL (l.setIfInBounds 26 true) 22 = LL l 22 := LL_ne (by decide)
 have e23 : LL (l.setIfInBounds 26 true) 23 = LL l 23 := LL_ne (by decide)
 have e24 : LL (l.setIfInBounds 26 true) 24 = LL l 24 := LL_ne (by decide)
 have e26 : LL (l.setIfInBounds 26 true) 26 := LL_eq (by rw [h.sz]; omega)
 have hall := h.c24 h24
 have h21 := hall 21 (by omega)
 have g24 : LL (l.setIfInBounds 26 true) 24 := by rw [e24]; exact h24
 refine ⟨by simp [h.sz], fun j hj e => ?_, fun e => absurd g24 e, fun _ e => absurd (by rw [e21]; exact h21) e, fun _ => h.k1 h21, fun _ e => absurd g24 e, fun _ => h.a1 (hall 22 (by omega)), fun _ e => absurd g24 e, fun _ => by rw [e14]; exact hall 14 (by omega), fun _ => by rw [e21]; exact h21, fun _ => by rw [e22]; exact hall 22 (by omega), fun _ j hj => by rw [LL_ne (by omega)]; exact hall j hj, fun _ => g24, fun _ => h.m1 h24, fun _ => ⟨?_, ?_⟩, fun _ e => absurd e26 e, fun _ => ?_, vS h.cl (by rw [h.sz]; omega) hd⟩
 ·have q : j ≠ 26 := by rintro rfl; revert hj; decide
  exact h.val j hj (by rwa [LL_ne q] at e)
 ·exact (h.m2 h24).1.setCell (p := ⟨V.heap.size, 0, none⟩) (Nat.le_refl _) _
 ·exact (h.m2 h24).2.far' (a := ⟨V.heap.size, 0, none⟩) (by show V.heap.size < V.heap.size + 1; omega) _
 ·exact (h.b1 h24 hn).st0 _
end
end Go.Proofs.YtpbnmhnbkfnaeaaGreatDoor
namespace Go.Proofs.YtpbnmhnbkfnaeaaGreatDoor
open Go.RowKit Nt
theorem zv {w w' : World} (k : Below w.heap.size w w') {a : Addr} {v : Value} (h : w.cell? a = some v) : w'.cell? a = some v := (k.cell (World.block_lt_of_cell? _ _ h)).trans h
theorem RowN.base {w : World} {base base' : Nat} {v : Value} {ns : List Nd} {kvs : List Value} (h : RowN w base v ns kvs) (hb : base' ≤ base) : RowN w base' v ns kvs :=
 ⟨h.1, zK h.2.1 hb, fun j nd kv e1 e2 => ⟨(h.2.2 j nd kv e1 e2).1, zK (h.2.2 j nd kv e1 e2).2 hb⟩⟩
theorem Qa (d : Dt) (u : Value) (w : World) (h : DataAt w u d) (hs : d.1.length ≤ 1000 ∧ d.2.length ≤ 1000 ∧ zM d.1) :
  Calls Tryz.prog 30 #[u] w fun e W' => (∃ ma mc rb rc kvs, e = .returned (.agg #[.slice ma d.1.length mc, .slice rb d.2.length rc]) ∧ RowN W' w.heap.size (.slice ma d.1.length mc) d.1 kvs ∧ RowI W' w.heap.size (.slice rb d.2.length rc) d.2) ∧ Below w.heap.size w W' := by
 obtain ⟨j0, hj, hy0, hy1, hy2⟩ := info_parts Tryz.infoNode
 obtain ⟨ns, rs⟩ := d
 obtain ⟨nv, rv, rfl, hn, hr⟩ := h
 simp only at hn hr hs
 obtain ⟨an, cn, rfl, hn1, hn2⟩ := hn.form0
 obtain ⟨ar, cr, rfl, hr1, hr2⟩ := hr.form
 unfold maxLen at hn2 hr2
 have hb0 := zf (zf (zf (Below.refl w.heap.size w) (.cells #[.slice an ns.length cn, .slice ar rs.length cr] 26)) (.cells #[.slice none 0 0, .slice none 0 0] 26)) (.cells #[] 3)
 have HB0 := hide hb0
 have HN := hide hn
 have HR := hide (hr.below hb0)
 have HS := hide hs.2.2
 have HP := hide (((AtC2.new w (.slice an ns.length cn) (.slice ar rs.length cr) 26).alloc (.cells #[.slice none 0 0, .slice none 0 0] 26)).alloc (.cells #[] 3))
 have HQ := hide ((AtC2.new (w.alloc (.cells #[.slice an ns.length cn, .slice ar rs.length cr] 26)) (.slice none 0 0) (.slice none 0 0) 26).alloc (.cells #[] 3))
 have HRW := hide (jp ((w.alloc (.cells #[.slice an ns.length cn, .slice ar rs.length cr] 26)).alloc (.cells #[.slice none 0 0, .slice none 0 0] 26)))
 rw [World.size_alloc] at HQ
 rw [World.size_alloc, World.size_alloc] at HRW
 have hl1 := hs.1
 have hl2 := hs.2.1
 have p0 := (za HP).n0
 have p1 := (za HP).n1
 clear hn hr hs hb0
 go_enter Tryz.func30, Tryz.ntmps30
 go_wp2_with (at_builtin; refine zV rfl (.tmp 5) (.tmp 7) rfl (w.heap.size + 1 + 1) (.slice (some ⟨w.heap.size + 1 + 1, 0, none⟩) 0 0) (.slice ar rs.length cr) [] rs rfl rfl (za HRW) (za HR) (by simp only [List.length_nil]; omega) (by simp) ?_; intro v6 V hr6 hg6 _; obtain ⟨rb, rc, rfl⟩ := qZ hr6; have HRV : Hid (RowI V (w.heap.size + 1 + 1) (.slice rb rs.length rc) rs) := hide hr6; have HBV : Hid (Below w.heap.size w V) := hide (zw (za HB0) (zK (za HRW) (by omega)) hg6 (za HB0).size); have HPV := hide ((za HP).grown' hg6 (Vm (za HP) (za HRW) (by decide))); have HQV := hide ((za HQ).grown' hg6 (Vm (za HQ) (za HRW) (by decide))); clear hr6 hg6)
 have h0 : RowN (V.alloc (.cells #[.slice none 0 0, .slice rb rs.length rc] 26)) (V.heap.size + 1) (.slice none 0 0) (ns.take 0) [] := ⟨by simp, by simpa [flatN] using World.ownsRow_nil _ _ _ _, fun j nd kv e1 _ => by simp at e1⟩
 have HR0 := hide h0
 have HA0 := hide (AtC2.new V (.slice none 0 0) (.slice rb rs.length rc) 26)
 have HNV := hide ((za HN).below (za HBV))
 clear p0 p1 HB0 HN HR HP HQ HRW h0
 go_loopw [4] (fun i wr => ∃ (k : Nat) (mv : Value) (kvs : List Value), k ≤ ns.length ∧ i = .int .i64 k ∧ Below V.heap.size V wr ∧ Hid (AtC2 wr V.heap.size mv (.slice rb rs.length rc) 26) ∧ Hid (RowN wr (V.heap.size + 1) mv (ns.take k) kvs))
  (fun i _ => ns.length - (intOf i).toNat)
 case atStart => exact ⟨0, _, [], by omega, rfl, zf (Below.refl _ _) _, HA0, HR0⟩
 case round =>
  clear HA0 HR0
  obtain ⟨k, mv, kvs, hk, rfl, hbl, HA, HRN⟩ := hrel
  have HPW := hide ((za HPV).below hbl)
  have p0 := (za HPW).n0
  have p1 := (za HPW).n1
  have hlk : (ns.take k).length = k := by rw [List.length_take]; omega
  obtain ⟨ma, mc, rfl⟩ := qZ (za HRN).2.1
  rw [hlk] at HA HRN
  have q0 := (za HA).n0
  have q1 := (za HA).n1
  by_cases hlt : k < ns.length
  ·obtain ⟨nd, hnd⟩ : ∃ nd, ns[k]? = some nd := ⟨_, List.getElem?_eq_getElem hlt⟩
   obtain ⟨b, off, rfl, hb⟩ := ((za HNV).below hbl).addr (by omega)
   obtain ⟨kv, c0, c1, c2, htl, hk1⟩ := ((za HNV).below hbl).node hnd
   obtain ⟨ka, kc, rfl, hk2, hk3⟩ := hk1.form
   unfold maxLen at hk3
   have hks := (za HS) nd (List.mem_of_getElem? hnd)
   have HK := hide hk1
   have HALL := hide (And.intro p0 (And.intro q0 (And.intro c0 (And.intro c1 c2))))
   have HBL := hide hbl
   have hvl : V.heap.size < wr.heap.size := (za HA).lt
   clear hk1 p0 p1 q0 q1 c0 c1 c2 hbl
   have p0 := (za HALL).1
   go_wp2_with fail
   clear p0
   obtain ⟨v, hv⟩ : ∃ v : Nat → Value, v = fun j => match j with
    | 0 => .pointer (some ⟨V.heap.size, 0, none⟩)
    | 1 => .slice ma k mc
    | 2 => .pointer (some ⟨w.heap.size, 0, none⟩)
    | 3 => .slice (some ⟨b, off, none⟩) ns.length cn
    | 4 => .int .i64 (k : Int)
    | 5 => .pointer (some ⟨b, off + k * 3, none⟩)
    | 6 => .pointer (some ⟨b, off + k * 3, none⟩)
    | 7 => .int .i64 nd.1
    | 8 => .pointer (some ⟨w.heap.size, 0, none⟩)
    | 9 => .slice (some ⟨b, off, none⟩) ns.length cn
    | 10 => .int .i64 (k : Int)
    | 11 => .pointer (some ⟨b, off + k * 3, none⟩)
    | 12 => .pointer (some ⟨b, off + k * 3 + 1, none⟩)
    | 13 => .string (B nd.2.1)
    | 15 => .pointer (some ⟨w.heap.size, 0, none⟩)
    | 16 => .slice (some ⟨b, off, none⟩) ns.length cn
    | 17 => .int .i64 (k : Int)
    | 18 => .pointer (some ⟨b, off + k * 3, none⟩)
    | 19 => .pointer (some ⟨b, off + k * 3 + 2, none⟩)
    | 20 => .slice ka nd.2.2.length kc
    | 25 => .pointer (some ⟨V.heap.size, 0, none⟩)
    | _ => undef := ⟨_, rfl⟩
   have v0 : v 0 = .pointer (some ⟨V.heap.size, 0, none⟩) := by subst hv; rfl
   have v1 : v 1 = .slice ma k mc := by subst hv; rfl
   have v2 : v 2 = .pointer (some ⟨w.heap.size, 0, none⟩) := by subst hv; rfl
   have v3 : v 3 = .slice (some ⟨b, off, none⟩) ns.length cn := by subst hv; rfl
   have v4 : v 4 = .int .i64 (k : Int) := by subst hv; rfl
   have v5 : v 5 = .pointer (some ⟨b, off + k * 3, none⟩) := by subst hv; rfl
   have v6 : v 6 = .pointer (some ⟨b, off + k * 3, none⟩) := by subst hv; rfl
   have v7 : v 7 = .int .i64 nd.1 := by subst hv; rfl
   have v8 : v 8 = .pointer (some ⟨w.heap.size, 0, none⟩) := by subst hv; rfl
   have v9 : v 9 = .slice (some ⟨b, off, none⟩) ns.length cn := by subst hv; rfl
   have v10 : v 10 = .int .i64 (k : Int) := by subst hv; rfl
   have v11 : v 11 = .pointer (some ⟨b, off + k * 3, none⟩) := by subst hv; rfl
   have v12 : v 12 = .pointer (some ⟨b, off + k * 3 + 1, none⟩) := by subst hv; rfl
   have v13 : v 13 = .string (B nd.2.1) := by subst hv; rfl
   have v15 : v 15 = .pointer (some ⟨w.heap.size, 0, none⟩) := by subst hv; rfl
   have v16 : v 16 = .slice (some ⟨b, off, none⟩) ns.length cn := by subst hv; rfl
   have v17 : v 17 = .int .i64 (k : Int) := by subst hv; rfl
   have v18 : v 18 = .pointer (some ⟨b, off + k * 3, none⟩) := by subst hv; rfl
   have v19 : v 19 = .pointer (some ⟨b, off + k * 3 + 2, none⟩) := by subst hv; rfl
   have v20 : v 20 = .slice ka nd.2.2.length kc := by subst hv; rfl
   have v25 : v 25 = .pointer (some ⟨V.heap.size, 0, none⟩) := by subst hv; rfl
   clear hv
   refine wp_region_any (by kernel_rfl) ?_
   change wpAny _ _ _ _ _ _ _ (World.drew _)
   refine vM (fun l a' w' => ∃ x : Nat → Value, a' = ⟨#[.agg #[.slice (some ⟨b, off, none⟩) ns.length cn, .slice ar rs.length cr], .pointer (some ⟨w.heap.size, 0, none⟩), .pointer (some ⟨w.heap.size + 1, 0, none⟩), .pointer (some ⟨V.heap.size, 0, none⟩), .int .i64 ↑k, .slice (some ⟨w.heap.size + 1 + 1, 0, none⟩) 0 0, .pointer (some ⟨w.heap.size, 1, none⟩), .slice ar rs.length cr, .slice rb rs.length rc, .agg #[.slice none 0 0, .slice rb rs.length rc], .int .i64 ↑k, .pointer (some ⟨w.heap.size, 0, none⟩), .slice (some ⟨b, off, none⟩) ns.length cn, .int .i64 ↑ns.length, .bool true, u15, u16, x 0, x 1, x 2, x 3, x 4, x 5, x 6, x 7, x 8, x 9, x 10, x 11, x 12, x 13, x 14, x 15, x 16, x 17, x 18, x 19, x 20, x 21, x 22, x 23, x 24, x 25, undef], []⟩ ∧ CpS V wr v nd (.slice ma k mc) (.slice rb rs.length rc) (ns.take k) kvs l x w') ?hsz ?hend ?hstep ?hgo _ _ _ _ ?h0 ?hc
   case hsz =>
    rintro l a' w' ⟨x, _, h⟩
    exact h.sz
   case h0 => exact ⟨fun j => [u17, u18, u19, u20, u21, u22, u23, u24, u25, u26, u27, u28, u29, u30, u31, u32, u33, u34, u35, u36, u37, u38, u39, u40, u41, u42].getD j undef, rfl, CpS.start rfl (Below.refl _ _).drew⟩
   case hc => exact Nat.le_of_eq rfl
   case hgo =>
    rintro l a' w' ⟨x, rfl, h⟩ hr j hj
    have k0 : l[0]? = some true := ze hr 0 (by simp) (by rw [h.sz]; rfl) (by simp [Region.binds, Array.getD_eq_getD_getElem?])
    have k1 : l[1]? = some true := ze hr 1 (by simp) (by rw [h.sz]; rfl) (by simp [Region.binds, Array.getD_eq_getD_getElem?, k0])
    have k2 : l[2]? = some true := ze hr 2 (by simp) (by rw [h.sz]; rfl) (by simp [Region.binds, Array.getD_eq_getD_getElem?])
    have k3 : l[3]? = some true := ze hr 3 (by simp) (by rw [h.sz]; rfl) (by simp [Region.binds, Array.getD_eq_getD_getElem?, k2])
    have k4 : l[4]? = some true := ze hr 4 (by simp) (by rw [h.sz]; rfl) (by simp [Region.binds, Array.getD_eq_getD_getElem?])
    have k5 : l[5]? = some true := ze hr 5 (by simp) (by rw [h.sz]; rfl) (by simp [Region.binds, Array.getD_eq_getD_getElem?, k3, k4])
    have k6 : l[6]? = some true := ze hr 6 (by simp) (by rw [h.sz]; rfl) (by simp [Region.binds, Array.getD_eq_getD_getElem?, k5])
    have k7 : l[7]? = some true := ze hr 7 (by simp) (by rw [h.sz]; rfl) (by simp [Region.binds, Array.getD_eq_getD_getElem?, k6])
    have k8 : l[8]? = some true := ze hr 8 (by simp) (by rw [h.sz]; rfl) (by simp [Region.binds, Array.getD_eq_getD_getElem?])
    have k9 : l[9]? = some true := ze hr 9 (by simp) (by rw [h.sz]; rfl) (by simp [Region.binds, Array.getD_eq_getD_getElem?, k8])
    have k10 : l[10]? = some true := ze hr 10 (by simp) (by rw [h.sz]; rfl) (by simp [Region.binds, Array.getD_eq_getD_getElem?])
    have k11 : l[11]? = some true := ze hr 11 (by simp) (by rw [h.sz]; rfl) (by simp [Region.binds, Array.getD_eq_getD_getElem?, k9, k10])
    have k12 : l[12]? = some true := ze hr 12 (by simp) (by rw [h.sz]; rfl) (by simp [Region.binds, Array.getD_eq_getD_getElem?, k11])
    have k13 : l[13]? = some true := ze hr 13 (by simp) (by rw [h.sz]; rfl) (by simp [Region.binds, Array.getD_eq_getD_getElem?, k12])
    have k14 : l[14]? = some true := ze hr 14 (by simp) (by rw [h.sz]; rfl) (by simp [Region.binds, Array.getD_eq_getD_getElem?])
    have k15 : l[15]? = some true := ze hr 15 (by simp) (by rw [h.sz]; rfl) (by simp [Region.binds, Array.getD_eq_getD_getElem?])
    have k16 : l[16]? = some true := ze hr 16 (by simp) (by rw [h.sz]; rfl) (by simp [Region.binds, Array.getD_eq_getD_getElem?, k15])
    have k17 : l[17]? = some true := ze hr 17 (by simp) (by rw [h.sz]; rfl) (by simp [Region.binds, Array.getD_eq_getD_getElem?])
    have k18 : l[18]? = some true := ze hr 18 (by simp) (by rw [h.sz]; rfl) (by simp [Region.binds, Array.getD_eq_getD_getElem?, k16, k17])
    have k19 : l[19]? = some true := ze hr 19 (by simp) (by rw [h.sz]; rfl) (by simp [Region.binds, Array.getD_eq_getD_getElem?, k18])
    have k20 : l[20]? = some true := ze hr 20 (by simp) (by rw [h.sz]; rfl) (by simp [Region.binds, Array.getD_eq_getD_getElem?, k19])
    have k21 : l[21]? = some true := ze hr 21 (by simp) (by rw [h.sz]; rfl) (by simp [Region.binds, Array.getD_eq_getD_getElem?, k14, k20])
    have k22 : l[22]? = some true := ze hr 22 (by simp) (by rw [h.sz]; rfl) (by simp [Region.binds, Array.getD_eq_getD_getElem?, k7, k13, k21])
    have k23 : l[23]? = some true := ze hr 23 (by simp) (by rw [h.sz]; rfl) (by simp [Region.binds, Array.getD_eq_getD_getElem?, k22])
    have k24 : l[24]? = some true := ze hr 24 (by simp) (by rw [h.sz]; rfl) (by simp [Region.binds, Array.getD_eq_getD_getElem?, k1, k23, k21])
    have k25 : l[25]? = some true := ze hr 25 (by simp) (by rw [h.sz]; rfl) (by simp [Region.binds, Array.getD_eq_getD_getElem?, k0, k1, k2, k3, k4, k5, k6, k7, k8, k9, k10, k11, k12, k13, k14, k15, k16, k17, k18, k19, k20, k21, k22, k23, k24])
    have k26 : l[26]? = some true := ze hr 26 (by simp) (by rw [h.sz]; rfl) (by simp [Region.binds, Array.getD_eq_getD_getElem?, k0, k1, k2, k3, k4, k5, k6, k7, k8, k9, k10, k11, k12, k13, k14, k15, k16, k17, k18, k19, k20, k21, k22, k23, k24, k25])
    have hj : j < 27 := by simpa using hj
    rcases (by omega : j = 0 ∨ j = 1 ∨ j = 2 ∨ j = 3 ∨ j = 4 ∨ j = 5 ∨ j = 6 ∨ j = 7 ∨ j = 8 ∨ j = 9 ∨ j = 10 ∨ j = 11 ∨ j = 12 ∨ j = 13 ∨ j = 14 ∨ j = 15 ∨ j = 16 ∨ j = 17 ∨ j = 18 ∨ j = 19 ∨ j = 20 ∨ j = 21 ∨ j = 22 ∨ j = 23 ∨ j = 24 ∨ j = 25 ∨ j = 26) with rfl | rfl | rfl | rfl | rfl | rfl | rfl | rfl | rfl | rfl | rfl | rfl | rfl | rfl | rfl | rfl | rfl | rfl | rfl | rfl | rfl | rfl | rfl | rfl | rfl | rfl | rfl
    all_goals assumption
   case hstep =>
    rintro l a' w' j ⟨x, rfl, h⟩ hi
    have hi2 := hi
    unfold Region.ready at hi2
    rw [List.mem_filter] at hi2
    obtain ⟨hjj, hi3⟩ := hi2
    have hjj : j < 27 := by simpa using hjj
    have hjl : ¬ LL l j := fun e => by
     unfold LL at e
     simp [Array.getD_eq_getD_getElem?, e] at hi3
    clear hi
    rcases (by omega : j = 0 ∨ j = 1 ∨ j = 2 ∨ j = 3 ∨ j = 4 ∨ j = 5 ∨ j = 6 ∨ j = 7 ∨ j = 8 ∨ j = 9 ∨ j = 10 ∨ j = 11 ∨ j = 12 ∨ j = 13 ∨ j = 14 ∨ j = 15 ∨ j = 16 ∨ j = 17 ∨ j = 18 ∨ j = 19 ∨ j = 20 ∨ j = 21 ∨ j = 22 ∨ j = 23 ∨ j = 24 ∨ j = 25 ∨ j = 26) with rfl | rfl | rfl | rfl | rfl | rfl | rfl | rfl | rfl | rfl | rfl | rfl | rfl | rfl | rfl | rfl | rfl | rfl | rfl | rfl | rfl | rfl | rfl | rfl | rfl | rfl | rfl
    ·clear hi3
     have hd : ∀ z ∈ dpC 0, LL l z := fun z hz => by simp [dpC] at hz
     refine wpOp_step rfl (fun K hK => ?_)
     go_simp
     exact hK _ _ ⟨_, by simp [v0], h.read 0 rfl (by omega) hjl hd (v 0) rfl⟩
    ·have l0 : LL l 0 := LL_of (by simp [Region.binds, Array.getD_eq_getD_getElem?] at hi3; simp [hi3])
     clear hi3
     have hd : ∀ z ∈ dpC 1, LL l z := fun z hz => by
      simp only [dpC, List.mem_cons, List.not_mem_nil, or_false] at hz
      rcases hz with rfl
      all_goals assumption
     have n24 : ¬ LL l 24 := fun e => hjl (h.c24 e 1 (by omega))
     obtain ⟨p0, q0, c0, c1, c2⟩ := za HALL
     have hbw := h.bw n24
     have p0 := zv hbw p0
     have q0 := zv hbw q0
     have c0 := zv hbw c0
     have c1 := zv hbw c1
     have c2 := zv hbw c2
     have w0 := (h.val 0 rfl l0).trans v0
     refine wpOp_step rfl (fun K hK => ?_)
     go_simp
     exact hK _ _ ⟨_, by simp [w0, v1], h.read 1 rfl (by omega) hjl hd (v 1) rfl⟩
    ·clear hi3
     have hd : ∀ z ∈ dpC 2, LL l z := fun z hz => by simp [dpC] at hz
     refine wpOp_step rfl (fun K hK => ?_)
     go_simp
     exact hK _ _ ⟨_, by simp [v2], h.read 2 rfl (by omega) hjl hd (v 2) rfl⟩
    ·have l2 : LL l 2 := LL_of (by simp [Region.binds, Array.getD_eq_getD_getElem?] at hi3; simp [hi3])
     clear hi3
     have hd : ∀ z ∈ dpC 3, LL l z := fun z hz => by
      simp only [dpC, List.mem_cons, List.not_mem_nil, or_false] at hz
      rcases hz with rfl
      all_goals assumption
     have n24 : ¬ LL l 24 := fun e => hjl (h.c24 e 3 (by omega))
     obtain ⟨p0, q0, c0, c1, c2⟩ := za HALL
     have hbw := h.bw n24
     have p0 := zv hbw p0
     have q0 := zv hbw q0
     have c0 := zv hbw c0
     have c1 := zv hbw c1
     have c2 := zv hbw c2
     have w2 := (h.val 2 rfl l2).trans v2
     refine wpOp_step rfl (fun K hK => ?_)
     go_simp
     exact hK _ _ ⟨_, by simp [w2, v3], h.read 3 rfl (by omega) hjl hd (v 3) rfl⟩
    ·clear hi3
     have hd : ∀ z ∈ dpC 4, LL l z := fun z hz => by simp [dpC] at hz
     refine wpOp_step rfl (fun K hK => ?_)
     go_simp
     exact hK _ _ ⟨_, by simp [v4], h.read 4 rfl (by omega) hjl hd (v 4) rfl⟩
    ·have l3 : LL l 3 := LL_of (by simp [Region.binds, Array.getD_eq_getD_getElem?] at hi3; simp [hi3])
     have l4 : LL l 4 := LL_of (by simp [Region.binds, Array.getD_eq_getD_getElem?] at hi3; simp [hi3])
     clear hi3
     have hd : ∀ z ∈ dpC 5, LL l z := fun z hz => by
      simp only [dpC, List.mem_cons, List.not_mem_nil, or_false] at hz
      rcases hz with rfl | rfl
      all_goals assumption
     have w3 := (h.val 3 rfl l3).trans v3
     have w4 := (h.val 4 rfl l4).trans v4
     refine wpOp_step rfl (fun K hK => ?_)
     go_simp
     exact hK _ _ ⟨_, by simp [w3, w4, v5], h.read 5 rfl (by omega) hjl hd (v 5) rfl⟩
    ·have l5 : LL l 5 := LL_of (by simp [Region.binds, Array.getD_eq_getD_getElem?] at hi3; simp [hi3])
     clear hi3
     have hd : ∀ z ∈ dpC 6, LL l z := fun z hz => by
      simp only [dpC, List.mem_cons, List.not_mem_nil, or_false] at hz
      rcases hz with rfl
      all_goals assumption
     have w5 := (h.val 5 rfl l5).trans v5
     refine wpOp_step rfl (fun K hK => ?_)
     go_simp
     exact hK _ _ ⟨_, by simp [w5, v6], h.read 6 rfl (by omega) hjl hd (v 6) rfl⟩
    ·have l6 : LL l 6 := LL_of (by simp [Region.binds, Array.getD_eq_getD_getElem?] at hi3; simp [hi3])
     clear hi3
     have hd : ∀ z ∈ dpC 7, LL l z := fun z hz => by
      simp only [dpC, List.mem_cons, List.not_mem_nil, or_false] at hz
      rcases hz with rfl
      all_goals assumption
     have n24 : ¬ LL l 24 := fun e => hjl (h.c24 e 7 (by omega))
     obtain ⟨p0, q0, c0, c1, c2⟩ := za HALL
     have hbw := h.bw n24
     have p0 := zv hbw p0
     have q0 := zv hbw q0
     have c0 := zv hbw c0
     have c1 := zv hbw c1
     have c2 := zv hbw c2
     have w6 := (h.val 6 rfl l6).trans v6
     refine wpOp_step rfl (fun K hK => ?_)
     go_simp
     exact hK _ _ ⟨_, by simp [w6, v7], h.read 7 rfl (by omega) hjl hd (v 7) rfl⟩
    ·clear hi3
     have hd : ∀ z ∈ dpC 8, LL l z := fun z hz => by simp [dpC] at hz
     refine wpOp_step rfl (fun K hK => ?_)
     go_simp
     exact hK _ _ ⟨_, by simp [v8], h.read 8 rfl (by omega) hjl hd (v 8) rfl⟩
    ·have l8 : LL l 8 := LL_of (by simp [Region.binds, Array.getD_eq_getD_getElem?] at hi3; simp [hi3])
     clear hi3
     have hd : ∀ z ∈ dpC 9, LL l z := fun z hz => by
      simp only [dpC, List.mem_cons, List.not_mem_nil, or_false] at hz
      rcases hz with rfl
      all_goals assumption
     have n24 : ¬ LL l 24 := fun e => hjl (h.c24 e 9 (by omega))
     obtain ⟨p0, q0, c0, c1, c2⟩ := za HALL
     have hbw := h.bw n24
     have p0 := zv hbw p0
     have q0 := zv hbw q0
     have c0 := zv hbw c0
     have c1 := zv hbw c1
     have c2 := zv hbw c2
     have w8 := (h.val 8 rfl l8).trans v8
     refine wpOp_step rfl (fun K hK => ?_)
     go_simp
     exact hK _ _ ⟨_, by simp [w8, v9], h.read 9 rfl (by omega) hjl hd (v 9) rfl⟩
    ·clear hi3
     have hd : ∀ z ∈ dpC 10, LL l z := fun z hz => by simp [dpC] at hz
     refine wpOp_step rfl (fun K hK => ?_)
     go_simp
     exact hK _ _ ⟨_, by simp [v10], h.read 10 rfl (by omega) hjl hd (v 10) rfl⟩
    ·have l9 : LL l 9 := LL_of (by simp [Region.binds, Array.getD_eq_getD_getElem?] at hi3; simp [hi3])
     have l10 : LL l 10 := LL_of (by simp [Region.binds, Array.getD_eq_getD_getElem?] at hi3; simp [hi3])
     clear hi3
     have hd : ∀ z ∈ dpC 11, LL l z := fun z hz => by
      simp only [dpC, List.mem_cons, List.not_mem_nil, or_false] at hz
      rcases hz with rfl | rfl
      all_goals assumption
     have w9 := (h.val 9 rfl l9).trans v9
     have w10 := (h.val 10 rfl l10).trans v10
     refine wpOp_step rfl (fun K hK => ?_)
     go_simp
     exact hK _ _ ⟨_, by simp [w9, w10, v11], h.read 11 rfl (by omega) hjl hd (v 11) rfl⟩
    ·have l11 : LL l 11 := LL_of (by simp [Region.binds, Array.getD_eq_getD_getElem?] at hi3; simp [hi3])
     clear hi3
     have hd : ∀ z ∈ dpC 12, LL l z := fun z hz => by
      simp only [dpC, List.mem_cons, List.not_mem_nil, or_false] at hz
      rcases hz with rfl
      all_goals assumption
     have w11 := (h.val 11 rfl l11).trans v11
     refine wpOp_step rfl (fun K hK => ?_)
     go_simp
     exact hK _ _ ⟨_, by simp [w11, v12], h.read 12 rfl (by omega) hjl hd (v 12) rfl⟩
    ·have l12 : LL l 12 := LL_of (by simp [Region.binds, Array.getD_eq_getD_getElem?] at hi3; simp [hi3])
     clear hi3
     have hd : ∀ z ∈ dpC 13, LL l z := fun z hz => by
      simp only [dpC, List.mem_cons, List.not_mem_nil, or_false] at hz
      rcases hz with rfl
      all_goals assumption
     have n24 : ¬ LL l 24 := fun e => hjl (h.c24 e 13 (by omega))
     obtain ⟨p0, q0, c0, c1, c2⟩ := za HALL
     have hbw := h.bw n24
     have p0 := zv hbw p0
     have q0 := zv hbw q0
     have c0 := zv hbw c0
     have c1 := zv hbw c1
     have c2 := zv hbw c2
     have w12 := (h.val 12 rfl l12).trans v12
     refine wpOp_step rfl (fun K hK => ?_)
     go_simp
     exact hK _ _ ⟨_, by simp [w12, v13], h.read 13 rfl (by omega) hjl hd (v 13) rfl⟩
    ·clear hi3
     have hd : ∀ z ∈ dpC 14, LL l z := fun z hz => by simp [dpC] at hz
     refine wpOp_step rfl (fun K hK => ?_)
     go_simp
     exact hK _ _ ⟨_, by simp, h.s14 hjl hd⟩
    ·clear hi3
     have hd : ∀ z ∈ dpC 15, LL l z := fun z hz => by simp [dpC] at hz
     refine wpOp_step rfl (fun K hK => ?_)
     go_simp
     exact hK _ _ ⟨_, by simp [v15], h.read 15 rfl (by omega) hjl hd (v 15) rfl⟩
    ·have l15 : LL l 15 := LL_of (by simp [Region.binds, Array.getD_eq_getD_getElem?] at hi3; simp [hi3])
     clear hi3
     have hd : ∀ z ∈ dpC 16, LL l z := fun z hz => by
      simp only [dpC, List.mem_cons, List.not_mem_nil, or_false] at hz
      rcases hz with rfl
      all_goals assumption
     have n24 : ¬ LL l 24 := fun e => hjl (h.c24 e 16 (by omega))
     obtain ⟨p0, q0, c0, c1, c2⟩ := za HALL
     have hbw := h.bw n24
     have p0 := zv hbw p0
     have q0 := zv hbw q0
     have c0 := zv hbw c0
     have c1 := zv hbw c1
     have c2 := zv hbw c2
     have w15 := (h.val 15 rfl l15).trans v15
     refine wpOp_step rfl (fun K hK => ?_)
     go_simp
     exact hK _ _ ⟨_, by simp [w15, v16], h.read 16 rfl (by omega) hjl hd (v 16) rfl⟩
    ·clear hi3
     have hd : ∀ z ∈ dpC 17, LL l z := fun z hz => by simp [dpC] at hz
     refine wpOp_step rfl (fun K hK => ?_)
     go_simp
     exact hK _ _ ⟨_, by simp [v17], h.read 17 rfl (by omega) hjl hd (v 17) rfl⟩
    ·have l16 : LL l 16 := LL_of (by simp [Region.binds, Array.getD_eq_getD_getElem?] at hi3; simp [hi3])
     have l17 : LL l 17 := LL_of (by simp [Region.binds, Array.getD_eq_getD_getElem?] at hi3; simp [hi3])
     clear hi3
     have hd : ∀ z ∈ dpC 18, LL l z := fun z hz => by
      simp only [dpC, List.mem_cons, List.not_mem_nil, or_false] at hz
      rcases hz with rfl | rfl
      all_goals assumption
     have w16 := (h.val 16 rfl l16).trans v16
     have w17 := (h.val 17 rfl l17).trans v17
     refine wpOp_step rfl (fun K hK => ?_)
     go_simp
     exact hK _ _ ⟨_, by simp [w16, w17, v18], h.read 18 rfl (by omega) hjl hd (v 18) rfl⟩
    ·have l18 : LL l 18 := LL_of (by simp [Region.binds, Array.getD_eq_getD_getElem?] at hi3; simp [hi3])
     clear hi3
     have hd : ∀ z ∈ dpC 19, LL l z := fun z hz => by
      simp only [dpC, List.mem_cons, List.not_mem_nil, or_false] at hz
      rcases hz with rfl
      all_goals assumption
     have w18 := (h.val 18 rfl l18).trans v18
     refine wpOp_step rfl (fun K hK => ?_)
     go_simp
     exact hK _ _ ⟨_, by simp [w18, v19], h.read 19 rfl (by omega) hjl hd (v 19) rfl⟩
    ·have l19 : LL l 19 := LL_of (by simp [Region.binds, Array.getD_eq_getD_getElem?] at hi3; simp [hi3])
     clear hi3
     have hd : ∀ z ∈ dpC 20, LL l z := fun z hz => by
      simp only [dpC, List.mem_cons, List.not_mem_nil, or_false] at hz
      rcases hz with rfl
      all_goals assumption
     have n24 : ¬ LL l 24 := fun e => hjl (h.c24 e 20 (by omega))
     obtain ⟨p0, q0, c0, c1, c2⟩ := za HALL
     have hbw := h.bw n24
     have p0 := zv hbw p0
     have q0 := zv hbw q0
     have c0 := zv hbw c0
     have c1 := zv hbw c1
     have c2 := zv hbw c2
     have w19 := (h.val 19 rfl l19).trans v19
     refine wpOp_step rfl (fun K hK => ?_)
     go_simp
     exact hK _ _ ⟨_, by simp [w19, v20], h.read 20 rfl (by omega) hjl hd (v 20) rfl⟩
    ·have l14 : LL l 14 := LL_of (by simp [Region.binds, Array.getD_eq_getD_getElem?] at hi3; simp [hi3])
     have l20 : LL l 20 := LL_of (by simp [Region.binds, Array.getD_eq_getD_getElem?] at hi3; simp [hi3])
     clear hi3
     have hd : ∀ z ∈ dpC 21, LL l z := fun z hz => by
      simp only [dpC, List.mem_cons, List.not_mem_nil, or_false] at hz
      rcases hz with rfl | rfl
      all_goals assumption
     have n24 : ¬ LL l 24 := fun e => hjl (h.c24 e 21 (by omega))
     have hbw := h.bw n24
     have w20 := (h.val 20 rfl l20).trans v20
     obtain ⟨⟨g, e14⟩, hk0⟩ := h.k0 l14 hjl
     rw [e14] at hk0
     refine wpOp_step rfl (fun K hK => ?_)
     refine zG rfl _ _ rfl wr.heap.size (.slice (some ⟨g, 0, none⟩) 0 0) (.slice ka nd.2.2.length kc) [] nd.2.2 (by exact e14) (by exact w20) hk0 ((za HK).below hbw) (by simp only [List.length_nil]; omega) hbw.size (some 38) rfl ?_
     intro v6 w6 hr6 hg6 _
     obtain ⟨ra', rc', rfl⟩ := qZ hr6
     exact hK _ _ ⟨_, by simp [Act.put, e14, w20], h.s21 hjl hd l14 hr6 (by rw [e14]; exact hg6)⟩
    ·have l7 : LL l 7 := LL_of (by simp [Region.binds, Array.getD_eq_getD_getElem?] at hi3; simp [hi3])
     have l13 : LL l 13 := LL_of (by simp [Region.binds, Array.getD_eq_getD_getElem?] at hi3; simp [hi3])
     have l21 : LL l 21 := LL_of (by simp [Region.binds, Array.getD_eq_getD_getElem?] at hi3; simp [hi3])
     clear hi3
     have hd : ∀ z ∈ dpC 22, LL l z := fun z hz => by
      simp only [dpC, List.mem_cons, List.not_mem_nil, or_false] at hz
      rcases hz with rfl | rfl | rfl
      all_goals assumption
     have w7 := (h.val 7 rfl l7).trans v7
     have w13 := (h.val 13 rfl l13).trans v13
     obtain ⟨ga, gc, e21⟩ := h.k1 l21
     refine wpOp_step rfl (fun K hK => ?_)
     go_simp
     exact hK _ _ ⟨_, (by simp [w7, w13, e21]; try exact e21.symm), h.s22 hjl hd l21 (.agg #[.int .i64 nd.1, .string (B nd.2.1), x 21]) rfl⟩
    ·have l22 : LL l 22 := LL_of (by simp [Region.binds, Array.getD_eq_getD_getElem?] at hi3; simp [hi3])
     clear hi3
     have hd : ∀ z ∈ dpC 23, LL l z := fun z hz => by
      simp only [dpC, List.mem_cons, List.not_mem_nil, or_false] at hz
      rcases hz with rfl
      all_goals assumption
     have e22 := h.a1 l22
     obtain ⟨ga, gc, e21⟩ := h.k1 (h.c22 l22)
     have hs := h.s23 hjl hd l22
     rw [e21] at hs e22
     have HSS := hide hs
     clear hs
     refine wpOp_step rfl (fun K hK => ?_)
     go_simp
     exact hK _ _ ⟨_, by simp [e22, e21], za HSS⟩
    ·have l1 : LL l 1 := LL_of (by simp [Region.binds, Array.getD_eq_getD_getElem?] at hi3; simp [hi3])
     have l23 : LL l 23 := LL_of (by simp [Region.binds, Array.getD_eq_getD_getElem?] at hi3; simp [hi3])
     clear hi3
     have hd : ∀ z ∈ dpC 24, LL l z := fun z hz => by
      simp only [dpC, List.mem_cons, List.not_mem_nil, or_false] at hz
      rcases hz with rfl | rfl
      all_goals assumption
     have w1 := (h.val 1 rfl l1).trans v1
     have hall := h.all l1 l23
     obtain ⟨g, e23, hg⟩ := h.n1 l23 hjl
     have hbw := h.bw hjl
     have hro := zr (za HRN).2.1 hbw
     rw [hlk] at hro
     obtain ⟨ga, gc, e21⟩ := h.k1 (hall 21 (by omega))
     refine wpOp_step rfl (fun K hK => ?_)
     refine step_append_lies _ rfl _ _ _ rfl (V.heap.size + 1) 56 j0 (.agg #[.int .i64 0, .string ⟨#[]⟩, .slice none 0 0]) 3 48 Tryz.underlying23 hj hy0 hy1 hy2 rfl (by decide) (.slice ma k mc) k (flatN (ns.take k) kvs) (by exact w1) hro ⟨g, 0, none⟩ 1 1 (nd3 nd (x 21)) (by exact e23) rfl (World.news_of_block hg) (by intro u hu; simp [nd3] at hu; rcases hu with rfl | rfl | rfl <;> simp [Value.oneCell', e21]) (by decide) (by unfold maxLen; omega) (by omega) (by have := hbw.size; omega) w'.heap.size rfl ?_
     intro gg cap w9 hown9 hgrow9 _ _
     have hn := h.s24 hjl hd hall htl (za HBL) (za HA) (za HRN) (a := some ⟨gg, 0, none⟩) (c := cap) hvl (by rw [hlk]; exact hown9) hgrow9
     rw [hlk] at hn
     exact hK _ _ ⟨_, by simp [Act.put, w1, e23], hn⟩
    ·clear hi3
     have hd : ∀ z ∈ dpC 25, LL l z := fun z hz => by simp [dpC] at hz
     refine wpOp_step rfl (fun K hK => ?_)
     go_simp
     exact hK _ _ ⟨_, by simp [v25], h.read 25 rfl (by omega) hjl hd (v 25) rfl⟩
    ·have l24 : LL l 24 := LL_of (by simp [Region.binds, Array.getD_eq_getD_getElem?] at hi3; simp [hi3])
     have l25 : LL l 25 := LL_of (by simp [Region.binds, Array.getD_eq_getD_getElem?] at hi3; simp [hi3])
     clear hi3
     have hd : ∀ z ∈ dpC 26, LL l z := fun z hz => by simp [dpC] at hz
     have w25 := (h.val 25 rfl l25).trans v25
     obtain ⟨ga, gc, e24⟩ := h.m1 l24
     have hA := h.b1 l24 hjl
     have a0 := hA.n0
     have f0 := hA.f 0
     have hs := h.s26 hjl hd l24
     rw [e24] at hs
     rw [hlk] at hs e24
     have HSS := hide hs
     clear hs hA
     refine wpOp_step rfl (fun K hK => ?_)
     go_simp
     exact hK _ _ ⟨x, by simp [w25, e24], za HSS⟩
   case hend =>
    rintro l a' w' ⟨x, rfl, h⟩ hall
    have l24 : LL l 24 := hall 24 (by decide)
    have l26 : LL l 26 := hall 26 (by decide)
    obtain ⟨hb2, hr2⟩ := h.m2 l24
    have htk : ns.take k ++ [nd] = ns.take (k + 1) := by rw [List.take_add_one, hnd]; rfl
    rw [htk] at hr2
    have HA2 := hide (h.b2 l26)
    have HR2 := hide hr2
    have HB2 := hide hb2
    clear hb2 hr2 htk l24 l26 h hall
    go_wp2_with fail
    go_roundw
    case rel => exact ⟨k + 1, x 24, kvs ++ [x 21], by omega, by go_num, za HB2, HA2, HR2⟩
    case measure => simp [intOf]; omega
  ·obtain rfl : k = ns.length := by omega
   have hq := (za HQV).below hbl
   have hvl : V.heap.size < wr.heap.size := (za HA).lt
   have hwv : w.heap.size + 1 < V.heap.size := (za HQV).lt
   have hX := (hq.st0 (.slice ma ns.length mc)).st1 (.slice rb rs.length rc)
   have z0 := hX.n0
   have z1 := hX.n1
   have hrn := za HRN
   rw [List.take_of_length_le (Nat.le_refl _)] at hrn
   have hN := ((hrn.far' (a := ⟨w.heap.size + 1, 0, none⟩) (by show w.heap.size + 1 < _; omega) (.slice ma ns.length mc)).far' (a := ⟨w.heap.size + 1, 1, none⟩) (by show w.heap.size + 1 < _; omega) (.slice rb rs.length rc)).base (base' := w.heap.size) (by omega)
   have hR := zK (base' := w.heap.size) (ownsRow_setCell_below (ownsRow_setCell_below (zr (za HRV) hbl) (a := ⟨w.heap.size + 1, 0, none⟩) (by show w.heap.size + 1 < _; omega) (.slice ma ns.length mc)) (a := ⟨w.heap.size + 1, 1, none⟩) (by show w.heap.size + 1 < _; omega) (.slice rb rs.length rc)) (by omega)
   have HE := hide (((zj (za HBV) hbl).setCell (p := ⟨w.heap.size + 1, 0, none⟩) (by show w.heap.size ≤ w.heap.size + 1; omega) (.slice ma ns.length mc)).setCell (p := ⟨w.heap.size + 1, 1, none⟩) (by show w.heap.size ≤ w.heap.size + 1; omega) (.slice rb rs.length rc))
   have HNN := hide hN
   have HRR := hide hR
   have e0 := hq.n0
   have e1 := hq.n1
   have ef := hq.f
   clear hX hrn hN hR hq hbl hwv hvl
   go_wp2_with fail
   refine bodyPost_ret (v := .agg #[.slice ma ns.length mc, .slice rb rs.length rc]) (by simp [results, Tryz.results30, go_sem, z0, z1]) rfl ⟨⟨_, _, _, _, _, rfl, za HNN, za HRR⟩, za HE⟩
theorem KX (d : Dt) (u : Value) (w : World) (h : DataAt w u d) (hs : d.1.length ≤ 1000 ∧ d.2.length ≤ 1000 ∧ zM d.1) :
  Calls Tryz.prog 30 #[u] w fun e W' => (∃ ma mc rb rc, e = .returned (.agg #[.slice ma d.1.length mc, .slice rb d.2.length rc]) ∧ DataAt W' (.agg #[.slice ma d.1.length mc, .slice rb d.2.length rc]) d) ∧ Below w.heap.size w W' := by
 refine (Qa d u w h hs).mono ?_
 rintro e W' ⟨⟨ma, mc, rb, rc, kvs, rfl, hn, hr⟩, hb⟩
 exact ⟨⟨ma, mc, rb, rc, rfl, _, _, rfl, hn.at, qD hr⟩, hb⟩
theorem SI.of_row {w : World} {base : Nat} {v : Value} {xs : List Int} (h : RowI w base v xs) : SI w base v xs.length := by
 rcases h.2 with ⟨rfl, h0⟩ | ⟨g, cap, cur, rfl, hb, hg, h1, h2, h3, h4⟩
 ·exact .inl ⟨rfl, h0⟩
 ·refine .inr ⟨g, cap, rfl, hb, h1, h2, cur, hg, h3, fun j u hj hu => ?_⟩
  have e : (cur.toList.take (xs.length * 1))[j]? = some u := by rw [List.getElem?_take, if_pos hj, Array.getElem?_toList]; exact hu
  rw [h4, Yb] at e
  obtain ⟨x, _, rfl⟩ := Option.map_eq_some_iff.1 e
  exact ⟨x, rfl⟩
theorem SN.of_row {K : Nat} {w : World} {base : Nat} {v : Value} {ns : List Nd} {kvs : List Value} (h : RowN w base v ns kvs) (hK : ∀ nd ∈ ns, nd.2.1.length ≤ K ∧ nd.2.2.length ≤ K) : SN K w base v ns.length := by
 obtain ⟨hl, hr, hk⟩ := h
 rcases hr.2 with ⟨rfl, h0⟩ | ⟨g, cap, cur, rfl, hb, hg, h1, h2, h3, h4⟩
 ·exact .inl ⟨rfl, h0⟩
 ·refine .inr ⟨g, cap, rfl, hb, h1, h2, cur, hg, h3, fun j u hj hu => ?_⟩
  have e : (cur.toList.take (ns.length * 3))[j]? = some u := by rw [List.getElem?_take, if_pos hj, Array.getElem?_toList]; exact hu
  rw [h4] at e
  have hi : j / 3 < ns.length := by omega
  have e1 : ns[j / 3]? = some (ns[j / 3]'hi) := List.getElem?_eq_getElem _
  have e2 : kvs[j / 3]? = some (kvs[j / 3]'(by omega)) := List.getElem?_eq_getElem _
  obtain ⟨f0, f1, f2⟩ := Qz e1 e2
  obtain ⟨hl2, ho⟩ := hk _ _ _ e1 e2
  have hm := hK _ (List.getElem_mem hi)
  refine ⟨fun h => ?_, fun h => ?_, fun h => ?_⟩
  ·rw [show j / 3 * 3 = j by omega, e] at f0
   exact ⟨_, Option.some.inj f0⟩
  ·rw [show j / 3 * 3 + 1 = j by omega, e] at f1
   exact ⟨_, Option.some.inj f1, by rw [zi]; exact hm.1⟩
  ·rw [show j / 3 * 3 + 2 = j by omega, e] at f2
   refine ⟨_, hm.2, ?_⟩
   rw [Option.some.inj f2]
   exact SI.of_row ho
theorem SN.wide {K K' : Nat} {w : World} {base : Nat} {v : Value} {n : Nat} (h : SN K w base v n) (hK : K ≤ K') : SN K' w base v n := by
 rcases h with h | ⟨g, c, rfl, h1, h2, h3, h4⟩
 ·exact .inl h
 ·exact .inr ⟨g, c, rfl, h1, h2, h3, h4.map fun j u q => ⟨q.1, fun e => by obtain ⟨s, hs, hl⟩ := q.2.1 e; exact ⟨s, hs, by omega⟩, fun e => by obtain ⟨k, hk, hs⟩ := q.2.2 e; exact ⟨k, by omega, hs⟩⟩⟩
theorem SN.node {K : Nat} {w : World} {base : Nat} {a : Option Addr} {n c : Nat} (h : SN K w base (.slice a n c) n) {k : Nat} (hk : k < n) : ∃ g, a = some ⟨g, 0, none⟩ ∧ base ≤ g ∧ BN K w base g c n ∧ (∀ j, w.frozen? ⟨g, j, none⟩ = false) ∧
  ∃ x s ka kc kl, w.cell? ⟨g, k * 3, none⟩ = some (.int .i64 x) ∧ w.cell? ⟨g, k * 3 + 1, none⟩ = some (.string s) ∧ w.cell? ⟨g, k * 3 + 2, none⟩ = some (.slice ka kl kc) ∧ s.size ≤ K ∧ kl ≤ K ∧ SI w base (.slice ka kl kc) kl := by
 rcases h with ⟨e, e0⟩ | ⟨g, c', e, h1, h2, h3, h4⟩
 ·omega
 ·cases e
  refine ⟨g, rfl, h1, h4, h4.frozen, ?_⟩
  obtain ⟨u0, c0, q0⟩ := h4.cell h2 (j := k * 3) (by omega)
  obtain ⟨u1, c1, q1⟩ := h4.cell h2 (j := k * 3 + 1) (by omega)
  obtain ⟨u2, c2, q2⟩ := h4.cell h2 (j := k * 3 + 2) (by omega)
  obtain ⟨x, rfl⟩ := q0.1 (by omega)
  obtain ⟨s, rfl, hs⟩ := q1.2.1 (by omega)
  obtain ⟨m, hm, hk⟩ := q2.2.2 (by omega)
  obtain ⟨ka, kc, rfl, _, _⟩ := hk.form
  exact ⟨x, s, ka, kc, m, c0, c1, c2, hs, hm, hk⟩
def SpR (g B b q n cap : Nat) (a : Option Addr) (W0 wx : World) : Prop := ∃ (nv rv : Value) (k m p' : Nat), p' ≤ q ∧ 1 ≤ k ∧ k ≤ 200 ∧ m ≤ 200 ∧ DSt 1001 g B b W0 nv rv k m wx ∧ Rd wx g p' a n cap
theorem YY {P : Program} {c : Code} {Q : Exit → Act → World → Prop} {a : Act} {w : World} (R : Act → World → Prop) (first : ∀ K' : Act → World → Prop, (∀ a' w', R a' w' → K' a' w') → c.wp P (Exit.then K' Q) a w)
  (rest : ∀ a' w', R a' w' → Q .normal a' w') : c.wp P Q a w := by
 refine wp_mono (first R (fun _ _ h => h)) ?_
 intro e a' w' hq
 cases e with
 | normal => exact rest _ _ hq
 | exit id => exact hq
 | goto l => exact hq
 | ret => exact hq
 | panic ch => exact hq
 | outgrown => exact hq
def DtOut (B : Nat) (e : Ending) (w' : World) : Prop := ∃ nv rv k m, e = .returned (.agg #[nv, rv]) ∧ 1 ≤ k ∧ k ≤ 200 ∧ m ≤ 200 ∧ SN 1001 w' B nv k ∧ SI w' B rv m
theorem Y8 {w w' : World} {g z : Nat} {cs : Array Value} {T : TypeId} {v : Value} (k : Keeps g (w.alloc (.cells cs T)).drew w') (hg : w.heap.size ≠ g) (hv : cs[z]? = some v) : w'.cell? ⟨w.heap.size, z, none⟩ = some v := by
 rw [k.cell (p := ⟨w.heap.size, z, none⟩) (by simp) hg]
 simp only [World.cell?]
 rw [show (w.alloc (.cells cs T)).drew.heap[w.heap.size]? = _ from heap_alloc_new w _]
 exact hv
theorem Keeps.cell_of {g : Nat} {w w' : World} {a : Addr} {v : Value} (k : Keeps g w w') (h : w.cell? a = some v) (hg : a.block ≠ g) : w'.cell? a = some v := (k.cell (World.block_lt_of_cell? _ _ h) hg).trans h
theorem vD {w w' : World} (k : Below w.heap.size w w') {a : Addr} {v : Value} (h : w.cell? a = some v) : w'.cell? a = some v := (k.cell (World.block_lt_of_cell? _ _ h)).trans h
theorem kQ (w : World) {z : Nat} {cs : Array Value} {T : TypeId} {v : Value} (hv : cs[z]? = some v) : (w.alloc (.cells cs T)).cell? ⟨w.heap.size, z, none⟩ = some v := by
 simp only [World.cell?]
 rw [heap_alloc_new w _]
 exact hv
theorem Kg (w : World) (o : Obj) (y : Int) : ((w.alloc o).alloc (.cells #[.int .i64 y] 3)).cell? ⟨w.heap.size + 1, 0, none⟩ = some (.int .i64 y) := by
 have h := kQ (w.alloc o) (cs := #[.int .i64 y]) (T := 3) (z := 0) (v := .int .i64 y) rfl
 rw [World.size_alloc] at h
 exact h
def lenC (w : World) (b j : Nat) : Nat := match w.cell? ⟨b, j, none⟩ with
 | some (.slice _ n _) => n
 | _ => 0
theorem xR {w : World} {b j n c : Nat} {a : Option Addr} (h : w.cell? ⟨b, j, none⟩ = some (.slice a n c)) : lenC w b j = n := by unfold lenC; rw [h]
theorem Zg (g p n cap : Nat) (a : Option Addr) (d : Dt) (u : Value) (w : World) (h : Rd w g p a n cap) (hp : p ≤ 500000000) (hd : DataAt w u d) (h1 : 1 ≤ d.1.length ∧ d.1.length ≤ 80) (h2 : d.2.length ≤ 20) (hK : ∀ nd ∈ d.1, nd.2.1.length ≤ 1000 ∧ nd.2.2.length ≤ 1000) :
  Calls Tryz.prog 85 #[.pointer (some ⟨g, 0, none⟩), u] w fun e w' => DtOut w.heap.size e w' ∧ Drawn w g p n cap a 10 w' := by
 have HDT := hide hd
 obtain ⟨nv0, rv0, rfl, hn0, hr0⟩ := hd
 obtain ⟨na0, nc0, rfl, _, _⟩ := hn0.form0
 obtain ⟨ra0, rc0, rfl, _, _⟩ := hr0.form
 have hlt := h.lt
 have Hlt := hide hlt
 obtain ⟨ln, hln⟩ : ∃ x, d.1.length = x := ⟨_, rfl⟩
 obtain ⟨lr, hlr⟩ : ∃ x, d.2.length = x := ⟨_, rfl⟩
 rw [hln, hlr] at HDT ⊢
 have HLN := hide hln
 have HLR := hide hlr
 have HKK := hide hK
 rw [hln] at h1
 rw [hlr] at h2
 clear hn0 hr0 hln hlr hK
 have HKW0 := hide (((Keeps.refl g w).alloc (.cells #[.slice na0 ln nc0, .slice ra0 lr rc0] 26)).alloc (.cells #[.slice none 0 0, .slice none 0 0] 26))
 have HB0 := hide (zf (zf (Below.refl w.heap.size w) (.cells #[.slice na0 ln nc0, .slice ra0 lr rc0] 26)) (.cells #[.slice none 0 0, .slice none 0 0] 26))
 have HA0 := hide (AtC2.new (w.alloc (.cells #[.slice na0 ln nc0, .slice ra0 lr rc0] 26)) (.slice none 0 0) (.slice none 0 0) 26)
 have HA3 := hide ((AtC2.new w (.slice na0 ln nc0) (.slice ra0 lr rc0) 26).alloc (.cells #[.slice none 0 0, .slice none 0 0] 26))
 rw [World.size_alloc] at HA0
 have HR := hide h
 clear h
 go_enter Tryz.func85, Tryz.ntmps85
 go_wp2_with fail
 obtain ⟨W0, hW0⟩ : ∃ W0, (w.alloc (.cells #[.slice na0 ln nc0, .slice ra0 lr rc0] 26)).alloc (.cells #[.slice none 0 0, .slice none 0 0] 26) = W0 := ⟨_, rfl⟩
 have hz0 : W0.heap.size = w.heap.size + 2 := by rw [← hW0]; simp
 have HR0 : Hid (Rd W0 g p a n cap) := hide (by rw [← hW0]; exact ((za HR).alloc _).alloc _)
 rw [hW0] at HKW0 HB0 HA0 HA3 ⊢
 have HKW := HKW0
 have HA := HA0
 clear hW0 HKW0 HA0 HR
 refine (Qa d _ W0 ((za HDT).below (za HB0)) ⟨by rw [za HLN]; omega, by rw [za HLR]; omega, fun nd hnd => by have := za HKK nd hnd; omega⟩).mono ?_
 rintro e w1 ⟨⟨ma, mc, rb, rc, kvs, rfl, hn1, hr1⟩, hb1⟩
 rw [za HLN, za HLR]
 have hsn := SN.of_row (K := 1001) hn1 (fun nd hnd => by have := za HKK nd hnd; omega)
 have hsi := SI.of_row hr1
 have hsn0 := SN.of_row (K := 1000) hn1 (fun nd hnd => za HKK nd hnd)
 rw [za HLN] at hsn hsn0
 rw [za HLR] at hsi
 obtain ⟨B, hB⟩ : ∃ B, W0.heap.size = B := ⟨_, rfl⟩
 have HBW : Hid (w.heap.size ≤ B) := hide (by omega)
 have HBE : Hid (W0.heap.size = B) := hide hB
 obtain ⟨b, hbb⟩ : ∃ b, w1.heap.size = b := ⟨_, rfl⟩
 have HD1 : Hid (DSt 1001 g B b W0 (.slice ma ln mc) (.slice rb lr rc) ln lr (w1.alloc (.cells #[.slice ma ln mc, .slice rb lr rc] 26))) := hide (by
  have hsz := hb1.size
  rw [hB] at hsn hsi
  subst hbb
  exact ⟨AtC2.new w1 _ _ _, hsn.ty (Ty.below (zf (Below.refl _ _) _)), hsi.ty (Ty.below (K := 1001) (zf (Below.refl _ _) _)), Keeps.of_below (zf hb1 _), by omega, by omega, by omega, by omega, by simp; omega⟩)
 have HT1 : Hid (SN 1000 (w1.alloc (.cells #[.slice ma ln mc, .slice rb lr rc] 26)) B (.slice ma ln mc) ln) := hide (by rw [hB] at hsn0; exact hsn0.ty (Ty.below (zf (Below.refl _ _) _)))
 have HR1 := hide (((za HR0).keep hb1).alloc (.cells #[.slice ma ln mc, .slice rb lr rc] 26))
 clear hsn hsn0 hsi hn1 hr1 hb1 HA3 HDT HB0 HKK HR0 hz0 hB
 have a0 := (za HD1).box.n0
 go_wp2_with fail
 clear hbb a0
 refine (zX g p n cap a (ln : Int) _ (za HR1) (by omega) (by omega)).mono ?_
 rintro e w2 ⟨⟨k, rfl, hk⟩, ⟨p2, hp2, hr2⟩, hk2⟩
 have hkl : k < ln := by rcases hk with h | h <;> omega
 have HR2 := hide hr2
 have HD2 := hide ((za HD1).keeps hk2)
 have HT2 := hide ((za HT1).ty (Ty.keeps (K := 1000) hk2 (za HD1).low.2.2.1))
 clear hr2 hk2 hk
 go_wp2_with fail
 refine (zX g p2 n cap a 6 _ (za HR2) (by omega) (by omega)).mono ?_
 rintro e w3 ⟨⟨i, rfl, hi⟩, ⟨p3, hp3, hr3⟩, hk3⟩
 have hi6 : i < 6 := by rcases hi with h | h <;> omega
 have HR3 := hide hr3
 have HD3 := hide ((za HD2).keeps hk3)
 have HT3 := hide ((za HT2).ty (Ty.keeps (K := 1000) hk3 (za HD2).low.2.2.1))
 have HLOW := hide (za HD3).low
 clear hr3 hk3 hi HR1 HD1 HR2 HD2 HT1 HT2
 have hcs : i = 0 ∨ i = 1 ∨ i = 2 ∨ i = 3 ∨ i = 4 ∨ i = 5 := by omega
 rcases hcs with rfl | rfl | rfl | rfl | rfl | rfl
 ·
  have HBB : Hid (B ≤ b) := hide (Nat.le_trans (Nat.le_of_eq (za HBE).symm) (za HLOW).2.1)
  have HR3T := hide ((za HR3).alloc (.cells #[.int .i64 (-1), .int .i64 (ln : Int)] 3))
  have a0 := (za HD3).box.n0
  have a1 := (za HD3).box.n1
  have a1t := ((za HD3).alloc (.cells #[.int .i64 (-1), .int .i64 (ln : Int)] 3)).box.n1
  have hne3 : w3.heap.size ≠ g := by have := za HLOW; omega
  go_upto_region 8 with fail
  obtain ⟨R, hR⟩ : ∃ R : Act → World → Prop, R = fun a' wx => (∃ u33 u34 u35 u36 u37 u38 u39 u40 u41 u42 u43 u44 u45 : Value, a' = ⟨#[.pointer (some ⟨g, 0, none⟩), .agg #[.slice na0 ln nc0, .slice ra0 lr rc0], undef, .pointer (some ⟨w.heap.size, 0, none⟩), .pointer (some ⟨w.heap.size + 1, 0, none⟩), .pointer (some ⟨b, 0, none⟩), .int .i64 (k : Int), undef, undef, .agg #[.slice na0 ln nc0, .slice ra0 lr rc0], .agg #[.slice ma ln mc, .slice rb lr rc], .pointer (some ⟨g, 0, none⟩), .pointer (some ⟨b, 0, none⟩), .slice ma ln mc, .int .i64 (ln : Int), .int .i64 (k : Int), .pointer (some ⟨g, 0, none⟩), .int .i64 0, undef, undef, undef, undef, undef, undef, undef, undef, undef, undef, undef, undef, undef, .bool true, .bool true, u33, u34, u35, u36, u37, u38, u39, u40, u41, u42, u43, u44, u45, undef, undef, undef, undef, undef, undef, undef, undef, undef, undef, undef, undef, undef, undef, undef, undef, undef, undef, undef, undef, undef, undef, undef, undef, undef, undef, undef, undef, undef, undef, undef, undef, undef, undef, undef, undef, undef, undef, undef, undef, undef, undef, undef, undef, undef, undef, undef, undef, undef, undef, undef, undef, undef, undef, undef, undef, undef, undef, undef], []⟩) ∧ SpR g B b (p + 10) n cap a W0 wx := ⟨_, rfl⟩
  have HR9 := hide hR
  clear hR
  refine YY R ?_ ?_
  ·intro K9 hK9
   have HQ := hide hK9
   clear hK9
   go_region_law (first | ((refine qX (by rfl) _ _ (by rfl) 1001 B (.slice rb lr rc) lr (w5.heap.size + 1) y (by rfl) (by rfl) (by with_reducible exact (za HDTY).roots) (by with_reducible exact qTY) (by omega) (by with_reducible exact (za HDTY).low.2.2.2.2) (some 44) (by rfl) ?_; intro g6 c6 w6 hs6 hg6; have HS6 := hide hs6; have HG6 := hide hg6; have HDX := HDTY; have HRX := HRTY; have f2 := ((za HDTY).box.gr hg6 (by decide)).n1; have f3 := ((za HDTY).box.gr hg6 (by decide)).f; clear hs6 hg6)) | ((refine qX (by rfl) _ _ (by rfl) 1001 B (.slice rb lr rc) lr w5.heap.size y (by rfl) (by rfl) (by with_reducible exact (za HDY).roots) (by with_reducible exact qY) (by omega) (by with_reducible exact (za HDY).low.2.2.2.2) (some 44) (by rfl) ?_; intro g6 c6 w6 hs6 hg6; have HS6 := hide hs6; have HG6 := hide hg6; have HDX := HDY; have HRX := HRY; have f2 := ((za HDY).box.gr hg6 (by decide)).n1; have f3 := ((za HDY).box.gr hg6 (by decide)).f; clear hs6 hg6)) | (go_simp; go_at_call 27; refine (zX g p3 n cap a 2 _ (by first | exact (za HR3).drew | exact (za HR3T).drew) (by omega) (by omega)).mono ?_; rintro e w5 ⟨⟨z, rfl, hz⟩, ⟨p5, hp5, hr5⟩, hk5⟩; have hz2 : z < 2 := (by rcases hz with h | h <;> omega); have hz3 : (z : Int) < 2 := (by omega); obtain ⟨y, hy⟩ : ∃ y : Int, (#[.int .i64 (-1), .int .i64 (ln : Int)] : Array Value)[z]? = some (.int .i64 y) := (by rcases (show z = 0 ∨ z = 1 by omega) with rfl | rfl <;> exact ⟨_, rfl⟩); have tA := (by first | exact (Y8 hk5 hne3 hy) | exact True.intro : _); have hk5 : Keeps g w3 w5 := (by first | exact (Keeps.refl g w3).drew.trans hk5 | exact ((Keeps.refl g w3).alloc (.cells #[.int .i64 (-1), .int .i64 (ln : Int)] 3)).drew.trans hk5); have tB := kQ (T := 3) w5 hy; have HD5 := hide ((za HD3).keeps hk5); have HDY := hide ((za HD5).alloc (.cells #[.int .i64 y] 3)); have HDT := hide ((za HD5).alloc (.cells #[.int .i64 (-1), .int .i64 (ln : Int)] 3)); have HDTY := hide ((za HDT).alloc (.cells #[.int .i64 y] 3)); have HR5 := hide hr5; have HRY := hide (hr5.alloc (.cells #[.int .i64 y] 3)); have HRTY := hide ((hr5.alloc (.cells #[.int .i64 (-1), .int .i64 (ln : Int)] 3)).alloc (.cells #[.int .i64 y] 3)); have e0 := (za HD5).box.n0; have e1 := (za HD5).box.n1; have e1y := (za HDY).box.n1; have e1t := (za HDT).box.n1; have e1ty := (za HDTY).box.n1; have qY : (w5.alloc (.cells #[.int .i64 y] 3)).cell? ⟨w5.heap.size, 0, none⟩ = some (.int .i64 y) := World.news_of_block (heap_alloc_new w5 (.cells #[.int .i64 y] 3)) 0 _ rfl; have qTY : ((w5.alloc (.cells #[.int .i64 (-1), .int .i64 (ln : Int)] 3)).alloc (.cells #[.int .i64 y] 3)).cell? ⟨w5.heap.size + 1, 0, none⟩ = some (.int .i64 y) := Kg w5 _ _; clear hr5 hk5 hy hz; (try dsimp only)))
   all_goals (refine za HQ _ _ ?_; rw [za HR9]; exact ⟨⟨_, _, _, _, _, _, _, _, _, _, _, _, _, rfl⟩, ⟨_, _, ln, lr + 1, p5, by omega, by omega, by omega, by omega, (za HDX).appI (za HG6) (za HS6), (za HRX).from (za HLOW).2.2.1 ((za HG6).low.setCell (p := ⟨b, 1, none⟩) (za HBB) (.slice (some ⟨g6, 0, none⟩) (lr + 1) c6))⟩⟩)
  ·rw [za HR9]
   rintro a9 w9 ⟨⟨u33, u34, u35, u36, u37, u38, u39, u40, u41, u42, u43, u44, u45, rfl⟩, hsp9⟩
   have HSP := hide hsp9
   clear hsp9
   obtain ⟨nz, rz, k9, m9, p9, hp9, hk91, hk92, hm9, hD9, hR9⟩ := za HSP
   obtain ⟨na9, nc9, rfl, _, _⟩ := hD9.nodes.form
   obtain ⟨ra9, rc9, rfl, _, _⟩ := hD9.roots.form
   have HD9 := hide hD9
   have HR9 := hide hR9
   clear hD9 hR9
   have a0 := (za HD9).box.n0
   have a1 := (za HD9).box.n1
   have hA := (za HA).keeps (za HD9).keep (by have := za Hlt; omega)
   have b0 := hA.n0
   have b1 := hA.n1
   have bf := hA.f
   have hZ := (hA.st0 (.slice na9 k9 nc9)).st1 (.slice ra9 m9 rc9)
   have z0 := hZ.n0
   have z1 := hZ.n1
   have HZ := hide (And.intro z0 z1)
   have hty : Ty 1001 B w9 ((w9.setCell ⟨w.heap.size + 1, 0, none⟩ (.slice na9 k9 nc9)).setCell ⟨w.heap.size + 1, 1, none⟩ (.slice ra9 m9 rc9)) := (Ty.box hA (by decide) (by decide) _).trans (Ty.box (hA.st0 _) (by decide) (by decide) _)
   have HSN := hide ((za HD9).nodes.ty hty)
   have HSI := hide ((za HD9).roots.ty hty)
   have hD : Drawn w g p n cap a 10 w9 := ⟨⟨p9, by omega, za HR9⟩, (za HKW).trans (za HD9).keep⟩
   have HDR := hide (hD.more (za Hlt) (((Below.refl w.heap.size w9).setCell (p := ⟨w.heap.size + 1, 0, none⟩) (Nat.le_succ _) (.slice na9 k9 nc9)).setCell (p := ⟨w.heap.size + 1, 1, none⟩) (Nat.le_succ _) (.slice ra9 m9 rc9)))
   clear hD hty z0 z1 hZ hA
   go_wp2_with fail
   have hz := za HZ
   refine bodyPost_ret (v := .agg #[.slice na9 k9 nc9, .slice ra9 m9 rc9]) (by simp [results, Tryz.results85, go_sem, hz]) rfl ⟨⟨_, _, k9, m9, rfl, by omega, by omega, by omega, (za HSN).base (za HBW), (za HSI).base (za HBW)⟩, za HDR⟩
 ·
  obtain ⟨gn, rfl, hgn, hbn, hfz, x0, s0, ka, kc, kl, c0, c1, c2, hs0, hkl0, hsk⟩ := (za HD3).nodes.node hkl
  have HBN := hide hbn
  have HGN := hide hgn
  have a0 := (za HD3).box.n0
  clear hsk hbn hgn c1 c2
  go_wp2_with fail
  go_region_law (first | (go_simp; go_at_call 27; refine (zX g p3 n cap a 12 w3.drew (by exact (za HR3).drew) (by omega) (by omega)).mono ?_; rintro e w5 ⟨⟨y, rfl, hy⟩, ⟨p5, hp5, hr5⟩, hk5⟩; have hk5 := (Keeps.refl g w3).drew.trans hk5; have HR5 := hide hr5; have HD5 := hide ((za HD3).keeps hk5); have HB5 := hide ((Ty.keeps (K := 1001) hk5 (za HLOW).2.2.1).bn _ _ _ (za HGN) (za HBN)); have e2 := (za HD5).box.n0; have hy12 : y < 12 := (by rcases hy with h | h <;> omega); have w4' : IntKind.i64.wrap ((y : Int) - 1) = (y : Int) - 1 := (by rw [wi64 _ (by omega) (by omega)]); obtain ⟨gz, ez, _, _, f6, x5, s5, ka5, kc5, kl5, d0, _⟩ := (za HD5).nodes.node hkl; cases ez; clear hr5 hk5 hy; (try dsimp only)))
  ·
   have HSP : Hid (SpR g B b (p + 10) n cap a W0 (w5.setCell ⟨gn, k * 3, none⟩ (.int .i64 ((y : Int) - 1)))) := hide ⟨_, _, ln, lr, p5, by omega, by omega, by omega, by omega, (za HD5).setN (za HB5) (za HGN) (j := k * 3) ⟨fun _ => ⟨_, rfl⟩, fun e => by omega, fun e => by omega⟩, (za HR5).from (za HLOW).2.2.1 ((Below.refl B w5).setCell (p := ⟨gn, k * 3, none⟩) (za HGN) _)⟩
   clear e2 f6 d0 a0 w4'
   obtain ⟨nz, rz, k9, m9, p9, hp9, hk91, hk92, hm9, hD9, hR9⟩ := za HSP
   obtain ⟨na9, nc9, rfl, _, _⟩ := hD9.nodes.form
   obtain ⟨ra9, rc9, rfl, _, _⟩ := hD9.roots.form
   have HD9 := hide hD9
   have HR9 := hide hR9
   clear hD9 hR9
   have a0 := (za HD9).box.n0
   have a1 := (za HD9).box.n1
   have hA := (za HA).keeps (za HD9).keep (by have := za Hlt; omega)
   have b0 := hA.n0
   have b1 := hA.n1
   have bf := hA.f
   have hZ := (hA.st0 (.slice na9 k9 nc9)).st1 (.slice ra9 m9 rc9)
   have z0 := hZ.n0
   have z1 := hZ.n1
   have HZ := hide (And.intro z0 z1)
   have hty : Ty 1001 B (w5.setCell ⟨gn, k * 3, none⟩ (.int .i64 ((y : Int) - 1))) (((w5.setCell ⟨gn, k * 3, none⟩ (.int .i64 ((y : Int) - 1))).setCell ⟨w.heap.size + 1, 0, none⟩ (.slice na9 k9 nc9)).setCell ⟨w.heap.size + 1, 1, none⟩ (.slice ra9 m9 rc9)) := (Ty.box hA (by decide) (by decide) _).trans (Ty.box (hA.st0 _) (by decide) (by decide) _)
   have HSN := hide ((za HD9).nodes.ty hty)
   have HSI := hide ((za HD9).roots.ty hty)
   have hD : Drawn w g p n cap a 10 (w5.setCell ⟨gn, k * 3, none⟩ (.int .i64 ((y : Int) - 1))) := ⟨⟨p9, by omega, za HR9⟩, (za HKW).trans (za HD9).keep⟩
   have HDR := hide (hD.more (za Hlt) (((Below.refl w.heap.size (w5.setCell ⟨gn, k * 3, none⟩ (.int .i64 ((y : Int) - 1)))).setCell (p := ⟨w.heap.size + 1, 0, none⟩) (Nat.le_succ _) (.slice na9 k9 nc9)).setCell (p := ⟨w.heap.size + 1, 1, none⟩) (Nat.le_succ _) (.slice ra9 m9 rc9)))
   clear hD hty z0 z1 hZ hA
   go_wp2_with fail
   have hz := za HZ
   refine bodyPost_ret (v := .agg #[.slice na9 k9 nc9, .slice ra9 m9 rc9]) (by simp [results, Tryz.results85, go_sem, hz]) rfl ⟨⟨_, _, k9, m9, rfl, by omega, by omega, by omega, (za HSN).base (za HBW), (za HSI).base (za HBW)⟩, za HDR⟩
  ·
   have HSP : Hid (SpR g B b (p + 10) n cap a W0 (w5.setCell ⟨gn, k * 3, none⟩ (.int .i64 ((y : Int) - 1)))) := hide ⟨_, _, ln, lr, p5, by omega, by omega, by omega, by omega, (za HD5).setN (za HB5) (za HGN) (j := k * 3) ⟨fun _ => ⟨_, rfl⟩, fun e => by omega, fun e => by omega⟩, (za HR5).from (za HLOW).2.2.1 ((Below.refl B w5).setCell (p := ⟨gn, k * 3, none⟩) (za HGN) _)⟩
   clear e2 f6 d0 a0 w4'
   obtain ⟨nz, rz, k9, m9, p9, hp9, hk91, hk92, hm9, hD9, hR9⟩ := za HSP
   obtain ⟨na9, nc9, rfl, _, _⟩ := hD9.nodes.form
   obtain ⟨ra9, rc9, rfl, _, _⟩ := hD9.roots.form
   have HD9 := hide hD9
   have HR9 := hide hR9
   clear hD9 hR9
   have a0 := (za HD9).box.n0
   have a1 := (za HD9).box.n1
   have hA := (za HA).keeps (za HD9).keep (by have := za Hlt; omega)
   have b0 := hA.n0
   have b1 := hA.n1
   have bf := hA.f
   have hZ := (hA.st0 (.slice na9 k9 nc9)).st1 (.slice ra9 m9 rc9)
   have z0 := hZ.n0
   have z1 := hZ.n1
   have HZ := hide (And.intro z0 z1)
   have hty : Ty 1001 B (w5.setCell ⟨gn, k * 3, none⟩ (.int .i64 ((y : Int) - 1))) (((w5.setCell ⟨gn, k * 3, none⟩ (.int .i64 ((y : Int) - 1))).setCell ⟨w.heap.size + 1, 0, none⟩ (.slice na9 k9 nc9)).setCell ⟨w.heap.size + 1, 1, none⟩ (.slice ra9 m9 rc9)) := (Ty.box hA (by decide) (by decide) _).trans (Ty.box (hA.st0 _) (by decide) (by decide) _)
   have HSN := hide ((za HD9).nodes.ty hty)
   have HSI := hide ((za HD9).roots.ty hty)
   have hD : Drawn w g p n cap a 10 (w5.setCell ⟨gn, k * 3, none⟩ (.int .i64 ((y : Int) - 1))) := ⟨⟨p9, by omega, za HR9⟩, (za HKW).trans (za HD9).keep⟩
   have HDR := hide (hD.more (za Hlt) (((Below.refl w.heap.size (w5.setCell ⟨gn, k * 3, none⟩ (.int .i64 ((y : Int) - 1)))).setCell (p := ⟨w.heap.size + 1, 0, none⟩) (Nat.le_succ _) (.slice na9 k9 nc9)).setCell (p := ⟨w.heap.size + 1, 1, none⟩) (Nat.le_succ _) (.slice ra9 m9 rc9)))
   clear hD hty z0 z1 hZ hA
   go_wp2_with fail
   have hz := za HZ
   refine bodyPost_ret (v := .agg #[.slice na9 k9 nc9, .slice ra9 m9 rc9]) (by simp [results, Tryz.results85, go_sem, hz]) rfl ⟨⟨_, _, k9, m9, rfl, by omega, by omega, by omega, (za HSN).base (za HBW), (za HSI).base (za HBW)⟩, za HDR⟩
 ·
  obtain ⟨gn, rfl, hgn, hbn, hfz, x0, s0, ka, kc, kl, c0, c1, c2, hs0, hkl0, hsk⟩ := (za HD3).nodes.node hkl
  have HBN := hide hbn
  have HGN := hide hgn
  have a0 := (za HD3).box.n0
  have a0' := ((za HD3).alloc (.cells #[.string ⟨#[]⟩, .string ⟨#[49, 47, 50]⟩, .string ⟨#[50, 47, 52]⟩, .string ⟨#[97, 32, 98]⟩, .string ⟨#[116]⟩, .string ⟨#[120]⟩, .string ⟨#[255]⟩, .string ⟨#[35, 97]⟩, .string ⟨#[49, 97]⟩, .string ⟨#[195, 169]⟩] 9)).box.n0
  clear hsk hbn hgn c0 c1 c2
  go_wp2_with fail
  go_region_law (first | (go_simp; go_at_call 119; refine (ofs_c g p3 n cap a _ 10 10 w3.drew (by exact (za HR3).drew) (by omega) (by rfl) (by omega) (by omega) (by rfl)).mono ?_; rintro e w5 ⟨⟨s, rfl, hs⟩, ⟨p5, hp5, hr5⟩, hk5⟩; have hk5 := (Keeps.refl g w3).drew.trans hk5; have HR5 := hide hr5; have HD5 := hide ((za HD3).keeps hk5); have HB5 := hide ((Ty.keeps (K := 1001) hk5 (za HLOW).2.2.1).bn _ _ _ (za HGN) (za HBN)); have e2 := (za HD5).box.n0; obtain ⟨gz, ez, _, _, f6, x5, s5, ka5, kc5, kl5, _, d1, _⟩ := (za HD5).nodes.node hkl; cases ez; clear hr5 hk5; (try dsimp only)))
  ·
   have HSP : Hid (SpR g B b (p + 10) n cap a W0 (w5.setCell ⟨gn, k * 3 + 1, none⟩ (.string s))) := hide ⟨_, _, ln, lr, p5, by omega, by omega, by omega, by omega, (za HD5).setN (za HB5) (za HGN) (j := k * 3 + 1) ⟨fun e => by omega, fun _ => ⟨s, rfl, by omega⟩, fun e => by omega⟩, (za HR5).from (za HLOW).2.2.1 ((Below.refl B w5).setCell (p := ⟨gn, k * 3 + 1, none⟩) (za HGN) _)⟩
   clear e2 f6 d1 a0 a0'
   obtain ⟨nz, rz, k9, m9, p9, hp9, hk91, hk92, hm9, hD9, hR9⟩ := za HSP
   obtain ⟨na9, nc9, rfl, _, _⟩ := hD9.nodes.form
   obtain ⟨ra9, rc9, rfl, _, _⟩ := hD9.roots.form
   have HD9 := hide hD9
   have HR9 := hide hR9
   clear hD9 hR9
   have a0 := (za HD9).box.n0
   have a1 := (za HD9).box.n1
   have hA := (za HA).keeps (za HD9).keep (by have := za Hlt; omega)
   have b0 := hA.n0
   have b1 := hA.n1
   have bf := hA.f
   have hZ := (hA.st0 (.slice na9 k9 nc9)).st1 (.slice ra9 m9 rc9)
   have z0 := hZ.n0
   have z1 := hZ.n1
   have HZ := hide (And.intro z0 z1)
   have hty : Ty 1001 B (w5.setCell ⟨gn, k * 3 + 1, none⟩ (.string s)) (((w5.setCell ⟨gn, k * 3 + 1, none⟩ (.string s)).setCell ⟨w.heap.size + 1, 0, none⟩ (.slice na9 k9 nc9)).setCell ⟨w.heap.size + 1, 1, none⟩ (.slice ra9 m9 rc9)) := (Ty.box hA (by decide) (by decide) _).trans (Ty.box (hA.st0 _) (by decide) (by decide) _)
   have HSN := hide ((za HD9).nodes.ty hty)
   have HSI := hide ((za HD9).roots.ty hty)
   have hD : Drawn w g p n cap a 10 (w5.setCell ⟨gn, k * 3 + 1, none⟩ (.string s)) := ⟨⟨p9, by omega, za HR9⟩, (za HKW).trans (za HD9).keep⟩
   have HDR := hide (hD.more (za Hlt) (((Below.refl w.heap.size (w5.setCell ⟨gn, k * 3 + 1, none⟩ (.string s))).setCell (p := ⟨w.heap.size + 1, 0, none⟩) (Nat.le_succ _) (.slice na9 k9 nc9)).setCell (p := ⟨w.heap.size + 1, 1, none⟩) (Nat.le_succ _) (.slice ra9 m9 rc9)))
   clear hD hty z0 z1 hZ hA
   go_wp2_with fail
   have hz := za HZ
   refine bodyPost_ret (v := .agg #[.slice na9 k9 nc9, .slice ra9 m9 rc9]) (by simp [results, Tryz.results85, go_sem, hz]) rfl ⟨⟨_, _, k9, m9, rfl, by omega, by omega, by omega, (za HSN).base (za HBW), (za HSI).base (za HBW)⟩, za HDR⟩
  ·
   have HSP : Hid (SpR g B b (p + 10) n cap a W0 (w5.setCell ⟨gn, k * 3 + 1, none⟩ (.string s))) := hide ⟨_, _, ln, lr, p5, by omega, by omega, by omega, by omega, (za HD5).setN (za HB5) (za HGN) (j := k * 3 + 1) ⟨fun e => by omega, fun _ => ⟨s, rfl, by omega⟩, fun e => by omega⟩, (za HR5).from (za HLOW).2.2.1 ((Below.refl B w5).setCell (p := ⟨gn, k * 3 + 1, none⟩) (za HGN) _)⟩
   clear e2 f6 d1 a0 a0'
   obtain ⟨nz, rz, k9, m9, p9, hp9, hk91, hk92, hm9, hD9, hR9⟩ := za HSP
   obtain ⟨na9, nc9, rfl, _, _⟩ := hD9.nodes.form
   obtain ⟨ra9, rc9, rfl, _, _⟩ := hD9.roots.form
   have HD9 := hide hD9
   have HR9 := hide hR9
   clear hD9 hR9
   have a0 := (za HD9).box.n0
   have a1 := (za HD9).box.n1
   have hA := (za HA).keeps (za HD9).keep (by have := za Hlt; omega)
   have b0 := hA.n0
   have b1 := hA.n1
   have bf := hA.f
   have hZ := (hA.st0 (.slice na9 k9 nc9)).st1 (.slice ra9 m9 rc9)
   have z0 := hZ.n0
   have z1 := hZ.n1
   have HZ := hide (And.intro z0 z1)
   have hty : Ty 1001 B (w5.setCell ⟨gn, k * 3 + 1, none⟩ (.string s)) (((w5.setCell ⟨gn, k * 3 + 1, none⟩ (.string s)).setCell ⟨w.heap.size + 1, 0, none⟩ (.slice na9 k9 nc9)).setCell ⟨w.heap.size + 1, 1, none⟩ (.slice ra9 m9 rc9)) := (Ty.box hA (by decide) (by decide) _).trans (Ty.box (hA.st0 _) (by decide) (by decide) _)
   have HSN := hide ((za HD9).nodes.ty hty)
   have HSI := hide ((za HD9).roots.ty hty)
   have hD : Drawn w g p n cap a 10 (w5.setCell ⟨gn, k * 3 + 1, none⟩ (.string s)) := ⟨⟨p9, by omega, za HR9⟩, (za HKW).trans (za HD9).keep⟩
   have HDR := hide (hD.more (za Hlt) (((Below.refl w.heap.size (w5.setCell ⟨gn, k * 3 + 1, none⟩ (.string s))).setCell (p := ⟨w.heap.size + 1, 0, none⟩) (Nat.le_succ _) (.slice na9 k9 nc9)).setCell (p := ⟨w.heap.size + 1, 1, none⟩) (Nat.le_succ _) (.slice ra9 m9 rc9)))
   clear hD hty z0 z1 hZ hA
   go_wp2_with fail
   have hz := za HZ
   refine bodyPost_ret (v := .agg #[.slice na9 k9 nc9, .slice ra9 m9 rc9]) (by simp [results, Tryz.results85, go_sem, hz]) rfl ⟨⟨_, _, k9, m9, rfl, by omega, by omega, by omega, (za HSN).base (za HBW), (za HSI).base (za HBW)⟩, za HDR⟩
  ·
   have HSP : Hid (SpR g B b (p + 10) n cap a W0 (w5.setCell ⟨gn, k * 3 + 1, none⟩ (.string s))) := hide ⟨_, _, ln, lr, p5, by omega, by omega, by omega, by omega, (za HD5).setN (za HB5) (za HGN) (j := k * 3 + 1) ⟨fun e => by omega, fun _ => ⟨s, rfl, by omega⟩, fun e => by omega⟩, (za HR5).from (za HLOW).2.2.1 ((Below.refl B w5).setCell (p := ⟨gn, k * 3 + 1, none⟩) (za HGN) _)⟩
   clear e2 f6 d1 a0 a0'
   obtain ⟨nz, rz, k9, m9, p9, hp9, hk91, hk92, hm9, hD9, hR9⟩ := za HSP
   obtain ⟨na9, nc9, rfl, _, _⟩ := hD9.nodes.form
   obtain ⟨ra9, rc9, rfl, _, _⟩ := hD9.roots.form
   have HD9 := hide hD9
   have HR9 := hide hR9
   clear hD9 hR9
   have a0 := (za HD9).box.n0
   have a1 := (za HD9).box.n1
   have hA := (za HA).keeps (za HD9).keep (by have := za Hlt; omega)
   have b0 := hA.n0
   have b1 := hA.n1
   have bf := hA.f
   have hZ := (hA.st0 (.slice na9 k9 nc9)).st1 (.slice ra9 m9 rc9)
   have z0 := hZ.n0
   have z1 := hZ.n1
   have HZ := hide (And.intro z0 z1)
   have hty : Ty 1001 B (w5.setCell ⟨gn, k * 3 + 1, none⟩ (.string s)) (((w5.setCell ⟨gn, k * 3 + 1, none⟩ (.string s)).setCell ⟨w.heap.size + 1, 0, none⟩ (.slice na9 k9 nc9)).setCell ⟨w.heap.size + 1, 1, none⟩ (.slice ra9 m9 rc9)) := (Ty.box hA (by decide) (by decide) _).trans (Ty.box (hA.st0 _) (by decide) (by decide) _)
   have HSN := hide ((za HD9).nodes.ty hty)
   have HSI := hide ((za HD9).roots.ty hty)
   have hD : Drawn w g p n cap a 10 (w5.setCell ⟨gn, k * 3 + 1, none⟩ (.string s)) := ⟨⟨p9, by omega, za HR9⟩, (za HKW).trans (za HD9).keep⟩
   have HDR := hide (hD.more (za Hlt) (((Below.refl w.heap.size (w5.setCell ⟨gn, k * 3 + 1, none⟩ (.string s))).setCell (p := ⟨w.heap.size + 1, 0, none⟩) (Nat.le_succ _) (.slice na9 k9 nc9)).setCell (p := ⟨w.heap.size + 1, 1, none⟩) (Nat.le_succ _) (.slice ra9 m9 rc9)))
   clear hD hty z0 z1 hZ hA
   go_wp2_with fail
   have hz := za HZ
   refine bodyPost_ret (v := .agg #[.slice na9 k9 nc9, .slice ra9 m9 rc9]) (by simp [results, Tryz.results85, go_sem, hz]) rfl ⟨⟨_, _, k9, m9, rfl, by omega, by omega, by omega, (za HSN).base (za HBW), (za HSI).base (za HBW)⟩, za HDR⟩
 ·
  obtain ⟨gn, e, hgn, _, hfz, x0, s0, ka, kc, kl, c0, c1, c2, hs0, hkl0, hsk⟩ := (za HT3).node hkl
  subst e
  obtain ⟨gn', e', hgn', hbn, hmc⟩ : ∃ g', some (⟨gn, 0, none⟩ : Addr) = some ⟨g', 0, none⟩ ∧ B ≤ g' ∧ BN 1001 w3 B g' mc ln ∧ ln ≤ mc := by
   rcases (za HD3).nodes with ⟨e, e0⟩ | ⟨g', c', e, h1, h2, _, h4⟩
   ·omega
   ·cases e; exact ⟨_, rfl, h1, h4, h2⟩
  cases e'
  have HBN := hide hbn
  have HGN := hide hgn
  have HMC := hide hmc
  have HSK := hide hsk
  have HGG : Hid (gn ≠ g) := hide (by have := za HLOW; omega)
  have a0 := (za HD3).box.n0
  have w4' : IntKind.i64.wrap ((ln : Int) + 2) = ((ln + 2 : Nat) : Int) := by rw [wi64 _ (by omega) (by omega)]; omega
  clear hsk hbn hmc hgn hgn' c0 c1 hfz
  go_upto_region 14 with fail
  obtain ⟨R, hR⟩ : ∃ R : Act → World → Prop, R = fun a' wx => (∃ u68 u69 u70 u71 u72 u73 u74 u75 u76 u77 u78 u79 u80 u81 u82 u83 u84 u85 u86 u87 : Value, a' = ⟨#[.pointer (some ⟨g, 0, none⟩), .agg #[.slice na0 ln nc0, .slice ra0 lr rc0], undef, .pointer (some ⟨w.heap.size, 0, none⟩), .pointer (some ⟨w.heap.size + 1, 0, none⟩), .pointer (some ⟨b, 0, none⟩), .int .i64 (k : Int), undef, undef, .agg #[.slice na0 ln nc0, .slice ra0 lr rc0], .agg #[.slice (some ⟨gn, 0, none⟩) ln mc, .slice rb lr rc], .pointer (some ⟨g, 0, none⟩), .pointer (some ⟨b, 0, none⟩), .slice (some ⟨gn, 0, none⟩) ln mc, .int .i64 (ln : Int), .int .i64 (k : Int), .pointer (some ⟨g, 0, none⟩), .int .i64 3, undef, undef, undef, undef, undef, undef, undef, undef, undef, undef, undef, undef, undef, .bool false, .bool false, undef, undef, undef, undef, undef, undef, undef, undef, undef, undef, undef, undef, undef, .bool false, .bool false, undef, undef, undef, undef, undef, undef, undef, undef, .bool false, .bool false, undef, undef, undef, undef, undef, undef, undef, undef, .bool true, .bool true, u68, u69, u70, u71, u72, u73, u74, u75, u76, u77, u78, u79, u80, u81, u82, u83, u84, u85, u86, u87, undef, undef, undef, undef, undef, undef, undef, undef, undef, undef, undef, undef, undef, undef, undef, undef, undef], []⟩) ∧ SpR g B b (p + 10) n cap a W0 wx := ⟨_, rfl⟩
  have HR9 := hide hR
  clear hR
  refine YY R ?_ ?_
  ·intro K9 hK9
   have HQ := hide hK9
   clear hK9
   go_region_law (first | ((refine qX (by rfl) _ _ (by rfl) 1001 B (.slice ka kl kc) kl w5.heap.size ((y : Int) - 1) (by rfl) (by rfl) (by with_reducible exact (za HSY)) (by with_reducible exact qY) (by omega) (by with_reducible exact (za HDY).low.2.2.2.2) (some 85) (by rfl) ?_; intro g6 c6 w6 hs6 hg6; have HS6 := hide hs6; have HG6 := hide hg6; have HB6 := hide (hg6.ty.bn _ _ _ (za HGN) (za HBY)); have f0 := ((za HDY).grI hg6).box.n0; have f1 := (za HB6).frozen (k * 3 + 2); obtain ⟨f2v, f2, _⟩ := (za HB6).cell (za HMC) (j := k * 3 + 2) (by omega); clear hs6 hg6)) | (go_simp; go_at_call 27; refine (zX g p3 n cap a ((ln + 2 : Nat) : Int) w3.drew (by exact (za HR3).drew) (by omega) (by omega)).mono ?_; rintro e w5 ⟨⟨y, rfl, hy⟩, ⟨p5, hp5, hr5⟩, hk5⟩; have hy9 : y ≤ 1000 := (by rcases hy with h | h <;> omega); have w5' : IntKind.i64.wrap ((y : Int) - 1) = (y : Int) - 1 := (by rw [wi64 _ (by omega) (by omega)]); have hk5 := (Keeps.refl g w3).drew.trans hk5; have HD5 := hide ((za HD3).keeps hk5); have HDY := hide ((za HD5).alloc (.cells #[.int .i64 ((y : Int) - 1)] 3)); have HRY := hide (hr5.alloc (.cells #[.int .i64 ((y : Int) - 1)] 3)); have HBY := hide ((Ty.below (K := 1001) (zf (Below.refl w5.heap.size w5) (.cells #[.int .i64 ((y : Int) - 1)] 3))).bn _ _ _ (za HGN) ((Ty.keeps (K := 1001) hk5 (za HLOW).2.2.1).bn _ _ _ (za HGN) (za HBN))); have HSY := hide (((za HSK).ty (Ty.keeps (K := 1001) hk5 (za HLOW).2.2.1)).ty (Ty.below (K := 1001) (zf (Below.refl w5.heap.size w5) (.cells #[.int .i64 ((y : Int) - 1)] 3)))); have e0 := (za HD5).box.n0; have e0y := (za HDY).box.n0; have d2 := hk5.cell_of c2 (za HGG); have d2y := vD (zf (Below.refl w5.heap.size w5) (.cells #[.int .i64 ((y : Int) - 1)] 3)) d2; have qY : (w5.alloc (.cells #[.int .i64 ((y : Int) - 1)] 3)).cell? ⟨w5.heap.size, 0, none⟩ = some (.int .i64 ((y : Int) - 1)) := World.news_of_block (heap_alloc_new w5 (.cells #[.int .i64 ((y : Int) - 1)] 3)) 0 _ rfl; clear hr5 hk5 hy; (try dsimp only)))
   all_goals (refine za HQ _ _ ?_; rw [za HR9]; exact ⟨⟨_, _, _, _, _, _, _, _, _, _, _, _, _, _, _, _, _, _, _, _, rfl⟩, ⟨_, _, ln, lr, p5, by omega, by omega, by omega, by omega, ((za HDY).grI (za HG6)).setN (za HB6) (za HGN) (j := k * 3 + 2) ⟨fun e => by omega, fun e => by omega, fun _ => ⟨kl + 1, by omega, za HS6⟩⟩, (za HRY).from (za HLOW).2.2.1 ((za HG6).low.setCell (p := ⟨gn, k * 3 + 2, none⟩) (za HGN) (.slice (some ⟨g6, 0, none⟩) (kl + 1) c6))⟩⟩)
  ·rw [za HR9]
   rintro a9 w9 ⟨⟨u68, u69, u70, u71, u72, u73, u74, u75, u76, u77, u78, u79, u80, u81, u82, u83, u84, u85, u86, u87, rfl⟩, hsp9⟩
   have HSP := hide hsp9
   clear hsp9
   obtain ⟨nz, rz, k9, m9, p9, hp9, hk91, hk92, hm9, hD9, hR9⟩ := za HSP
   obtain ⟨na9, nc9, rfl, _, _⟩ := hD9.nodes.form
   obtain ⟨ra9, rc9, rfl, _, _⟩ := hD9.roots.form
   have HD9 := hide hD9
   have HR9 := hide hR9
   clear hD9 hR9
   have a0 := (za HD9).box.n0
   have a1 := (za HD9).box.n1
   have hA := (za HA).keeps (za HD9).keep (by have := za Hlt; omega)
   have b0 := hA.n0
   have b1 := hA.n1
   have bf := hA.f
   have hZ := (hA.st0 (.slice na9 k9 nc9)).st1 (.slice ra9 m9 rc9)
   have z0 := hZ.n0
   have z1 := hZ.n1
   have HZ := hide (And.intro z0 z1)
   have hty : Ty 1001 B w9 ((w9.setCell ⟨w.heap.size + 1, 0, none⟩ (.slice na9 k9 nc9)).setCell ⟨w.heap.size + 1, 1, none⟩ (.slice ra9 m9 rc9)) := (Ty.box hA (by decide) (by decide) _).trans (Ty.box (hA.st0 _) (by decide) (by decide) _)
   have HSN := hide ((za HD9).nodes.ty hty)
   have HSI := hide ((za HD9).roots.ty hty)
   have hD : Drawn w g p n cap a 10 w9 := ⟨⟨p9, by omega, za HR9⟩, (za HKW).trans (za HD9).keep⟩
   have HDR := hide (hD.more (za Hlt) (((Below.refl w.heap.size w9).setCell (p := ⟨w.heap.size + 1, 0, none⟩) (Nat.le_succ _) (.slice na9 k9 nc9)).setCell (p := ⟨w.heap.size + 1, 1, none⟩) (Nat.le_succ _) (.slice ra9 m9 rc9)))
   clear hD hty z0 z1 hZ hA
   go_wp2_with fail
   have hz := za HZ
   refine bodyPost_ret (v := .agg #[.slice na9 k9 nc9, .slice ra9 m9 rc9]) (by simp [results, Tryz.results85, go_sem, hz]) rfl ⟨⟨_, _, k9, m9, rfl, by omega, by omega, by omega, (za HSN).base (za HBW), (za HSI).base (za HBW)⟩, za HDR⟩
 ·
  go_wp2_with fail
  refine (zX g p3 n cap a 2 _ (za HR3) (by omega) (by omega)).mono ?_
  rintro e w4 ⟨⟨y, rfl, hy⟩, ⟨p4, hp4, hr4⟩, hk4⟩
  have hy2 : y < 2 := by rcases hy with h | h <;> omega
  have HR4 := hide hr4
  have HD4 := hide ((za HD3).keeps hk4)
  clear hr4 hk4 hy
  go_wp2_with fail
  go_loopw [] (fun wr => ∃ (k : Nat) (nv : Value), 1 ≤ k ∧ k ≤ 82 ∧ DSt 1001 g B b W0 nv (.slice rb lr rc) k lr wr ∧ Rd wr g p4 a n cap) (fun wr => 82 - lenC wr b 0)
  case atStart => exact ⟨ln, _, by omega, by omega, za HD4, za HR4⟩
  case round =>
   obtain ⟨k2, nv, hk1, hk82, hD, hR⟩ := hrel
   obtain ⟨na, nc, rfl, _, _⟩ := hD.nodes.form
   have HDk := hide hD
   have HRk := hide hR
   have a0 := hD.box.n0
   have a1 := hD.box.n1
   clear hD hR
   by_cases hlt2 : (k2 : Int) < 80 + (y : Int)
   ·have HRA := hide ((za HRk).alloc (.cells #[.int .i64 6, .string ⟨#[]⟩, .slice none 0 0] 56))
    have HDA := hide ((za HDk).alloc (.cells #[.int .i64 6, .string ⟨#[]⟩, .slice none 0 0] 56))
    have HNW := hide (AtC3.new wr (.int .i64 6) (.string ⟨#[]⟩) (.slice none 0 0) 56)
    have hL0 := xR a0
    go_wp2_with (at_builtin; refine qe (by rfl) (.tmp 99) (.tmp 101) (by rfl) 1001 B (.slice na k2 nc) k2 wr.heap.size 6 ⟨#[]⟩ (.slice none 0 0) 0 (by rfl) (by rfl) (za HDA).nodes (za HNW).n0 (za HNW).n1 (za HNW).n2 (by decide) (by decide) (jd _ _) (by omega) (za HDA).low.2.2.2.2 ?_; intro g6 c6 w6 hs6 hg6; have HS6 := hide hs6; have HG6 := hide hg6; have f0 := ((za HDA).box.gr hg6 (by decide)).n0; have f1 := ((za HDA).box.gr hg6 (by decide)).f; clear hs6 hg6 a0 a1)
    have HD7 := hide ((za HDA).appN (za HG6) (za HS6))
    have HR7 := hide ((za HRA).from (za HLOW).2.2.1 ((za HG6).low.setCell (p := ⟨b, 0, none⟩) (Nat.le_trans (Nat.le_of_eq (za HBE).symm) (za HLOW).2.1) (.slice (some ⟨g6, 0, none⟩) (k2 + 1) c6)))
    have hL1 := xR (za HD7).box.n0
    clear f0 f1
    go_wp2_with fail
    go_roundw
    case rel => exact ⟨k2 + 1, _, by omega, by omega, za HD7, za HR7⟩
    case measure => rw [hL1, hL0]; omega
   ·have HD9 := HDk
    have HR9 := HRk
    clear a0 a1
    have a0 := (za HD9).box.n0
    have a1 := (za HD9).box.n1
    have hA := (za HA).keeps (za HD9).keep (by have := za Hlt; omega)
    have b0 := hA.n0
    have b1 := hA.n1
    have bf := hA.f
    have hZ := (hA.st0 (.slice na k2 nc)).st1 (.slice rb lr rc)
    have z0 := hZ.n0
    have z1 := hZ.n1
    have HZ := hide (And.intro z0 z1)
    have hty : Ty 1001 B wr ((wr.setCell ⟨w.heap.size + 1, 0, none⟩ (.slice na k2 nc)).setCell ⟨w.heap.size + 1, 1, none⟩ (.slice rb lr rc)) := (Ty.box hA (by decide) (by decide) _).trans (Ty.box (hA.st0 _) (by decide) (by decide) _)
    have HSN := hide ((za HD9).nodes.ty hty)
    have HSI := hide ((za HD9).roots.ty hty)
    have hD : Drawn w g p n cap a 10 wr := ⟨⟨p4, by omega, za HR9⟩, (za HKW).trans (za HD9).keep⟩
    have HDR := hide (hD.more (za Hlt) (((Below.refl w.heap.size wr).setCell (p := ⟨w.heap.size + 1, 0, none⟩) (Nat.le_succ _) (.slice na k2 nc)).setCell (p := ⟨w.heap.size + 1, 1, none⟩) (Nat.le_succ _) (.slice rb lr rc)))
    clear hD hty z0 z1 hZ hA
    go_wp2_with fail
    have hz := za HZ
    refine bodyPost_ret (v := .agg #[.slice na k2 nc, .slice rb lr rc]) (by simp [results, Tryz.results85, go_sem, hz]) rfl ⟨⟨_, _, k2, lr, rfl, by omega, by omega, by omega, (za HSN).base (za HBW), (za HSI).base (za HBW)⟩, za HDR⟩
 ·
  go_wp2_with fail
  refine (zX g p3 n cap a 2 _ (za HR3) (by omega) (by omega)).mono ?_
  rintro e w4 ⟨⟨y, rfl, hy⟩, ⟨p4, hp4, hr4⟩, hk4⟩
  have hy2 : y < 2 := by rcases hy with h | h <;> omega
  have HR4 := hide hr4
  have HD4 := hide ((za HD3).keeps hk4)
  clear hr4 hk4 hy
  go_wp2_with fail
  go_loopw [] (fun wr => ∃ (k : Nat) (rv : Value), k ≤ 20 ∧ DSt 1001 g B b W0 (.slice ma ln mc) rv ln k wr ∧ Rd wr g p4 a n cap) (fun wr => 20 - lenC wr b 1)
  case atStart => exact ⟨lr, _, by omega, za HD4, za HR4⟩
  case round =>
   obtain ⟨k2, rv, hk20, hD, hR⟩ := hrel
   obtain ⟨ra, rc', rfl, _, _⟩ := hD.roots.form
   have HDk := hide hD
   have HRk := hide hR
   have a0 := hD.box.n0
   have a1 := hD.box.n1
   clear hD hR
   by_cases hlt2 : (k2 : Int) < 12 + (y : Int)
   ·have HRA := hide ((za HRk).alloc (.cells #[.int .i64 0] 3))
    have HDA := hide ((za HDk).alloc (.cells #[.int .i64 0] 3))
    have HNW : Hid ((wr.alloc (.cells #[.int .i64 0] 3)).cell? ⟨wr.heap.size, 0, none⟩ = some (.int .i64 0)) := hide (World.news_of_block (heap_alloc_new wr (.cells #[.int .i64 0] 3)) 0 _ rfl)
    have hL0 := xR a1
    go_wp2_with (at_builtin; refine Zw (by rfl) (.tmp 27) (.tmp 28) (by rfl) 1001 B (.slice ra k2 rc') k2 wr.heap.size 0 (by rfl) (by rfl) (za HDA).roots (za HNW) (by omega) (za HDA).low.2.2.2.2 ?_; intro g6 c6 w6 hs6 hg6; have HS6 := hide hs6; have HG6 := hide hg6; have f0 := ((za HDA).box.gr hg6 (by decide)).n1; have f1 := ((za HDA).box.gr hg6 (by decide)).f; clear hs6 hg6 a0 a1)
    have HD7 := hide ((za HDA).appI (za HG6) (za HS6))
    have HR7 := hide ((za HRA).from (za HLOW).2.2.1 ((za HG6).low.setCell (p := ⟨b, 1, none⟩) (Nat.le_trans (Nat.le_of_eq (za HBE).symm) (za HLOW).2.1) (.slice (some ⟨g6, 0, none⟩) (k2 + 1) c6)))
    have hL1 := xR (za HD7).box.n1
    clear f0 f1
    go_wp2_with fail
    go_roundw
    case rel => exact ⟨k2 + 1, _, by omega, za HD7, za HR7⟩
    case measure => rw [hL1, hL0]; omega
   ·have HD9 := HDk
    have HR9 := HRk
    clear a0 a1
    have a0 := (za HD9).box.n0
    have a1 := (za HD9).box.n1
    have hA := (za HA).keeps (za HD9).keep (by have := za Hlt; omega)
    have b0 := hA.n0
    have b1 := hA.n1
    have bf := hA.f
    have hZ := (hA.st0 (.slice ma ln mc)).st1 (.slice ra k2 rc')
    have z0 := hZ.n0
    have z1 := hZ.n1
    have HZ := hide (And.intro z0 z1)
    have hty : Ty 1001 B wr ((wr.setCell ⟨w.heap.size + 1, 0, none⟩ (.slice ma ln mc)).setCell ⟨w.heap.size + 1, 1, none⟩ (.slice ra k2 rc')) := (Ty.box hA (by decide) (by decide) _).trans (Ty.box (hA.st0 _) (by decide) (by decide) _)
    have HSN := hide ((za HD9).nodes.ty hty)
    have HSI := hide ((za HD9).roots.ty hty)
    have hD : Drawn w g p n cap a 10 wr := ⟨⟨p4, by omega, za HR9⟩, (za HKW).trans (za HD9).keep⟩
    have HDR := hide (hD.more (za Hlt) (((Below.refl w.heap.size wr).setCell (p := ⟨w.heap.size + 1, 0, none⟩) (Nat.le_succ _) (.slice ma ln mc)).setCell (p := ⟨w.heap.size + 1, 1, none⟩) (Nat.le_succ _) (.slice ra k2 rc')))
    clear hD hty z0 z1 hZ hA
    go_wp2_with fail
    have hz := za HZ
    refine bodyPost_ret (v := .agg #[.slice ma ln mc, .slice ra k2 rc']) (by simp [results, Tryz.results85, go_sem, hz]) rfl ⟨⟨_, _, ln, k2, rfl, by omega, by omega, by omega, (za HSN).base (za HBW), (za HSI).base (za HBW)⟩, za HDR⟩
end Go.Proofs.YtpbnmhnbkfnaeaaGreatDoor
