/- A part of the proof, put together out of smaller texts. -/
import Derived.Test.YtnenoaenjaghhaaDoorM4
import Derived.Deep.AppendLies
import Derived.Deep.RegionLaw
import Derived.Deep.RegionHeldLaw
set_option linter.all false
set_option maxRecDepth 100000
set_option maxHeartbeats 16000000
namespace Go.Proofs.YtnenoaenjaghhaaDoor
open Go.RowKit Nt
def Row (Q : Nat → Value → Prop) (s : Nat) (e : TypeId) (w : World) (b c n : Nat) : Prop :=
 ∃ cs : Array Value, w.heap[b]? = some (.cells cs e (0, 0)) ∧ cs.size = c * s ∧ ∀ j u, j < n * s → cs[j]? = some u → Q (j % s) u
def SRow (Q : Nat → Value → Prop) (s : Nat) (e : TypeId) (w : World) (base : Nat) (v : Value) (n : Nat) : Prop :=
 (v = .slice none 0 0 ∧ n = 0) ∨ ∃ g c, v = .slice (some ⟨g, 0, none⟩) n c ∧ base ≤ g ∧ n ≤ c ∧ c ≤ maxLen ∧ Row Q s e w g c n
theorem Row.lt {Q : Nat → Value → Prop} {s : Nat} {e : TypeId} {w : World} {b c n : Nat} (h : Row Q s e w b c n) : b < w.heap.size := by
 obtain ⟨cs, h, _⟩ := h; exact (Array.getElem?_eq_some_iff.1 h).1
theorem Row.cap {Q Q' : Nat → Value → Prop} {s : Nat} {e : TypeId} {w : World} {b c c' n n' : Nat} (hs : 0 < s) (h : Row Q s e w b c n) (h' : Row Q' s e w b c' n') : c = c' := by
 obtain ⟨cs, h1, h2, _⟩ := h
 obtain ⟨cs', k1, k2, _⟩ := h'
 rw [h1] at k1
 simp only [Option.some.injEq, Obj.cells.injEq] at k1
 rw [k1.1, k2] at h2
 exact (Nat.eq_of_mul_eq_mul_right hs h2).symm
theorem Row.map {Q Q' : Nat → Value → Prop} {s : Nat} {e : TypeId} {w : World} {b c n : Nat} (h : Row Q s e w b c n) (hq : ∀ j u, Q j u → Q' j u) : Row Q' s e w b c n := by
 obtain ⟨cs, h1, h2, h3⟩ := h; exact ⟨cs, h1, h2, fun j u hj hu => hq _ _ (h3 j u hj hu)⟩
theorem Row.same {Q : Nat → Value → Prop} {s : Nat} {e : TypeId} {w w' : World} {b c n : Nat} (h : Row Q s e w b c n) (hb : w'.heap[b]? = w.heap[b]?) : Row Q s e w' b c n := by
 obtain ⟨cs, h1, h2⟩ := h; exact ⟨cs, hb.trans h1, h2⟩
theorem Row.cell {Q : Nat → Value → Prop} {s : Nat} {e : TypeId} {w : World} {b c n : Nat} (h : Row Q s e w b c n) (hn : n ≤ c) {j : Nat} (hj : j < n * s) : ∃ u, w.cell? ⟨b, j, none⟩ = some u ∧ Q (j % s) u := by
 obtain ⟨cs, h1, h2, h3⟩ := h
 have hle : n * s ≤ c * s := Nat.mul_le_mul_right _ hn
 have hx : cs[j]? = some (cs[j]'(by omega)) := Array.getElem?_eq_getElem _
 exact ⟨_, by simp only [World.cell?, h1]; exact hx, h3 j _ hj hx⟩
theorem Row.frozen {Q : Nat → Value → Prop} {s : Nat} {e : TypeId} {w : World} {b c n : Nat} (h : Row Q s e w b c n) (j : Nat) : w.frozen? ⟨b, j, none⟩ = false := by
 obtain ⟨cs, h1, h2, h3⟩ := h
 simp [World.frozen?, h1]
theorem Row.set {Q : Nat → Value → Prop} {s : Nat} {e : TypeId} {w : World} {b c n : Nat} (h : Row Q s e w b c n) {i : Nat} {x : Value} (hx : Q (i % s) x) : Row Q s e (w.setCell ⟨b, i, none⟩ x) b c n := by
 obtain ⟨cs, h1, h2, h3⟩ := h
 refine ⟨cs.setIfInBounds i x, ?_, by simpa using h2, fun j u hj hu => ?_⟩
 ·show (w.heap.modify b _)[b]? = _
  rw [Array.getElem?_modify, if_pos rfl, h1]; rfl
 ·rw [Array.getElem?_setIfInBounds] at hu
  split at hu
  ·rename_i e; subst e
   split at hu
   ·simp at hu; subst hu; exact hx
   ·simp at hu
  ·exact h3 j u hj hu
section
variable {P : Program}
theorem q6 (Q : Nat → Value → Prop) (w : World) (base s : Nat) (t ty e : TypeId) (i : TypeInfo) (z : Value) (bytes : Nat) (ht : P.underlying t = some (.slice e)) (hi : P.info? e = some i) (hz : i.zero = some z)
  (hsize : i.size = s) (hby : i.bytes = bytes) (hzs : z.cells.size = s) (hs : 0 < s)
  (v : Value) (n : Nat) (hv : SRow Q s e w base v n) (ad : Addr) (m c : Nat) (news : List Value) (hl : news.length = m * s) (hnews : ∀ j u, news[j]? = some u → w.cell? (ad.add j) = some u) (h1 : ∀ u ∈ news, u.oneCell' = true)
  (hQ : ∀ j u, news[j]? = some u → Q (j % s) u) (hm : 0 < m) (h63 : n + m ≤ maxLen) (hbytes : (n + m) * bytes ≤ 140737488355328) (hbase : base ≤ w.heap.size) :
  ∃ g cap w', (Builtin.append_ #[t, t] ty #[v, .slice (some ad) m c]).run P w = .ok (.slice (some ⟨g, 0, none⟩) (n + m) cap) w' ∧
   SRow Q s e w' base (.slice (some ⟨g, 0, none⟩) (n + m) cap) (n + m) ∧ w.grownBy w' v.ownBlock ∧ (∀ b c k, Row Q s e w b c k → Row Q s e w' b c k) := by
 subst hsize
 subst hby
 have grown : ∀ (olds : List Value) (old : Nat), old < n + m → olds.length = n * i.size → (∀ j u, olds[j]? = some u → Q (j % i.size) u) → ∀ (row : Option Nat) (w' : World),
   w' = w.drew.alloc (.cells (olds.toArray ++ news.toArray ++ Builtin.zeroCells z.cells (grownCap w (n + m) old e - (n + m))) e) →
   SRow Q i.size e w' base (.slice (some ⟨w.heap.size, 0, none⟩) (n + m) (grownCap w (n + m) old e)) (n + m) ∧ w.grownBy w' row ∧ (∀ b c k, Row Q i.size e w b c k → Row Q i.size e w' b c k) := by
  intro olds old ho hlo hqo row w' hw'
  subst hw'
  have hge := grownCap_ge w (n + m) old e
  have hcm : grownCap w (n + m) old e ≤ maxLen := grownCap_le_maxLen w (n + m) old e h63
  obtain ⟨G, hG⟩ : ∃ G, grownCap w (n + m) old e = G := ⟨_, rfl⟩
  rw [hG] at hge hcm ⊢
  refine ⟨.inr ⟨_, _, rfl, hbase, hge, hcm, _, heap_alloc_new w.drew _, ?_, ?_⟩, ⟨rfl, rfl, rfl, by simp, fun k hk _ => heap_alloc_old w.drew _ hk⟩, fun b c k hr => hr.same (heap_alloc_old w.drew _ hr.lt)⟩
  ·simp only [Array.size_append, List.size_toArray, size_zeroCells, hzs, hlo, hl, ← Nat.add_mul]
   congr 1
   omega
  ·intro j u hjm hu
   rw [← Array.getElem?_toList] at hu
   simp only [Array.toList_append, List.append_assoc] at hu
   rw [Nat.add_mul] at hjm
   by_cases hj : j < n * i.size
   ·rw [List.getElem?_append_left (by omega)] at hu
    exact hqo j u hu
   ·rw [List.getElem?_append_right (by omega)] at hu
    rw [List.getElem?_append_left (by omega)] at hu
    have := hQ _ u hu
    rw [hlo] at this
    have e1 : (j - n * i.size) % i.size = j % i.size := by
     rw [Nat.mul_comm]
     exact Nat.sub_mul_mod (by rw [Nat.mul_comm]; omega)
    rwa [e1] at this
 rcases hv with ⟨rfl, rfl⟩ | ⟨g, cap, rfl, hbg, hnc, hcm, cur, hg, hcs, hq⟩
 ·have hr := run_append_nil (P := P) w t ty e i z ht hi hz ad m c news hl hnews (by omega) (by unfold maxLen at h63; omega) (by have hb := hbytes; simp only [Nat.zero_add] at hb; omega)
  have hgr := grown [] 0 (by omega) (by simp) (fun j u h => by simp at h) (Value.ownBlock (.slice none 0 0)) _ rfl
  simp only [Nat.zero_add, Array.empty_append] at hgr ⊢
  exact ⟨_, _, _, hr, hgr.1, hgr.2.1, hgr.2.2⟩
 ·have hlc : n * i.size ≤ cur.size := by rw [hcs]; exact Nat.mul_le_mul_right _ hnc
  by_cases hroom : n + m ≤ cap
  ·have hfit : n * i.size + news.length ≤ cur.size := by rw [hl, hcs, ← Nat.add_mul]; exact Nat.mul_le_mul_right _ hroom
   have hr := run_append_room (P := P) w t ty e i ht hi g n cap cur hg ad m c news hl hnews h1 hroom hfit
   have hRow : ∀ k, (∀ j u, j < k * i.size → (j < n * i.size ∨ n * i.size + news.length ≤ j) → cur[j]? = some u → Q (j % i.size) u) →
     Row Q i.size e (w.setRow g (cur.toList.take (n * i.size) ++ news ++ cur.toList.drop (n * i.size + news.length)).toArray) g cap k := by
    intro k hk
    refine ⟨_, setRow_heap w g cur _ e _ hg, ?_, fun j u hjk hu => ?_⟩
    ·simp only [List.size_toArray, List.length_append, List.length_take, List.length_drop, Array.length_toList]
     omega
    ·rw [← Array.getElem?_toList] at hu
     simp only [List.append_assoc] at hu
     have hlt : (cur.toList.take (n * i.size)).length = n * i.size := by rw [List.length_take, Array.length_toList]; omega
     by_cases hj : j < n * i.size
     ·rw [List.getElem?_append_left (by omega), List.getElem?_take] at hu
      rw [if_pos hj, Array.getElem?_toList] at hu
      exact hk j u hjk (.inl hj) hu
     ·rw [List.getElem?_append_right (by omega), hlt] at hu
      by_cases hj2 : j - n * i.size < news.length
      ·rw [List.getElem?_append_left hj2] at hu
       have := hQ _ u hu
       have e1 : (j - n * i.size) % i.size = j % i.size := by
        rw [Nat.mul_comm]
        exact Nat.sub_mul_mod (by rw [Nat.mul_comm]; omega)
       rwa [e1] at this
      ·rw [List.getElem?_append_right (by omega), List.getElem?_drop, Array.getElem?_toList] at hu
       rw [show n * i.size + news.length + (j - n * i.size - news.length) = j by omega] at hu
       exact hk j u hjk (.inr (by omega)) hu
   refine ⟨_, _, _, hr, .inr ⟨_, _, rfl, hbg, hroom, hcm, hRow (n + m) fun j u hj ho hu => ?_⟩, ⟨rfl, rfl, rfl, by simp, fun k _ hk => setRow_other w g k _ (fun e => hk (by simp [Value.ownBlock, e]))⟩, fun b c' k hb => ?_⟩
   ·rcases ho with ho | ho
    ·exact hq j u ho hu
    ·rw [Nat.add_mul] at hj; omega
   ·by_cases hbg2 : b = g
    ·subst hbg2
     rw [← Row.cap hs ⟨cur, hg, hcs, hq⟩ hb]
     obtain ⟨cs', k1, k2, k3⟩ := hb
     rw [hg] at k1
     simp only [Option.some.injEq, Obj.cells.injEq] at k1
     obtain ⟨rfl, _⟩ := k1
     exact hRow k fun j u hj _ hu => k3 j u hj hu
    ·exact hb.same (setRow_other w g b _ hbg2)
  ·have hlo : (cur.toList.take (n * i.size)).length = n * i.size := by rw [List.length_take, Array.length_toList]; omega
   have holds : ∀ j u, (cur.toList.take (n * i.size))[j]? = some u → w.cell? ((⟨g, 0, none⟩ : Addr).add j) = some u := by
    intro j u hu
    rw [List.getElem?_take] at hu
    split at hu
    ·exact World.news_of_block hg j u hu
    ·simp at hu
   have hr := run_append_grow (P := P) w t ty e i z ht hi hz ⟨g, 0, none⟩ n cap _ hlo holds ad m c news hl hnews (by omega) (by unfold maxLen at h63; omega) (growslice_fits (by omega) hbytes)
   have hgr := grown (cur.toList.take (n * i.size)) cap (by omega) hlo (fun j u hu => by
    rw [List.getElem?_take] at hu
    split at hu
    ·rename_i hj; rw [Array.getElem?_toList] at hu; exact hq j u hj hu
    ·simp at hu) (Value.ownBlock (.slice (some ⟨g, 0, none⟩) n cap)) _ rfl
   exact ⟨_, _, _, hr, hgr.1, hgr.2.1, hgr.2.2⟩
end
end Go.Proofs.YtnenoaenjaghhaaDoor
namespace Go.Proofs.YtnenoaenjaghhaaDoor
open Go.RowKit Nt
def qI : Nat → Value → Prop := fun _ u => ∃ x, u = .int .i64 x
abbrev BI (w : World) (b c n : Nat) : Prop := Row qI 1 3 w b c n
abbrev SI (w : World) (base : Nat) (v : Value) (n : Nat) : Prop := SRow qI 1 3 w base v n
def qN (K : Nat) (w : World) (base : Nat) : Nat → Value → Prop := fun j u =>
 (j = 0 → ∃ x, u = .int .i64 x) ∧ (j = 1 → ∃ s : ByteArray, u = .string s ∧ s.size ≤ K) ∧ (j = 2 → ∃ n, n ≤ K ∧ SI w base u n)
abbrev BN (K : Nat) (w : World) (base b c n : Nat) : Prop := Row (qN K w base) 3 76 w b c n
abbrev SN (K : Nat) (w : World) (base : Nat) (v : Value) (n : Nat) : Prop := SRow (qN K w base) 3 76 w base v n
theorem SI.bi {w w' : World} {base : Nat} {v : Value} {n : Nat} (h : SI w base v n) (k : ∀ b c m, base ≤ b → BI w b c m → BI w' b c m) : SI w' base v n := by
 rcases h with h | ⟨g, c, rfl, h1, h2, h3, h4⟩
 ·exact .inl h
 ·exact .inr ⟨g, c, rfl, h1, h2, h3, k g c n h1 h4⟩
theorem qN.bi {K base : Nat} {w w' : World} {j : Nat} {u : Value} (h : qN K w base j u) (k : ∀ b c m, base ≤ b → BI w b c m → BI w' b c m) : qN K w' base j u :=
 ⟨h.1, h.2.1, fun e => by obtain ⟨n, hn, hs⟩ := h.2.2 e; exact ⟨n, hn, hs.bi k⟩⟩
theorem SI.base {w : World} {base base' : Nat} {v : Value} {n : Nat} (h : SI w base v n) (hb : base' ≤ base) : SI w base' v n := by
 rcases h with h | ⟨g, c, rfl, h1, h2⟩
 ·exact .inl h
 ·exact .inr ⟨g, c, rfl, Nat.le_trans hb h1, h2⟩
theorem SRow.form {Q : Nat → Value → Prop} {s : Nat} {e : TypeId} {w : World} {base : Nat} {v : Value} {n : Nat} (h : SRow Q s e w base v n) : ∃ a c, v = .slice a n c ∧ n ≤ c ∧ c ≤ maxLen := by
 rcases h with ⟨rfl, rfl⟩ | ⟨g, c, rfl, _, h2, h3, _⟩
 ·exact ⟨none, 0, rfl, Nat.le_refl _, by unfold maxLen; omega⟩
 ·exact ⟨_, c, rfl, h2, h3⟩
structure Ty (K base : Nat) (w w' : World) : Prop where
 bi : ∀ b c n, base ≤ b → BI w b c n → BI w' b c n
 bn : ∀ b c n, base ≤ b → BN K w base b c n → BN K w' base b c n
theorem Ty.trans {K base : Nat} {w w' w'' : World} (h : Ty K base w w') (k : Ty K base w' w'') : Ty K base w w'' := ⟨fun b c n hb x => k.bi b c n hb (h.bi b c n hb x), fun b c n hb x => k.bn b c n hb (h.bn b c n hb x)⟩
theorem SI.ty {K base : Nat} {w w' : World} {v : Value} {n : Nat} (h : SI w base v n) (k : Ty K base w w') : SI w' base v n := h.bi k.bi
theorem SN.ty {K base : Nat} {w w' : World} {v : Value} {n : Nat} (h : SN K w base v n) (k : Ty K base w w') : SN K w' base v n := by
 rcases h with h | ⟨g, c, rfl, h1, h2, h3, h4⟩
 ·exact .inl h
 ·exact .inr ⟨g, c, rfl, h1, h2, h3, k.bn g c n h1 h4⟩
theorem qD : 3 ≠ 76 := by decide
theorem Ty.same {K base : Nat} {w w' : World} (h : ∀ b cs e, base ≤ b → b < w.heap.size → (e = 3 ∨ e = 76) → w.heap[b]? = some (.cells cs e (0, 0)) → w'.heap[b]? = w.heap[b]?) : Ty K base w w' := by
 have hi : ∀ b c n, base ≤ b → BI w b c n → BI w' b c n := fun b c n hb x => by
  have hl := x.lt
  obtain ⟨cs, h1, _⟩ := id x
  exact Row.same x (h b cs _ hb hl (.inl rfl) h1)
 refine ⟨hi, fun b c n hb x => ?_⟩
 have hl := x.lt
 obtain ⟨cs, h1, _⟩ := id x
 exact (Row.same x (h b cs _ hb hl (.inr rfl) h1)).map fun j u q => q.bi hi
theorem Ty.below {K base : Nat} {w w' : World} (h : Below w.heap.size w w') : Ty K base w w' := Ty.same fun b _ _ _ hl _ _ => h.block b hl
theorem Ty.keeps {K base g : Nat} {w w' : World} (h : Keeps g w w') (hg : g < base) : Ty K base w w' := Ty.same fun b _ _ hb hl _ _ => h.block b hl (by omega)
theorem Ty.box {K base b i : Nat} {x y : Value} {T : TypeId} {w : World} (h : AtC2 w b x y T) (h1 : T ≠ 3) (h2 : T ≠ 76) (u : Value) : Ty K base w (w.setCell ⟨b, i, none⟩ u) := by
 refine Ty.same fun b' cs e _ _ he hc => ?_
 rw [Below.heap_setCell _ _ _ _ (show b' ≠ b from ?_)]
 intro e'
 subst e'
 unfold AtC2 at h
 rw [h] at hc
 simp only [Option.some.injEq, Obj.cells.injEq] at hc
 rcases he with he | he
 ·exact h1 (hc.2.1.trans he)
 ·exact h2 (hc.2.1.trans he)
theorem Row.ne {Q Q' : Nat → Value → Prop} {s s' : Nat} {e e' : TypeId} {w : World} {b b' c c' n n' : Nat} (h : Row Q s e w b c n) (h' : Row Q' s' e' w b' c' n') (he : e ≠ e') : b ≠ b' := by
 intro e1; subst e1
 obtain ⟨cs, h1, _⟩ := h
 obtain ⟨cs', k1, _⟩ := h'
 rw [h1] at k1
 simp only [Option.some.injEq, Obj.cells.injEq] at k1
 exact he k1.2.1
theorem Row.far {Q : Nat → Value → Prop} {s : Nat} {e : TypeId} {w : World} {b c n b' i : Nat} {u : Value} (h : Row Q s e w b c n) (hb : b ≠ b') : Row Q s e (w.setCell ⟨b', i, none⟩ u) b c n :=
 h.same (Below.heap_setCell _ _ _ _ hb)
theorem Ty.setI {K base b c n i : Nat} {x : Int} {w : World} (h : BI w b c n) : Ty K base w (w.setCell ⟨b, i, none⟩ (.int .i64 x)) := by
 have hi : ∀ b' c' m, base ≤ b' → BI w b' c' m → BI (w.setCell ⟨b, i, none⟩ (.int .i64 x)) b' c' m := fun b' c' m _ h' => by
  by_cases e : b' = b
  ·subst e; exact h'.set ⟨x, rfl⟩
  ·exact h'.far e
 refine ⟨hi, fun b' c' m hb h' => ?_⟩
 exact (h'.far (fun e => Row.ne h h' qD e.symm)).map fun j u q => q.bi hi
theorem Ty.setN {K base b c n i : Nat} {x : Value} {w : World} (h : BN K w base b c n) (hx : qN K w base (i % 3) x) : Ty K base w (w.setCell ⟨b, i, none⟩ x) := by
 have hi : ∀ b' c' m, base ≤ b' → BI w b' c' m → BI (w.setCell ⟨b, i, none⟩ x) b' c' m := fun b' c' m _ h' => h'.far (fun e => Row.ne h' h qD e)
 refine ⟨hi, fun b' c' m hb h' => ?_⟩
 by_cases e : b' = b
 ·subst e; exact (h'.set hx).map fun j u q => q.bi hi
 ·exact (h'.far e).map fun j u q => q.bi hi
structure Grown (e : TypeId) (K base : Nat) (w w' : World) : Prop where
 ty : Ty K base w w'
 low : Below base w w'
 oth : ∀ (b : Nat) (cs : Array Value) (T : TypeId) (fr : Nat × Nat), T ≠ e → w.heap[b]? = some (Obj.cells cs T fr) → w'.heap[b]? = some (Obj.cells cs T fr)
theorem AtC2.gr {e T : TypeId} {K base b : Nat} {w w' : World} {x y : Value} (h : AtC2 w b x y T) (k : Grown e K base w w') (hT : T ≠ e) : AtC2 w' b x y T := k.oth b _ T _ hT h
theorem AtC3.gr {e T : TypeId} {K base b : Nat} {w w' : World} {x y z : Value} (h : AtC3 w b x y z T) (k : Grown e K base w w') (hT : T ≠ e) : AtC3 w' b x y z T := k.oth b _ T _ hT h
theorem SRow.own {Q : Nat → Value → Prop} {s : Nat} {e : TypeId} {w : World} {base : Nat} {v : Value} {n g : Nat} (h : SRow Q s e w base v n) (hg : v.ownBlock = some g) : base ≤ g ∧ ∃ c, Row Q s e w g c n := by
 rcases h with ⟨rfl, _⟩ | ⟨g', c, rfl, h1, h2, h3, h4⟩
 ·simp [Value.ownBlock] at hg
 ·simp [Value.ownBlock] at hg
  subst hg
  exact ⟨h1, c, h4⟩
theorem yF {Q : Nat → Value → Prop} {s : Nat} {e : TypeId} {w w' : World} {base : Nat} {v : Value} {n : Nat} (h : SRow Q s e w base v n) (hg : w.grownBy w' v.ownBlock) (hb : base ≤ w.heap.size) :
  Below base w w' ∧ (∀ (b : Nat) (cs : Array Value) (T : TypeId) (fr : Nat × Nat), T ≠ e → w.heap[b]? = some (Obj.cells cs T fr) → w'.heap[b]? = some (Obj.cells cs T fr)) := by
 refine ⟨⟨hg.os, hg.tape, hg.output, hg.size, fun k hk => hg.block k (by omega) fun e' => ?_⟩, fun b cs T fr h1 ha => ?_⟩
 ·have := (h.own e'.symm).1; omega
 ·refine (hg.block b (Array.getElem?_eq_some_iff.1 ha).1 fun e' => ?_).trans ha
  obtain ⟨_, c, cs', k1, _⟩ := h.own e'.symm
  rw [ha] at k1
  simp only [Option.some.injEq, Obj.cells.injEq] at k1
  exact h1 k1.2.1
theorem kZ {K base : Nat} {w w' : World} {v : Value} {n : Nat} (h : SI w base v n) (hg : w.grownBy w' v.ownBlock) (hb : base ≤ w.heap.size) (hr : ∀ b c k, BI w b c k → BI w' b c k) : Grown 3 K base w w' := by
 obtain ⟨k1, k2⟩ := yF h hg hb
 refine ⟨⟨fun b c m _ x => hr b c m x, fun b c m hbb x => ?_⟩, k1, k2⟩
 refine (Row.same x (hg.block b x.lt fun e' => ?_)).map fun j u q => q.bi fun b c m _ x => hr b c m x
 obtain ⟨_, c', k3⟩ := h.own e'.symm
 exact Row.ne k3 x qD rfl
theorem km {K base : Nat} {w w' : World} {v : Value} {n : Nat} (h : SN K w base v n) (hg : w.grownBy w' v.ownBlock) (hb : base ≤ w.heap.size) (hr : ∀ b c k, BN K w base b c k → Row (qN K w base) 3 76 w' b c k) : Grown 76 K base w w' := by
 obtain ⟨k1, k2⟩ := yF h hg hb
 have hi : ∀ b c m, base ≤ b → BI w b c m → BI w' b c m := fun b c m _ x => by
  refine Row.same x (hg.block b x.lt fun e' => ?_)
  obtain ⟨_, c', k3⟩ := h.own e'.symm
  exact Row.ne x k3 qD rfl
 exact ⟨⟨hi, fun b c m hbb x => (hr b c m x).map fun j u q => q.bi hi⟩, k1, k2⟩
theorem SI.oth {T : TypeId} {base b i n : Nat} {cs : Array Value} {fr : Nat × Nat} {w : World} {v : Value} (h : SI w base v n) (hb : w.heap[b]? = some (Obj.cells cs T fr)) (hT : T ≠ 3) (u : Value) : SI (w.setCell ⟨b, i, none⟩ u) base v n :=
 h.bi fun b' c m _ x => x.far fun e => by
  subst e
  obtain ⟨cs', k1, _⟩ := x
  rw [hb] at k1
  simp only [Option.some.injEq, Obj.cells.injEq] at k1
  exact hT k1.2.1
theorem AtC3.keeps {g b : Nat} {w w' : World} {x y z : Value} {T : TypeId} (h : AtC3 w b x y z T) (k : Keeps g w w') (hb : b ≠ g) : AtC3 w' b x y z T := (k.block b h.lt hb).trans h
theorem AtC2.keeps {g b : Nat} {w w' : World} {x y : Value} {T : TypeId} (h : AtC2 w b x y T) (k : Keeps g w w') (hb : b ≠ g) : AtC2 w' b x y T := (k.block b h.lt hb).trans h
theorem Keeps.more {g : Nat} {a w w' : World} (h : Keeps g a w) (hb : Below a.heap.size w w') : Keeps g a w' :=
 ⟨hb.os.trans h.os, hb.tape.trans h.tape, hb.output.trans h.output, Nat.le_trans h.size hb.size, fun i hi hig => (hb.block i hi).trans (h.block i hi hig)⟩
theorem qA {w : World} {b i : Nat} {cs : Array Value} {T : TypeId} (h : w.heap[b]? = some (.cells cs T (0, 0))) (u : Value) : (w.setCell ⟨b, i, none⟩ u).heap[b]? = some (.cells (cs.setIfInBounds i u) T (0, 0)) := by
 show (w.heap.modify b _)[b]? = _
 rw [Array.getElem?_modify, if_pos rfl, h]; rfl
theorem AtC3.put3 {w : World} {b : Nat} {x y z : Value} {T : TypeId} (h : AtC3 w b x y z T) (u v t : Value) : AtC3 (((w.setCell ⟨b, 0, none⟩ u).setCell ⟨b, 1, none⟩ v).setCell ⟨b, 2, none⟩ t) b u v t T :=
 qA (i := 2) (qA (i := 1) (qA (i := 0) h u) v) t
theorem AtC3.put2 {w : World} {b : Nat} {x y z : Value} {T : TypeId} (h : AtC3 w b x y z T) (t : Value) : AtC3 (w.setCell ⟨b, 2, none⟩ t) b x y t T := qA (i := 2) h t
theorem SI.put3 {T : TypeId} {base b n : Nat} {x y z : Value} {w : World} {v : Value} (h : SI w base v n) (hb : AtC3 w b x y z T) (hT : T ≠ 3) (u0 u1 u2 : Value) : SI (((w.setCell ⟨b, 0, none⟩ u0).setCell ⟨b, 1, none⟩ u1).setCell ⟨b, 2, none⟩ u2) base v n :=
 ((h.oth hb hT u0).oth (qA (i := 0) hb u0) hT u1).oth (qA (i := 1) (qA (i := 0) hb u0) u1) hT u2
theorem ZV (w : World) (cs : Array Value) (h : ∀ u ∈ cs.toList, ∃ x, u = .int .i64 x) : BI (w.alloc (.cells cs 3)) w.heap.size cs.size cs.size :=
 ⟨cs, heap_alloc_new w _, by simp, fun j u _ hu => h u (by have := Array.mem_of_getElem? hu; simpa using this)⟩
theorem Qc (w : World) (cs : Array Value) (n : Nat) (hn : cs.size = n) (hm : n ≤ maxLen) (h : ∀ u ∈ cs.toList, ∃ x, u = .int .i64 x) : SI (w.alloc (.cells cs 3)) w.heap.size (.slice (some ⟨w.heap.size, 0, none⟩) n n) n := by
 subst hn; exact .inr ⟨_, _, rfl, Nat.le_refl _, Nat.le_refl _, hm, ZV w cs h⟩
theorem qh (w : World) (base : Nat) : SI w base (.slice none 0 0) 0 := .inl ⟨rfl, rfl⟩
theorem Qd (K : Nat) (w : World) (base : Nat) : SN K w base (.slice none 0 0) 0 := .inl ⟨rfl, rfl⟩
theorem ZW {K base : Nat} (w : World) (b : Nat) (x : Int) (s : ByteArray) (kv : Value) (n : Nat) (hs : s.size ≤ K) (hn : n ≤ K) (h : w.heap[b]? = some (.cells #[.int .i64 x, .string s, kv] 76 (0, 0))) (hk : SI w base kv n) : BN K w base b 1 1 :=
 ⟨_, h, rfl, fun j u hj hu => by
  match j, hj, hu with
  | 0, _, hu => simp at hu; subst hu; exact ⟨fun _ => ⟨x, rfl⟩, fun e => by simp at e, fun e => by simp at e⟩
  | 1, _, hu => simp at hu; subst hu; exact ⟨fun e => by simp at e, fun _ => ⟨s, rfl, hs⟩, fun e => by simp at e⟩
  | 2, _, hu => simp at hu; subst hu; exact ⟨fun e => by simp at e, fun e => by simp at e, fun _ => ⟨n, hn, hk⟩⟩⟩
theorem kV {w : World} {q : Nat} {v : Value} (h : w.cell? ⟨q, 0, none⟩ = some v) : w.cell? ((⟨q, 0, none⟩ : Addr).add 0) = some v := by
 have e : (⟨q, 0, none⟩ : Addr).add 0 = ⟨q, 0, none⟩ := by unfold Addr.add; split <;> simp_all
 rw [e]; exact h
theorem jz {w : World} {q j : Nat} {v : Value} (h : w.cell? ⟨q, j, none⟩ = some v) : w.cell? ((⟨q, 0, none⟩ : Addr).add j) = some v := by
 have e : (⟨q, 0, none⟩ : Addr).add j = ⟨q, j, none⟩ := by unfold Addr.add; split <;> simp_all
 rw [e]; exact h
theorem yV (K : Nat) (w : World) (base : Nat) (ty : TypeId) (v : Value) (n q : Nat) (x : Int) (hv : SI w base v n) (hx : w.cell? ⟨q, 0, none⟩ = some (.int .i64 x)) (hn : n ≤ 10000000) (hbase : base ≤ w.heap.size) :
  ∃ g cap w', (Builtin.append_ #[59, 59] ty #[v, .slice (some ⟨q, 0, none⟩) 1 1]).run Tryd.prog w = .ok (.slice (some ⟨g, 0, none⟩) (n + 1) cap) w' ∧ SI w' base (.slice (some ⟨g, 0, none⟩) (n + 1) cap) (n + 1) ∧ Grown 3 K base w w' := by
 obtain ⟨i0, hi, hz0, hz1, hz2⟩ := info_parts Tryd.infoInt
 obtain ⟨g, cap, w', hr, h1, h2, h3⟩ := q6 (P := Tryd.prog) qI w base 1 59 ty 3 i0 (.int .i64 0) 8 Tryd.underlying59 hi hz0 hz1 hz2 rfl (by decide) v n hv ⟨q, 0, none⟩ 1 1 [.int .i64 x] rfl
  (fun j u h => by
   match j, h with
   | 0, h => simp at h; subst h; exact kV hx
   | j + 1, h => simp at h)
  (fun u h => by simp at h; subst h; rfl) (fun j u h => by
   match j, h with
   | 0, h => simp at h; subst h; exact ⟨x, rfl⟩
   | j + 1, h => simp at h) (by decide) (by unfold maxLen; omega) (by omega) hbase
 exact ⟨g, cap, w', hr, h1, kZ hv h2 hbase h3⟩
theorem yq (K : Nat) (w : World) (base : Nat) (ty : TypeId) (v : Value) (n q : Nat) (x : Int) (s : ByteArray) (kv : Value) (m : Nat) (hv : SN K w base v n) (h0 : w.cell? ⟨q, 0, none⟩ = some (.int .i64 x)) (h1 : w.cell? ⟨q, 1, none⟩ = some (.string s)) (h2 : w.cell? ⟨q, 2, none⟩ = some kv)
  (hs : s.size ≤ K) (hm : m ≤ K) (hk : SI w base kv m) (hn : n ≤ 1000000) (hbase : base ≤ w.heap.size) :
  ∃ g cap w', (Builtin.append_ #[69, 69] ty #[v, .slice (some ⟨q, 0, none⟩) 1 1]).run Tryd.prog w = .ok (.slice (some ⟨g, 0, none⟩) (n + 1) cap) w' ∧ SN K w' base (.slice (some ⟨g, 0, none⟩) (n + 1) cap) (n + 1) ∧ Grown 76 K base w w' := by
 obtain ⟨i0, hi, hz0, hz1, hz2⟩ := info_parts Tryd.infoNode
 have hone : kv.oneCell' = true := by
  rcases hk with ⟨rfl, _⟩ | ⟨g, c, rfl, _⟩ <;> rfl
 obtain ⟨g, cap, w', hr, k1, k2, k3⟩ := q6 (P := Tryd.prog) (qN K w base) w base 3 69 ty 76 i0 (.agg #[.int .i64 0, .string ⟨#[]⟩, .slice none 0 0]) 48 Tryd.underlying69 hi hz0 hz1 hz2 rfl (by decide) v n hv ⟨q, 0, none⟩ 1 1 [.int .i64 x, .string s, kv] rfl
  (fun j u h => by
   match j, h with
   | 0, h => simp at h; subst h; exact jz h0
   | 1, h => simp at h; subst h; exact jz h1
   | 2, h => simp at h; subst h; exact jz h2
   | j + 3, h => simp at h)
  (fun u h => by simp at h; rcases h with rfl | rfl | rfl <;> first | rfl | exact hone) (fun j u h => by
   match j, h with
   | 0, h => simp at h; subst h; exact ⟨fun _ => ⟨x, rfl⟩, fun e => by simp at e, fun e => by simp at e⟩
   | 1, h => simp at h; subst h; exact ⟨fun e => by simp at e, fun _ => ⟨s, rfl, hs⟩, fun e => by simp at e⟩
   | 2, h => simp at h; subst h; exact ⟨fun e => by simp at e, fun e => by simp at e, fun _ => ⟨m, hm, hk⟩⟩
   | j + 3, h => simp at h) (by decide) (by unfold maxLen; omega) (by omega) hbase
 have hG := km hv k2 hbase k3
 refine ⟨g, cap, w', hr, ?_, hG⟩
 rcases k1 with ⟨e, _⟩ | ⟨g', c, e, r1, r2, r3, r4⟩
 ·cases e
 ·exact .inr ⟨g', c, e, r1, r2, r3, r4.map fun j u q => q.bi hG.ty.bi⟩
theorem jw {w : World} {ops : Array Oper} {o : Oper} {a : Act} {K' : Act → World → Prop} {Q : Exit → Act → World → Prop} {E : Prop} (hgd : o.guard = none) (s x : Operand)
  (ho : o.op = .call { callee := .builtin .append, args := #[s, x], argTypes := #[59, 59] })
  (K base : Nat) (v : Value) (n q : Nat) (z : Int) (hs : a.eval s = v) (hxv : a.eval x = .slice (some ⟨q, 0, none⟩) 1 1) (hv : SI w base v n) (hx : w.cell? ⟨q, 0, none⟩ = some (.int .i64 z)) (hn : n ≤ 10000000) (hbase : base ≤ w.heap.size) (d : Option Tmp) (hd : o.dst = d)
  (h : ∀ g cap w', SI w' base (.slice (some ⟨g, 0, none⟩) (n + 1) cap) (n + 1) → Grown 3 K base w w' → K' (a.put d (.slice (some ⟨g, 0, none⟩) (n + 1) cap)) w') :
  if Region.wanted o (yielded ops a.tmps) = true then Oper.wp Tryd.prog o a w K' Q else E := by
 subst hd
 have hw : Region.wanted o (yielded ops a.tmps) = true := by simp [Region.wanted, hgd]
 rw [if_pos hw]
 obtain ⟨g, cap, w', hr, h2, h3⟩ := yV K w base o.type v n q z hv hx hn hbase
 unfold Oper.wp execOp
 simp only [ho, resolve, invoke, builtin, Sem.run_bind, Sem.run_pure, Result.andThen_ok, List.map_toArray, List.map_cons, List.map_nil, hs, hxv, hr]
 exact h g cap w' h2 h3
theorem zD {w : World} {ops : Array Oper} {rest : List Oper} {o : Oper} {a : Act} {Q : Exit → Act → World → Prop} (hgd : o.guard = none) (s x : Operand)
  (ho : o.op = .call { callee := .builtin .append, args := #[s, x], argTypes := #[69, 69] })
  (K base : Nat) (v : Value) (n q : Nat) (z : Int) (t : ByteArray) (kv : Value) (m : Nat) (hs : a.eval s = v) (hxv : a.eval x = .slice (some ⟨q, 0, none⟩) 1 1) (hv : SN K w base v n) (h0 : w.cell? ⟨q, 0, none⟩ = some (.int .i64 z)) (h1 : w.cell? ⟨q, 1, none⟩ = some (.string t)) (h2 : w.cell? ⟨q, 2, none⟩ = some kv)
  (ht : t.size ≤ K) (hm : m ≤ K) (hk : SI w base kv m) (hn : n ≤ 1000000) (hbase : base ≤ w.heap.size)
  (h : ∀ g cap w', SN K w' base (.slice (some ⟨g, 0, none⟩) (n + 1) cap) (n + 1) → Grown 76 K base w w' → wpList Tryd.prog ops Q rest (a.put o.dst (.slice (some ⟨g, 0, none⟩) (n + 1) cap)) w') :
  wpList Tryd.prog ops Q (o :: rest) a w := by
 refine wpList_plain hgd fun K' hK => ?_
 obtain ⟨g, cap, w', hr, h2, h3⟩ := yq K w base o.type v n q z t kv m hv h0 h1 h2 ht hm hk hn hbase
 unfold Oper.wp execOp
 simp only [ho, resolve, invoke, builtin, Sem.run_bind, Sem.run_pure, Result.andThen_ok, List.map_toArray, List.map_cons, List.map_nil, hs, hxv, hr]
 exact hK _ _ (h g cap w' h2 h3)
theorem kG {α : Type} {n : Nat} {P : Nat → α → Prop} (h : ∀ j, j < n → ∃ x, P j x) : ∃ xs : List α, xs.length = n ∧ ∀ j x, xs[j]? = some x → P j x := by
 induction n with
 | zero => exact ⟨[], rfl, fun j x h => by simp at h⟩
 | succ n ih =>
  obtain ⟨xs, hl, hx⟩ := ih fun j hj => h j (by omega)
  obtain ⟨x, hp⟩ := h n (by omega)
  refine ⟨xs ++ [x], by simp [hl], fun j y hy => ?_⟩
  by_cases hj : j < xs.length
  ·rw [List.getElem?_append_left hj] at hy; exact hx j y hy
  ·have hj2 : j = n := by
    have := (List.getElem?_eq_some_iff.1 hy).1
    simp at this; omega
   subst hj2
   rw [List.getElem?_append_right (by omega), hl] at hy
   simp at hy; subst hy; exact hp
theorem SI.ints {w : World} {base : Nat} {v : Value} {n : Nat} (h : SI w base v n) : ∃ xs : List Int, xs.length = n ∧ IntsAt w v xs := by
 rcases h with ⟨rfl, rfl⟩ | ⟨g, c, rfl, h1, h2, h3, h4⟩
 ·exact ⟨[], rfl, none, 0, rfl, Nat.le_refl _, by unfold maxLen; omega, fun h => absurd h (by simp)⟩
 ·obtain ⟨xs, hl, hx⟩ := kG (n := n) (P := fun j x => w.cell? ⟨g, j, none⟩ = some (.int .i64 x)) fun j hj => by
   obtain ⟨u, hu, x, rfl⟩ := h4.cell h2 (j := j) (by omega)
   exact ⟨x, hu⟩
  exact ⟨xs, hl, _, c, by rw [hl], by omega, h3, fun _ => ⟨g, 0, rfl, h4.lt, fun j x e => by rw [Nat.zero_add]; exact hx j x e⟩⟩
theorem SN.base {K : Nat} {w : World} {base base' : Nat} {v : Value} {n : Nat} (h : SN K w base v n) (hb : base' ≤ base) : SN K w base' v n := by
 rcases h with h | ⟨g, c, rfl, h1, h2, h3, h4⟩
 ·exact .inl h
 ·exact .inr ⟨g, c, rfl, Nat.le_trans hb h1, h2, h3, h4.map fun j u q => ⟨q.1, q.2.1, fun e => by obtain ⟨k, hk, hs⟩ := q.2.2 e; exact ⟨k, hk, SI.base hs hb⟩⟩⟩
theorem Zl (s : ByteArray) : ∃ t : List UInt8, s = B t ∧ t.length = s.size := ⟨s.data.toList, rfl, Array.length_toList⟩
theorem SN.nodes {K : Nat} {w : World} {base : Nat} {v : Value} {n : Nat} (h : SN K w base v n) (hK : K ≤ maxLen) : ∃ ns : List Nd, ns.length = n ∧ NodesAt w v ns ∧ ∀ nd ∈ ns, nd.2.1.length ≤ K ∧ nd.2.2.length ≤ K := by
 rcases h with ⟨rfl, rfl⟩ | ⟨g, c, rfl, h1, h2, h3, h4⟩
 ·exact ⟨[], rfl, ⟨none, 0, rfl, Nat.le_refl _, by unfold maxLen; omega, fun h => absurd h (by simp)⟩, fun nd h => by simp at h⟩
 ·obtain ⟨ns, hl, hx⟩ := kG (α := Nd) (n := n) (P := fun j nd => w.cell? ⟨g, j * 3, none⟩ = some (.int .i64 nd.1) ∧ w.cell? ⟨g, j * 3 + 1, none⟩ = some (.string (B nd.2.1)) ∧ (nd.2.1.length ≤ K ∧ nd.2.2.length ≤ K) ∧ ∃ kv, w.cell? ⟨g, j * 3 + 2, none⟩ = some kv ∧ IntsAt w kv nd.2.2) fun j hj => by
   obtain ⟨u0, c0, q0⟩ := h4.cell h2 (j := j * 3) (by omega)
   obtain ⟨u1, c1, q1⟩ := h4.cell h2 (j := j * 3 + 1) (by omega)
   obtain ⟨u2, c2, q2⟩ := h4.cell h2 (j := j * 3 + 2) (by omega)
   obtain ⟨x, rfl⟩ := q0.1 (by omega)
   obtain ⟨s, rfl, hs⟩ := q1.2.1 (by omega)
   obtain ⟨m, hm, hk⟩ := q2.2.2 (by omega)
   obtain ⟨t, rfl, ht⟩ := Zl s
   obtain ⟨xs, hxl, hxs⟩ := hk.ints
   exact ⟨(x, t, xs), c0, c1, ⟨by show t.length ≤ K; omega, by show xs.length ≤ K; omega⟩, u2, c2, hxs⟩
  refine ⟨ns, hl, ⟨_, c, by rw [hl], by omega, h3, fun _ => ⟨g, 0, rfl, h4.lt, fun j nd e => ?_⟩⟩, fun nd hnd => ?_⟩
  ·obtain ⟨c0, c1, ⟨l1, l2⟩, kv, c2, hk⟩ := hx j nd e
   exact ⟨by rw [Nat.zero_add]; exact c0, by rw [Nat.zero_add]; exact c1, by omega, kv, by rw [Nat.zero_add]; exact c2, hk⟩
  ·obtain ⟨j, hj⟩ := List.getElem?_of_mem hnd
   exact (hx j nd hj).2.2.1
theorem Zo {K : Nat} {w : World} {base : Nat} {nv rv : Value} {n m : Nat} (hn : SN K w base nv n) (hr : SI w base rv m) (hK : K ≤ maxLen) :
  ∃ d : Dt, DataAt w (.agg #[nv, rv]) d ∧ d.1.length = n ∧ d.2.length = m ∧ ∀ nd ∈ d.1, nd.2.1.length ≤ K ∧ nd.2.2.length ≤ K := by
 obtain ⟨ns, h1, h2, h3⟩ := hn.nodes hK
 obtain ⟨rs, k1, k2⟩ := hr.ints
 exact ⟨(ns, rs), ⟨nv, rv, rfl, h2, k2⟩, h1, k1, h3⟩
def xR (m : Int) (i : Nat) : Prop := (i : Int) < m ∨ i = 0
theorem nameI (z : Int) (M : Int) (h0 : 0 ≤ z) (h1 : z ≤ M) (hM : M ≤ 9223372036854775807) : ∃ u : Nat, Hid (z = (u : Int)) ∧ IntKind.i64.wrap z = (u : Int) ∧ (u : Int) ≤ M :=
 ⟨z.toNat, by show z = _; omega, by rw [wi64 z (by omega) (by omega)]; omega, by omega⟩
theorem qT (g p n cap : Nat) (a : Option Addr) (m : Int) (w : World) (h : Rd w g p a n cap) (hp : p ≤ 1000000000) (hm : m ≤ 4611686018427387904) :
  Calls Tryd.prog 26 #[.pointer (some ⟨g, 0, none⟩), .int .i64 m] w fun e w' => (∃ i : Nat, e = .returned (.int .i64 (i : Int)) ∧ xR m i) ∧ Rd w' g (p + 1) a n cap ∧ Keeps g w w' := by
 have c0 := h.c0
 have c1 := h.c1
 have f1 := h.f1
 have hlt := h.lt
 have hN := h.next ((p : Int) + 1) (by omega)
 have hK := (Keeps.refl g w).setOwn (p := ⟨g, 1, none⟩) rfl (.int .i64 ((p : Int) + 1))
 have d0 := hN.c0
 have d1 := hN.c1
 have hB := hN.byts
 have hlen := h.len
 have HN := hide hN
 have HK := hide hK
 clear hN hK h
 by_cases hm1 : m < 1
 ·go_enter Tryd.func26, Tryd.ntmps26
  go_wp2
  go_ret
  exact ⟨⟨0, rfl, .inr rfl⟩, za HN, za HK⟩
 ·by_cases hn0 : n = 0
  ·have hz : ((n : Int) == 0) = true := by simp [hn0]
   have hl : decide (m < 1) = false := decide_eq_false hm1
   go_enter Tryd.func26, Tryd.ntmps26
   go_wp2
   go_ret
   subst hn0
   exact ⟨⟨0, rfl, .inr rfl⟩, za HN, za HK⟩
  ·obtain ⟨q, o, rfl, hqg, hq, hcells⟩ := hB (by omega)
   have hz : ((n : Int) == 0) = false := by simp; omega
   have hl : decide (m < 1) = false := decide_eq_false hm1
   have Hc := hide hcells
   clear hcells hB
   by_cases hpn : p < n
   ·obtain ⟨x, hx, hcx⟩ := za Hc p hpn
    go_enter Tryd.func26, Tryd.ntmps26
    go_wp2
    go_ret
    refine ⟨⟨((x : Int) % m).toNat, zQ ?_, .inl ?_⟩, za HN, za HK⟩
    ·rw [Int.toNat_of_nonneg (Int.emod_nonneg _ (by omega))]
    ·rw [Int.toNat_of_nonneg (Int.emod_nonneg _ (by omega))]; exact Int.emod_lt_of_pos _ (by omega)
   ·obtain ⟨i1, hi1, e1⟩ : ∃ i : Nat, i < n ∧ (p : Int).tmod n = (i : Int) := ⟨p % n, Nat.mod_lt _ (by omega), by rw [Int.tmod_eq_emod_of_nonneg (by omega)]; rfl⟩
    obtain ⟨k7, _, e3, hk7⟩ := nameI ((p : Int) * 7) 7000000000 (by omega) (by omega) (by omega)
    obtain ⟨k73, _, e4, hk73⟩ := nameI ((k7 : Int) + 3) 7000000003 (by omega) (by omega) (by omega)
    obtain ⟨i2, hi2, e5⟩ : ∃ i : Nat, i < n ∧ (k73 : Int).tmod n = (i : Int) := ⟨k73 % n, Nat.mod_lt _ (by omega), by rw [Int.tmod_eq_emod_of_nonneg (by omega)]; rfl⟩
    obtain ⟨x, hx, hcx⟩ := za Hc i1 hi1
    obtain ⟨y, hy, hcy⟩ := za Hc i2 hi2
    obtain ⟨u1, _, e6, hu1⟩ := nameI ((x : Int) * 131) 100000 (by omega) (by omega) (by omega)
    obtain ⟨u2, _, e7, hu2⟩ := nameI ((y : Int) * 1117) 1000000 (by omega) (by omega) (by omega)
    obtain ⟨u3, _, e8, hu3⟩ := nameI ((u1 : Int) + u2) 1100000 (by omega) (by omega) (by omega)
    obtain ⟨u4, _, e9, hu4⟩ := nameI ((p : Int) * 29) 29000000000 (by omega) (by omega) (by omega)
    obtain ⟨u5, _, e10, hu5⟩ := nameI ((u3 : Int) + u4) 30000000000 (by omega) (by omega) (by omega)
    obtain ⟨u6, hu6, e11⟩ : ∃ u : Nat, (u : Int) ≤ 1000000000 ∧ (p : Int).tdiv n = (u : Int) := ⟨p / n, by have := Nat.div_le_self p n; omega, by rw [Int.tdiv_eq_ediv_of_nonneg (by omega)]; rfl⟩
    have e11' := wi64 (u6 : Int) (by omega) (by omega)
    obtain ⟨u7, _, e12, hu7⟩ := nameI ((u6 : Int) * 53) 53000000000 (by omega) (by omega) (by omega)
    obtain ⟨u8, _, e13, hu8⟩ := nameI ((u5 : Int) + u7) 100000000000 (by omega) (by omega) (by omega)
    have hi1' : (i1 : Int) < n := by omega
    have hi2' : (i2 : Int) < n := by omega
    have hx256 : (x : Int) ≤ 255 := by omega
    have hy256 : (y : Int) ≤ 255 := by omega
    have hX := xD (x := (u8 : Int)) (y := (u8 : Int) / 64) (by omega) (by omega) (by omega) (by omega)
    obtain ⟨z, hz⟩ : ∃ z : Nat, bits .xor .i64 (u8 : Int) ((u8 : Int) / 64) = (z : Int) := ⟨(bits .xor .i64 (u8 : Int) ((u8 : Int) / 64)).toNat, by omega⟩
    have Hz := hide hz
    clear hz hX
    go_enter Tryd.func26, Tryd.ntmps26
    go_wp2
    go_quiet (fail)
    go_wp2
    go_ret
    rw [za Hz]
    refine ⟨⟨((z : Int) % m).toNat, zQ ?_, .inl ?_⟩, (za HN).drewN nq, (za HK).drewN nq⟩
    ·rw [Int.toNat_of_nonneg (Int.emod_nonneg _ (by omega)), Int.tmod_eq_emod_of_nonneg (by omega)]
    ·rw [Int.toNat_of_nonneg (Int.emod_nonneg _ (by omega))]; exact Int.emod_lt_of_pos _ (by omega)
theorem zu (g p n cap : Nat) (a : Option Addr) (m : Int) (w : World) (h : Rd w g p a n cap) (hp : p ≤ 1000000000) (hm : m ≤ 4611686018427387904) :
  Calls Tryd.prog 26 #[.pointer (some ⟨g, 0, none⟩), .int .i64 m] w fun e w' => (∃ i : Nat, e = .returned (.int .i64 (i : Int)) ∧ xR m i) ∧ Drawn w g p n cap a 1 w' :=
 (qT g p n cap a m w h hp hm).mono fun _ _ h => ⟨h.1, ⟨p + 1, Nat.le_refl _, h.2.1⟩, h.2.2⟩
def Bytes0 (w : World) (a : Option Addr) (n : Nat) : Prop :=
 0 < n → ∃ q o, a = some ⟨q, o, none⟩ ∧ q < w.heap.size ∧ ∀ j, j < n → ∃ x : Nat, x ≤ 255 ∧ w.cell? ⟨q, o + j, none⟩ = some (.int .u8 (x : Int))
theorem Bytes0.below {w w' : World} {a : Option Addr} {n : Nat} (h : Bytes0 w a n) (k : Below w.heap.size w w') : Bytes0 w' a n := by
 intro hn
 obtain ⟨q, o, rfl, hq, hc⟩ := h hn
 refine ⟨q, o, rfl, Nat.lt_of_lt_of_le hq k.size, fun j hj => ?_⟩
 obtain ⟨x, hx, hcj⟩ := hc j hj
 exact ⟨x, hx, by rw [k.cell hq]; exact hcj⟩
theorem Bytes0.byts {w : World} {a : Option Addr} {n m : Nat} (h : Bytes0 w a n) (hm : m ≤ n) (o : Obj) : Byts (w.alloc o) w.heap.size a m := by
 intro hn
 obtain ⟨q, o', rfl, hq, hc⟩ := h (by omega)
 refine ⟨q, o', rfl, hq, by simp; omega, fun j hj => ?_⟩
 obtain ⟨x, hx, hcj⟩ := hc j (by omega)
 exact ⟨x, hx, by rw [Below.cell ((Below.refl w.heap.size w).alloc (Nat.le_refl _) o) hq]; exact hcj⟩
theorem Zd {w : World} {a : Option Addr} {n m cap : Nat} (h : Bytes0 w a n) (hm : m ≤ n) (h2 : m ≤ 2000) (v : Int) (hv : v = ((0 : Nat) : Int)) : Rd (w.alloc (.cells #[.slice a m cap, .int .i64 v] 61)) w.heap.size 0 a m cap := by
 subst hv
 exact ⟨by show (w.heap.push _)[w.heap.size]? = _; rw [Array.getElem?_push, if_pos rfl], h.byts hm _, h2⟩
theorem xU (a : Option Addr) (n cap : Nat) (w : World) (h : Bytes0 w a n) (hcap : n ≤ cap) (hmax : cap ≤ maxLen) :
  Calls Tryd.prog 15 #[.slice a n cap] w fun e w' => e = .returned (.pointer (some ⟨w.heap.size, 0, none⟩)) ∧ (∃ m, m ≤ n ∧ Rd w' w.heap.size 0 a m cap) ∧ Below w.heap.size w w' := by
 unfold maxLen at hmax
 have H := hide h
 clear h
 by_cases hn : 2000 < n
 ·have hc2 : (2000 : Int) ≤ cap := by omega
  go_enter Tryd.func15, Tryd.ntmps15
  go_wp2
  go_ret
  exact ⟨rfl, ⟨2000, by omega, Zd (za H) (by omega) (by omega) _ rfl⟩, (Below.refl _ _).alloc (Nat.le_refl _) _⟩
 ·go_enter Tryd.func15, Tryd.ntmps15
  go_wp2
  go_ret
  exact ⟨rfl, ⟨n, by omega, Zd (za H) (by omega) (by omega) _ rfl⟩, (Below.refl _ _).alloc (Nat.le_refl _) _⟩
def isS (M : Nat) : Value → Bool | .string s => decide (s.size ≤ M) | _ => false
theorem Zt {M : Nat} {v : Value} (h : isS M v = true) : ∃ s, v = .string s ∧ s.size ≤ M := by
 cases v <;> simp [isS] at h
 exact ⟨_, rfl, h⟩
theorem of_c (g p n cap q : Nat) (a : Option Addr) (cs : Array Value) (L : Nat) (w : World) (h : Rd w g p a n cap) (hp : p ≤ 1000000000) (hL : L = cs.size) (hL0 : 0 < L) (hL9 : L ≤ 1000000)
  (hcs : w.heap[q]? = some (.cells cs 9 (0, 0))) (hqg : q ≠ g) :
  Calls Tryd.prog 25 #[.pointer (some ⟨g, 0, none⟩), .slice (some ⟨q, 0, none⟩) L L] w fun e w' => (∃ v, e = .returned v ∧ v ∈ cs.toList) ∧ Drawn w g p n cap a 1 w' := by
 have hq : q < w.heap.size := (Array.getElem?_eq_some_iff.1 hcs).1
 have H := hide h
 have Hcs := hide hcs
 have HL := hide hL
 clear h hcs hL
 go_enter Tryd.func25, Tryd.ntmps25
 go_wp2_with fail
 refine (qT g p n cap a L w (za H) hp (by omega)).mono ?_
 rintro e w1 ⟨⟨i, rfl, hi⟩, hr, hk⟩
 have hiL : i < L := by rcases hi with hi | hi <;> omega
 have hiL2 : (i : Int) < L := by omega
 have hlt : i < cs.toList.length := by rw [Array.length_toList, ← za HL]; exact hiL
 have hcell : w1.cell? ⟨q, i, none⟩ = some (cs.toList[i]'hlt) := by
  rw [hk.cell (p := ⟨q, i, none⟩) hq hqg]
  simp [World.cell?, za Hcs]
 have hmem : cs.toList[i]'hlt ∈ cs.toList := List.getElem_mem hlt
 generalize cs.toList[i]'hlt = v at *
 have Hm := hide hmem
 have HR := hide hr
 have HK := hide hk
 clear hr hk hmem hi
 go_wp2
 go_ret
 exact ⟨⟨v, rfl, za Hm⟩, ⟨p + 1, Nat.le_refl _, za HR⟩, za HK⟩
theorem xL : dec 0 = ⟨#[48]⟩ ∧ dec 1 = ⟨#[49]⟩ ∧ dec 2 = ⟨#[50]⟩ ∧ dec 10 = ⟨#[49, 48]⟩ ∧ dec 100 = ⟨#[49, 48, 48]⟩ ∧ dec 999 = ⟨#[57, 57, 57]⟩ ∧ dec 1000 = ⟨#[49, 48, 48, 48]⟩ := by
 refine ⟨rfl, rfl, rfl, rfl, rfl, rfl, rfl⟩
theorem jj (g p n cap : Nat) (a : Option Addr) (w : World) (h : Rd w g p a n cap) (hp : p ≤ 900000000) :
  Calls Tryd.prog 60 #[.pointer (some ⟨g, 0, none⟩)] w fun e w' => (∃ x, e = .returned (.string (dec x)) ∧ (dec x).size ≤ 60) ∧ Drawn w g p n cap a 100 w' := by
 unfold Drawn
 have H := hide h
 clear h
 go_enter Tryd.func60, Tryd.ntmps60
 go_wp2_with fail
 refine (qT g p n cap a 4 _ (za H) (by omega) (by omega)).mono ?_
 rintro e w1 ⟨⟨i1, rfl, hi1⟩, hr1, hk1⟩
 have hi1' : i1 < 4 := by rcases hi1 with h | h <;> omega
 have HR1 := hide hr1
 have HK1 := hide hk1
 clear hr1 hk1 hi1
 go_wp2_with fail
 refine (qT g (p + 1) n cap a 8 _ (za HR1) (by omega) (by omega)).mono ?_
 rintro e w2 ⟨⟨i2, rfl, hi2⟩, hr2, hk2⟩
 have HR2 := hide hr2
 have HK2 := hide ((za HK1).trans hk2)
 clear hr2 hk2 hi2
 by_cases h0 : i2 = 0
 ·subst h0
  go_wp2_with fail
  refine (qT g (p + 1 + 1) n cap a 30 _ (za HR2) (by omega) (by omega)).mono ?_
  rintro e w2' ⟨⟨i3, rfl, hi3⟩, hr3, hk3⟩
  have hi3' : i3 < 30 := by rcases hi3 with h | h <;> omega
  have HR3 := hide hr3
  have HK3 := hide ((za HK2).trans hk3)
  clear hr3 hk3 hi3
  go_wp2
  go_loopw [4, 5] (fun vo vi wr => ∃ (xs : List Nat) (p' : Nat), vi = .int .i64 (xs.length : Int) ∧ vo = .string (B ((xs.map sg).reverse)) ∧ Hid (∀ d ∈ xs, d < 10) ∧ (xs.length : Int) ≤ (1 + (i3 : Int)) ∧ p' ≤ (p + 1 + 1 + 1) + xs.length ∧ Rd wr g p' a n cap ∧ Keeps g w wr) (fun _ vi _ => ((1 + (i3 : Int)) - intOf vi).toNat)
  case atStart => exact ⟨[], (p + 1 + 1 + 1), rfl, rfl, hide (by simp), by simp; omega, by simp, (za HR3), (za HK3)⟩
  case round =>
   obtain ⟨xs, p', rfl, rfl, hd, hle, hp', hr', hk'⟩ := hrel
   have HR' := hide hr'
   have HK' := hide hk'
   clear hr' hk'
   have hBx := ze ((xs.map sg).reverse)
   simp only [List.length_reverse, List.length_map] at hBx
   by_cases hlt : (xs.length : Int) < (1 + (i3 : Int))
   ·go_wp2_with fail
    refine (qT g p' n cap a 10 _ (za HR') (by omega) (by omega)).mono ?_
    rintro e w3 ⟨⟨d, rfl, hd10⟩, hr3, hk3⟩
    have hd9 : d < 10 := by rcases hd10 with h | h <;> omega
    have HR3 := hide hr3
    have HK3 := hide hk3
    clear hr3 hk3 hd10
    go_wp2_with fail
    refine (zL d (by omega) _).mono ?_
    rintro e w4 ⟨rfl, hb4⟩
    have hds : (dec d).size = 1 := by unfold dec txt; rw [qp 10 (by omega) d hd9, ze]; rfl
    have happ : Hid (B ((xs.map sg).reverse) ++ dec d = B (((d :: xs).map sg).reverse)) := by
     show _ = _; unfold dec txt; rw [qp 10 (by omega) d hd9, zE]; simp
    go_wp2
    go_roundw
    case rel => exact ⟨d :: xs, p' + 1, by simp, by rw [za happ], hide (by intro x hx; rcases List.mem_cons.1 hx with rfl | hx; exact hd9; exact za hd x hx), by simp; omega, by simp; omega, (za HR3).keep hb4, ((za HK').trans (za HK3)).trans (Keeps.of_below hb4)⟩
    case measure => simp [intOf]; omega
   ·have hne : xs ≠ [] := by intro h; subst h; simp at hlt; omega
    have htr := qy xs (za hd) hne
    have hlen : (xs.map sg).reverse.length ≤ 60 := by simp; omega
    have htl := qF ((xs.map sg).reverse)
    rw [htr] at htl
    have Htr := hide htr
    clear htr
    go_wp2_with fail
    refine (qX ((xs.map sg).reverse) _ (by omega)).mono ?_
    rintro e w3 ⟨rfl, rfl⟩
    go_wp2
    go_ret
    exact ⟨⟨ofd 10 xs, zB (by rw [za Htr]; rfl), by rw [zm]; omega⟩, ⟨p', by omega, za HR'⟩, za HK'⟩
 ·by_cases h1 : i2 = 1
  ·subst h1
   go_wp2_with fail
   refine (qT g (p + 1 + 1) n cap a 3 _ (za HR2) (by omega) (by omega)).mono ?_
   rintro e w2' ⟨⟨i3, rfl, hi3⟩, hr3, hk3⟩
   have hi3' : i3 < 3 := by rcases hi3 with h | h <;> omega
   have HR3 := hide hr3
   have HK3 := hide ((za HK2).trans hk3)
   clear hr3 hk3 hi3
   go_wp2
   go_loopw [4, 5] (fun vo vi wr => ∃ (xs : List Nat) (p' : Nat), vi = .int .i64 (xs.length : Int) ∧ vo = .string (B ((xs.map sg).reverse)) ∧ Hid (∀ d ∈ xs, d < 10) ∧ (xs.length : Int) ≤ (60 - (i3 : Int)) ∧ p' ≤ (p + 1 + 1 + 1) + xs.length ∧ Rd wr g p' a n cap ∧ Keeps g w wr) (fun _ vi _ => ((60 - (i3 : Int)) - intOf vi).toNat)
   case atStart => exact ⟨[], (p + 1 + 1 + 1), rfl, rfl, hide (by simp), by simp; omega, by simp, (za HR3), (za HK3)⟩
   case round =>
    obtain ⟨xs, p', rfl, rfl, hd, hle, hp', hr', hk'⟩ := hrel
    have HR' := hide hr'
    have HK' := hide hk'
    clear hr' hk'
    have hBx := ze ((xs.map sg).reverse)
    simp only [List.length_reverse, List.length_map] at hBx
    by_cases hlt : (xs.length : Int) < (60 - (i3 : Int))
    ·go_wp2_with fail
     refine (qT g p' n cap a 10 _ (za HR') (by omega) (by omega)).mono ?_
     rintro e w3 ⟨⟨d, rfl, hd10⟩, hr3, hk3⟩
     have hd9 : d < 10 := by rcases hd10 with h | h <;> omega
     have HR3 := hide hr3
     have HK3 := hide hk3
     clear hr3 hk3 hd10
     go_wp2_with fail
     refine (zL d (by omega) _).mono ?_
     rintro e w4 ⟨rfl, hb4⟩
     have hds : (dec d).size = 1 := by unfold dec txt; rw [qp 10 (by omega) d hd9, ze]; rfl
     have happ : Hid (B ((xs.map sg).reverse) ++ dec d = B (((d :: xs).map sg).reverse)) := by
      show _ = _; unfold dec txt; rw [qp 10 (by omega) d hd9, zE]; simp
     go_wp2
     go_roundw
     case rel => exact ⟨d :: xs, p' + 1, by simp, by rw [za happ], hide (by intro x hx; rcases List.mem_cons.1 hx with rfl | hx; exact hd9; exact za hd x hx), by simp; omega, by simp; omega, (za HR3).keep hb4, ((za HK').trans (za HK3)).trans (Keeps.of_below hb4)⟩
     case measure => simp [intOf]; omega
    ·have hne : xs ≠ [] := by intro h; subst h; simp at hlt; omega
     have htr := qy xs (za hd) hne
     have hlen : (xs.map sg).reverse.length ≤ 60 := by simp; omega
     have htl := qF ((xs.map sg).reverse)
     rw [htr] at htl
     have Htr := hide htr
     clear htr
     go_wp2_with fail
     refine (qX ((xs.map sg).reverse) _ (by omega)).mono ?_
     rintro e w3 ⟨rfl, rfl⟩
     go_wp2
     go_ret
     exact ⟨⟨ofd 10 xs, zB (by rw [za Htr]; rfl), by rw [zm]; omega⟩, ⟨p', by omega, za HR'⟩, za HK'⟩
  ·have z0 : ((i2 : Int) == 0) = false := by rw [beq_eq_false_iff_ne]; omega
   have z1 : ((i2 : Int) == 1) = false := by rw [beq_eq_false_iff_ne]; omega
   by_cases h2 : i2 = 2
   ·subst h2
    have hr2 := (za HR2)
    have hlt := hr2.lt
    go_wp2_with fail
    refine (of_c g (p + 1 + 1) n cap w2.heap.size a #[.string ⟨#[48]⟩, .string ⟨#[49]⟩, .string ⟨#[50]⟩, .string ⟨#[49, 48]⟩, .string ⟨#[49, 48, 48]⟩, .string ⟨#[57, 57, 57]⟩, .string ⟨#[49, 48, 48, 48]⟩] 7 _ (hr2.keep ((Below.refl _ _).alloc (Nat.le_refl _) _)) (by omega) rfl (by omega) (by omega) (by show (w2.heap.push _)[w2.heap.size]? = _; rw [Array.getElem?_push, if_pos rfl]) (by omega)).mono ?_
    rintro e w3 ⟨⟨v, rfl, hv⟩, ⟨p3, hp3, hr3⟩, hk3⟩
    have hx : ∃ x, v = .string (dec x) ∧ (dec x).size ≤ 60 := by
     obtain ⟨d0, d1, d2, d3, d4, d5, d6⟩ := xL
     simp at hv
     rcases hv with rfl | rfl | rfl | rfl | rfl | rfl | rfl
     ·exact ⟨0, by rw [d0], by rw [d0]; decide⟩
     ·exact ⟨1, by rw [d1], by rw [d1]; decide⟩
     ·exact ⟨2, by rw [d2], by rw [d2]; decide⟩
     ·exact ⟨10, by rw [d3], by rw [d3]; decide⟩
     ·exact ⟨100, by rw [d4], by rw [d4]; decide⟩
     ·exact ⟨999, by rw [d5], by rw [d5]; decide⟩
     ·exact ⟨1000, by rw [d6], by rw [d6]; decide⟩
    obtain ⟨x, rfl, hx60⟩ := hx
    have HR3 := hide hr3
    have HK3 := hide ((za HK2).trans ((Keeps.refl _ _).alloc _ |>.trans hk3))
    clear hr3 hk3 hr2 hv
    go_wp2
    go_ret
    exact ⟨⟨x, rfl, hx60⟩, ⟨p3, by omega, za HR3⟩, za HK3⟩
   ·have z2 : ((i2 : Int) == 2) = false := by rw [beq_eq_false_iff_ne]; omega
    go_wp2
    go_loopw [4, 5] (fun vo vi wr => ∃ (xs : List Nat) (p' : Nat), vi = .int .i64 (xs.length : Int) ∧ vo = .string (B ((xs.map sg).reverse)) ∧ Hid (∀ d ∈ xs, d < 10) ∧ (xs.length : Int) ≤ (1 + (i1 : Int)) ∧ p' ≤ (p + 1 + 1) + xs.length ∧ Rd wr g p' a n cap ∧ Keeps g w wr) (fun _ vi _ => ((1 + (i1 : Int)) - intOf vi).toNat)
    case atStart => exact ⟨[], (p + 1 + 1), rfl, rfl, hide (by simp), by simp; omega, by simp, (za HR2), (za HK2)⟩
    case round =>
     obtain ⟨xs, p', rfl, rfl, hd, hle, hp', hr', hk'⟩ := hrel
     have HR' := hide hr'
     have HK' := hide hk'
     clear hr' hk'
     have hBx := ze ((xs.map sg).reverse)
     simp only [List.length_reverse, List.length_map] at hBx
     by_cases hlt : (xs.length : Int) < (1 + (i1 : Int))
     ·go_wp2_with fail
      refine (qT g p' n cap a 10 _ (za HR') (by omega) (by omega)).mono ?_
      rintro e w3 ⟨⟨d, rfl, hd10⟩, hr3, hk3⟩
      have hd9 : d < 10 := by rcases hd10 with h | h <;> omega
      have HR3 := hide hr3
      have HK3 := hide hk3
      clear hr3 hk3 hd10
      go_wp2_with fail
      refine (zL d (by omega) _).mono ?_
      rintro e w4 ⟨rfl, hb4⟩
      have hds : (dec d).size = 1 := by unfold dec txt; rw [qp 10 (by omega) d hd9, ze]; rfl
      have happ : Hid (B ((xs.map sg).reverse) ++ dec d = B (((d :: xs).map sg).reverse)) := by
       show _ = _; unfold dec txt; rw [qp 10 (by omega) d hd9, zE]; simp
      go_wp2
      go_roundw
      case rel => exact ⟨d :: xs, p' + 1, by simp, by rw [za happ], hide (by intro x hx; rcases List.mem_cons.1 hx with rfl | hx; exact hd9; exact za hd x hx), by simp; omega, by simp; omega, (za HR3).keep hb4, ((za HK').trans (za HK3)).trans (Keeps.of_below hb4)⟩
      case measure => simp [intOf]; omega
     ·have hne : xs ≠ [] := by intro h; subst h; simp at hlt; omega
      have htr := qy xs (za hd) hne
      have hlen : (xs.map sg).reverse.length ≤ 60 := by simp; omega
      have htl := qF ((xs.map sg).reverse)
      rw [htr] at htl
      have Htr := hide htr
      clear htr
      go_wp2_with fail
      refine (qX ((xs.map sg).reverse) _ (by omega)).mono ?_
      rintro e w3 ⟨rfl, rfl⟩
      go_wp2
      go_ret
      exact ⟨⟨ofd 10 xs, zB (by rw [za Htr]; rfl), by rw [zm]; omega⟩, ⟨p', by omega, za HR'⟩, za HK'⟩
theorem Zx (g p n cap : Nat) (a : Option Addr) (w : World) (h : Rd w g p a n cap) (hp : p ≤ 800000000) :
  Calls Tryd.prog 44 #[.pointer (some ⟨g, 0, none⟩)] w fun e w' => (∃ neg x y, e = .returned (numV neg (dec x) (dec y)) ∧ (dec x).size ≤ 60 ∧ (dec y).size ≤ 60) ∧ Drawn w g p n cap a 300 w' := by
 have hlt := h.lt
 have Hlt := hide hlt
 have HR := hide (h.alloc (.cells #[.bool false, .string ⟨#[]⟩, .string ⟨#[]⟩] 92))
 clear h
 go_enter Tryd.func44, Tryd.ntmps44
 go_wp2_with fail
 refine (zu g p n cap a 2 _ (za HR) (by omega) (by omega)).mono ?_
 rintro e w1 ⟨⟨i, rfl, hi⟩, ⟨p1, hp1, hr1⟩, hk1⟩
 have HR1 := hide hr1
 have HK1 := hide hk1
 clear hr1 hk1 hi
 by_cases hi0 : i = 0
 ·have z0 : ((i : Int) == 0) = true := by rw [beq_iff_eq]; omega
  have HK := hide hi0
  clear hi0
  go_wp2_with fail
  have h := jj g p1 n cap a w1 (za HR1) (by omega)
  refine h.mono ?_
  clear h
  rintro e w2 ⟨⟨d, rfl, hd60⟩, ⟨p2, hp2, hr2⟩, hk2⟩
  have HR2 := hide hr2
  have HK2 := hide ((za HK1).trans hk2)
  clear hr2 hk2
  go_wp2_with fail
  refine (zu g p2 n cap a 2 _ (za HR2) (by omega) (by omega)).mono ?_
  rintro e w3 ⟨⟨j, rfl, hj⟩, ⟨p3, hp3, hr3⟩, hk3⟩
  have HR3 := hide hr3
  have HK3 := hide (((za HK2)).trans hk3)
  clear hr3 hk3 hj
  go_wp2_with fail
  have h := jj g p3 n cap a w3 (za HR3) (by omega)
  refine h.mono ?_
  clear h
  rintro e w4 ⟨⟨u, rfl, hu60⟩, ⟨p4, hp4, hr4⟩, hk4⟩
  have HR4 := hide hr4
  have HK4 := hide ((za HK3).trans hk4)
  clear hr4 hk4
  go_wp2_with fail
  have h := zJ ((j : Int) == 0) u d w4 (by omega) (by omega)
  refine h.mono ?_
  clear h
  rintro e w5 ⟨rfl, hb5⟩
  have hr5 := (za HR4).keep hb5
  have hk5 := (za HK4).trans (Keeps.of_below hb5)
  have hA := (At3.new w (.bool false) (.string ⟨#[]⟩) (.string ⟨#[]⟩)).keeps hk5 (by omega)
  have hsz := hA.lt
  have c0 := hA.c0
  have c1 := hA.c1
  have c2 := hA.c2
  have f := hA.f
  have Hfin : Hid (Drawn w g p n cap a 300 w5) := ⟨⟨p4, by omega, hr5⟩, ((Keeps.refl g w).alloc _).trans hk5⟩
  clear hr5 hk5 hA HR3 HK3 HR4 HK4 HR1 HK1 HR2 HK2 HR HK
  have hne : w5.heap.size ≠ w.heap.size := by omega
  cases hl : zo ((j : Int) == 0) u d with
  | none =>
   unfold zd numO noNum numV
   go_wp2
   refine bodyPost_ret (v := .agg #[.bool false, .string ⟨#[55]⟩, .string ⟨#[49]⟩]) (by simp [results, Tryd.results44, go_sem, c0, c1, c2, hsz]) rfl ⟨⟨false, 7, 1, rfl, by decide, by decide⟩, ?_⟩
   exact (za Hfin).more (za Hlt) ((zg (Below.refl _ _) w.heap.size (by omega) _ _ _).alloc (by simp; omega) _)
  | some r =>
   obtain ⟨nn, x, y⟩ := r
   have hok := qZ (jD hl)
   have hx60 : (dec x).size ≤ 60 := by rw [zm]; exact hok.2.2.1
   have hy60 : (dec y).size ≤ 60 := by rw [zm]; exact hok.2.2.2.1
   clear hok
   unfold zd numO numV
   go_wp2
   refine bodyPost_ret (v := numV nn (dec x) (dec y)) (by simp [results, Tryd.results44, go_sem, numV, c0, c1, c2, hsz]) rfl ⟨⟨nn, x, y, rfl, hx60, hy60⟩, ?_⟩
   exact (za Hfin).more (za Hlt) ((zg (Below.refl _ _) w.heap.size (by omega) _ _ _).alloc (by simp; omega) _)
 ·have z0 : ((i : Int) == 0) = false := by rw [beq_eq_false_iff_ne]; omega
  have HK := hide hi0
  have HR2 := HK
  have HK2 := HK
  clear hi0
  have hd60 : (dec 1).size ≤ 60 := by decide
  rw [show (Value.string ⟨#[49]⟩) = .string (dec 1) from rfl]
  go_wp2_with fail
  refine (zu g p1 n cap a 2 _ (za HR1) (by omega) (by omega)).mono ?_
  rintro e w3 ⟨⟨j, rfl, hj⟩, ⟨p3, hp3, hr3⟩, hk3⟩
  have HR3 := hide hr3
  have HK3 := hide (((za HK1)).trans hk3)
  clear hr3 hk3 hj
  go_wp2_with fail
  have h := jj g p3 n cap a w3 (za HR3) (by omega)
  refine h.mono ?_
  clear h
  rintro e w4 ⟨⟨u, rfl, hu60⟩, ⟨p4, hp4, hr4⟩, hk4⟩
  have HR4 := hide hr4
  have HK4 := hide ((za HK3).trans hk4)
  clear hr4 hk4
  go_wp2_with fail
  have h := zJ ((j : Int) == 0) u 1 w4 (by omega) (by omega)
  refine h.mono ?_
  clear h
  rintro e w5 ⟨rfl, hb5⟩
  have hr5 := (za HR4).keep hb5
  have hk5 := (za HK4).trans (Keeps.of_below hb5)
  have hA := (At3.new w (.bool false) (.string ⟨#[]⟩) (.string ⟨#[]⟩)).keeps hk5 (by omega)
  have hsz := hA.lt
  have c0 := hA.c0
  have c1 := hA.c1
  have c2 := hA.c2
  have f := hA.f
  have Hfin : Hid (Drawn w g p n cap a 300 w5) := ⟨⟨p4, by omega, hr5⟩, ((Keeps.refl g w).alloc _).trans hk5⟩
  clear hr5 hk5 hA HR3 HK3 HR4 HK4 HR1 HK1 HR2 HK2 HR HK
  have hne : w5.heap.size ≠ w.heap.size := by omega
  cases hl : zo ((j : Int) == 0) u 1 with
  | none =>
   unfold zd numO noNum numV
   go_wp2
   refine bodyPost_ret (v := .agg #[.bool false, .string ⟨#[55]⟩, .string ⟨#[49]⟩]) (by simp [results, Tryd.results44, go_sem, c0, c1, c2, hsz]) rfl ⟨⟨false, 7, 1, rfl, by decide, by decide⟩, ?_⟩
   exact (za Hfin).more (za Hlt) ((zg (Below.refl _ _) w.heap.size (by omega) _ _ _).alloc (by simp; omega) _)
  | some r =>
   obtain ⟨nn, x, y⟩ := r
   have hok := qZ (jD hl)
   have hx60 : (dec x).size ≤ 60 := by rw [zm]; exact hok.2.2.1
   have hy60 : (dec y).size ≤ 60 := by rw [zm]; exact hok.2.2.2.1
   clear hok
   unfold zd numO numV
   go_wp2
   refine bodyPost_ret (v := numV nn (dec x) (dec y)) (by simp [results, Tryd.results44, go_sem, numV, c0, c1, c2, hsz]) rfl ⟨⟨nn, x, y, rfl, hx60, hy60⟩, ?_⟩
   exact (za Hfin).more (za Hlt) ((zg (Below.refl _ _) w.heap.size (by omega) _ _ _).alloc (by simp; omega) _)
theorem ZF (neg : Bool) (u d : List UInt8) (r : Int) : (zS neg u d r).length ≤ 482 := by
 unfold zS
 split
 ·rename_i h
  simp only [Bool.and_eq_true] at h
  obtain ⟨b, rfl, hb4⟩ := qW h.2
  obtain ⟨h3, h4, hu, hd, _⟩ := qZ h.1
  have e1 := jy (b := b) (n := zn u) (by omega) (by rw [zm, ← ql h3]; exact hu)
  have e2 := jy (b := b) (n := zn d) (by omega) (by rw [zm, ← ql h4]; exact hd)
  unfold txt at e1 e2
  rw [ze] at e1
  rw [ze] at e2
  unfold prM
  rw [Int.toNat_natCast]
  cases neg <;> by_cases h1 : zn d = 1 <;> simp [h1] <;> omega
 ·simp
theorem Z6 {l : List Value} {v : Value} {M : Nat} (h : l.all (isS M) = true) (hv : v ∈ l) : ∃ s, v = .string s ∧ s.size ≤ M := Zt (List.all_eq_true.1 h v hv)
theorem ofs_c (g p n cap : Nat) (a : Option Addr) (cs : Array Value) (L M : Nat) (w : World) (h : Rd w g p a n cap) (hp : p ≤ 1000000000) (hL : L = cs.size) (hL0 : 0 < L) (hL9 : L ≤ 1000000) (hM : cs.toList.all (isS M) = true) :
  Calls Tryd.prog 25 #[.pointer (some ⟨g, 0, none⟩), .slice (some ⟨w.heap.size, 0, none⟩) L L] (w.alloc (.cells cs 9)) fun e w' => (∃ s, e = .returned (.string s) ∧ s.size ≤ M) ∧ Drawn w g p n cap a 1 w' := by
 have hlt := h.lt
 refine (of_c g p n cap w.heap.size a cs L _ (h.alloc _) hp hL hL0 hL9 (heap_alloc_new w _) (by omega)).mono ?_
 rintro e w' ⟨⟨v, rfl, hv⟩, hd⟩
 obtain ⟨s, rfl, hs⟩ := Z6 hM hv
 exact ⟨⟨s, rfl, hs⟩, hd.made⟩
theorem xk (g p n cap : Nat) (a : Option Addr) (w : World) (h : Rd w g p a n cap) (hp : p ≤ 900000000) :
  Calls Tryd.prog 45 #[.pointer (some ⟨g, 0, none⟩)] w fun e w' => (∃ s, e = .returned (.string s) ∧ s.size ≤ 10) ∧ Drawn w g p n cap a 1 w' := by
 have hlt := h.lt
 have HR := hide h
 clear h
 go_enter Tryd.func45, Tryd.ntmps45
 go_wp2_with fail
 refine (ofs_c g p n cap a _ _ 10 w (za HR) (by omega) (by rfl) (by omega) (by omega) (by rfl)).mono ?_
 rintro e w1 ⟨⟨s, rfl, hs⟩, hd⟩
 have HD := hide hd
 clear hd
 go_wp2_with fail
 go_ret
 exact ⟨⟨s, rfl, hs⟩, za HD⟩
theorem xj (g p n cap : Nat) (a : Option Addr) (m : Int) (w : World) (h : Rd w g p a n cap) (hp : p ≤ 700000000) (hm : m ≤ 1000000) :
  Calls Tryd.prog 38 #[.pointer (some ⟨g, 0, none⟩), .int .i64 m] w fun e w' => (∃ x s kv k, e = .returned (.agg #[.int .i64 x, .string s, kv]) ∧ s.size ≤ 1000 ∧ k ≤ 4 ∧ SI w' w.heap.size kv k) ∧ Drawn w g p n cap a 500 w' := by
 have hlt := h.lt
 have Hlt := hide hlt
 have HR := hide (h.alloc (.cells #[.int .i64 0, .string ⟨#[]⟩, .slice none 0 0] 76))
 have HA := hide (AtC3.new w (.int .i64 0) (.string ⟨#[]⟩) (.slice none 0 0) 76)
 clear h
 go_enter Tryd.func38, Tryd.ntmps38
 go_wp2_with fail
 refine (zu g p n cap a 12 _ (za HR) (by omega) (by omega)).mono ?_
 rintro e w1 ⟨⟨i, rfl, hi⟩, ⟨p1, hp1, hr1⟩, hk1⟩
 have HR1 := hide hr1
 have HK1 := hide hk1
 clear hr1 hk1
 have hi12 : i < 12 := by rcases hi with h | h <;> omega
 clear hi
 have hcs : i = 0 ∨ i = 1 ∨ i = 2 ∨ i = 3 ∨ i = 4 ∨ i = 5 ∨ i = 6 ∨ i = 7 ∨ i = 8 ∨ 9 ≤ i := by omega
 rcases hcs with rfl | rfl | rfl | rfl | rfl | rfl | rfl | rfl | rfl | h9
 ·go_wp2_with fail
  have h := Zx g p1 n cap a w1 (za HR1) (by omega)
  refine h.mono ?_
  clear h
  rintro e w2 ⟨⟨neg, x, y, rfl, hx, hy⟩, ⟨p2, hp2, hr2⟩, hk2⟩
  have HR2 := hide hr2
  have HK2 := hide ((za HK1).trans hk2)
  clear hr2 hk2
  go_wp2_with fail
  have h := q9 neg (txl 10 x) (txl 10 y) 10 w2 (by rw [← zm]; omega) (by rw [← zm]; omega)
  refine h.mono ?_
  clear h
  rintro e w3 ⟨rfl, hb3⟩
  have HR3 := hide ((za HR2).keep hb3)
  have HK3 := hide ((za HK2).trans (Keeps.of_below hb3))
  have hl := ZF neg (txl 10 x) (txl 10 y) 10
  rw [← ze] at hl
  obtain ⟨t, ht⟩ : ∃ t, B (zS neg (txl 10 x) (txl 10 y) 10) = t := ⟨_, rfl⟩
  rw [ht] at hl ⊢
  clear hb3 ht
  have hA := (za HA).keeps (za HK3) (by omega)
  have c0 := hA.n0
  have c1 := hA.n1
  have c2 := hA.n2
  have f := hA.f
  have hZ := hA.put3 (.int .i64 1) (.string t) (.slice none 0 0)
  have z0 := hZ.n0
  have z1 := hZ.n1
  have z2 := hZ.n2
  have HSI := hide (SI.put3 (qh w3 w.heap.size) hA (by decide) (.int .i64 1) (.string t) (.slice none 0 0))
  have HZ := hide (And.intro z0 (And.intro z1 z2))
  have hD : Drawn w g p n cap a 500 w3 := ⟨⟨p2, by omega, (za HR3)⟩, ((Keeps.refl g w).alloc _).trans (za HK3)⟩
  have HD := hide (hD.more (za Hlt) (((((Below.refl w.heap.size w3).setCell (p := ⟨w.heap.size, 0, none⟩) (Nat.le_refl _) (.int .i64 1)).setCell (p := ⟨w.heap.size, 1, none⟩) (Nat.le_refl _) (.string t)).setCell (p := ⟨w.heap.size, 2, none⟩) (Nat.le_refl _) (.slice none 0 0))))
  clear z0 z1 z2 hZ hD hA
  go_wp2_with fail
  have hz := za HZ
  refine bodyPost_ret (v := .agg #[.int .i64 1, .string t, (.slice none 0 0)]) (by simp [results, Tryd.results38, go_sem, hz]) rfl ⟨⟨1, t, (.slice none 0 0), 0, rfl, by omega, by omega, za HSI⟩, za HD⟩
 ·
  go_wp2_with fail
  refine (ofs_c g p1 n cap a #[.string ⟨#[97]⟩, .string ⟨#[98]⟩, .string ⟨#[102, 111, 111]⟩, .string ⟨#[43]⟩, .string ⟨#[46, 46, 46]⟩, .string ⟨#[97, 46, 98]⟩, .string ⟨#[115, 101, 116, 33]⟩, .string ⟨#[206, 187]⟩, .string ⟨#[113, 117, 111, 116, 101]⟩, .string ⟨#[45, 120]⟩, .string ⟨#[45, 62, 121]⟩] 11 10 w1 (za HR1) (by omega) (by rfl) (by omega) (by omega) (by rfl)).mono ?_
  rintro e w2 ⟨⟨s, rfl, hs⟩, ⟨p2, hp2, hr2⟩, hk2⟩
  have HR2 := hide hr2
  have HK2 := hide ((za HK1).trans hk2)
  clear hr2 hk2
  have hA := (za HA).keeps (za HK2) (by omega)
  have c0 := hA.n0
  have c1 := hA.n1
  have c2 := hA.n2
  have f := hA.f
  have hZ := hA.put3 (.int .i64 2) (.string s) (.slice none 0 0)
  have z0 := hZ.n0
  have z1 := hZ.n1
  have z2 := hZ.n2
  have HSI := hide (SI.put3 (qh w2 w.heap.size) hA (by decide) (.int .i64 2) (.string s) (.slice none 0 0))
  have HZ := hide (And.intro z0 (And.intro z1 z2))
  have hD : Drawn w g p n cap a 500 w2 := ⟨⟨p2, by omega, (za HR2)⟩, ((Keeps.refl g w).alloc _).trans (za HK2)⟩
  have HD := hide (hD.more (za Hlt) (((((Below.refl w.heap.size w2).setCell (p := ⟨w.heap.size, 0, none⟩) (Nat.le_refl _) (.int .i64 2)).setCell (p := ⟨w.heap.size, 1, none⟩) (Nat.le_refl _) (.string s)).setCell (p := ⟨w.heap.size, 2, none⟩) (Nat.le_refl _) (.slice none 0 0))))
  clear z0 z1 z2 hZ hD hA
  go_wp2_with fail
  have hz := za HZ
  refine bodyPost_ret (v := .agg #[.int .i64 2, .string s, (.slice none 0 0)]) (by simp [results, Tryd.results38, go_sem, hz]) rfl ⟨⟨2, s, (.slice none 0 0), 0, rfl, by omega, by omega, za HSI⟩, za HD⟩
 ·
  go_wp2_with fail
  refine (ofs_c g p1 n cap a #[.string ⟨#[97]⟩, .string ⟨#[98]⟩, .string ⟨#[102, 111, 111]⟩, .string ⟨#[43]⟩, .string ⟨#[46, 46, 46]⟩, .string ⟨#[97, 46, 98]⟩, .string ⟨#[115, 101, 116, 33]⟩, .string ⟨#[206, 187]⟩, .string ⟨#[113, 117, 111, 116, 101]⟩, .string ⟨#[45, 120]⟩, .string ⟨#[45, 62, 121]⟩] 11 10 w1 (za HR1) (by omega) (by rfl) (by omega) (by omega) (by rfl)).mono ?_
  rintro e w2 ⟨⟨s, rfl, hs⟩, ⟨p2, hp2, hr2⟩, hk2⟩
  have HR2 := hide hr2
  have HK2 := hide ((za HK1).trans hk2)
  clear hr2 hk2
  have hA := (za HA).keeps (za HK2) (by omega)
  have c0 := hA.n0
  have c1 := hA.n1
  have c2 := hA.n2
  have f := hA.f
  have hZ := hA.put3 (.int .i64 2) (.string s) (.slice none 0 0)
  have z0 := hZ.n0
  have z1 := hZ.n1
  have z2 := hZ.n2
  have HSI := hide (SI.put3 (qh w2 w.heap.size) hA (by decide) (.int .i64 2) (.string s) (.slice none 0 0))
  have HZ := hide (And.intro z0 (And.intro z1 z2))
  have hD : Drawn w g p n cap a 500 w2 := ⟨⟨p2, by omega, (za HR2)⟩, ((Keeps.refl g w).alloc _).trans (za HK2)⟩
  have HD := hide (hD.more (za Hlt) (((((Below.refl w.heap.size w2).setCell (p := ⟨w.heap.size, 0, none⟩) (Nat.le_refl _) (.int .i64 2)).setCell (p := ⟨w.heap.size, 1, none⟩) (Nat.le_refl _) (.string s)).setCell (p := ⟨w.heap.size, 2, none⟩) (Nat.le_refl _) (.slice none 0 0))))
  clear z0 z1 z2 hZ hD hA
  go_wp2_with fail
  have hz := za HZ
  refine bodyPost_ret (v := .agg #[.int .i64 2, .string s, (.slice none 0 0)]) (by simp [results, Tryd.results38, go_sem, hz]) rfl ⟨⟨2, s, (.slice none 0 0), 0, rfl, by omega, by omega, za HSI⟩, za HD⟩
 ·go_wp2_with fail
  have h := xk g p1 n cap a w1 (za HR1) (by omega)
  refine h.mono ?_
  clear h
  rintro e w2 ⟨⟨s, rfl, hs⟩, ⟨p2, hp2, hr2⟩, hk2⟩
  have HR2 := hide hr2
  have HK2 := hide ((za HK1).trans hk2)
  clear hr2 hk2
  have hA := (za HA).keeps (za HK2) (by omega)
  have c0 := hA.n0
  have c1 := hA.n1
  have c2 := hA.n2
  have f := hA.f
  have hZ := hA.put3 (.int .i64 3) (.string s) (.slice none 0 0)
  have z0 := hZ.n0
  have z1 := hZ.n1
  have z2 := hZ.n2
  have HSI := hide (SI.put3 (qh w2 w.heap.size) hA (by decide) (.int .i64 3) (.string s) (.slice none 0 0))
  have HZ := hide (And.intro z0 (And.intro z1 z2))
  have hD : Drawn w g p n cap a 500 w2 := ⟨⟨p2, by omega, (za HR2)⟩, ((Keeps.refl g w).alloc _).trans (za HK2)⟩
  have HD := hide (hD.more (za Hlt) (((((Below.refl w.heap.size w2).setCell (p := ⟨w.heap.size, 0, none⟩) (Nat.le_refl _) (.int .i64 3)).setCell (p := ⟨w.heap.size, 1, none⟩) (Nat.le_refl _) (.string s)).setCell (p := ⟨w.heap.size, 2, none⟩) (Nat.le_refl _) (.slice none 0 0))))
  clear z0 z1 z2 hZ hD hA
  go_wp2_with fail
  have hz := za HZ
  refine bodyPost_ret (v := .agg #[.int .i64 3, .string s, (.slice none 0 0)]) (by simp [results, Tryd.results38, go_sem, hz]) rfl ⟨⟨3, s, (.slice none 0 0), 0, rfl, by omega, by omega, za HSI⟩, za HD⟩
 ·
  go_wp2_with fail
  refine (ofs_c g p1 n cap a #[.string ⟨#[97]⟩, .string ⟨#[32]⟩, .string ⟨#[10]⟩, .string ⟨#[40]⟩, .string ⟨#[41]⟩, .string ⟨#[59]⟩, .string ⟨#[34]⟩, .string ⟨#[39]⟩, .string ⟨#[120]⟩, .string ⟨#[195, 169]⟩, .string ⟨#[0]⟩, .string ⟨#[127]⟩, .string ⟨#[35]⟩, .string ⟨#[92]⟩, .string ⟨#[124]⟩] 15 10 w1 (za HR1) (by omega) (by rfl) (by omega) (by omega) (by rfl)).mono ?_
  rintro e w2 ⟨⟨s, rfl, hs⟩, ⟨p2, hp2, hr2⟩, hk2⟩
  have HR2 := hide hr2
  have HK2 := hide ((za HK1).trans hk2)
  clear hr2 hk2
  have hA := (za HA).keeps (za HK2) (by omega)
  have c0 := hA.n0
  have c1 := hA.n1
  have c2 := hA.n2
  have f := hA.f
  have hZ := hA.put3 (.int .i64 4) (.string s) (.slice none 0 0)
  have z0 := hZ.n0
  have z1 := hZ.n1
  have z2 := hZ.n2
  have HSI := hide (SI.put3 (qh w2 w.heap.size) hA (by decide) (.int .i64 4) (.string s) (.slice none 0 0))
  have HZ := hide (And.intro z0 (And.intro z1 z2))
  have hD : Drawn w g p n cap a 500 w2 := ⟨⟨p2, by omega, (za HR2)⟩, ((Keeps.refl g w).alloc _).trans (za HK2)⟩
  have HD := hide (hD.more (za Hlt) (((((Below.refl w.heap.size w2).setCell (p := ⟨w.heap.size, 0, none⟩) (Nat.le_refl _) (.int .i64 4)).setCell (p := ⟨w.heap.size, 1, none⟩) (Nat.le_refl _) (.string s)).setCell (p := ⟨w.heap.size, 2, none⟩) (Nat.le_refl _) (.slice none 0 0))))
  clear z0 z1 z2 hZ hD hA
  go_wp2_with fail
  have hz := za HZ
  refine bodyPost_ret (v := .agg #[.int .i64 4, .string s, (.slice none 0 0)]) (by simp [results, Tryd.results38, go_sem, hz]) rfl ⟨⟨4, s, (.slice none 0 0), 0, rfl, by omega, by omega, za HSI⟩, za HD⟩
 ·
  go_wp2_with fail
  refine (ofs_c g p1 n cap a #[.string ⟨#[116]⟩, .string ⟨#[102]⟩] 2 10 w1 (za HR1) (by omega) (by rfl) (by omega) (by omega) (by rfl)).mono ?_
  rintro e w2 ⟨⟨s, rfl, hs⟩, ⟨p2, hp2, hr2⟩, hk2⟩
  have HR2 := hide hr2
  have HK2 := hide ((za HK1).trans hk2)
  clear hr2 hk2
  have hA := (za HA).keeps (za HK2) (by omega)
  have c0 := hA.n0
  have c1 := hA.n1
  have c2 := hA.n2
  have f := hA.f
  have hZ := hA.put3 (.int .i64 5) (.string s) (.slice none 0 0)
  have z0 := hZ.n0
  have z1 := hZ.n1
  have z2 := hZ.n2
  have HSI := hide (SI.put3 (qh w2 w.heap.size) hA (by decide) (.int .i64 5) (.string s) (.slice none 0 0))
  have HZ := hide (And.intro z0 (And.intro z1 z2))
  have hD : Drawn w g p n cap a 500 w2 := ⟨⟨p2, by omega, (za HR2)⟩, ((Keeps.refl g w).alloc _).trans (za HK2)⟩
  have HD := hide (hD.more (za Hlt) (((((Below.refl w.heap.size w2).setCell (p := ⟨w.heap.size, 0, none⟩) (Nat.le_refl _) (.int .i64 5)).setCell (p := ⟨w.heap.size, 1, none⟩) (Nat.le_refl _) (.string s)).setCell (p := ⟨w.heap.size, 2, none⟩) (Nat.le_refl _) (.slice none 0 0))))
  clear z0 z1 z2 hZ hD hA
  go_wp2_with fail
  have hz := za HZ
  refine bodyPost_ret (v := .agg #[.int .i64 5, .string s, (.slice none 0 0)]) (by simp [results, Tryd.results38, go_sem, hz]) rfl ⟨⟨5, s, (.slice none 0 0), 0, rfl, by omega, by omega, za HSI⟩, za HD⟩
 ·
  go_wp2_with fail
  refine (ofs_c g p1 n cap a #[.string ⟨#[]⟩, .string ⟨#[0]⟩, .string ⟨#[97, 98]⟩, .string ⟨#[255, 254]⟩] 4 10 w1 (za HR1) (by omega) (by rfl) (by omega) (by omega) (by rfl)).mono ?_
  rintro e w2 ⟨⟨s, rfl, hs⟩, ⟨p2, hp2, hr2⟩, hk2⟩
  have HR2 := hide hr2
  have HK2 := hide ((za HK1).trans hk2)
  clear hr2 hk2
  have hA := (za HA).keeps (za HK2) (by omega)
  have c0 := hA.n0
  have c1 := hA.n1
  have c2 := hA.n2
  have f := hA.f
  have hZ := hA.put3 (.int .i64 9) (.string s) (.slice none 0 0)
  have z0 := hZ.n0
  have z1 := hZ.n1
  have z2 := hZ.n2
  have HSI := hide (SI.put3 (qh w2 w.heap.size) hA (by decide) (.int .i64 9) (.string s) (.slice none 0 0))
  have HZ := hide (And.intro z0 (And.intro z1 z2))
  have hD : Drawn w g p n cap a 500 w2 := ⟨⟨p2, by omega, (za HR2)⟩, ((Keeps.refl g w).alloc _).trans (za HK2)⟩
  have HD := hide (hD.more (za Hlt) (((((Below.refl w.heap.size w2).setCell (p := ⟨w.heap.size, 0, none⟩) (Nat.le_refl _) (.int .i64 9)).setCell (p := ⟨w.heap.size, 1, none⟩) (Nat.le_refl _) (.string s)).setCell (p := ⟨w.heap.size, 2, none⟩) (Nat.le_refl _) (.slice none 0 0))))
  clear z0 z1 z2 hZ hD hA
  go_wp2_with fail
  have hz := za HZ
  refine bodyPost_ret (v := .agg #[.int .i64 9, .string s, (.slice none 0 0)]) (by simp [results, Tryd.results38, go_sem, hz]) rfl ⟨⟨9, s, (.slice none 0 0), 0, rfl, by omega, by omega, za HSI⟩, za HD⟩
 ·go_wp2_with fail
  have hA1 := AtC3.new w1 (.int .i64 8) (.string ⟨#[]⟩) (.slice none 0 0) 76
  refine (zu g p1 n cap a 4 _ ((za HR1).alloc _) (by omega) (by omega)).mono ?_
  rintro e w2 ⟨⟨k0, rfl, hk0⟩, ⟨p2, hp2, hr2⟩, hk2⟩
  have hk4 : k0 < 4 := by rcases hk0 with h | h <;> omega
  have hs1 : w.heap.size + 1 ≤ w1.heap.size := by have := (za HK1).size; simpa using this
  have HR2 := hide hr2
  have HK2 := hide (((za HK1).alloc _).trans hk2)
  have HA2 := hide (hA1.keeps hk2 (by omega))
  have HGB : Hid (g < w1.heap.size) := hide (by omega)
  have HB1 : Hid (w.heap.size + 1 ≤ w1.heap.size) := hide hs1
  clear hr2 hk2 hk0 hA1 hs1
  go_wp2_with fail
  obtain ⟨B1, hB1⟩ : ∃ B, w1.heap.size = B := ⟨_, rfl⟩
  rw [hB1] at HA2 HGB HB1 ⊢
  clear hB1
  go_loopw [6] (fun v wr => ∃ (k j p' : Nat) (kv : Value), v = .int .i64 k ∧ j + k ≤ 4 ∧ p' ≤ p2 + j ∧ AtC3 wr B1 (.int .i64 8) (.string ⟨#[]⟩) kv 76 ∧ SI wr B1 kv j ∧ B1 < wr.heap.size ∧ Rd wr g p' a n cap ∧ Keeps g (w.alloc (.cells #[.int .i64 0, .string ⟨#[]⟩, .slice none 0 0] 76)) wr) (fun v _ => (intOf v).toNat)
  case atStart => exact ⟨k0, 0, p2, _, rfl, by omega, by omega, za HA2, qh _ _, (za HA2).lt, za HR2, za HK2⟩
  case round =>
   obtain ⟨k, j, p', kv, rfl, hjk, hp', hA, hS, hlt', hR, hK⟩ := hrel
   have HAr := hide hA
   have HSr := hide hS
   have HRr := hide hR
   have HKr := hide hK
   have HLr := hide hlt'
   clear hA hR hK hlt'
   obtain ⟨ka, kc, rfl, _, _⟩ := hS.form
   clear hS
   by_cases hk : 0 < k
   ·have a2 := (za HAr).n2
    go_wp2_with fail
    go_region_law (first | ((refine jw (by rfl) _ _ (by rfl) 1000 B1 (.slice ka j kc) j w5.heap.size (x : Int) (by rfl) (by rfl) (za HS5) (by with_reducible exact q5) (by omega) (za HL5) (some 60) (by rfl) ?_; intro g6 c6 w6 hs6 hg6; have HS6 := hide hs6; have HG6 := hide hg6; have f2 := ((za HA5).gr hg6 (by decide)).n2; have f3 := ((za HA5).gr hg6 (by decide)).f; clear hs6 hg6)) | (go_simp; go_at_call 26; refine (zu g p' n cap a m wr.drew (by exact (za HRr).drew) (by omega) (by omega)).mono ?_; rintro e w5 ⟨⟨x, rfl, _⟩, ⟨p5, hp5, hr5⟩, hk5⟩; have hk5 := (Keeps.refl g wr).drew.trans hk5; have HR5 := hide (hr5.alloc (.cells #[.int .i64 (x : Int)] 3)); have HK5 := hide (((za HKr).trans hk5).alloc (.cells #[.int .i64 (x : Int)] 3)); have HA5 := hide (((za HAr).keeps hk5 (by have := za HGB; omega)).below (zh (Below.refl _ _) (.cells #[.int .i64 (x : Int)] 3))); have HS5 := hide (((za HSr).ty (Ty.keeps (K := 1000) hk5 (za HGB))).ty (Ty.below (K := 1000) (zh (Below.refl w5.heap.size w5) (.cells #[.int .i64 (x : Int)] 3)))); have HL5 : Hid (B1 ≤ (w5.alloc (.cells #[.int .i64 (x : Int)] 3)).heap.size) := hide (by have h1 := hk5.size; have h2 := za HLr; rw [World.size_alloc]; omega); have e2 := ((za HAr).keeps hk5 (by have := za HGB; omega)).n2; have e3 := (za HA5).n2; have q5 : (w5.alloc (.cells #[.int .i64 (x : Int)] 3)).cell? ⟨w5.heap.size, 0, none⟩ = some (.int .i64 (x : Int)) := World.news_of_block (heap_alloc_new w5 (.cells #[.int .i64 (x : Int)] 3)) 0 _ rfl; clear hr5 hk5; (try dsimp only)))
    ·
     have hZ := ((za HA5).gr (za HG6) (by decide)).put2 (.slice (some ⟨g6, 0, none⟩) (j + 1) c6)
     have hl6 : B1 < (w6.setCell ⟨B1, 2, none⟩ (.slice (some ⟨g6, 0, none⟩) (j + 1) c6)).heap.size := hZ.lt
     have HS7 := hide ((za HS6).oth (i := 2) ((za HA5).gr (za HG6) (by decide)) (by decide) (.slice (some ⟨g6, 0, none⟩) (j + 1) c6))
     have HB7 : Hid (Below B1 (w5.alloc (.cells #[.int .i64 (x : Int)] 3)) (w6.setCell ⟨B1, 2, none⟩ (.slice (some ⟨g6, 0, none⟩) (j + 1) c6))) := hide ((za HG6).low.setCell (p := ⟨B1, 2, none⟩) (Nat.le_refl _) _)
     have HR7 := hide ((za HR5).below ((za HB7).mono (by have := za HGB; omega)))
     have HK7 := hide ((za HK5).more ((za HB7).mono (by rw [World.size_alloc]; exact za HB1)))
     have HZ := hide hZ
     have HL7 := hide hl6
     clear hZ hl6 f2 f3 e2 e3 a2
     go_wp2_with fail
     go_roundw
     case rel => exact ⟨k - 1, j + 1, p5, _, by go_num, by omega, by omega, za HZ, za HS7, za HL7, za HR7, za HK7⟩
     case measure => simp [intOf]; omega
    ·
     have hZ := ((za HA5).gr (za HG6) (by decide)).put2 (.slice (some ⟨g6, 0, none⟩) (j + 1) c6)
     have hl6 : B1 < (w6.setCell ⟨B1, 2, none⟩ (.slice (some ⟨g6, 0, none⟩) (j + 1) c6)).heap.size := hZ.lt
     have HS7 := hide ((za HS6).oth (i := 2) ((za HA5).gr (za HG6) (by decide)) (by decide) (.slice (some ⟨g6, 0, none⟩) (j + 1) c6))
     have HB7 : Hid (Below B1 (w5.alloc (.cells #[.int .i64 (x : Int)] 3)) (w6.setCell ⟨B1, 2, none⟩ (.slice (some ⟨g6, 0, none⟩) (j + 1) c6))) := hide ((za HG6).low.setCell (p := ⟨B1, 2, none⟩) (Nat.le_refl _) _)
     have HR7 := hide ((za HR5).below ((za HB7).mono (by have := za HGB; omega)))
     have HK7 := hide ((za HK5).more ((za HB7).mono (by rw [World.size_alloc]; exact za HB1)))
     have HZ := hide hZ
     have HL7 := hide hl6
     clear hZ hl6 f2 f3 e2 e3 a2
     go_wp2_with fail
     go_roundw
     case rel => exact ⟨k - 1, j + 1, p5, _, by go_num, by omega, by omega, za HZ, za HS7, za HL7, za HR7, za HK7⟩
     case measure => simp [intOf]; omega
    ·
     have hZ := ((za HA5).gr (za HG6) (by decide)).put2 (.slice (some ⟨g6, 0, none⟩) (j + 1) c6)
     have hl6 : B1 < (w6.setCell ⟨B1, 2, none⟩ (.slice (some ⟨g6, 0, none⟩) (j + 1) c6)).heap.size := hZ.lt
     have HS7 := hide ((za HS6).oth (i := 2) ((za HA5).gr (za HG6) (by decide)) (by decide) (.slice (some ⟨g6, 0, none⟩) (j + 1) c6))
     have HB7 : Hid (Below B1 (w5.alloc (.cells #[.int .i64 (x : Int)] 3)) (w6.setCell ⟨B1, 2, none⟩ (.slice (some ⟨g6, 0, none⟩) (j + 1) c6))) := hide ((za HG6).low.setCell (p := ⟨B1, 2, none⟩) (Nat.le_refl _) _)
     have HR7 := hide ((za HR5).below ((za HB7).mono (by have := za HGB; omega)))
     have HK7 := hide ((za HK5).more ((za HB7).mono (by rw [World.size_alloc]; exact za HB1)))
     have HZ := hide hZ
     have HL7 := hide hl6
     clear hZ hl6 f2 f3 e2 e3 a2
     go_wp2_with fail
     go_roundw
     case rel => exact ⟨k - 1, j + 1, p5, _, by go_num, by omega, by omega, za HZ, za HS7, za HL7, za HR7, za HK7⟩
     case measure => simp [intOf]; omega
   ·obtain rfl : k = 0 := by omega
    have a0 := (za HAr).n0
    have a1 := (za HAr).n1
    have a2 := (za HAr).n2
    have HSw : Hid (SI wr w.heap.size (.slice ka j kc) j) := hide ((za HSr).base (by have := za HB1; omega))
    have hA := (za HA).keeps (za HKr) (by omega)
    have c0 := hA.n0
    have c1 := hA.n1
    have c2 := hA.n2
    have f := hA.f
    have hZ := hA.put3 (.int .i64 8) (.string ⟨#[]⟩) (.slice ka j kc)
    have z0 := hZ.n0
    have z1 := hZ.n1
    have z2 := hZ.n2
    have HSI := hide (SI.put3 (za HSw) hA (by decide) (.int .i64 8) (.string ⟨#[]⟩) (.slice ka j kc))
    have HZ := hide (And.intro z0 (And.intro z1 z2))
    have hD : Drawn w g p n cap a 500 wr := ⟨⟨p', by omega, (za HRr)⟩, ((Keeps.refl g w).alloc _).trans (za HKr)⟩
    have HD := hide (hD.more (za Hlt) (((((Below.refl w.heap.size wr).setCell (p := ⟨w.heap.size, 0, none⟩) (Nat.le_refl _) (.int .i64 8)).setCell (p := ⟨w.heap.size, 1, none⟩) (Nat.le_refl _) (.string ⟨#[]⟩)).setCell (p := ⟨w.heap.size, 2, none⟩) (Nat.le_refl _) (.slice ka j kc))))
    clear z0 z1 z2 hZ hD hA
    go_wp2_with fail
    have hz := za HZ
    refine bodyPost_ret (v := .agg #[.int .i64 8, .string ⟨#[]⟩, (.slice ka j kc)]) (by simp [results, Tryd.results38, go_sem, hz]) rfl ⟨⟨8, ⟨#[]⟩, (.slice ka j kc), j, rfl, by decide, by omega, za HSI⟩, za HD⟩
 ·
  have hA := (za HA).keeps (za HK1) (by omega)
  have c0 := hA.n0
  have c1 := hA.n1
  have c2 := hA.n2
  have f := hA.f
  have hZ := hA.put3 (.int .i64 6) (.string ⟨#[]⟩) (.slice none 0 0)
  have z0 := hZ.n0
  have z1 := hZ.n1
  have z2 := hZ.n2
  have HSI := hide (SI.put3 (qh w1 w.heap.size) hA (by decide) (.int .i64 6) (.string ⟨#[]⟩) (.slice none 0 0))
  have HZ := hide (And.intro z0 (And.intro z1 z2))
  have hD : Drawn w g p n cap a 500 w1 := ⟨⟨p1, by omega, (za HR1)⟩, ((Keeps.refl g w).alloc _).trans (za HK1)⟩
  have HD := hide (hD.more (za Hlt) (((((Below.refl w.heap.size w1).setCell (p := ⟨w.heap.size, 0, none⟩) (Nat.le_refl _) (.int .i64 6)).setCell (p := ⟨w.heap.size, 1, none⟩) (Nat.le_refl _) (.string ⟨#[]⟩)).setCell (p := ⟨w.heap.size, 2, none⟩) (Nat.le_refl _) (.slice none 0 0))))
  clear z0 z1 z2 hZ hD hA
  go_wp2_with fail
  have hz := za HZ
  refine bodyPost_ret (v := .agg #[.int .i64 6, .string ⟨#[]⟩, (.slice none 0 0)]) (by simp [results, Tryd.results38, go_sem, hz]) rfl ⟨⟨6, ⟨#[]⟩, (.slice none 0 0), 0, rfl, by decide, by omega, za HSI⟩, za HD⟩
 ·have e0 : ((i : Int) == 0) = false := by rw [beq_eq_false_iff_ne]; omega
  have e1 : ((i : Int) == 1) = false := by rw [beq_eq_false_iff_ne]; omega
  have e2 : ((i : Int) == 2) = false := by rw [beq_eq_false_iff_ne]; omega
  have e3 : ((i : Int) == 3) = false := by rw [beq_eq_false_iff_ne]; omega
  have e4 : ((i : Int) == 4) = false := by rw [beq_eq_false_iff_ne]; omega
  have e5 : ((i : Int) == 5) = false := by rw [beq_eq_false_iff_ne]; omega
  have e6 : ((i : Int) == 6) = false := by rw [beq_eq_false_iff_ne]; omega
  have e7 : ((i : Int) == 7) = false := by rw [beq_eq_false_iff_ne]; omega
  have e8 : ((i : Int) == 8) = false := by rw [beq_eq_false_iff_ne]; omega
  go_wp2_with fail
  refine (zu g p1 n cap a m _ (za HR1) (by omega) (by omega)).mono ?_
  rintro e w2 ⟨⟨k1, rfl, _⟩, ⟨p2, hp2, hr2⟩, hk2⟩
  have HR2 := hide hr2
  have HK2 := hide ((za HK1).trans hk2)
  clear hr2 hk2
  go_wp2_with fail
  refine (zu g p2 n cap a m _ (za HR2) (by omega) (by omega)).mono ?_
  rintro e w3 ⟨⟨k2, rfl, _⟩, ⟨p3, hp3, hr3⟩, hk3⟩
  have HR3 := hide (hr3.alloc (.cells #[.int .i64 (k1 : Int), .int .i64 (k2 : Int)] 3))
  have HK3 := hide (((za HK2).trans hk3).alloc (.cells #[.int .i64 (k1 : Int), .int .i64 (k2 : Int)] 3))
  have HS3 := hide (SI.base (Qc w3 #[.int .i64 (k1 : Int), .int .i64 (k2 : Int)] 2 rfl (by decide) (by intro u hu; simp at hu; rcases hu with rfl | rfl <;> exact ⟨_, rfl⟩)) (show w.heap.size ≤ w3.heap.size from Nat.le_trans (by simp) ((za HK2).trans hk3).size))
  clear hr3 hk3 e0 e1 e2 e3 e4 e5 e6 e7 e8
  have hA := (za HA).keeps (za HK3) (by omega)
  have c0 := hA.n0
  have c1 := hA.n1
  have c2 := hA.n2
  have f := hA.f
  have hZ := hA.put3 (.int .i64 7) (.string ⟨#[]⟩) (.slice (some ⟨w3.heap.size, 0, none⟩) 2 2)
  have z0 := hZ.n0
  have z1 := hZ.n1
  have z2 := hZ.n2
  have HSI := hide (SI.put3 (za HS3) hA (by decide) (.int .i64 7) (.string ⟨#[]⟩) (.slice (some ⟨w3.heap.size, 0, none⟩) 2 2))
  have HZ := hide (And.intro z0 (And.intro z1 z2))
  have hD : Drawn w g p n cap a 500 (w3.alloc (.cells #[.int .i64 (k1 : Int), .int .i64 (k2 : Int)] 3)) := ⟨⟨p3, by omega, (za HR3)⟩, ((Keeps.refl g w).alloc _).trans (za HK3)⟩
  have HD := hide (hD.more (za Hlt) (((((Below.refl w.heap.size (w3.alloc (.cells #[.int .i64 (k1 : Int), .int .i64 (k2 : Int)] 3))).setCell (p := ⟨w.heap.size, 0, none⟩) (Nat.le_refl _) (.int .i64 7)).setCell (p := ⟨w.heap.size, 1, none⟩) (Nat.le_refl _) (.string ⟨#[]⟩)).setCell (p := ⟨w.heap.size, 2, none⟩) (Nat.le_refl _) (.slice (some ⟨w3.heap.size, 0, none⟩) 2 2))))
  clear z0 z1 z2 hZ hD hA
  go_wp2_with fail
  have hz := za HZ
  refine bodyPost_ret (v := .agg #[.int .i64 7, .string ⟨#[]⟩, (.slice (some ⟨w3.heap.size, 0, none⟩) 2 2)]) (by simp [results, Tryd.results38, go_sem, hz]) rfl ⟨⟨7, ⟨#[]⟩, (.slice (some ⟨w3.heap.size, 0, none⟩) 2 2), 2, rfl, by decide, by omega, za HSI⟩, za HD⟩
end Go.Proofs.YtnenoaenjaghhaaDoor
namespace Go.Proofs.YtnenoaenjaghhaaDoor
open Go.RowKit Nt
structure DSt (K g B b : Nat) (W0 : World) (nv rv : Value) (i m : Nat) (w : World) : Prop where
 box : AtC2 w b nv rv 71
 nodes : SN K w B nv i
 roots : SI w B rv m
 keep : Keeps g W0 w
 low : W0.heap.size ≤ B ∧ W0.heap.size ≤ b ∧ g < B ∧ b ≠ g ∧ B ≤ w.heap.size
variable {K g B b i m : Nat} {W0 w w' : World} {nv rv : Value}
theorem DSt.keeps (h : DSt K g B b W0 nv rv i m w) (k : Keeps g w w') : DSt K g B b W0 nv rv i m w' :=
 have t := Ty.keeps (K := K) k h.low.2.2.1
 ⟨h.box.keeps k h.low.2.2.2.1, h.nodes.ty t, h.roots.ty t, h.keep.trans k, h.low.1, h.low.2.1, h.low.2.2.1, h.low.2.2.2.1, Nat.le_trans h.low.2.2.2.2 k.size⟩
theorem DSt.below (h : DSt K g B b W0 nv rv i m w) (k : Below w.heap.size w w') : DSt K g B b W0 nv rv i m w' := h.keeps (Keeps.of_below k)
theorem DSt.alloc (h : DSt K g B b W0 nv rv i m w) (o : Obj) : DSt K g B b W0 nv rv i m (w.alloc o) := h.below (zh (Below.refl _ _) o)
theorem DSt.setI {q c k j : Nat} {x : Int} (h : DSt K g B b W0 nv rv i m w) (hq : BI w q c k) (hB : B ≤ q) : DSt K g B b W0 nv rv i m (w.setCell ⟨q, j, none⟩ (.int .i64 x)) := by
 have t : Ty K B w (w.setCell ⟨q, j, none⟩ (.int .i64 x)) := Ty.setI hq
 refine ⟨h.box.far (a := ⟨q, j, none⟩) (fun e => ?_) _, h.nodes.ty t, h.roots.ty t, h.keep.more ((Below.refl _ _).setCell (Nat.le_trans h.low.1 hB) _), h.low.1, h.low.2.1, h.low.2.2.1, h.low.2.2.2.1, by rw [show (w.setCell ⟨q, j, none⟩ (.int .i64 x)).heap.size = w.heap.size from by simp [World.setCell]]; exact h.low.2.2.2.2⟩
 obtain ⟨cs, k1, _⟩ := hq
 have k2 := h.box
 unfold AtC2 at k2
 simp only at e
 rw [e] at k1
 rw [k1] at k2
 simp only [Option.some.injEq, Obj.cells.injEq] at k2
 exact absurd k2.2.1 (by decide)
theorem qi (w : World) (a : Addr) (u : Value) : (w.setCell a u).heap.size = w.heap.size := by simp [World.setCell]
theorem DSt.setN {q c k j : Nat} {x : Value} (h : DSt K g B b W0 nv rv i m w) (hq : BN K w B q c k) (hB : B ≤ q) (hx : qN K w B (j % 3) x) : DSt K g B b W0 nv rv i m (w.setCell ⟨q, j, none⟩ x) := by
 have t : Ty K B w (w.setCell ⟨q, j, none⟩ x) := Ty.setN hq hx
 refine ⟨h.box.far (a := ⟨q, j, none⟩) (fun e => ?_) _, h.nodes.ty t, h.roots.ty t, h.keep.more ((Below.refl _ _).setCell (Nat.le_trans h.low.1 hB) _), h.low.1, h.low.2.1, h.low.2.2.1, h.low.2.2.2.1, by rw [qi]; exact h.low.2.2.2.2⟩
 obtain ⟨cs, k1, _⟩ := hq
 have k2 := h.box
 unfold AtC2 at k2
 simp only at e
 rw [e] at k1
 rw [k1] at k2
 simp only [Option.some.injEq, Obj.cells.injEq] at k2
 exact absurd k2.2.1 (by decide)
theorem DSt.appN {v' : Value} {j : Nat} (h : DSt K g B b W0 nv rv i m w) (hg : Grown 76 K B w w') (hv : SN K w' B v' j) : DSt K g B b W0 v' rv j m (w'.setCell ⟨b, 0, none⟩ v') := by
 have hb' := h.box.gr hg (by decide)
 have t : Ty K B w' (w'.setCell ⟨b, 0, none⟩ v') := Ty.box hb' (by decide) (by decide) _
 exact ⟨hb'.st0 _, hv.ty t, (h.roots.ty hg.ty).ty t, (h.keep.more (hg.low.mono h.low.1)).more ((Below.refl _ _).setCell h.low.2.1 _), h.low.1, h.low.2.1, h.low.2.2.1, h.low.2.2.2.1, by rw [qi]; exact Nat.le_trans h.low.2.2.2.2 hg.low.size⟩
theorem DSt.appI {v' : Value} {j : Nat} (h : DSt K g B b W0 nv rv i m w) (hg : Grown 3 K B w w') (hv : SI w' B v' j) : DSt K g B b W0 nv v' i j (w'.setCell ⟨b, 1, none⟩ v') := by
 have hb' := h.box.gr hg (by decide)
 have t : Ty K B w' (w'.setCell ⟨b, 1, none⟩ v') := Ty.box hb' (by decide) (by decide) _
 exact ⟨hb'.st1 _, (h.nodes.ty hg.ty).ty t, hv.ty t, (h.keep.more (hg.low.mono h.low.1)).more ((Below.refl _ _).setCell h.low.2.1 _), h.low.1, h.low.2.1, h.low.2.2.1, h.low.2.2.2.1, by rw [qi]; exact Nat.le_trans h.low.2.2.2.2 hg.low.size⟩
theorem Rd.from {p n cap : Nat} {a : Option Addr} (h : Rd w g p a n cap) (hg : g < B) (hb : Below B w w') : Rd w' g p a n cap := h.below (hb.mono hg)
structure NSt (K B q : Nat) (x : Int) (s : ByteArray) (kv : Value) (kl : Nat) (w : World) : Prop where
 box : AtC3 w q (.int .i64 x) (.string s) kv 76
 kids : SI w B kv kl
 small : s.size ≤ K ∧ kl ≤ K
 low : B ≤ q
variable {q kl : Nat} {x : Int} {s : ByteArray} {kv : Value}
theorem NSt.keeps (h : NSt K B q x s kv kl w) (k : Keeps g w w') (hg : g < B) : NSt K B q x s kv kl w' :=
 ⟨h.box.keeps k (by have := h.low; omega), h.kids.ty (Ty.keeps (K := K) k hg), h.small, h.low⟩
theorem NSt.bn (h : NSt K B q x s kv kl w) : BN K w B q 1 1 := ZW w q x s kv kl h.small.1 h.small.2 h.box h.kids
theorem NSt.setI {c k j o : Nat} {y : Int} (h : NSt K B q x s kv kl w) (hq : BI w o c k) : NSt K B q x s kv kl (w.setCell ⟨o, j, none⟩ (.int .i64 y)) := by
 have hne : q ≠ o := Row.ne h.bn hq (by decide)
 refine ⟨?_, h.kids.ty (Ty.setI (K := K) (base := B) hq), h.small, h.low⟩
 have hb := h.box
 unfold AtC3 at hb ⊢
 rw [Below.heap_setCell _ _ _ _ hne]
 exact hb
theorem NSt.put {y : Int} {t : ByteArray} {lv : Value} {ll : Nat} (h : NSt K B q x s kv kl w) (ht : t.size ≤ K) (hl : ll ≤ K) (hv : SI w B lv ll) : NSt K B q y t lv ll (((w.setCell ⟨q, 0, none⟩ (.int .i64 y)).setCell ⟨q, 1, none⟩ (.string t)).setCell ⟨q, 2, none⟩ lv) :=
 ⟨h.box.put3 _ _ _, hv.put3 h.box (by decide) _ _ _, ⟨ht, hl⟩, h.low⟩
theorem DSt.put {y : Int} {t : ByteArray} {lv : Value} {ll : Nat} (h : DSt K g B b W0 nv rv i m w) (hx : NSt K B q x s kv kl w) (ht : t.size ≤ K) (hl : ll ≤ K) (hv : SI w B lv ll) : DSt K g B b W0 nv rv i m (((w.setCell ⟨q, 0, none⟩ (.int .i64 y)).setCell ⟨q, 1, none⟩ (.string t)).setCell ⟨q, 2, none⟩ lv) := by
 have h1 := h.setN hx.bn hx.low (j := 0) (x := .int .i64 y) ⟨fun _ => ⟨y, rfl⟩, fun e => by simp at e, fun e => by simp at e⟩
 have b1 : BN K (w.setCell ⟨q, 0, none⟩ (.int .i64 y)) B q 1 1 := (Ty.setN (K := K) (base := B) hx.bn (i := 0) (x := .int .i64 y) ⟨fun _ => ⟨y, rfl⟩, fun e => by simp at e, fun e => by simp at e⟩).bn _ _ _ hx.low hx.bn
 have h2 := h1.setN b1 hx.low (j := 1) (x := .string t) ⟨fun e => by simp at e, fun _ => ⟨t, rfl, ht⟩, fun e => by simp at e⟩
 have b2 := (Ty.setN (K := K) (base := B) b1 (i := 1) (x := .string t) ⟨fun e => by simp at e, fun _ => ⟨t, rfl, ht⟩, fun e => by simp at e⟩).bn _ _ _ hx.low b1
 have hv2 := (hv.oth (i := 0) hx.box (by decide) (.int .i64 y)).oth (i := 1) (qA (i := 0) hx.box (.int .i64 y)) (by decide) (.string t)
 exact h2.setN b2 hx.low (j := 2) ⟨fun e => by simp at e, fun e => by simp at e, fun _ => ⟨ll, hl, hv2⟩⟩
end Go.Proofs.YtnenoaenjaghhaaDoor
namespace Go.Proofs.YtnenoaenjaghhaaDoor
open Go.RowKit Nt
theorem AtC3.new' (w : World) (b : Nat) (x y z : Value) (T : TypeId) (hb : w.heap.size = b) : AtC3 (w.alloc (.cells #[x, y, z] T)) b x y z T := by subst hb; exact AtC3.new ..
theorem xi (g p n cap : Nat) (a : Option Addr) (w : World) (h : Rd w g p a n cap) (hp : p ≤ 600000000) :
  Calls Tryd.prog 34 #[.pointer (some ⟨g, 0, none⟩)] w fun e w' => (∃ nv rv k m, e = .returned (.agg #[nv, rv]) ∧ 1 ≤ k ∧ k ≤ 9 ∧ m ≤ 4 ∧ SN 1000 w' w.heap.size nv k ∧ SI w' w.heap.size rv m) ∧ Drawn w g p n cap a 10000 w' := by
 have hlt := h.lt
 have Hlt := hide hlt
 have HR := hide (h.alloc (.cells #[.slice none 0 0, .slice none 0 0] 71))
 have HA := hide (AtC2.new w (.slice none 0 0) (.slice none 0 0) 71)
 clear h
 go_enter Tryd.func34, Tryd.ntmps34
 go_wp2_with fail
 refine (zu g p n cap a 9 _ (za HR) (by omega) (by omega)).mono ?_
 rintro e w1 ⟨⟨n0, rfl, hn0⟩, ⟨p1, hp1, hr1⟩, hk1⟩
 have hn9 : n0 < 9 := by rcases hn0 with h | h <;> omega
 have e1 : wrap64 (1 + (n0 : Int)) = ((n0 + 1 : Nat) : Int) := by unfold wrap64; omega
 have hs1 : w.heap.size + 1 ≤ w1.heap.size := by have := hk1.size; simpa using this
 obtain ⟨W0, hW0⟩ : ∃ W0, w.alloc (.cells #[.slice none 0 0, .slice none 0 0] 71) = W0 := ⟨_, rfl⟩
 have hz0 : W0.heap.size = w.heap.size + 1 := by rw [← hW0]; simp
 rw [hW0] at hk1 HA
 obtain ⟨B, hB⟩ : ∃ B, w1.heap.size = B := ⟨_, rfl⟩
 have HD1 : Hid (DSt 1000 g B B W0 (.slice none 0 0) (.slice none 0 0) 0 0 (w1.alloc (.cells #[.slice none 0 0, .slice none 0 0] 71))) := hide (by
  subst hB
  exact ⟨AtC2.new w1 _ _ _, Qd _ _ _, qh _ _, hk1.alloc _, by omega, by omega, by omega, by omega, by simp⟩)
 have HR1 := hide (hr1.alloc (.cells #[.slice none 0 0, .slice none 0 0] 71))
 clear hr1 hk1 hn0
 go_wp2_with fail
 clear hs1 hB
 have e1 : wrap64 (1 + (n0 : Int)) = 1 + (n0 : Int) := by unfold wrap64; omega
 go_loopw [5] (fun vi wr => ∃ (i p' : Nat) (nv : Value), vi = .int .i64 i ∧ i ≤ n0 + 1 ∧ p' ≤ p1 + 600 * i ∧ DSt 1000 g B B W0 nv (.slice none 0 0) i 0 wr ∧ Rd wr g p' a n cap) (fun vi _ => (n0 + 1) - (intOf vi).toNat)
 case atStart => exact ⟨0, p1, _, rfl, by omega, by omega, za HD1, za HR1⟩
 case round =>
  obtain ⟨i, p', nv, rfl, hi, hp', hD, hR⟩ := hrel
  have HD := hide hD
  have HRr := hide hR
  obtain ⟨na, nc, rfl, _, _⟩ := hD.nodes.form
  clear hD hR
  by_cases hlt' : (i : Int) < 1 + (n0 : Int)
  ·go_wp2_with fail
   have h := xj g p' n cap a (1 + (n0 : Int)) wr (za HRr) (by omega) (by omega)
   refine h.mono ?_
   clear h
   rintro e w2 ⟨⟨xs, s, kv, kl, rfl, hs, hkl, hkv⟩, ⟨p2, hp2, hr2⟩, hk2⟩
   obtain ⟨ka, kc, rfl, hkc, hkm⟩ := hkv.form
   unfold maxLen at hkm
   have HR2 := hide (hr2.alloc (.cells #[.int .i64 xs, .string s, .slice ka kl kc] 76))
   have HD2 := hide (((za HD).keeps hk2).alloc (.cells #[.int .i64 xs, .string s, .slice ka kl kc] 76))
   have hB2 : B ≤ w2.heap.size := Nat.le_trans (za HD).low.2.2.2.2 hk2.size
   have HN2 : Hid (NSt 1000 B w2.heap.size xs s (.slice ka kl kc) kl (w2.alloc (.cells #[.int .i64 xs, .string s, .slice ka kl kc] 76))) := hide ⟨AtC3.new w2 _ _ _ _, (hkv.base (by have := (za HD).low.2.2.2.2; omega)).ty (Ty.below (K := 1000) (zh (Below.refl _ _) _)), ⟨hs, by omega⟩, hB2⟩
   clear hr2 hk2 hkv
   go_wp2_with fail
   obtain ⟨q, hq⟩ : ∃ q, w2.heap.size = q := ⟨_, rfl⟩
   rw [hq] at HN2 ⊢
   clear hq hB2
   have hkl9 : kl ≤ 1000 := by omega
   go_loopw [7] (fun vk wk => ∃ (k p'' : Nat), vk = .int .i64 k ∧ k ≤ kl ∧ p'' ≤ p2 + 2 * k ∧ DSt 1000 g B B W0 (.slice na i nc) (.slice none 0 0) i 0 wk ∧ NSt 1000 B q xs s (.slice ka kl kc) kl wk ∧ Rd wk g p'' a n cap) (fun vk _ => kl - (intOf vk).toNat)
   case atStart => exact ⟨0, p2, rfl, by omega, by omega, za HD2, za HN2, za HR2⟩
   case round =>
    obtain ⟨k, p3, rfl, hk, hp3, hD, hN, hR⟩ := hrel
    obtain ⟨wk, hwk⟩ : ∃ wk, wk = wr := ⟨_, rfl⟩
    subst hwk
    have HDk := hide hD
    have HNk := hide hN
    have HRk := hide hR
    have a2 := hN.box.n2
    clear hD hN hR
    by_cases hkk : k < kl
    ·go_wp2_with fail
     refine (zu g p3 n cap a 3 _ (za HRk) (by omega) (by omega)).mono ?_
     rintro e w3 ⟨⟨z, rfl, _⟩, ⟨p4, hp4, hr4⟩, hk4⟩
     have HR3 := hide hr4
     have HD3 := hide ((za HDk).keeps hk4)
     have HN3 := hide ((za HNk).keeps hk4 (za HDk).low.2.2.1)
     clear hr4 hk4 a2
     have a2 := (za HN3).box.n2
     by_cases hz : 0 < (z : Int)
     ·by_cases hin : (i : Int) + 1 < 1 + (n0 : Int)
      ·obtain ⟨kb, rfl, hkb, hbi⟩ : ∃ kb, ka = some ⟨kb, 0, none⟩ ∧ B ≤ kb ∧ BI w3 kb kc kl := by
        rcases (za HN3).kids with ⟨e, e0⟩ | ⟨kb, c', e, h1, _, _, h4⟩
        ·omega
        ·cases e; exact ⟨kb, rfl, h1, h4⟩
       have HBI := hide hbi
       have HKB := hide hkb
       obtain ⟨N, hN⟩ : ∃ N : Int, 1 + (n0 : Int) - (i : Int) - 1 = N := ⟨_, rfl⟩
       have w2' : IntKind.i64.wrap (IntKind.i64.wrap (1 + (n0 : Int) - (i : Int)) - 1) = N := by rw [wi64 (1 + (n0 : Int) - (i : Int)) (by omega) (by omega), wi64 _ (by omega) (by omega)]; exact hN
       have w3' : IntKind.i64.wrap ((i : Int) + 1) = ((i + 1 : Nat) : Int) := by rw [wi64 _ (by omega) (by omega)]; omega
       have HNN := hide hN
       clear hbi hkb hN
       go_wp2_with fail
       go_region_law (first | (go_simp; go_at_call 26; refine (zu g p4 n cap a N w3.drew (by exact (za HR3).drew) (by omega) (by have := za HNN; omega)).mono ?_; rintro e w5 ⟨⟨y, rfl, hy⟩, ⟨p5, hp5, hr5⟩, hk5⟩; have hk5 := (Keeps.refl g w3).drew.trans hk5; have HR5 := hide hr5; have HD5 := hide ((za HD3).keeps hk5); have HN5 := hide ((za HN3).keeps hk5 (za HD3).low.2.2.1); have HB5 := hide ((Ty.keeps (K := 1000) hk5 (za HD3).low.2.2.1).bi _ _ _ (za HKB) (za HBI)); have e2 := (za HN5).box.n2; have hy9 : (y : Int) ≤ 1000000000 := (by rcases hy with h | h <;> (have := za HNN; omega)); have w4' : IntKind.i64.wrap (((i + 1 : Nat) : Int) + (y : Int)) = ((i + 1 : Nat) : Int) + (y : Int) := (by rw [wi64 _ (by omega) (by omega)]); obtain ⟨u5, f5, u5', hu5⟩ := (za HB5).cell (by omega) (show k < kl * 1 by omega); have f6 := (za HB5).frozen k; clear hr5 hk5 hy; (try dsimp only)))
       ·
        have HD7 := hide ((za HD5).setI (j := k) (x := ((i + 1 : Nat) : Int) + (y : Int)) (za HB5) (za HKB))
        have HN7 := hide ((za HN5).setI (j := k) (y := ((i + 1 : Nat) : Int) + (y : Int)) (za HB5))
        have HR7 := hide ((za HR5).from (za HD5).low.2.2.1 ((Below.refl B w5).setCell (p := ⟨kb, k, none⟩) (za HKB) (.int .i64 (((i + 1 : Nat) : Int) + (y : Int)))))
        clear hu5 f6 w2' w3' w4' e2 a2
        go_wp2_with fail
        go_roundw
        case rel => exact ⟨k + 1, p5, by go_num, by omega, by omega, za HD7, za HN7, za HR7⟩
        case measure => simp [intOf]; omega
       ·
        have HD7 := hide ((za HD5).setI (j := k) (x := ((i + 1 : Nat) : Int) + (y : Int)) (za HB5) (za HKB))
        have HN7 := hide ((za HN5).setI (j := k) (y := ((i + 1 : Nat) : Int) + (y : Int)) (za HB5))
        have HR7 := hide ((za HR5).from (za HD5).low.2.2.1 ((Below.refl B w5).setCell (p := ⟨kb, k, none⟩) (za HKB) (.int .i64 (((i + 1 : Nat) : Int) + (y : Int)))))
        clear hu5 f6 w2' w3' w4' e2 a2
        go_wp2_with fail
        go_roundw
        case rel => exact ⟨k + 1, p5, by go_num, by omega, by omega, za HD7, za HN7, za HR7⟩
        case measure => simp [intOf]; omega
      ·go_wp2_with fail
       go_roundw
       case rel => exact ⟨k + 1, p4, by go_num, by omega, by omega, za HD3, za HN3, za HR3⟩
       case measure => simp [intOf]; omega
     ·clear a2
      by_cases hl : (i : Int) + 1 = 1 + (n0 : Int)
      ·have hl' : ((i : Int) + 1 == 1 + (n0 : Int)) = true := by rw [beq_iff_eq]; exact hl
       go_wp2_with fail
       refine (zu g p4 n cap a 3 _ (za HR3) (by omega) (by omega)).mono ?_
       rintro e w8 ⟨⟨z8, rfl, _⟩, ⟨p8, hp8, hr8⟩, hk8⟩
       have HR8 := hide hr8
       have HD8 := hide ((za HD3).keeps hk8)
       have HN8 := hide ((za HN3).keeps hk8 (za HD3).low.2.2.1)
       clear hr8 hk8 hl'
       by_cases hz8 : 0 < (z8 : Int)
       ·have a0 := (za HN8).box.n0
        have a1 := (za HN8).box.n1
        have a2 := (za HN8).box.n2
        have af := (za HN8).box.f
        have HR9 := hide ((za HR8).from (za HD8).low.2.2.1 ((((Below.refl B w8).setCell (p := ⟨q, 0, none⟩) (za HN8).low (.int .i64 6)).setCell (p := ⟨q, 1, none⟩) (za HN8).low (.string ⟨#[]⟩)).setCell (p := ⟨q, 2, none⟩) (za HN8).low (.slice none 0 0)))
        have HD9 := hide ((za HD8).put (y := 6) (t := ⟨#[]⟩) (za HN8) (by decide) (by decide) (qh w8 B))
        have HN9 := hide ((za HN8).put (y := 6) (t := ⟨#[]⟩) (by decide) (by decide) (qh w8 B))
        have b0 := (za HD9).box.n0
        have c0 := (za HN9).box.n0
        have c1 := (za HN9).box.n1
        have c2 := (za HN9).box.n2
        have HRA := hide ((za HR9).alloc (.cells #[.int .i64 6, .string ⟨#[]⟩, (.slice none 0 0)] 76))
        have HDA := hide ((za HD9).alloc (.cells #[.int .i64 6, .string ⟨#[]⟩, (.slice none 0 0)] 76))
        have HKA := hide ((za HN9).kids.ty (Ty.below (K := 1000) (zh (Below.refl (((w8.setCell ⟨q, 0, none⟩ (.int .i64 6)).setCell ⟨q, 1, none⟩ (.string ⟨#[]⟩)).setCell ⟨q, 2, none⟩ (.slice none 0 0)).heap.size (((w8.setCell ⟨q, 0, none⟩ (.int .i64 6)).setCell ⟨q, 1, none⟩ (.string ⟨#[]⟩)).setCell ⟨q, 2, none⟩ (.slice none 0 0))) (.cells #[.int .i64 6, .string ⟨#[]⟩, (.slice none 0 0)] 76))))
        have HSM := hide (za HN9).small
        have HNW := hide (AtC3.new' (((w8.setCell ⟨q, 0, none⟩ (.int .i64 6)).setCell ⟨q, 1, none⟩ (.string ⟨#[]⟩)).setCell ⟨q, 2, none⟩ (.slice none 0 0)) w8.heap.size (.int .i64 6) (.string ⟨#[]⟩) (.slice none 0 0) 76 (by simp [qi]))
        go_wp2_with (at_builtin; refine zD (by rfl) (.tmp 61) (.tmp 63) (by rfl) 1000 B (.slice na i nc) i w8.heap.size 6 ⟨#[]⟩ (.slice none 0 0) 0 (by rfl) (by rfl) (za HDA).nodes (za HNW).n0 (za HNW).n1 (za HNW).n2 (za HSM).1 (za HSM).2 (za HKA) (by omega) (za HDA).low.2.2.2.2 ?_; intro g6 c6 w6 hs6 hg6; have HS6 := hide hs6; have HG6 := hide hg6; have f0 := ((za HDA).box.gr hg6 (by decide)).n0; have f1 := ((za HDA).box.gr hg6 (by decide)).f; clear hs6 hg6 b0 c0 c1 c2)
        have HD7 := hide ((za HDA).appN (za HG6) (za HS6))
        have HR7 := hide ((za HRA).from (za HDA).low.2.2.1 ((za HG6).low.setCell (p := ⟨B, 0, none⟩) (Nat.le_refl _) (.slice (some ⟨g6, 0, none⟩) (i + 1) c6)))
        clear f0 f1
        go_wp2_with fail
        go_roundw
        case rel => exact ⟨i + 1, p8, _, by go_num, by omega, by omega, za HD7, za HR7⟩
        case measure => simp [intOf]; omega
       ·
        have b0 := (za HD8).box.n0
        have c0 := (za HN8).box.n0
        have c1 := (za HN8).box.n1
        have c2 := (za HN8).box.n2
        have HRA := hide ((za HR8).alloc (.cells #[.int .i64 xs, .string s, (.slice ka kl kc)] 76))
        have HDA := hide ((za HD8).alloc (.cells #[.int .i64 xs, .string s, (.slice ka kl kc)] 76))
        have HKA := hide ((za HN8).kids.ty (Ty.below (K := 1000) (zh (Below.refl w8.heap.size w8) (.cells #[.int .i64 xs, .string s, (.slice ka kl kc)] 76))))
        have HSM := hide (za HN8).small
        have HNW := hide (AtC3.new' w8 w8.heap.size (.int .i64 xs) (.string s) (.slice ka kl kc) 76 (by simp [qi]))
        go_wp2_with (at_builtin; refine zD (by rfl) (.tmp 61) (.tmp 63) (by rfl) 1000 B (.slice na i nc) i w8.heap.size xs s (.slice ka kl kc) kl (by rfl) (by rfl) (za HDA).nodes (za HNW).n0 (za HNW).n1 (za HNW).n2 (za HSM).1 (za HSM).2 (za HKA) (by omega) (za HDA).low.2.2.2.2 ?_; intro g6 c6 w6 hs6 hg6; have HS6 := hide hs6; have HG6 := hide hg6; have f0 := ((za HDA).box.gr hg6 (by decide)).n0; have f1 := ((za HDA).box.gr hg6 (by decide)).f; clear hs6 hg6 b0 c0 c1 c2)
        have HD7 := hide ((za HDA).appN (za HG6) (za HS6))
        have HR7 := hide ((za HRA).from (za HDA).low.2.2.1 ((za HG6).low.setCell (p := ⟨B, 0, none⟩) (Nat.le_refl _) (.slice (some ⟨g6, 0, none⟩) (i + 1) c6)))
        clear f0 f1
        go_wp2_with fail
        go_roundw
        case rel => exact ⟨i + 1, p8, _, by go_num, by omega, by omega, za HD7, za HR7⟩
        case measure => simp [intOf]; omega
      ·have hl' : ((i : Int) + 1 == 1 + (n0 : Int)) = false := by rw [beq_eq_false_iff_ne]; exact hl
       have b0 := (za HD3).box.n0
       have c0 := (za HN3).box.n0
       have c1 := (za HN3).box.n1
       have c2 := (za HN3).box.n2
       have HRA := hide ((za HR3).alloc (.cells #[.int .i64 xs, .string s, (.slice ka kl kc)] 76))
       have HDA := hide ((za HD3).alloc (.cells #[.int .i64 xs, .string s, (.slice ka kl kc)] 76))
       have HKA := hide ((za HN3).kids.ty (Ty.below (K := 1000) (zh (Below.refl w3.heap.size w3) (.cells #[.int .i64 xs, .string s, (.slice ka kl kc)] 76))))
       have HSM := hide (za HN3).small
       have HNW := hide (AtC3.new' w3 w3.heap.size (.int .i64 xs) (.string s) (.slice ka kl kc) 76 (by simp [qi]))
       go_wp2_with (at_builtin; refine zD (by rfl) (.tmp 61) (.tmp 63) (by rfl) 1000 B (.slice na i nc) i w3.heap.size xs s (.slice ka kl kc) kl (by rfl) (by rfl) (za HDA).nodes (za HNW).n0 (za HNW).n1 (za HNW).n2 (za HSM).1 (za HSM).2 (za HKA) (by omega) (za HDA).low.2.2.2.2 ?_; intro g6 c6 w6 hs6 hg6; have HS6 := hide hs6; have HG6 := hide hg6; have f0 := ((za HDA).box.gr hg6 (by decide)).n0; have f1 := ((za HDA).box.gr hg6 (by decide)).f; clear hs6 hg6 b0 c0 c1 c2)
       have HD7 := hide ((za HDA).appN (za HG6) (za HS6))
       have HR7 := hide ((za HRA).from (za HDA).low.2.2.1 ((za HG6).low.setCell (p := ⟨B, 0, none⟩) (Nat.le_refl _) (.slice (some ⟨g6, 0, none⟩) (i + 1) c6)))
       clear f0 f1
       go_wp2_with fail
       go_roundw
       case rel => exact ⟨i + 1, p4, _, by go_num, by omega, by omega, za HD7, za HR7⟩
       case measure => simp [intOf]; omega
    ·obtain rfl : kl = k := by omega
     clear a2
     have a2 := (za HNk).box.n2
     by_cases hl : (i : Int) + 1 = 1 + (n0 : Int)
     ·have hl' : ((i : Int) + 1 == 1 + (n0 : Int)) = true := by rw [beq_iff_eq]; exact hl
      go_wp2_with fail
      refine (zu g p3 n cap a 3 _ (za HRk) (by omega) (by omega)).mono ?_
      rintro e w8 ⟨⟨z8, rfl, _⟩, ⟨p8, hp8, hr8⟩, hk8⟩
      have HR8 := hide hr8
      have HD8 := hide ((za HDk).keeps hk8)
      have HN8 := hide ((za HNk).keeps hk8 (za HDk).low.2.2.1)
      clear hr8 hk8 hl'
      by_cases hz8 : 0 < (z8 : Int)
      ·have a0 := (za HN8).box.n0
       have a1 := (za HN8).box.n1
       have a2 := (za HN8).box.n2
       have af := (za HN8).box.f
       have HR9 := hide ((za HR8).from (za HD8).low.2.2.1 ((((Below.refl B w8).setCell (p := ⟨q, 0, none⟩) (za HN8).low (.int .i64 6)).setCell (p := ⟨q, 1, none⟩) (za HN8).low (.string ⟨#[]⟩)).setCell (p := ⟨q, 2, none⟩) (za HN8).low (.slice none 0 0)))
       have HD9 := hide ((za HD8).put (y := 6) (t := ⟨#[]⟩) (za HN8) (by decide) (by decide) (qh w8 B))
       have HN9 := hide ((za HN8).put (y := 6) (t := ⟨#[]⟩) (by decide) (by decide) (qh w8 B))
       have b0 := (za HD9).box.n0
       have c0 := (za HN9).box.n0
       have c1 := (za HN9).box.n1
       have c2 := (za HN9).box.n2
       have HRA := hide ((za HR9).alloc (.cells #[.int .i64 6, .string ⟨#[]⟩, (.slice none 0 0)] 76))
       have HDA := hide ((za HD9).alloc (.cells #[.int .i64 6, .string ⟨#[]⟩, (.slice none 0 0)] 76))
       have HKA := hide ((za HN9).kids.ty (Ty.below (K := 1000) (zh (Below.refl (((w8.setCell ⟨q, 0, none⟩ (.int .i64 6)).setCell ⟨q, 1, none⟩ (.string ⟨#[]⟩)).setCell ⟨q, 2, none⟩ (.slice none 0 0)).heap.size (((w8.setCell ⟨q, 0, none⟩ (.int .i64 6)).setCell ⟨q, 1, none⟩ (.string ⟨#[]⟩)).setCell ⟨q, 2, none⟩ (.slice none 0 0))) (.cells #[.int .i64 6, .string ⟨#[]⟩, (.slice none 0 0)] 76))))
       have HSM := hide (za HN9).small
       have HNW := hide (AtC3.new' (((w8.setCell ⟨q, 0, none⟩ (.int .i64 6)).setCell ⟨q, 1, none⟩ (.string ⟨#[]⟩)).setCell ⟨q, 2, none⟩ (.slice none 0 0)) w8.heap.size (.int .i64 6) (.string ⟨#[]⟩) (.slice none 0 0) 76 (by simp [qi]))
       go_wp2_with (at_builtin; refine zD (by rfl) (.tmp 61) (.tmp 63) (by rfl) 1000 B (.slice na i nc) i w8.heap.size 6 ⟨#[]⟩ (.slice none 0 0) 0 (by rfl) (by rfl) (za HDA).nodes (za HNW).n0 (za HNW).n1 (za HNW).n2 (za HSM).1 (za HSM).2 (za HKA) (by omega) (za HDA).low.2.2.2.2 ?_; intro g6 c6 w6 hs6 hg6; have HS6 := hide hs6; have HG6 := hide hg6; have f0 := ((za HDA).box.gr hg6 (by decide)).n0; have f1 := ((za HDA).box.gr hg6 (by decide)).f; clear hs6 hg6 b0 c0 c1 c2)
       have HD7 := hide ((za HDA).appN (za HG6) (za HS6))
       have HR7 := hide ((za HRA).from (za HDA).low.2.2.1 ((za HG6).low.setCell (p := ⟨B, 0, none⟩) (Nat.le_refl _) (.slice (some ⟨g6, 0, none⟩) (i + 1) c6)))
       clear f0 f1
       go_wp2_with fail
       go_roundw
       case rel => exact ⟨i + 1, p8, _, by go_num, by omega, by omega, za HD7, za HR7⟩
       case measure => simp [intOf]; omega
      ·
       have b0 := (za HD8).box.n0
       have c0 := (za HN8).box.n0
       have c1 := (za HN8).box.n1
       have c2 := (za HN8).box.n2
       have HRA := hide ((za HR8).alloc (.cells #[.int .i64 xs, .string s, (.slice ka kl kc)] 76))
       have HDA := hide ((za HD8).alloc (.cells #[.int .i64 xs, .string s, (.slice ka kl kc)] 76))
       have HKA := hide ((za HN8).kids.ty (Ty.below (K := 1000) (zh (Below.refl w8.heap.size w8) (.cells #[.int .i64 xs, .string s, (.slice ka kl kc)] 76))))
       have HSM := hide (za HN8).small
       have HNW := hide (AtC3.new' w8 w8.heap.size (.int .i64 xs) (.string s) (.slice ka kl kc) 76 (by simp [qi]))
       go_wp2_with (at_builtin; refine zD (by rfl) (.tmp 61) (.tmp 63) (by rfl) 1000 B (.slice na i nc) i w8.heap.size xs s (.slice ka kl kc) kl (by rfl) (by rfl) (za HDA).nodes (za HNW).n0 (za HNW).n1 (za HNW).n2 (za HSM).1 (za HSM).2 (za HKA) (by omega) (za HDA).low.2.2.2.2 ?_; intro g6 c6 w6 hs6 hg6; have HS6 := hide hs6; have HG6 := hide hg6; have f0 := ((za HDA).box.gr hg6 (by decide)).n0; have f1 := ((za HDA).box.gr hg6 (by decide)).f; clear hs6 hg6 b0 c0 c1 c2)
       have HD7 := hide ((za HDA).appN (za HG6) (za HS6))
       have HR7 := hide ((za HRA).from (za HDA).low.2.2.1 ((za HG6).low.setCell (p := ⟨B, 0, none⟩) (Nat.le_refl _) (.slice (some ⟨g6, 0, none⟩) (i + 1) c6)))
       clear f0 f1
       go_wp2_with fail
       go_roundw
       case rel => exact ⟨i + 1, p8, _, by go_num, by omega, by omega, za HD7, za HR7⟩
       case measure => simp [intOf]; omega
     ·have hl' : ((i : Int) + 1 == 1 + (n0 : Int)) = false := by rw [beq_eq_false_iff_ne]; exact hl
      have b0 := (za HDk).box.n0
      have c0 := (za HNk).box.n0
      have c1 := (za HNk).box.n1
      have c2 := (za HNk).box.n2
      have HRA := hide ((za HRk).alloc (.cells #[.int .i64 xs, .string s, (.slice ka kl kc)] 76))
      have HDA := hide ((za HDk).alloc (.cells #[.int .i64 xs, .string s, (.slice ka kl kc)] 76))
      have HKA := hide ((za HNk).kids.ty (Ty.below (K := 1000) (zh (Below.refl wk.heap.size wk) (.cells #[.int .i64 xs, .string s, (.slice ka kl kc)] 76))))
      have HSM := hide (za HNk).small
      have HNW := hide (AtC3.new' wk wk.heap.size (.int .i64 xs) (.string s) (.slice ka kl kc) 76 (by simp [qi]))
      go_wp2_with (at_builtin; refine zD (by rfl) (.tmp 61) (.tmp 63) (by rfl) 1000 B (.slice na i nc) i wk.heap.size xs s (.slice ka kl kc) kl (by rfl) (by rfl) (za HDA).nodes (za HNW).n0 (za HNW).n1 (za HNW).n2 (za HSM).1 (za HSM).2 (za HKA) (by omega) (za HDA).low.2.2.2.2 ?_; intro g6 c6 w6 hs6 hg6; have HS6 := hide hs6; have HG6 := hide hg6; have f0 := ((za HDA).box.gr hg6 (by decide)).n0; have f1 := ((za HDA).box.gr hg6 (by decide)).f; clear hs6 hg6 b0 c0 c1 c2)
      have HD7 := hide ((za HDA).appN (za HG6) (za HS6))
      have HR7 := hide ((za HRA).from (za HDA).low.2.2.1 ((za HG6).low.setCell (p := ⟨B, 0, none⟩) (Nat.le_refl _) (.slice (some ⟨g6, 0, none⟩) (i + 1) c6)))
      clear f0 f1
      go_wp2_with fail
      go_roundw
      case rel => exact ⟨i + 1, p3, _, by go_num, by omega, by omega, za HD7, za HR7⟩
      case measure => simp [intOf]; omega
  ·obtain rfl : i = n0 + 1 := by omega
   go_wp2_with fail
   refine (zu g p' n cap a 4 _ (za HRr) (by omega) (by omega)).mono ?_
   rintro e w2 ⟨⟨k0, rfl, hk0⟩, ⟨p2, hp2, hr2⟩, hk2⟩
   have hk4 : k0 < 4 := by rcases hk0 with h | h <;> omega
   have HD2 := hide ((za HD).keeps hk2)
   have HR2 := hide hr2
   clear hr2 hk2 hk0
   go_wp2_with fail
   go_loopw [8] (fun v wk => ∃ (k j p3 : Nat) (rv : Value), v = .int .i64 k ∧ j + k ≤ 4 ∧ p3 ≤ p2 + j ∧ DSt 1000 g B B W0 (.slice na (n0 + 1) nc) rv (n0 + 1) j wk ∧ Rd wk g p3 a n cap) (fun v _ => (intOf v).toNat)
   case atStart => exact ⟨k0, 0, p2, _, rfl, by omega, by omega, za HD2, za HR2⟩
   case round =>
    obtain ⟨k, j, p3, rv, rfl, hjk, hp3, hD3, hR3⟩ := hrel
    obtain ⟨wk, hwk⟩ : ∃ wk, wk = wr := ⟨_, rfl⟩
    subst hwk
    obtain ⟨ra, rc, rfl, _, _⟩ := hD3.roots.form
    have HD3 := hide hD3
    have HR3 := hide hR3
    have HLOW := hide hD3.low
    clear hD3 hR3
    by_cases hk : 0 < k
    ·have a1 := (za HD3).box.n1
     go_wp2_with fail
     go_region_law (first | ((refine jw (by rfl) _ _ (by rfl) 1000 B (.slice ra j rc) j w5.heap.size (x : Int) (by rfl) (by rfl) (za HD5).roots (by with_reducible exact q5) (by omega) (za HD5).low.2.2.2.2 (some 78) (by rfl) ?_; intro g6 c6 w6 hs6 hg6; have HS6 := hide hs6; have HG6 := hide hg6; have f2 := ((za HD5).box.gr hg6 (by decide)).n1; have f3 := ((za HD5).box.gr hg6 (by decide)).f; clear hs6 hg6)) | (go_simp; go_at_call 26; refine (zu g p3 n cap a (1 + (n0 : Int)) wk.drew (by exact (za HR3).drew) (by omega) (by omega)).mono ?_; rintro e w5 ⟨⟨x, rfl, _⟩, ⟨p5, hp5, hr5⟩, hk5⟩; have hk5 := (Keeps.refl g wk).drew.trans hk5; have HR5 := hide (hr5.alloc (.cells #[.int .i64 (x : Int)] 3)); have HD5 := hide (((za HD3).keeps hk5).alloc (.cells #[.int .i64 (x : Int)] 3)); have e2 := ((za HD3).keeps hk5).box.n1; have e3 := (za HD5).box.n1; have q5 : (w5.alloc (.cells #[.int .i64 (x : Int)] 3)).cell? ⟨w5.heap.size, 0, none⟩ = some (.int .i64 (x : Int)) := World.news_of_block (heap_alloc_new w5 (.cells #[.int .i64 (x : Int)] 3)) 0 _ rfl; clear hr5 hk5; (try dsimp only)))
     ·
      have HD7 := hide ((za HD5).appI (za HG6) (za HS6))
      have HR7 := hide ((za HR5).from (za HLOW).2.2.1 ((za HG6).low.setCell (p := ⟨B, 1, none⟩) (Nat.le_refl _) (.slice (some ⟨g6, 0, none⟩) (j + 1) c6)))
      clear f2 f3 e2 e3 a1
      go_wp2_with fail
      go_roundw
      case rel => exact ⟨k - 1, j + 1, p5, _, by go_num, by omega, by omega, za HD7, za HR7⟩
      case measure => simp [intOf]; omega
     ·
      have HD7 := hide ((za HD5).appI (za HG6) (za HS6))
      have HR7 := hide ((za HR5).from (za HLOW).2.2.1 ((za HG6).low.setCell (p := ⟨B, 1, none⟩) (Nat.le_refl _) (.slice (some ⟨g6, 0, none⟩) (j + 1) c6)))
      clear f2 f3 e2 e3 a1
      go_wp2_with fail
      go_roundw
      case rel => exact ⟨k - 1, j + 1, p5, _, by go_num, by omega, by omega, za HD7, za HR7⟩
      case measure => simp [intOf]; omega
     ·
      have HD7 := hide ((za HD5).appI (za HG6) (za HS6))
      have HR7 := hide ((za HR5).from (za HLOW).2.2.1 ((za HG6).low.setCell (p := ⟨B, 1, none⟩) (Nat.le_refl _) (.slice (some ⟨g6, 0, none⟩) (j + 1) c6)))
      clear f2 f3 e2 e3 a1
      go_wp2_with fail
      go_roundw
      case rel => exact ⟨k - 1, j + 1, p5, _, by go_num, by omega, by omega, za HD7, za HR7⟩
      case measure => simp [intOf]; omega
    ·obtain rfl : k = 0 := by omega
     have a0 := (za HD3).box.n0
     have a1 := (za HD3).box.n1
     have hA := (za HA).keeps (za HD3).keep (by have := (za HLOW).1; omega)
     have b0 := hA.n0
     have b1 := hA.n1
     have bf := hA.f
     have hZ := (hA.st0 (.slice na (n0 + 1) nc)).st1 (.slice ra j rc)
     have z0 := hZ.n0
     have z1 := hZ.n1
     have HZ := hide (And.intro z0 z1)
     have hty : Ty 1000 B wk ((wk.setCell ⟨w.heap.size, 0, none⟩ (.slice na (n0 + 1) nc)).setCell ⟨w.heap.size, 1, none⟩ (.slice ra j rc)) := (Ty.box hA (by decide) (by decide) _).trans (Ty.box (hA.st0 _) (by decide) (by decide) _)
     have HSN := hide ((za HD3).nodes.ty hty)
     have HSI := hide ((za HD3).roots.ty hty)
     have hKW : Keeps g w W0 := by rw [← hW0]; exact (Keeps.refl g w).alloc _
     have hD : Drawn w g p n cap a 10000 wk := ⟨⟨p3, by omega, za HR3⟩, hKW.trans (za HD3).keep⟩
     have HDR := hide (hD.more (za Hlt) (((Below.refl w.heap.size wk).setCell (p := ⟨w.heap.size, 0, none⟩) (Nat.le_refl _) (.slice na (n0 + 1) nc)).setCell (p := ⟨w.heap.size, 1, none⟩) (Nat.le_refl _) (.slice ra j rc)))
     have HBB : Hid (w.heap.size ≤ B) := hide (by have := (za HLOW).1; omega)
     clear hD hKW hty z0 z1 hZ hA
     go_wp2_with fail
     have hz := za HZ
     refine bodyPost_ret (v := .agg #[.slice na (n0 + 1) nc, .slice ra j rc]) (by simp [results, Tryd.results34, go_sem, hz]) rfl ⟨⟨_, _, n0 + 1, j, rfl, by omega, by omega, by omega, (za HSN).base (za HBB), (za HSI).base (za HBB)⟩, za HDR⟩
end Go.Proofs.YtnenoaenjaghhaaDoor
