/- A part of the proof, put together out of smaller texts: each piece says what it is for. -/
import Derived.Test.YtcnnicbaeicboaaDoorM3
import Derived.Lib.ItoaNum
import Derived.Maps.OwnIn
import Derived.Maps.OwnSet
import Derived.DeepKeys4
/- The walk with a stack comes to the specification's order; the same answer by other names of the groups. -/
namespace Go.Proofs.YtcnnicbaeicboaaDoor
open Go.RowKit Nt

/-! The walk with a stack. -/
theorem walk_cong {ns : List Nd} {gs : List Int} {f : Nat} {a b : Int} {o : List Int} (h : gAt gs a = gAt gs b) : walkM ns gs f a o = walkM ns gs f b o := by
  cases f with
  | zero => rfl
  | succ f => unfold walkM; rw [h]
def walks (ns : List Nd) (gs : List Int) (f : Nat) (ks : List Int) (o : List Int) : List Int := ks.foldl (fun o k => walkM ns gs f k o) o
theorem walks_cong {ns : List Nd} {gs : List Int} {f : Nat} : ∀ {cs bs : List Int} {o : List Int}, cs.map (gAt gs) = bs.map (gAt gs) → walks ns gs f cs o = walks ns gs f bs o
  | [], [], _, _ => rfl
  | [], _ :: _, _, e => by simp at e
  | _ :: _, [], _, e => by simp at e
  | a :: cs, b :: bs, o, e => by
    simp only [List.map_cons, List.cons.injEq] at e
    show walks ns gs f cs (walkM ns gs f a o) = walks ns gs f bs (walkM ns gs f b o)
    rw [walk_cong e.1]
    exact walks_cong e.2
theorem walks_ok {ns : List Nd} {gs : List Int} (hk : KidsR ns) (hg : GsOk ns.length gs) (f : Nat) : ∀ (ks o : List Int), (∀ x ∈ ks, 0 ≤ x ∧ x < ns.length) → InR ns.length o → InR ns.length (walks ns gs f ks o) ∧ o.length ≤ (walks ns gs f ks o).length ∧ ∀ x ∈ o, x ∈ walks ns gs f ks o
  | [], o, _, h => ⟨h, Nat.le_refl _, fun _ h => h⟩
  | k :: r, o, hks, h => by
    have h0 := hks k (by simp)
    obtain ⟨a1, a2, a3⟩ := walkM_ok hk hg f k o h0.1 h0.2 h
    obtain ⟨b1, b2, b3⟩ := walks_ok hk hg f r _ (fun x hx => hks x (by simp [hx])) a1
    exact ⟨b1, Nat.le_trans a2 b2, fun x hx => b3 x (a3 x hx)⟩
/-- fuel enough is fuel enough -/
theorem walk_fuel {ns : List Nd} {gs : List Int} (hk : KidsR ns) (hg : GsOk ns.length gs) : ∀ (f f' : Nat) (a : Int) (o : List Int), 0 ≤ a → a < ns.length → InR ns.length o → ns.length + 1 - o.length ≤ f → ns.length + 1 - o.length ≤ f' → walkM ns gs f a o = walkM ns gs f' a o := by
  intro f
  induction f with
  | zero => intro f' a o _ _ h h1 _; have := h.len; omega
  | succ f ih =>
    intro f' a o h0 h1 h h2 h3
    have hol := h.len
    cases f' with
    | zero => omega
    | succ f' =>
      unfold walkM
      by_cases hm : gAt gs a ∈ o
      · rw [if_pos hm, if_pos hm]
      · rw [if_neg hm, if_neg hm]
        have hga := hg a h0 h1
        have hs := h.snoc hga hm
        have key : ∀ (ks o' : List Int), (∀ x ∈ ks, 0 ≤ x ∧ x < ns.length) → InR ns.length o' → o.length + 1 ≤ o'.length → ks.foldl (fun o k => walkM ns gs f k o) o' = ks.foldl (fun o k => walkM ns gs f' k o) o' := by
          intro ks
          induction ks with
          | nil => intro o' _ _ _; rfl
          | cons k r ihk =>
            intro o' hks h' hl'
            have k0 := hks k (by simp)
            have e := ih f' k o' k0.1 k0.2 h' (by omega) (by omega)
            rw [List.foldl_cons, List.foldl_cons, ← e]
            obtain ⟨a1, a2, _⟩ := walkM_ok hk hg f k o' k0.1 k0.2 h'
            exact ihk _ (fun x hx => hks x (by simp [hx])) a1 (by omega)
        exact key _ _ (ndAt_kids hk hga.1 hga.2) hs (by simp)
theorem walks_fuel {ns : List Nd} {gs : List Int} (hk : KidsR ns) (hg : GsOk ns.length gs) (f f' : Nat) : ∀ (ks o : List Int), (∀ x ∈ ks, 0 ≤ x ∧ x < ns.length) → InR ns.length o → ns.length + 1 - o.length ≤ f → ns.length + 1 - o.length ≤ f' → walks ns gs f ks o = walks ns gs f' ks o
  | [], _, _, _, _, _ => rfl
  | k :: r, o, hks, h, h1, h2 => by
    have h0 := hks k (by simp)
    show walks ns gs f r (walkM ns gs f k o) = walks ns gs f' r (walkM ns gs f' k o)
    rw [← walk_fuel hk hg f f' k o h0.1 h0.2 h h1 h2]
    obtain ⟨a1, a2, _⟩ := walkM_ok hk hg f k o h0.1 h0.2 h
    exact walks_fuel hk hg f f' r _ (fun x hx => hks x (by simp [hx])) a1 (by omega) (by omega)
/-- a node that has been come to -/
theorem dfs_old {ns : List Nd} {gs : List Int} {p : Int} {st o : List Int} (hm : gAt gs p ∈ o) : walks ns gs (ns.length + 1) (st ++ [p]).reverse o = walks ns gs (ns.length + 1) st.reverse o := by
  rw [List.reverse_append, List.reverse_singleton, List.singleton_append]
  show walks ns gs (ns.length + 1) st.reverse (walkM ns gs (ns.length + 1) p o) = _
  congr 1
  unfold walkM; rw [if_pos hm]
/-- a node that has not -/
theorem dfs_new {ns : List Nd} {gs : List Int} (hk : KidsR ns) (hg : GsOk ns.length gs) {p : Int} {st o : List Int} (h0 : 0 ≤ p ∧ p < ns.length) (ho : InR ns.length o) (hm : gAt gs p ∉ o)
    (hr : (ndAt ns p.toNat).2.2.map (gAt gs) = (ndAt ns (gAt gs p).toNat).2.2.map (gAt gs)) :
    walks ns gs (ns.length + 1) (st ++ [p]).reverse o = walks ns gs (ns.length + 1) (st ++ (ndAt ns p.toNat).2.2.reverse).reverse (o ++ [gAt gs p]) ∧ InR ns.length (o ++ [gAt gs p]) := by
  have hga := hg p h0.1 h0.2
  have hs := ho.snoc hga hm
  refine ⟨?_, hs⟩
  rw [List.reverse_append, List.reverse_singleton, List.singleton_append, List.reverse_append, List.reverse_reverse]
  have e : walks ns gs (ns.length + 1) ((ndAt ns p.toNat).2.2 ++ st.reverse) (o ++ [gAt gs p]) = walks ns gs (ns.length + 1) st.reverse (walks ns gs (ns.length + 1) (ndAt ns p.toNat).2.2 (o ++ [gAt gs p])) := by
    unfold walks; rw [List.foldl_append]
  rw [e]
  show walks ns gs (ns.length + 1) st.reverse (walkM ns gs (ns.length + 1) p o) = _
  congr 1
  rw [walks_cong hr, walks_fuel hk hg (ns.length + 1) ns.length _ _ (ndAt_kids hk hga.1 hga.2) hs (by omega) (by simp)]
  show walkM ns gs (ns.length + 1) p o = _
  unfold walkM; rw [if_neg hm]; rfl

/-- what holds between two steps of the walk: the order of the program, and the stack -/
structure DfsOk (ns : List Nd) (gs : List Int) (goal : List Int) (rest : List Int) (po st : List Int) : Prop where
  inr : InR ns.length (po.map (gAt gs))
  pr : ∀ p ∈ po, 0 ≤ p ∧ p < ns.length
  sr : ∀ p ∈ st, 0 ≤ p ∧ p < ns.length
  sum : walks ns gs (ns.length + 1) rest (walks ns gs (ns.length + 1) st.reverse (po.map (gAt gs))) = goal
  cl : ∀ p ∈ po, ∀ k ∈ (ndAt ns p.toNat).2.2, gAt gs k ∈ po.map (gAt gs) ∨ k ∈ st
theorem DfsOk.few {ns : List Nd} {gs goal rest po st : List Int} (h : DfsOk ns gs goal rest po st) : po.length ≤ ns.length := by
  have := h.inr.len; simpa using this
theorem DfsOk.old {ns : List Nd} {gs goal rest po st : List Int} {p : Int} (h : DfsOk ns gs goal rest po (st ++ [p])) (hm : gAt gs p ∈ po.map (gAt gs)) : DfsOk ns gs goal rest po st where
  inr := h.inr
  pr := h.pr
  sr := fun q hq => h.sr q (by simp [hq])
  sum := by have := h.sum; rwa [dfs_old hm] at this
  cl := fun q hq k hk => by
    rcases h.cl q hq k hk with h1 | h1
    · exact .inl h1
    · rcases List.mem_append.1 h1 with h1 | h1
      · exact .inr h1
      · have : k = p := by simpa using h1
        subst this; exact .inl hm
theorem DfsOk.new {ns : List Nd} {gs goal rest po st : List Int} {p : Int} (hk : KidsR ns) (hg : GsOk ns.length gs)
    (hr : ∀ p : Int, 0 ≤ p → p < ns.length → (ndAt ns p.toNat).2.2.map (gAt gs) = (ndAt ns (gAt gs p).toNat).2.2.map (gAt gs))
    (h : DfsOk ns gs goal rest po (st ++ [p])) (hm : gAt gs p ∉ po.map (gAt gs)) : DfsOk ns gs goal rest (po ++ [p]) (st ++ (ndAt ns p.toNat).2.2.reverse) := by
  have h0 := h.sr p (by simp)
  obtain ⟨e, hi⟩ := dfs_new hk hg (st := st) h0 h.inr hm (hr p h0.1 h0.2)
  have em : (po ++ [p]).map (gAt gs) = po.map (gAt gs) ++ [gAt gs p] := by simp
  refine ⟨by rw [em]; exact hi, ?_, ?_, ?_, ?_⟩
  · intro q hq
    rcases List.mem_append.1 hq with hq | hq
    · exact h.pr q hq
    · have : q = p := by simpa using hq
      subst this; exact h0
  · intro q hq
    rcases List.mem_append.1 hq with hq | hq
    · exact h.sr q (by simp [hq])
    · exact ndAt_kids hk h0.1 h0.2 q (List.mem_reverse.1 hq)
  · rw [em, ← e]; exact h.sum
  · intro q hq k hkm
    rw [em]
    rcases List.mem_append.1 hq with hq | hq
    · rcases h.cl q hq k hkm with h1 | h1
      · exact .inl (List.mem_append.2 (.inl h1))
      · rcases List.mem_append.1 h1 with h1 | h1
        · exact .inr (List.mem_append.2 (.inl h1))
        · have : k = p := by simpa using h1
          subst this; exact .inl (by simp)
    · have : q = p := by simpa using hq
      subst this
      exact .inr (List.mem_append.2 (.inr (List.mem_reverse.2 hkm)))
theorem DfsOk.push {ns : List Nd} {gs goal rest po : List Int} {r : Int} (h : DfsOk ns gs goal (r :: rest) po []) (h0 : 0 ≤ r ∧ r < ns.length) : DfsOk ns gs goal rest po [r] where
  inr := h.inr
  pr := h.pr
  sr := fun q hq => by have : q = r := by simpa using hq
                       subst this; exact h0
  sum := h.sum
  cl := fun q hq k hk => by
    rcases h.cl q hq k hk with h1 | h1
    · exact .inl h1
    · simp at h1
theorem DfsOk.start {ns : List Nd} {gs : List Int} (rs : List Int) : DfsOk ns gs (walks ns gs (ns.length + 1) rs []) rs [] [] where
  inr := ⟨List.nodup_nil, fun x hx => by simp at hx⟩
  pr := fun q hq => by simp at hq
  sr := fun q hq => by simp at hq
  sum := rfl
  cl := fun q hq => by simp at hq
theorem map_mem_eq {f : Int → Int} {po : List Int} {x : Int} : f x ∈ po.map f ↔ ∃ p ∈ po, f p = f x := by rw [List.mem_map]
/-- the same answer, by another partition into the same groups -/
theorem places_of {ns : List Nd} {of gs : List Int} (hpart : ∀ i j : Nat, i < ns.length → j < ns.length → (gAt of i = gAt of j ↔ gAt gs i = gAt gs j))
    {po pl : List Int} (hn : (po.map (gAt gs)).Nodup) (hpr : ∀ p ∈ po, 0 ≤ p ∧ p < ns.length) (hpl : ∀ (t : Nat) (p : Int), po[t]? = some p → gAt pl (gAt of p) = (t : Int))
    {k : Int} (hk : 0 ≤ k ∧ k < ns.length) (hm : gAt gs k ∈ po.map (gAt gs)) : gAt pl (gAt of k) = placeM (po.map (gAt gs)) (gAt gs k) := by
  obtain ⟨p, hp, e⟩ := List.mem_map.1 hm
  obtain ⟨t, ht⟩ := List.getElem?_of_mem hp
  have hpr' := hpr p hp
  have e2 : gAt of p = gAt of k := by
    have := (hpart p.toNat k.toNat (by omega) (by omega)).2
    rw [show ((p.toNat : Nat) : Int) = p by omega, show ((k.toNat : Nat) : Int) = k by omega] at this
    exact this e
  rw [← e2, hpl t p ht]
  symm
  have htl := (List.getElem?_eq_some_iff.1 ht).1
  have hget : (po.map (gAt gs))[t]? = some (gAt gs k) := by rw [List.getElem?_map, ht]; simp [e]
  refine findIdx_take (fun i hi he => ?_) hget
  have hil : i < (po.map (gAt gs)).length := (List.getElem?_eq_some_iff.1 he).1
  have := (List.getElem_inj (i := i) (j := t) (h₀ := hil) (h₁ := by simpa using htl) hn).1 (by
    have a := (List.getElem?_eq_some_iff.1 he).2
    have b := (List.getElem?_eq_some_iff.1 hget).2
    exact a.trans b.symm)
  omega
theorem min_same {d : Dt} {of po pl : List Int} (hok : minOk d = true) (hpart : ∀ i j : Nat, i < d.1.length → j < d.1.length → (gAt of i = gAt of j ↔ gAt (grpM d.1) i = gAt (grpM d.1) j))
    (h : DfsOk d.1 (grpM d.1) (ordM d.1 (grpM d.1) d.2) [] po []) (hroots : ∀ r ∈ d.2, gAt (grpM d.1) r ∈ po.map (gAt (grpM d.1)))
    (hpl : ∀ (t : Nat) (p : Int), po[t]? = some p → gAt pl (gAt of p) = (t : Int)) :
    minM d = (po.map (fun p => ((ndAt d.1 p.toNat).1, (ndAt d.1 p.toNat).2.1, (ndAt d.1 p.toNat).2.2.map fun k => gAt pl (gAt of k))), d.2.map fun r => gAt pl (gAt of r)) := by
  have hok' := hok
  unfold minOk at hok'
  rw [Bool.and_eq_true] at hok'
  have hk := kidsR_of hok'.1
  have hr : ∀ r ∈ d.2, 0 ≤ r ∧ r < d.1.length := fun r hm => inR_iff.1 (List.all_eq_true.1 hok'.2 r hm)
  have hsum : po.map (gAt (grpM d.1)) = ordM d.1 (grpM d.1) d.2 := h.sum
  unfold minM
  rw [if_pos hok, ← hsum]
  have hplace := fun {k : Int} (hk0 : 0 ≤ k ∧ k < d.1.length) hm => places_of hpart h.inr.1 h.pr hpl (k := k) hk0 hm
  congr 1
  · rw [List.map_map]
    apply List.map_congr_left
    intro p hp
    have hp0 := h.pr p hp
    have hg0 := grp_ok d.1 p hp0.1 hp0.2
    have hfix : gAt (grpM d.1) (gAt (grpM d.1) p) = gAt (grpM d.1) p := by
      obtain ⟨k, k1, k2, k3⟩ := (firsts_it d.1 (d.1.length + 1)).at' p.toNat (by omega)
      rw [show ((p.toNat : Nat) : Int) = p by omega] at k1
      show gAt (itG d.1 (d.1.length + 1)) (gAt (itG d.1 (d.1.length + 1)) p) = gAt (itG d.1 (d.1.length + 1)) p
      rw [k1]; exact k3
    have ha := stab_grp d.1 p.toNat (gAt (grpM d.1) p).toNat (by omega) (by omega) (by
      rw [show ((p.toNat : Nat) : Int) = p by omega, show (((gAt (grpM d.1) p).toNat : Nat) : Int) = gAt (grpM d.1) p by omega]
      exact hfix.symm)
    rw [alike_iff] at ha
    show minNd d.1 (grpM d.1) (po.map (gAt (grpM d.1))) (gAt (grpM d.1) p) = _
    unfold minNd
    rw [← ha.1, ← ha.2.1]
    congr 2
    have e1 : (ndAt d.1 (gAt (grpM d.1) p).toNat).2.2.map (fun k => placeM (po.map (gAt (grpM d.1))) (gAt (grpM d.1) k)) = ((ndAt d.1 (gAt (grpM d.1) p).toNat).2.2.map (gAt (grpM d.1))).map (placeM (po.map (gAt (grpM d.1)))) := by
      rw [List.map_map]; rfl
    rw [e1, ← ha.2.2, List.map_map]
    apply List.map_congr_left
    intro k hkm
    have hk0 := ndAt_kids hk hp0.1 hp0.2 k hkm
    have hin : gAt (grpM d.1) k ∈ po.map (gAt (grpM d.1)) := by
      rcases h.cl p hp k hkm with h1 | h1
      · exact h1
      · simp at h1
    exact (hplace hk0 hin).symm
  · apply List.map_congr_left
    intro r hrm
    exact (hplace (hr r hrm) (hroots r hrm)).symm
end Go.Proofs.YtcnnicbaeicboaaDoor
/- The texts of turns: numbers written one behind the other are told apart. -/
namespace Go.Proofs.YtcnnicbaeicboaaDoor
open Go.RowKit Nt

/-! Numbers written one behind the other are told apart. -/
def valD (l : List UInt8) : Nat := l.foldl (fun a c => a * 10 + (c.toNat - 48)) 0
theorem dig_toNat {i : Nat} (h : i < 10) : (UInt8.ofNat (48 + i)).toNat = 48 + i := by simp [UInt8.toNat_ofNat']; omega
theorem decDigits_ok (u : Nat) : valD (Go.Lib.decDigits u) = u ∧ ∀ c ∈ Go.Lib.decDigits u, c ≠ 32 := by
  induction u using Nat.strongRecOn with
  | _ u ih =>
    rw [Go.Lib.decDigits]
    by_cases h : u < 10
    · rw [dif_pos h]
      refine ⟨?_, fun c hc => ?_⟩
      · simp only [valD, List.foldl_cons, List.foldl_nil]; rw [dig_toNat h]; omega
      · have : c = UInt8.ofNat (48 + u) := by simpa using hc
        subst this
        intro e; have := congrArg UInt8.toNat e; rw [dig_toNat h] at this; simp at this; omega
    · rw [dif_neg h]
      obtain ⟨a, b⟩ := ih (u / 10) (by omega)
      have hd : u % 10 < 10 := by omega
      refine ⟨?_, fun c hc => ?_⟩
      · unfold valD at a ⊢
        rw [List.foldl_append, a]
        simp only [List.foldl_cons, List.foldl_nil]; rw [dig_toNat hd]; omega
      · rcases List.mem_append.1 hc with hc | hc
        · exact b c hc
        · have : c = UInt8.ofNat (48 + u % 10) := by simpa using hc
          subst this
          intro e; have := congrArg UInt8.toNat e; rw [dig_toNat hd] at this; simp at this; omega
/-- the texts of groups -/
def wr1 (g : Int) : List UInt8 := Go.Lib.decDigits g.toNat ++ [32]
def wrs (gs : List Int) : List UInt8 := gs.flatMap wr1
theorem cut_at {a b r s : List UInt8} (ha : ∀ c ∈ a, c ≠ 32) (hb : ∀ c ∈ b, c ≠ 32) (h : a ++ 32 :: r = b ++ 32 :: s) : a = b ∧ r = s := by
  induction a generalizing b with
  | nil =>
    cases b with
    | nil => simpa using h
    | cons x b => simp at h; exact absurd h.1.symm (hb x (by simp))
  | cons y a ih =>
    cases b with
    | nil => simp at h; exact absurd h.1 (ha y (by simp))
    | cons x b =>
      simp only [List.cons_append, List.cons.injEq] at h
      obtain ⟨e1, e2⟩ := ih (fun c hc => ha c (by simp [hc])) (fun c hc => hb c (by simp [hc])) h.2
      exact ⟨by rw [h.1, e1], e2⟩
theorem wr1_cut {g h : Int} {r s : List UInt8} (hg : 0 ≤ g) (hh : 0 ≤ h) (e : wr1 g ++ r = wr1 h ++ s) : g = h ∧ r = s := by
  unfold wr1 at e
  rw [List.append_assoc, List.append_assoc, List.singleton_append, List.singleton_append] at e
  obtain ⟨e1, e2⟩ := cut_at (decDigits_ok _).2 (decDigits_ok _).2 e
  refine ⟨?_, e2⟩
  have := congrArg valD e1
  rw [(decDigits_ok _).1, (decDigits_ok _).1] at this
  omega
theorem wrs_inj : ∀ {gs hs : List Int}, (∀ g ∈ gs, 0 ≤ g) → (∀ g ∈ hs, 0 ≤ g) → wrs gs = wrs hs → gs = hs
  | [], [], _, _, _ => rfl
  | [], h :: hs, _, _, e => by simp [wrs, wr1] at e
  | g :: gs, [], _, _, e => by simp [wrs, wr1] at e
  | g :: gs, h :: hs, h1, h2, e => by
    simp only [wrs, List.flatMap_cons] at e
    obtain ⟨a, b⟩ := wr1_cut (h1 g (by simp)) (h2 h (by simp)) e
    rw [a, wrs_inj (fun x hx => h1 x (by simp [hx])) (fun x hx => h2 x (by simp [hx])) b]
end Go.Proofs.YtcnnicbaeicboaaDoor
/- Nodes in a row that grows, each list of kids in a block of its own. -/
namespace Go.Proofs.YtcnnicbaeicboaaDoor
open Go.RowKit Nt

def nd3 (nd : Nd) (kv : Value) : List Value := [.int .i64 nd.1, .string (B nd.2.1), kv]
def flatN : List Nd → List Value → List Value
  | nd :: ns, kv :: kvs => nd3 nd kv ++ flatN ns kvs
  | _, _ => []
theorem flatN_snoc {ns : List Nd} {kvs : List Value} {nd : Nd} {kv : Value} (h : ns.length = kvs.length) : flatN (ns ++ [nd]) (kvs ++ [kv]) = flatN ns kvs ++ nd3 nd kv := by
  induction ns generalizing kvs with
  | nil =>
    cases kvs with
    | nil => simp [flatN]
    | cons a b => simp at h
  | cons x r ih =>
    cases kvs with
    | nil => simp at h
    | cons a b =>
      simp only [List.cons_append, flatN]
      rw [ih (by simpa using h), List.append_assoc]
theorem flatN_get {ns : List Nd} {kvs : List Value} {j : Nat} {nd : Nd} {kv : Value} (h1 : ns[j]? = some nd) (h2 : kvs[j]? = some kv) :
    (flatN ns kvs)[j * 3]? = some (.int .i64 nd.1) ∧ (flatN ns kvs)[j * 3 + 1]? = some (.string (B nd.2.1)) ∧ (flatN ns kvs)[j * 3 + 2]? = some kv := by
  induction ns generalizing kvs j with
  | nil => simp at h1
  | cons x r ih =>
    cases kvs with
    | nil => simp at h2
    | cons a b =>
      cases j with
      | zero =>
        simp at h1 h2
        subst h1 h2
        simp [flatN, nd3]
      | succ j =>
        simp only [List.getElem?_cons_succ] at h1 h2
        obtain ⟨c0, c1, c2⟩ := ih h1 h2
        have key : ∀ i, (flatN (x :: r) (a :: b))[(j + 1) * 3 + i]? = (flatN r b)[j * 3 + i]? := by
          intro i
          show (nd3 x a ++ flatN r b)[(j + 1) * 3 + i]? = _
          rw [List.getElem?_append_right (by simp [nd3]; omega)]
          congr 1
          simp [nd3]; omega
        exact ⟨by have := key 0; simp only [Nat.add_zero] at this; rw [this]; exact c0, by rw [key]; exact c1, by rw [key]; exact c2⟩

/-- a row of nodes that is the call's own, and the lists of their kids -/
def RowN (w : World) (base : Nat) (v : Value) (ns : List Nd) (kvs : List Value) : Prop :=
  kvs.length = ns.length ∧ w.ownsRow base 93 3 v ns.length (flatN ns kvs) ∧ ∀ (j : Nat) (nd : Nd) (kv : Value), ns[j]? = some nd → kvs[j]? = some kv → nd.2.1.length ≤ maxLen ∧ w.ownsRow base 3 1 kv nd.2.2.length (iv nd.2.2)
theorem RowN.at {w : World} {base : Nat} {v : Value} {ns : List Nd} {kvs : List Value} (h : RowN w base v ns kvs) : NodesAt w v ns := by
  obtain ⟨hl, hr, hk⟩ := h
  rcases hr.2 with ⟨rfl, h0⟩ | ⟨g, cap, cur, rfl, hb, hg, h1, h2, h3, h4⟩
  · exact ⟨none, 0, by rw [h0], by omega, by unfold maxLen; omega, fun h => absurd h (by omega)⟩
  · refine ⟨_, cap, rfl, h1, h2, fun _ => ⟨g, 0, rfl, (Array.getElem?_eq_some_iff.1 hg).1, fun j nd e1 => ?_⟩⟩
    have hj := (List.getElem?_eq_some_iff.1 e1).1
    have e2 : kvs[j]? = some (kvs[j]'(by omega)) := List.getElem?_eq_getElem _
    obtain ⟨f0, f1, f2⟩ := flatN_get e1 e2
    obtain ⟨hl2, ho⟩ := hk j nd _ e1 e2
    refine ⟨?_, ?_, hl2, _, ?_, owns_ints ho⟩
    · rw [Nat.zero_add, hr.cellAt (j * 3) (by omega)]; exact f0
    · rw [Nat.zero_add, hr.cellAt (j * 3 + 1) (by omega)]; exact f1
    · rw [Nat.zero_add, hr.cellAt (j * 3 + 2) (by omega)]; exact f2
theorem RowN.below {w w' : World} {base : Nat} {v : Value} {ns : List Nd} {kvs : List Value} (h : RowN w base v ns kvs) (k : Below w.heap.size w w') : RowN w' base v ns kvs :=
  ⟨h.1, own_below h.2.1 k, fun j nd kv e1 e2 => ⟨(h.2.2 j nd kv e1 e2).1, own_below (h.2.2 j nd kv e1 e2).2 k⟩⟩
/-- rows of other kinds lie in other blocks -/
theorem own_ne {w : World} {b1 b2 s1 s2 n1 n2 : Nat} {e1 e2 : TypeId} {v1 v2 : Value} {x1 x2 : List Value} (h1 : w.ownsRow b1 e1 s1 v1 n1 x1) (h2 : w.ownsRow b2 e2 s2 v2 n2 x2) (hne : e1 ≠ e2) : v1.ownBlock = none ∨ v1.ownBlock ≠ v2.ownBlock := by
  rcases h1.2 with ⟨rfl, _⟩ | ⟨g1, c1, k1, rfl, _, hg1, _⟩
  · exact .inl rfl
  · right
    rcases h2.2 with ⟨rfl, _⟩ | ⟨g2, c2, k2, rfl, _, hg2, _⟩
    · intro e; simp [Value.ownBlock] at e
    · intro e
      simp [Value.ownBlock] at e
      subst e
      rw [hg1] at hg2
      simp at hg2
      exact hne hg2.2
/-- one more node, behind an append -/
theorem RowN.push {w w' : World} {base : Nat} {v v' : Value} {ns : List Nd} {kvs : List Value} {nd : Nd} {kv : Value} (h : RowN w base v ns kvs) (ht : nd.2.1.length ≤ maxLen) (ho : w.ownsRow base 3 1 kv nd.2.2.length (iv nd.2.2))
    (hr : w'.ownsRow base 93 3 v' (ns.length + 1) (flatN ns kvs ++ nd3 nd kv)) (hg : w.grownBy w' v.ownBlock) : RowN w' base v' (ns ++ [nd]) (kvs ++ [kv]) := by
  obtain ⟨hl, hrow, hk⟩ := h
  have hne : 3 ≠ 93 := by decide
  refine ⟨by simp [hl], ?_, fun j nd' kv' e1 e2 => ?_⟩
  · rw [flatN_snoc hl.symm]; simpa using hr
  · by_cases hj : j < ns.length
    · rw [List.getElem?_append_left hj] at e1
      rw [List.getElem?_append_left (by omega)] at e2
      obtain ⟨a1, a2⟩ := hk j nd' kv' e1 e2
      exact ⟨a1, a2.kept hg (own_ne a2 hrow hne)⟩
    · have hj2 : j = ns.length := by
        have := (List.getElem?_eq_some_iff.1 e1).1
        simp at this; omega
      subst hj2
      rw [List.getElem?_append_right (Nat.le_refl _)] at e1
      rw [List.getElem?_append_right (by omega), hl] at e2
      simp at e1 e2
      subst e1 e2
      exact ⟨ht, ho.kept hg (own_ne ho hrow hne)⟩
end Go.Proofs.YtcnnicbaeicboaaDoor
/- impl.readOrder: what its loops keep. -/
namespace Go.Proofs.YtcnnicbaeicboaaDoor
open Go.RowKit Go.Shelf Nt
attribute [local go_sem] Oper.semAt_some

theorem Tryd.infoBool : (Tryd.prog.info? 4).map (fun i => (i.zero, i.size, i.bytes)) = some (some (.bool false), 1, 1) := by kernel_rfl
def bv (cs : List Bool) : List Value := cs.map Value.bool
/-- 'make([]T, n)' of one-cell elements, for the walk to take -/
theorem make_run {P : Program} {t e : TypeId} {i : TypeInfo} {z : Value} {bytes : Nat} (ht : P.underlying t = some (.slice e)) (hi : P.info? e = some i) (hz : i.zero = some z) (hs : i.size = 1) (hb : i.bytes = bytes) (hc : z.cells = #[z]) (n : Nat) (hn : bytes * n ≤ 281474976710656) (hn2 : n ≤ 281474976710656) (W : World) :
    (Instr.makeSlice t (.int .i64 (n : Int)) (.int .i64 (n : Int))).run P W = .ok (.slice (some ⟨W.heap.size, 0, none⟩) n n) (W.alloc (.cells (madeCells #[z] n) e)) := by
  have h := run_make (P := P) W t e i z ht hi hz .i64 .i64 (n : Int) (n : Int) (by omega) (by omega) (by rw [hb, ← Int.natCast_mul]; omega) (by omega)
  rw [hc, hs] at h
  simpa using h
theorem made_own {w : World} {base e : Nat} {z : Value} {n : Nat} (hb : base ≤ w.heap.size) (hn : n ≤ maxLen) : (w.alloc (.cells (madeCells #[z] n) e)).ownsRow base e 1 (.slice (some ⟨w.heap.size, 0, none⟩) n n) n (List.replicate n z) := by
  have := World.ownsRow_lit (base := base) (e := e) (size := 1) w (madeCells #[z] n) n hb hn (by rw [size_madeCells]; omega)
  rwa [toList_madeCells_one] at this

theorem own_ne2 {w : World} {b base n size : Nat} {x y kv : Value} {T e : TypeId} {xs : List Value} (h : AtC2 w b x y T) (ho : w.ownsRow base e size kv n xs) (hne : e ≠ T) : kv.ownBlock ≠ some b := by
  unfold AtC2 at h
  rcases ho.2 with ⟨rfl, _⟩ | ⟨g1, c1, k1, rfl, _, hg1, _⟩
  · intro e; simp [Value.ownBlock] at e
  · intro e
    simp [Value.ownBlock] at e
    subst e
    rw [hg1] at h
    simp at h
    exact hne h.2
theorem own_keptS {S : Nat → Prop} {w w' : World} {base n size : Nat} {v : Value} {e : TypeId} {xs : List Value} (ho : w.ownsRow base e size v n xs) (k : Kept S w w') (hs : ∀ b, v.ownBlock = some b → ¬ S b) : w'.ownsRow base e size v n xs := by
  refine ⟨ho.1, ?_⟩
  rcases ho.2 with h | ⟨g1, c1, k1, rfl, h1, hg1, h2⟩
  · exact .inl h
  · refine .inr ⟨g1, c1, k1, rfl, h1, ?_, h2⟩
    rw [k.block g1 (Array.getElem?_eq_some_iff.1 hg1).1 (hs g1 rfl)]; exact hg1
theorem own_lt {w : World} {base n size : Nat} {v : Value} {e : TypeId} {xs : List Value} (ho : w.ownsRow base e size v n xs) {b : Nat} (h : v.ownBlock = some b) : base ≤ b ∧ b < w.heap.size := ho.lt b h
theorem Boxed.keptS {S : Nat → Prop} {w w' : World} {b : Nat} {t : TypeId} {v : Value} (h : Boxed w b t v) (k : Kept S w w') (hS : ¬ S b) : Boxed w' b t v := (k.block b h.lt hS).trans h

/-- the stack: its box and its row -/
def Stk (W : World) (N : Nat) (sv : Value) (st : List Int) : Prop := Boxed W (N + 3) 159 sv ∧ W.ownsRow N 3 1 sv st.length (iv st)
/-- which groups have been come to -/
def Come (W : World) (N n : Nat) (of po : List Int) : Prop := ∃ cs : List Bool, cs.length = n ∧ W.ownsRow N 4 1 (.slice (some ⟨N + 2, 0, none⟩) n n) n (bv cs) ∧ ∀ g : Int, 0 ≤ g → g < n → (cs[g.toNat]? = some true ↔ ∃ q ∈ po, gAt of q = g)
/-- all but the stack -/
structure Ord (w W : World) (nv rv : Value) (n : Nat) (of : List Int) (ov : Value) (po cpo : List Int) (Ds : List Nat) : Prop where
  below : Below w.heap.size w W
  box : AtC2 W w.heap.size nv rv 47
  row : W.ownsRow w.heap.size 3 1 ov po.length (iv po)
  come : Come W w.heap.size n of cpo
  marks : Marks w.heap.size W Ds
def ApartV (a b : Value) : Prop := ∀ k, a.ownBlock = some k → b.ownBlock ≠ some k
theorem ApartV.symm {a b : Value} (h : ApartV a b) : ApartV b a := fun k h1 h2 => h k h2 h1
theorem ApartV.lies {w : World} {a b b' : Value} {base n size : Nat} {e : TypeId} {xs : List Value} (h : ApartV a b) (ha : w.ownsRow base e size a n xs) (hl : Lies w b b') : ApartV a b' := by
  intro k h1 h2
  rcases hl with hl | ⟨k', hl, hk⟩
  · exact h k h1 (by rw [← hl]; exact h2)
  · have := own_lt ha h1
    rw [hl] at h2
    injection h2 with h2
    omega
theorem Marks.not_row {B : Nat} {w : World} {Ds : List Nat} (h : Marks B w Ds) {base n size : Nat} {v : Value} {e : TypeId} {xs : List Value} (ho : w.ownsRow base e size v n xs) {D : Nat} (hD : D ∈ Ds) : v.ownBlock ≠ some D := by
  intro e'
  rcases ho.2 with ⟨rfl, _⟩ | ⟨g1, c1, k1, rfl, _, hg1, _⟩
  · simp [Value.ownBlock] at e'
  · simp [Value.ownBlock] at e'
    subst e'
    have := (h.at' _ hD).2
    rw [hg1] at this; cases this
theorem Marks.not_box {B b : Nat} {w : World} {Ds : List Nat} {t : TypeId} {x : Value} (h : Marks B w Ds) (hb : Boxed w b t x) {D : Nat} (hD : D ∈ Ds) : D ≠ b := by
  intro e'
  subst e'
  have := (h.at' _ hD).2
  rw [show w.heap[D]? = _ from hb] at this; cases this
/-- what is written into the stack alone leaves the rest -/
theorem Ord.stack {w W W' : World} {nv rv ov sv : Value} {n : Nat} {of po cpo st : List Int} {Ds : List Nat} {S : Nat → Prop} (h : Ord w W nv rv n of ov po cpo Ds) (hs : Stk W w.heap.size sv st) (ha : ApartV ov sv)
    (k : Kept S W W') (hS : ∀ b, S b → b = w.heap.size + 3 ∨ sv.ownBlock = some b ∨ W.heap.size ≤ b) : Ord w W' nv rv n of ov po cpo Ds where
  below := h.below.trans (k.below h.below.size (fun b hb => by
    rcases hS b hb with rfl | e | e
    · omega
    · exact (own_lt hs.2 e).1
    · have := h.below.size; omega))
  box := h.box.kept k (fun hb => by
    rcases hS _ hb with e | e | e
    · omega
    · exact own_ne2 h.box hs.2 (by decide) e
    · have := AtC2.lt h.box; omega)
  row := own_keptS h.row k (fun b hb hc => by
    rcases hS _ hc with rfl | e | e
    · exact boxed_row hs.1 h.row (by decide) hb
    · exact ha b hb e
    · have := (own_lt h.row hb).2; omega)
  come := by
    obtain ⟨cs, h1, h2, h3⟩ := h.come
    refine ⟨cs, h1, own_keptS h2 k (fun b hb hc => ?_), h3⟩
    rcases hS _ hc with rfl | e | e
    · exact boxed_row hs.1 h2 (by decide) hb
    · exact own_ne h2 hs.2 (by decide) |>.elim (fun x => by rw [x] at hb; cases hb) (fun x => x (hb.trans e.symm))
    · have := (own_lt h2 hb).2; omega
  marks := h.marks.kept k (fun D hD hc => by
    rcases hS _ hc with e | e | e
    · exact h.marks.not_box hs.1 hD e
    · exact h.marks.not_row hs.2 hD e
    · have := h.marks.lt hD; omega)

theorem Ord.keptAll {w W W' : World} {nv rv ov : Value} {n : Nat} {of po cpo : List Int} {Ds : List Nat} {S : Nat → Prop} (h : Ord w W nv rv n of ov po cpo Ds) (k : Kept S W W')
    (h0 : ∀ b, S b → w.heap.size ≤ b) (h1 : ¬ S w.heap.size) (h2 : ∀ b, ov.ownBlock = some b → ¬ S b) (h3 : ¬ S (w.heap.size + 2)) (h4 : ∀ D ∈ Ds, ¬ S D) : Ord w W' nv rv n of ov po cpo Ds where
  below := h.below.trans (k.below h.below.size h0)
  box := h.box.kept k h1
  row := own_keptS h.row k h2
  come := by
    obtain ⟨cs, c1, c2, c3⟩ := h.come
    exact ⟨cs, c1, own_keptS c2 k (fun b hb hc => by simp [Value.ownBlock] at hb; subst hb; exact h3 hc), c3⟩
  marks := h.marks.kept k h4
theorem Ord.up {w W W' : World} {nv rv ov : Value} {n : Nat} {of po cpo : List Int} {Ds : List Nat} (h : Ord w W nv rv n of ov po cpo Ds) (k : Below W.heap.size W W') : Ord w W' nv rv n of ov po cpo Ds :=
  h.keptAll (Kept.of_below (S := fun _ => False) k) (fun _ e => e.elim) (fun e => e) (fun _ _ e => e) (fun e => e) (fun _ _ e => e)
theorem Stk.keptAll {W W' : World} {N : Nat} {sv : Value} {st : List Int} {S : Nat → Prop} (h : Stk W N sv st) (k : Kept S W W') (h1 : ¬ S (N + 3)) (h2 : ∀ b, sv.ownBlock = some b → ¬ S b) : Stk W' N sv st :=
  ⟨Boxed.keptS h.1 k h1, own_keptS h.2 k h2⟩
theorem Stk.up {W W' : World} {N : Nat} {sv : Value} {st : List Int} (h : Stk W N sv st) (k : Below W.heap.size W W') : Stk W' N sv st :=
  h.keptAll (Kept.of_below (S := fun _ => False) k) (fun e => e) (fun _ _ e => e)
/-- a group has been come to -/
theorem Ord.comeSet {w W : World} {nv rv ov sv : Value} {n g : Nat} {of po st : List Int} {p : Int} {Ds : List Nat} (h : Ord w W nv rv n of ov po po Ds) (hs : Stk W w.heap.size sv st) (hg : gAt of p = (g : Int)) (hgn : g < n) :
    Ord w (W.setCell ⟨w.heap.size + 2, g, none⟩ (.bool true)) nv rv n of ov po (po ++ [p]) Ds ∧ Stk (W.setCell ⟨w.heap.size + 2, g, none⟩ (.bool true)) w.heap.size sv st := by
  obtain ⟨cs, c1, c2, c3⟩ := h.come
  have k : Kept (· = w.heap.size + 2) W (W.setCell ⟨w.heap.size + 2, g, none⟩ (.bool true)) := Kept.set (S := (· = w.heap.size + 2)) (a := ⟨w.heap.size + 2, g, none⟩) rfl _
  refine ⟨⟨h.below.setCell (p := ⟨w.heap.size + 2, g, none⟩) (by simp) _, h.box.kept k (by omega), own_keptS h.row k (fun b hb hc => ?_), ?_, h.marks.kept k (fun D hD hc => ?_)⟩, hs.keptAll k (by omega) (fun b hb hc => ?_)⟩
  · subst hc
    rcases own_ne h.row c2 (by decide) with e | e
    · rw [e] at hb; cases hb
    · exact e (by rw [hb]; rfl)
  · have hst := c2.stored g (.bool true)
    refine ⟨cs.set g true, by simp [c1], ?_, fun x hx0 hxn => ?_⟩
    · have e : (bv cs).set g (.bool true) = bv (cs.set g true) := by simp [bv, List.map_set]
      rw [← e]; exact hst.1
    · rw [List.getElem?_set]
      by_cases hxg : g = x.toNat
      · rw [if_pos hxg, if_pos (by omega)]
        refine ⟨fun _ => ⟨p, by simp, by omega⟩, fun _ => rfl⟩
      · rw [if_neg hxg, c3 x hx0 hxn]
        constructor
        · rintro ⟨q, a, b⟩; exact ⟨q, by simp [a], b⟩
        · rintro ⟨q, a, b⟩
          rcases List.mem_append.1 a with a | a
          · exact ⟨q, a, b⟩
          · have : q = p := by simpa using a
            subst this; omega
  · exact h.marks.not_row c2 hD (by rw [hc]; rfl)
  · subst hc
    rcases own_ne hs.2 c2 (by decide) with e | e
    · rw [e] at hb; cases hb
    · exact e (by rw [hb]; rfl)
/-- the order grows -/
theorem Ord.grow {w W w1 : World} {nv rv ov ov' sv : Value} {n : Nat} {of po cpo st : List Int} {p : Int} {Ds : List Nat} {o : Obj} (h : Ord w W nv rv n of ov po cpo Ds) (hs : Stk W w.heap.size sv st) (ha : ApartV ov sv)
    (ho : w1.ownsRow w.heap.size 3 1 ov' (po.length + 1) (iv po ++ [.int .i64 p])) (hg : (W.alloc o).grownBy w1 ov.ownBlock) (hl : Lies W ov ov') :
    Ord w w1 nv rv n of ov' (po ++ [p]) cpo Ds ∧ Stk w1 w.heap.size sv st ∧ ApartV ov' sv := by
  have k : Kept (fun b => ov.ownBlock = some b) W w1 := (Kept.of_below ((Below.refl _ _).alloc (Nat.le_refl _) o)).trans (Kept.of_grown hg (fun _ e => e))
  obtain ⟨cs, c1, c2, c3⟩ := h.come
  have hb2 : ov.ownBlock ≠ some (w.heap.size + 2) := by
    rcases own_ne h.row c2 (by decide) with e | e
    · rw [e]; simp
    · exact e
  refine ⟨⟨h.below.trans (k.below h.below.size (fun b e => (own_lt h.row e).1)), h.box.kept k (own_ne2 h.box h.row (by decide)), ?_, ⟨cs, c1, own_keptS c2 k (fun b hb hc => ?_), c3⟩, h.marks.kept k (fun D hD => h.marks.not_row h.row hD)⟩, hs.keptAll k (boxed_row hs.1 h.row (by decide)) (fun b hb hc => ha b hc hb), ?_⟩
  · simpa [iv] using ho
  · simp [Value.ownBlock] at hb; subst hb; exact hb2 hc
  · exact (ApartV.lies ha.symm hs.2 hl).symm

def lenV : Value → Nat
  | .slice _ n _ => n
  | _ => 0
theorem lenV_own {w : World} {base n size : Nat} {v : Value} {e : TypeId} {xs : List Value} (ho : w.ownsRow base e size v n xs) : lenV v = n := by
  rcases ho.2 with ⟨rfl, h⟩ | ⟨g1, c1, k1, rfl, _⟩
  · exact h.symm
  · rfl
/-- how many steps of the walk are still to come, at most -/
def stepsLeft (n N : Nat) (a : Act) (W : World) : Nat := (n - lenV (a.tmps.getD 5 undef)) * 41 + lenV ((W.cell? ⟨N + 3, 0, none⟩).getD undef)
theorem stepsLeft_eq {n N : Nat} {a : Act} {w W : World} {nv rv ov sv : Value} {m : Nat} {of po cpo st : List Int} {Ds : List Nat} (h : Ord w W nv rv m of ov po cpo Ds) (hs : Stk W N sv st) (ha : a.tmps.getD 5 undef = ov) : stepsLeft n N a W = (n - po.length) * 41 + st.length := by
  unfold stepsLeft
  rw [ha, lenV_own h.row, hs.1.cell]
  show _ + lenV sv = _
  rw [lenV_own hs.2]

theorem own_still {B : Nat} {w w' : World} {base n size : Nat} {v : Value} {e : TypeId} {xs : List Value} (h : Still B w w') (ho : w.ownsRow base e size v n xs) : w'.ownsRow base e size v n xs := by
  refine ⟨ho.1, ?_⟩
  rcases ho.2 with h1 | ⟨g1, c1, k1, rfl, h1, hg1, h2⟩
  · exact .inl h1
  · exact .inr ⟨g1, c1, k1, rfl, h1, h.cells g1 _ hg1 rfl, h2⟩
theorem keepsOthers_kept {S : Nat → Prop} {W W' : World} (h : Kept S W W') (hc : ∀ b, S b → ∀ o, W.heap[b]? = some o → o.isCells = true) : KeepsOthers W W' :=
  ⟨h.size, fun k o hk ho => (h.block k (Array.getElem?_eq_some_iff.1 hk).1 (fun hs => by rw [hc k hs o hk] at ho; cases ho)).trans hk⟩
theorem row_cells {w : World} {base n size : Nat} {v : Value} {e : TypeId} {xs : List Value} (ho : w.ownsRow base e size v n xs) {b : Nat} (hb : v.ownBlock = some b) {o : Obj} (h : w.heap[b]? = some o) : o.isCells = true := by
  rcases ho.2 with ⟨rfl, _⟩ | ⟨g1, c1, k1, rfl, _, hg1, _⟩
  · simp [Value.ownBlock] at hb
  · simp [Value.ownBlock] at hb
    subst hb
    rw [hg1] at h; cases h; rfl
theorem minOk_kids {ns : List Nd} {rs : List Int} (h : minOk (ns, rs) = true) : KidsR ns := by
  unfold minOk at h
  rw [Bool.and_eq_true] at h
  exact kidsR_of h.1
theorem grp_rep (ns : List Nd) : ∀ p : Int, 0 ≤ p → p < ns.length → (ndAt ns p.toNat).2.2.map (gAt (grpM ns)) = (ndAt ns (gAt (grpM ns) p).toNat).2.2.map (gAt (grpM ns)) := by
  intro p h0 h1
  obtain ⟨k, e1, e2, e3⟩ := (firsts_it ns _).at' p.toNat (by omega)
  rw [show ((p.toNat : Nat) : Int) = p by omega] at e1
  have e1' : gAt (grpM ns) p = (k : Int) := e1
  have e3' : gAt (grpM ns) k = (k : Int) := e3
  rw [e1', Int.toNat_natCast]
  exact (alike_iff.1 (stab_grp ns p.toNat k (by omega) (by omega) (by rw [show ((p.toNat : Nat) : Int) = p by omega, e1', e3']))).2.2
/-- between two roots -/
def OuterI (w : World) (na ra ga : Option Addr) (nc rc gc : Nat) (ns : List Nd) (rs of : List Int) (a' : Act) (w' : World) : Prop := ∃ (Ds : List Nat) (i : Nat) (po : List Int) (ov sv : Value) (u3 u8 u9 u10 u11 u12 u13 u14 u15 u16 u17 u18 u19 u23 u24 u25 u26 u27 u28 u29 u30 u31 u32 u33 u34 u35 u36 u37 u38 u39 u40 u41 u42 u43 u44 u45 u46 u47 u48 u49 u50 u51 u52 u53 u54 u55 u56 u57 u58 u59 u60 u61 u62 : Value), a' = ⟨#[.agg #[.slice na ns.length nc, .slice ra rs.length rc], .slice ga ns.length gc, .pointer (some ⟨w.heap.size, 0, none⟩), u3, .slice none 0 0, ov, .slice (some ⟨w.heap.size + 2, 0, none⟩) ns.length ns.length, .pointer (some ⟨w.heap.size + 3, 0, none⟩), u8, u9, u10, u11, u12, u13, u14, u15, u16, u17, u18, u19, .slice ra rs.length rc, .int .i64 ↑rs.length, .int .i64 ↑i, u23, u24, u25, u26, u27, u28, u29, u30, u31, u32, u33, u34, u35, u36, u37, u38, u39, u40, u41, u42, u43, u44, u45, u46, u47, u48, u49, u50, u51, u52, u53, u54, u55, u56, u57, u58, u59, u60, u61, u62], Ds.map markD⟩ ∧ i ≤ rs.length ∧ Hid (Ord w w' (.slice na ns.length nc) (.slice ra rs.length rc) ns.length of ov po po Ds) ∧ Hid (Stk w' w.heap.size sv []) ∧ Hid (ApartV ov sv) ∧ Hid (DfsOk ns (grpM ns) (ordM ns (grpM ns) rs) (rs.drop i) po []) ∧ Hid (∀ r ∈ rs.take i, gAt (grpM ns) r ∈ po.map (gAt (grpM ns)))
/-- between two steps -/
def InnerI (w : World) (na ra ga : Option Addr) (nc rc gc : Nat) (ns : List Nd) (rs of : List Int) (i : Nat) (a' : Act) (w' : World) : Prop := ∃ (Ds : List Nat) (po st : List Int) (ov sv : Value) (u3 u8 u9 u10 u11 u12 u13 u14 u15 u16 u17 u18 u19 u23 u24 u25 u26 u27 u28 u29 u30 u31 u32 u33 u34 u35 u36 u37 u38 u39 u40 u41 u42 u43 u44 u45 u46 u47 u48 u49 u50 u51 u52 u53 u54 u55 u56 u57 u58 u59 u60 u61 u62 : Value), a' = ⟨#[.agg #[.slice na ns.length nc, .slice ra rs.length rc], .slice ga ns.length gc, .pointer (some ⟨w.heap.size, 0, none⟩), u3, .slice none 0 0, ov, .slice (some ⟨w.heap.size + 2, 0, none⟩) ns.length ns.length, .pointer (some ⟨w.heap.size + 3, 0, none⟩), u8, u9, u10, u11, u12, u13, u14, u15, u16, u17, u18, u19, .slice ra rs.length rc, .int .i64 ↑rs.length, .int .i64 ↑i, u23, u24, u25, u26, u27, u28, u29, u30, u31, u32, u33, u34, u35, u36, u37, u38, u39, u40, u41, u42, u43, u44, u45, u46, u47, u48, u49, u50, u51, u52, u53, u54, u55, u56, u57, u58, u59, u60, u61, u62], Ds.map markD⟩ ∧ Hid (Ord w w' (.slice na ns.length nc) (.slice ra rs.length rc) ns.length of ov po po Ds) ∧ Hid (Stk w' w.heap.size sv st) ∧ Hid (ApartV ov sv) ∧ Hid (DfsOk ns (grpM ns) (ordM ns (grpM ns) rs) (rs.drop (i + 1)) po st) ∧ Hid (∀ r ∈ rs.take (i + 1), gAt (grpM ns) r ∈ po.map (gAt (grpM ns)) ∨ r ∈ st) ∧ st.length ≤ 40 * po.length + 1
end Go.Proofs.YtcnnicbaeicboaaDoor
/- Rows of rows of ints, each row in a block of its own. -/
namespace Go.Proofs.YtcnnicbaeicboaaDoor
open Go.RowKit Go.Shelf Nt

theorem Tryd.infoIntS : (Tryd.prog.info? 41).map (fun i => (i.zero, i.size, i.bytes)) = some (some (.slice none 0 0), 1, 24) := by kernel_rfl
/-- a row of rows -/
structure RoR (W : World) (base : Nat) (v : Value) (ps : List (List Int)) (vs : List Value) : Prop where
  len : vs.length = ps.length
  row : W.ownsRow base 41 1 v ps.length vs
  each : ∀ (i : Nat) (x : Value) (p : List Int), vs[i]? = some x → ps[i]? = some p → W.ownsRow base 3 1 x p.length (iv p)
  apart : ∀ (i j : Nat) (x y : Value), i ≠ j → vs[i]? = some x → vs[j]? = some y → ApartV x y
/-- a row of rows, as it is read -/
def RowsAt (W : World) (v : Value) (ps : List (List Int)) : Prop :=
  ∃ a cap, v = .slice a ps.length cap ∧ ps.length ≤ cap ∧ cap ≤ maxLen ∧ ∀ (i : Nat) (p : List Int), ps[i]? = some p → ∃ b off x, a = some ⟨b, off, none⟩ ∧ b < W.heap.size ∧ W.cell? ⟨b, off + i, none⟩ = some x ∧ IntsAt W x p
theorem RowsAt.below {W W' : World} {v : Value} {ps : List (List Int)} (h : RowsAt W v ps) (k : Below W.heap.size W W') : RowsAt W' v ps := by
  obtain ⟨a, cap, rfl, h1, h2, h3⟩ := h
  refine ⟨a, cap, rfl, h1, h2, fun i p hp => ?_⟩
  obtain ⟨b, off, x, rfl, hb, hc, hi⟩ := h3 i p hp
  exact ⟨b, off, x, rfl, Nat.lt_of_lt_of_le hb k.size, by rw [k.cell (p := ⟨b, off + i, none⟩) hb]; exact hc, hi.below k⟩
theorem RoR.at {W : World} {base : Nat} {v : Value} {ps : List (List Int)} {vs : List Value} (h : RoR W base v ps vs) : RowsAt W v ps := by
  rcases h.row.2 with ⟨rfl, h0⟩ | ⟨g, cap, cur, rfl, hb, hg, h1, h2, h3, h4⟩
  · exact ⟨none, 0, by rw [h0], by omega, by unfold maxLen; omega, fun i p hp => by have := (List.getElem?_eq_some_iff.1 hp).1; omega⟩
  · refine ⟨_, cap, rfl, h1, h2, fun i p hp => ?_⟩
    have hi := (List.getElem?_eq_some_iff.1 hp).1
    have e2 : vs[i]? = some (vs[i]'(by rw [h.len]; exact hi)) := List.getElem?_eq_getElem _
    refine ⟨g, 0, _, rfl, (Array.getElem?_eq_some_iff.1 hg).1, ?_, owns_ints (h.each i _ p e2 hp)⟩
    rw [Nat.zero_add, h.row.cellAt i (by omega)]; exact e2
theorem RoR.keptAll {W W' : World} {base : Nat} {v : Value} {ps : List (List Int)} {vs : List Value} {S : Nat → Prop} (h : RoR W base v ps vs) (k : Kept S W W') (h1 : ∀ b, v.ownBlock = some b → ¬ S b)
    (h2 : ∀ x ∈ vs, ∀ b, x.ownBlock = some b → ¬ S b) : RoR W' base v ps vs :=
  ⟨h.len, own_keptS h.row k h1, fun i x p e1 e2 => own_keptS (h.each i x p e1 e2) k (h2 x (List.mem_of_getElem? e1)), h.apart⟩
theorem RoR.up {W W' : World} {base : Nat} {v : Value} {ps : List (List Int)} {vs : List Value} (h : RoR W base v ps vs) (k : Below W.heap.size W W') : RoR W' base v ps vs :=
  h.keptAll (Kept.of_below (S := fun _ => False) k) (fun _ _ e => e) (fun _ _ _ _ e => e)
theorem RoR.still {B : Nat} {W W' : World} {base : Nat} {v : Value} {ps : List (List Int)} {vs : List Value} (h : RoR W base v ps vs) (k : Still B W W') : RoR W' base v ps vs :=
  ⟨h.len, own_still k h.row, fun i x p e1 e2 => own_still k (h.each i x p e1 e2), h.apart⟩
theorem own_grown' {X Y : World} {row : Option Nat} {base size n : Nat} {e : TypeId} {v : Value} {xs : List Value} (h : X.ownsRow base e size v n xs) (hg : X.grownBy Y row) (hr : ∀ b, row = some b → ∃ o, X.heap[b]? = some o ∧ o.isCells = false) : Y.ownsRow base e size v n xs := by
  refine h.kept hg ?_
  rcases h.2 with ⟨rfl, _⟩ | ⟨g, cap, cur, rfl, _, hgb, _⟩
  · exact .inl rfl
  · refine .inr fun e' => ?_
    obtain ⟨o, ho, hc⟩ := hr g (by simpa [Value.ownBlock] using e'.symm)
    rw [hgb] at ho; cases ho; cases hc
theorem RoR.grownC {X Y : World} {row : Option Nat} {base : Nat} {v : Value} {ps : List (List Int)} {vs : List Value} (h : RoR X base v ps vs) (hg : X.grownBy Y row) (hr : ∀ b, row = some b → ∃ o, X.heap[b]? = some o ∧ o.isCells = false) : RoR Y base v ps vs :=
  ⟨h.len, own_grown' h.row hg hr, fun i x p e1 e2 => own_grown' (h.each i x p e1 e2) hg hr, h.apart⟩
theorem RoR.outer {W : World} {base : Nat} {v : Value} {ps : List (List Int)} {vs : List Value} (h : RoR W base v ps vs) {x : Value} (hx : x ∈ vs) {b : Nat} (hb : x.ownBlock = some b) : v.ownBlock ≠ some b := by
  obtain ⟨i, hi⟩ := List.getElem?_of_mem hx
  have hl := (List.getElem?_eq_some_iff.1 hi).1
  have e2 : ps[i]? = some (ps[i]'(by rw [← h.len]; exact hl)) := List.getElem?_eq_getElem _
  rcases own_ne (h.each i x _ hi e2) h.row (by decide) with e | e
  · rw [e] at hb; cases hb
  · intro e'; exact e (hb.trans e'.symm)
/-- a row grows -/
theorem RoR.grow {W w1 : World} {base g n cap i : Nat} {ps : List (List Int)} {vs : List Value} {x x' : Value} {p : List Int} {z : Int} {o : Obj} (h : RoR W base (.slice (some ⟨g, 0, none⟩) n cap) ps vs)
    (hx : vs[i]? = some x) (hp : ps[i]? = some p) (ho : w1.ownsRow base 3 1 x' (p.length + 1) (iv p ++ [.int .i64 z])) (hg : (W.alloc o).grownBy w1 x.ownBlock) (hl : Lies W x x') :
    RoR (w1.setCell ⟨g, i, none⟩ x') base (.slice (some ⟨g, 0, none⟩) n cap) (ps.set i (p ++ [z])) (vs.set i x') ∧ Kept (fun b => b = g ∨ x.ownBlock = some b) W (w1.setCell ⟨g, i, none⟩ x') := by
  have hnl : n = ps.length := by
    rcases h.row.2 with ⟨e, _⟩ | ⟨g', c', cur, e, _⟩
    · cases e
    · cases e; rfl
  subst hnl
  have hxm := List.mem_of_getElem? hx
  have k0 : Kept (fun b => x.ownBlock = some b) W w1 := (Kept.of_below ((Below.refl _ _).alloc (Nat.le_refl _) o)).trans (Kept.of_grown hg (fun _ e => e))
  have k1 : Kept (· = g) w1 (w1.setCell ⟨g, i, none⟩ x') := Kept.set (S := (· = g)) (a := ⟨g, i, none⟩) rfl _
  have hrow := own_keptS h.row k0 (fun b hb hc => h.outer hxm hc hb)
  have hxl := (List.getElem?_eq_some_iff.1 hx).1
  have hne : ∀ (j : Nat) (y : Value), j ≠ i → vs[j]? = some y → ApartV y x' := fun j y hj hy => by
    have hpl : ps[j]? = some (ps[j]'(by rw [← h.len]; exact (List.getElem?_eq_some_iff.1 hy).1)) := List.getElem?_eq_getElem _
    exact ApartV.lies (h.apart j i y x hj hy hx) (h.each j y _ hy hpl) hl
  have hx'g : x'.ownBlock ≠ some g := by
    rcases own_ne ho hrow (by decide) with e | e
    · rw [e]; simp
    · exact e
  refine ⟨⟨by simp [h.len], ?_, fun j y q e1 e2 => ?_, fun j k y y' hjk e1 e2 => ?_⟩, (k0.mono (fun b e => .inr e)).trans (k1.mono (fun b e => .inl e))⟩
  · have := (hrow.stored i x').1
    simpa using this
  · by_cases hj : j = i
    · subst hj
      rw [List.getElem?_set_self (by exact hxl)] at e1
      rw [List.getElem?_set_self (by rw [← h.len]; exact hxl)] at e2
      cases e1; cases e2
      have := own_s1 (i := j) (u := x') ho (by exact hx'g)
      simpa [iv] using this
    · rw [List.getElem?_set_ne (by omega)] at e1 e2
      have hy := h.each j y q e1 e2
      have h2 := own_keptS hy k0 (fun b hb hc => (h.apart j i y x hj e1 hx) b hb hc)
      refine own_s1 h2 (fun e => ?_)
      exact h.outer (List.mem_of_getElem? e1) e rfl
  · by_cases hj : j = i
    · subst hj
      rw [List.getElem?_set_self hxl] at e1
      rw [List.getElem?_set_ne hjk] at e2
      cases e1
      exact (hne k y' (Ne.symm hjk) e2).symm
    · rw [List.getElem?_set_ne (by omega)] at e1
      by_cases hk : k = i
      · subst hk
        rw [List.getElem?_set_self hxl] at e2
        cases e2
        exact hne j y hj e1
      · rw [List.getElem?_set_ne (by omega)] at e2
        exact h.apart j k y y' hjk e1 e2
/-- one more row, an empty one -/
theorem RoR.push {W w1 : World} {base : Nat} {v v' : Value} {ps : List (List Int)} {vs : List Value} {o : Obj} (h : RoR W base v ps vs) (ho : w1.ownsRow base 41 1 v' (ps.length + 1) (vs ++ [.slice none 0 0])) (hg : (W.alloc o).grownBy w1 v.ownBlock) :
    RoR w1 base v' (ps ++ [[]]) (vs ++ [.slice none 0 0]) := by
  have k0 : Kept (fun b => v.ownBlock = some b) W w1 := (Kept.of_below ((Below.refl _ _).alloc (Nat.le_refl _) o)).trans (Kept.of_grown hg (fun _ e => e))
  have hap : ∀ (j : Nat) (y : Value), (vs ++ [Value.slice none 0 0])[j]? = some y → j < vs.length ∧ vs[j]? = some y ∨ j = vs.length ∧ y = .slice none 0 0 := fun j y e => by
    by_cases hj : j < vs.length
    · rw [List.getElem?_append_left hj] at e; exact .inl ⟨hj, e⟩
    · have hj2 : j = vs.length := by
        have := (List.getElem?_eq_some_iff.1 e).1
        simp at this; omega
      subst hj2
      rw [List.getElem?_append_right (Nat.le_refl _)] at e
      simp at e
      exact .inr ⟨rfl, e.symm⟩
  refine ⟨by simp [h.len], by simpa using ho, fun j y q e1 e2 => ?_, fun j k y y' hjk e1 e2 => ?_⟩
  · rcases hap j y e1 with ⟨hj, e⟩ | ⟨rfl, rfl⟩
    · rw [List.getElem?_append_left (by rw [← h.len]; exact hj)] at e2
      exact own_keptS (h.each j y q e e2) k0 (fun b hb hc => h.outer (List.mem_of_getElem? e) hb hc)
    · rw [h.len, List.getElem?_append_right (Nat.le_refl _)] at e2
      simp at e2
      subst e2
      exact World.ownsRow_nil _ _ _ _
  · rcases hap j y e1 with ⟨hj, e⟩ | ⟨rfl, rfl⟩
    · rcases hap k y' e2 with ⟨hk, f⟩ | ⟨rfl, rfl⟩
      · exact h.apart j k y y' hjk e f
      · intro b _ hb; simp [Value.ownBlock] at hb
    · intro b hb; simp [Value.ownBlock] at hb
theorem RoR.made {w : World} {base n : Nat} (hb : base ≤ w.heap.size) (hn : n ≤ maxLen) : RoR (w.alloc (.cells (madeCells #[.slice none 0 0] n) 41)) base (.slice (some ⟨w.heap.size, 0, none⟩) n n) (List.replicate n []) (List.replicate n (.slice none 0 0)) := by
  refine ⟨by simp, by simpa using made_own (base := base) (e := 41) (z := .slice none 0 0) (n := n) (w := w) hb hn, fun i x p e1 e2 => ?_, fun i j x y _ e1 _ => ?_⟩
  · have h1 := List.mem_of_getElem? e1
    have h2 := List.mem_of_getElem? e2
    rw [List.mem_replicate] at h1 h2
    rw [h1.2, h2.2]
    exact World.ownsRow_nil _ _ _ _
  · have h1 := List.mem_of_getElem? e1
    rw [List.mem_replicate] at h1
    rw [h1.2]
    intro b hb; simp [Value.ownBlock] at hb

/-! who has a node among their kids -/
def rAt (us : List (List Int)) (k : Int) : List Int := us.getD k.toNat []
structure UsersOk (ns : List Nd) (i : Nat) (pre : List Int) (us : List (List Int)) : Prop where
  len : us.length = ns.length
  mem : ∀ k : Int, 0 ≤ k → k < ns.length → ∀ x : Int, x ∈ rAt us k ↔ ((0 ≤ x ∧ x < i) ∧ k ∈ (ndAt ns x.toNat).2.2) ∨ (x = i ∧ k ∈ pre)
  sum : (us.map List.length).sum ≤ 40 * i + pre.length
theorem rAt_get {us : List (List Int)} {k : Nat} {p : List Int} (h : us[k]? = some p) : rAt us k = p := by
  unfold rAt; rw [List.getD_eq_getElem?_getD, show ((k : Nat) : Int).toNat = k by omega, h]; rfl
theorem UsersOk.start (ns : List Nd) : UsersOk ns 0 [] (List.replicate ns.length []) where
  len := by simp
  mem := fun k h0 h1 x => by
    have : rAt (List.replicate ns.length []) k = [] := by
      unfold rAt; rw [List.getD_eq_getElem?_getD, List.getElem?_replicate]; split <;> rfl
    rw [this]; simp; omega
  sum := by simp
theorem sum_set (l : List (List Int)) (k : Nat) (p q : List Int) (h : l[k]? = some p) : ((l.set k q).map List.length).sum + p.length = (l.map List.length).sum + q.length := by
  induction l generalizing k with
  | nil => simp at h
  | cons a r ih =>
    cases k with
    | zero => simp at h; subst h; simp; omega
    | succ k => rw [List.getElem?_cons_succ] at h; have := ih k h; simp only [List.set_cons_succ, List.map_cons, List.sum_cons]; omega
theorem UsersOk.one {ns : List Nd} {i k : Nat} {pre : List Int} {us : List (List Int)} {p : List Int} (h : UsersOk ns i pre us) (hp : us[k]? = some p) : UsersOk ns i (pre ++ [(k : Int)]) (us.set k (p ++ [(i : Int)])) where
  len := by simpa using h.len
  mem := fun j h0 h1 x => by
    have hkl := (List.getElem?_eq_some_iff.1 hp).1
    obtain ⟨jn, rfl⟩ : ∃ jn : Nat, j = jn := ⟨j.toNat, by omega⟩
    have hm := h.mem jn h0 h1 x
    by_cases hjk : jn = k
    · subst hjk
      rw [rAt_get hp] at hm
      rw [rAt_get (List.getElem?_set_self hkl), List.mem_append, hm]
      rw [List.mem_append]
      constructor
      · rintro ((h | ⟨h1, h2⟩) | h)
        · exact .inl h
        · exact .inr ⟨h1, .inl h2⟩
        · exact .inr ⟨by simpa using h, .inr (by simp)⟩
      · rintro (h | ⟨h1, _⟩)
        · exact .inl (.inl h)
        · exact .inr (by simp [h1])
    · have : rAt (us.set k (p ++ [(i : Int)])) jn = rAt us jn := by
        unfold rAt
        rw [List.getD_eq_getElem?_getD, List.getD_eq_getElem?_getD, List.getElem?_set_ne (by omega)]
      rw [this, hm, List.mem_append]
      have hne : ¬ ((jn : Int) = (k : Int)) := by omega
      simp [hne]
  sum := by
    have := sum_set us k p (p ++ [(i : Int)]) hp
    have h2 := h.sum
    simp at this ⊢
    omega
theorem UsersOk.next {ns : List Nd} {i : Nat} {nd : Nd} {us : List (List Int)} (h : UsersOk ns i nd.2.2 us) (hn : ns[i]? = some nd) (hk : nd.2.2.length ≤ 40) : UsersOk ns (i + 1) [] us where
  len := h.len
  mem := fun k h0 h1 x => by
    rw [h.mem k h0 h1 x]
    constructor
    · rintro (⟨⟨a, b⟩, c⟩ | ⟨rfl, c⟩)
      · exact .inl ⟨⟨a, by omega⟩, c⟩
      · exact .inl ⟨⟨by omega, by omega⟩, by rw [toNat_nat, ndAt_get hn]; exact c⟩
    · rintro (⟨⟨a, b⟩, c⟩ | ⟨_, c⟩)
      · by_cases hx : x = i
        · subst hx
          rw [toNat_nat, ndAt_get hn] at c
          exact .inr ⟨rfl, c⟩
        · exact .inl ⟨⟨a, by omega⟩, c⟩
      · simp at c
  sum := by have := h.sum; simp; omega
end Go.Proofs.YtcnnicbaeicboaaDoor
/- impl.ReadMin's list of places. -/
namespace Go.Proofs.YtcnnicbaeicboaaDoor
open Go.RowKit Go.Shelf Nt

set_option maxRecDepth 100000 in
set_option maxHeartbeats 4000000 in
theorem moved_c (bp bg : Nat) (fv pv gv : Value) (xs pl of : List Int) (w : World) (hf : IntsAt w fv xs) (hp : IntsAt w pv pl) (hg : IntsAt w gv of)
    (hbp : w.cell? ⟨bp, 0, none⟩ = some pv) (hbg : w.cell? ⟨bg, 0, none⟩ = some gv) (hn : xs.length ≤ 1048576)
    (hr : ∀ x ∈ xs, (0 ≤ x ∧ x < of.length) ∧ 0 ≤ gAt of x ∧ gAt of x < pl.length) :
    Calls Tryd.prog 81 #[fv, .pointer (some ⟨bp, 0, none⟩), .pointer (some ⟨bg, 0, none⟩)] w fun e w' => (∃ v, e = .returned v ∧ w'.ownsRow w.heap.size 3 1 v xs.length (iv (xs.map fun x => gAt pl (gAt of x)))) ∧ Below w.heap.size w w' := by
  obtain ⟨i0, hi, hz0, hz1, hz2⟩ := info_parts Tryd.infoInt
  have HF := hide hf
  have HP := hide hp
  have HG := hide hg
  have HR := hide hr
  obtain ⟨fa, fc, rfl, hf1, hf2, -⟩ := hf
  obtain ⟨pa, pc, rfl, hp1, hp2, -⟩ := hp
  obtain ⟨ga, gc, rfl, hg1, hg2, -⟩ := hg
  unfold maxLen at hf2 hp2 hg2
  have hbpl := World.block_lt_of_cell? _ _ hbp
  have hbgl := World.block_lt_of_cell? _ _ hbg
  have HBP := hide hbp
  have HBG := hide hbg
  have hmk := fun W => make_run (P := Tryd.prog) Tryd.underlying41 hi hz0 hz1 hz2 rfl xs.length (by omega) (by omega) W
  have HO := hide (made_own (base := w.heap.size) (e := 3) (z := .int .i64 0) (n := xs.length) (w := w) (Nat.le_refl _) (by unfold maxLen; omega))
  have HB := hide ((Below.refl w.heap.size w).alloc (Nat.le_refl _) (.cells (madeCells #[.int .i64 0] xs.length) 3))
  clear hr hbp hbg
  go_enter Tryd.func81, Tryd.ntmps81
  go_wp2_with fail
  go_loopw [13] (fun i wr => ∃ k : Nat, k ≤ xs.length ∧ i = .int .i64 k ∧ Hid (wr.ownsRow w.heap.size 3 1 (.slice (some ⟨w.heap.size, 0, none⟩) xs.length xs.length) xs.length (iv (upTo (xs.map fun x => gAt pl (gAt of x)) k))) ∧ Hid (Below w.heap.size w wr))
    (fun i _ => xs.length - (intOf i).toNat)
  case atStart => exact ⟨0, Nat.zero_le _, rfl, hide (by rw [upTo_zero]; simpa [iv] using unhide HO), HB⟩
  case round =>
    clear hmk HO HB
    obtain ⟨k, hk, rfl, HO, HB⟩ := hrel
    by_cases hlt : k < xs.length
    · obtain ⟨x, hx⟩ : ∃ x, xs[k]? = some x := ⟨_, List.getElem?_eq_getElem hlt⟩
      obtain ⟨⟨x0, x1⟩, x2, x3⟩ := unhide HR x (List.mem_of_getElem? hx)
      obtain ⟨xn, rfl⟩ : ∃ xn : Nat, x = xn := ⟨x.toNat, by omega⟩
      obtain ⟨gn, hgn⟩ : ∃ gn : Nat, gAt of xn = gn := ⟨(gAt of xn).toNat, by omega⟩
      obtain ⟨y, hy⟩ : ∃ y, gAt pl gn = y := ⟨_, rfl⟩
      obtain ⟨a, cap, e1, _, _, h3⟩ := ints_cell ((unhide HF).below (unhide HB))
      injection e1 with e2 e3 e4
      obtain ⟨fb, fo, rfl, hfb, hfx⟩ := h3 k xn hx
      subst e2
      clear e4 h3
      have hofx : of[xn]? = some (gn : Int) := by
        have hl : xn < of.length := by omega
        have := gAt_nat (List.getElem?_eq_getElem hl)
        rw [List.getElem?_eq_getElem hl, ← this, hgn]
      obtain ⟨a, cap, e1, _, _, h3⟩ := ints_cell ((unhide HG).below (unhide HB))
      injection e1 with e2 e3 e4
      obtain ⟨gb, go, rfl, hgb, hgx⟩ := h3 xn gn hofx
      subst e2
      clear e4 h3
      have hply : pl[gn]? = some y := by
        have hl : gn < pl.length := by omega
        have := gAt_nat (List.getElem?_eq_getElem hl)
        rw [List.getElem?_eq_getElem hl, ← this, hy]
      obtain ⟨a, cap, e1, _, _, h3⟩ := ints_cell ((unhide HP).below (unhide HB))
      injection e1 with e2 e3 e4
      obtain ⟨pb, po, rfl, hpb, hpx⟩ := h3 gn y hply
      subst e2
      clear e4 h3
      have b1 := ((unhide HB).cell (p := ⟨bp, 0, none⟩) hbpl).trans (unhide HBP)
      have b2 := ((unhide HB).cell (p := ⟨bg, 0, none⟩) hbgl).trans (unhide HBG)
      have fz := (unhide HO).frozenAt k
      obtain ⟨v0, hv0⟩ := own_cell_some (unhide HO) k (by omega)
      have hxl : xn < of.length := by omega
      have hgl : gn < pl.length := by omega
      have hst := (unhide HO).stored k (.int .i64 y)
      rw [iv_set, upTo_set (x := y) (by rw [List.getElem?_map, hx, Option.map_some, hgn, hy])] at hst
      have HST := hide hst.1
      have HB1 := hide ((unhide HB).setCell (p := ⟨w.heap.size, k, none⟩) (Nat.le_refl _) (.int .i64 y))
      clear hst
      clear hgn hy hx hofx hply
      go_wp2_with fail
      go_region
      all_goals
        go_wp2_with fail
        go_roundw
        case rel => exact ⟨k + 1, by omega, by go_num, hide (by first | exact unhide HST | exact (unhide HST).drew), hide (by first | exact unhide HB1 | exact (unhide HB1).drew)⟩
        case measure => simp [intOf]; omega
    · obtain rfl : k = xs.length := by omega
      go_wp2_with fail
      go_ret
      refine ⟨⟨_, rfl, ?_⟩, unhide HB⟩
      have h := unhide HO
      have h2 := upTo_all (xs.map fun x => gAt pl (gAt of x))
      rw [List.length_map] at h2
      rwa [h2] at h
end Go.Proofs.YtcnnicbaeicboaaDoor
/- impl's looks of nodes: their faces. -/
namespace Go.Proofs.YtcnnicbaeicboaaDoor
open Go.RowKit Go.Shelf Nt

set_option maxRecDepth 100000 in
set_option maxHeartbeats 2000000 in
theorem face_c (g x : Nat) (nv ov sv : Value) (ns : List Nd) (nd : Nd) (w : World) (hg : AtC3 w g nv ov sv 144) (hn : NodesAt w nv ns) (hx : ns[x]? = some nd) :
    Calls Tryd.prog 119 #[.pointer (some ⟨g, 0, none⟩), .int .i64 x] w fun e w' => e = .returned (.agg #[.int .i64 nd.1, .string (B nd.2.1), .int .i64 nd.2.2.length]) ∧ Below w.heap.size w w' := by
  have hxl := (List.getElem?_eq_some_iff.1 hx).1
  obtain ⟨nb, no, nc, rfl, _, hn2, _⟩ := hn.form (by omega)
  obtain ⟨kv, m0, m1, m2, _, hki⟩ := hn.node hx
  obtain ⟨ka, kc, rfl, _, hk2, -⟩ := hki
  unfold maxLen at hn2 hk2
  have g0 := hg.n0
  have hgl := hg.lt
  have b0 := World.block_lt_of_cell? _ _ m0
  clear hg hn hx
  go_enter Tryd.func119, Tryd.ntmps119
  go_wp2
  refine bodyPost_ret (v := .agg #[.int .i64 nd.1, .string (B nd.2.1), .int .i64 nd.2.2.length]) (by simp [results, Tryd.results119, go_sem]) rfl ⟨rfl, ?_⟩
  exact step_a (step_a (Below.refl _ _) _) _
end Go.Proofs.YtcnnicbaeicboaaDoor
/- Looks of nodes as keys of maps. -/
namespace Go.Proofs.YtcnnicbaeicboaaDoor
open Go.RowKit Go.Shelf Nt

theorem laidOut0 : laidOutB Tryd.prog = true := by kernel_rfl
set_option maxRecDepth 100000 in
theorem rowFace : (150 : TypeId) < Tryd.prog.types.size := of_decide_eq_true (by kernel_rfl)
set_option maxRecDepth 100000 in
theorem rowTurn : (155 : TypeId) < Tryd.prog.types.size := of_decide_eq_true (by kernel_rfl)
theorem wideFace : (match Tryd.prog.underlying 150 with | some (.array _ _) | some (.struct _) => true | _ => false) = true := by rw [Tryd.underlying150]
theorem wideTurn : (match Tryd.prog.underlying 155 with | some (.array _ _) | some (.struct _) => true | _ => false) = true := by rw [Tryd.underlying155]
theorem typFace : Tryd.prog.keyTypeAt 2 150 = true := by kernel_rfl
theorem typTurn : Tryd.prog.keyTypeAt 2 155 = true := by kernel_rfl
set_option maxRecDepth 100000 in
theorem lawFace : Maps.Keyed Tryd.prog 150 := Maps.Keyed.of_law (deep_law_laid laidOut0 (m := 2) (by omega) rowFace typFace wideFace)
set_option maxRecDepth 100000 in
theorem lawTurn : Maps.Keyed Tryd.prog 155 := Maps.Keyed.of_law (deep_law_laid laidOut0 (m := 2) (by omega) rowTurn typTurn wideTurn)
theorem size0 : ∃ m, Tryd.prog.types.size = m + 2 := ⟨Tryd.prog.types.size - 2, by have h : (2 : Nat) ≤ Tryd.prog.types.size := Nat.le_trans (by decide) (Nat.le_of_lt rowFace); omega⟩
theorem keyFace (s n : Int) (t : ByteArray) (hs : (Lit.int .i64 s).wf = true) (hn : (Lit.int .i64 n).wf = true) (ht : t.size ≤ maxLen) : ∃ l, keyOf Tryd.prog 150 (.agg #[.int .i64 s, .string t, .int .i64 n]) = some l := by
  obtain ⟨m, hm⟩ := size0
  have hk : Tryd.prog.keyType 150 = true := by kernel_rfl
  have h1 : Tryd.prog.cellsOf 150 = 3 := by kernel_rfl
  have h2 : Tryd.prog.cellsOf 3 = 1 := by kernel_rfl
  have h3 : Tryd.prog.cellsOf 9 = 1 := by kernel_rfl
  have hf : (Value.agg #[.int .i64 s, .string t, .int .i64 n]).formed Tryd.prog 150 = true := by simp [Value.formed, Tryd.underlying150, h1]
  refine ⟨.string (keyBytes [.int .i64 s, .string t.data.toList, .int .i64 n]), ?_⟩
  unfold keyOf
  rw [Tryd.underlying150]
  simp only [hk, hf, Bool.and_self, if_true, Value.cells]
  rw [hm]
  simp [Program.keyLits, Tryd.underlying150, Tryd.underlying3, Tryd.underlying9, h1, h2, h3, hs, hn, ht]
theorem keyTurn (n : Int) (t : ByteArray) (hn : (Lit.int .i64 n).wf = true) (ht : t.size ≤ maxLen) : ∃ l, keyOf Tryd.prog 155 (.agg #[.int .i64 n, .string t]) = some l := by
  obtain ⟨m, hm⟩ := size0
  have hk : Tryd.prog.keyType 155 = true := by kernel_rfl
  have h1 : Tryd.prog.cellsOf 155 = 2 := by kernel_rfl
  have h2 : Tryd.prog.cellsOf 3 = 1 := by kernel_rfl
  have h3 : Tryd.prog.cellsOf 9 = 1 := by kernel_rfl
  have hf : (Value.agg #[.int .i64 n, .string t]).formed Tryd.prog 155 = true := by simp [Value.formed, Tryd.underlying155, h1]
  refine ⟨.string (keyBytes [.int .i64 n, .string t.data.toList]), ?_⟩
  unfold keyOf
  rw [Tryd.underlying155]
  simp only [hk, hf, Bool.and_self, if_true, Value.cells]
  rw [hm]
  simp [Program.keyLits, Tryd.underlying155, Tryd.underlying3, Tryd.underlying9, h1, h2, h3, hn, ht]

/-! what is known of looks: each one's number -/
theorem zeroInt (w : World) : (zeroValue 3).run Tryd.prog w = .ok (.int .i64 0) w := by kernel_rfl
abbrev I64 (n : Int) : DataW Unit := .lit (.int .i64 n)
/-- keys that are known, by their numbers -/
structure Known {K : Type} (W : World) (k : TypeId) (enc : K → Value) (b : Nat) (ks : List K) (D : DataW Unit) : Prop where
  own : W.ownsMap Tryd.prog k (plainElem Tryd.prog 3) b ks.length D
  map : Maps.IsMap D
  yes : ∀ (t : Nat) (y : K) (l : Lit), ks[t]? = some y → keyOf Tryd.prog k (enc y) = some l → Maps.has D l = true ∧ D.atKey l (I64 0) = I64 t
  no : ∀ (y : K) (l : Lit), y ∉ ks → keyOf Tryd.prog k (enc y) = some l → Maps.has D l = false
theorem Known.nil {K : Type} (W : World) (k : TypeId) (enc : K → Value) : Known (K := K) (W.alloc (.map #[] 0)) k enc W.heap.size [] (.map []) :=
  ⟨World.ownsMap_made _ _ _ _, Maps.isMap_empty, fun t y l h => by simp at h, fun y l _ _ => rfl⟩
theorem Known.put {K : Type} {W W' : World} {k : TypeId} {enc : K → Value} {b : Nat} {ks : List K} {D : DataW Unit} {y : K} {l : Lit} (law : Maps.Keyed Tryd.prog k) (hinj : ∀ x y : K, enc x = enc y → x = y) (h : Known W k enc b ks D) (hy : y ∉ ks) (hl : keyOf Tryd.prog k (enc y) = some l)
    (ho : W'.ownsMap Tryd.prog k (plainElem Tryd.prog 3) b (ks.length + 1) (D.put l (I64 ks.length))) : Known W' k enc b (ks ++ [y]) (D.put l (I64 ks.length)) := by
  have hne : ∀ (z : K) (m : Lit), keyOf Tryd.prog k (enc z) = some m → z ≠ y → m ≠ l := fun z m hm hz e => hz (hinj z y (law.inj hm (by rw [e]; exact hl)))
  refine ⟨by simpa using ho, h.map.put _ _, fun t z m hz hm => ?_, fun z m hz hm => ?_⟩
  · by_cases ht : t < ks.length
    · rw [List.getElem?_append_left ht] at hz
      have hzy : z ≠ y := fun e => hy (e ▸ List.mem_of_getElem? hz)
      have := h.yes t z m hz hm
      exact ⟨by rw [Maps.has_put_other (hne z m hm hzy)]; exact this.1, by rw [Maps.atKey_put_other (hne z m hm hzy)]; exact this.2⟩
    · have ht2 : t = ks.length := by
        have := (List.getElem?_eq_some_iff.1 hz).1
        simp at this; omega
      subst ht2
      rw [List.getElem?_append_right (Nat.le_refl _)] at hz
      simp at hz
      subst hz
      rw [hl] at hm
      cases hm
      exact ⟨Maps.has_put_same h.map (law.key hl) _, Maps.atKey_put_same h.map (law.key hl) _ _⟩
  · have hzy : z ≠ y := fun e => hz (by simp [e])
    rw [Maps.has_put_other (hne z m hm hzy)]
    exact h.no z m (fun hm2 => hz (by simp [hm2])) hm
end Go.Proofs.YtcnnicbaeicboaaDoor
/- impl.readAlike: nodes in parts, those that look alike together. -/
namespace Go.Proofs.YtcnnicbaeicboaaDoor
open Go.RowKit Go.Shelf Nt

theorem Known.keeps {K : Type} {W W' : World} {k : TypeId} {enc : K → Value} {b : Nat} {ks : List K} {D : DataW Unit} (h : Known W k enc b ks D) (hk : KeepsOthers W W') : Known W' k enc b ks D := by
  obtain ⟨⟨es, clock, hb, r⟩, h2, h3, h4⟩ := h
  exact ⟨⟨es, clock, hk.same b _ hb rfl, r⟩, h2, h3, h4⟩
theorem Known.isMap {K : Type} {W : World} {k : TypeId} {enc : K → Value} {b : Nat} {ks : List K} {D : DataW Unit} (h : Known W k enc b ks D) : ∃ o, W.heap[b]? = some o ∧ o.isCells = false := by
  obtain ⟨⟨es, clock, hb, r⟩, _⟩ := h
  exact ⟨_, hb, rfl⟩
theorem partsOf_len {K : Type} [DecidableEq K] (look : Int → K) (ps : List Int) : (partsOf look ps).length = (keysOf look ps).length := by simp [partsOf]
theorem keysOf_le {K : Type} [DecidableEq K] (look : Int → K) (ps : List Int) : (keysOf look ps).length ≤ ps.length := by
  induction ps using snoc_ind with
  | h0 => simp [keysOf]
  | h1 l x ih => rw [keysOf_snoc]; split <;> simp <;> omega
theorem wf64 (n : Int) (h0 : -9223372036854775808 ≤ n) (h1 : n ≤ 9223372036854775807) : (Lit.int .i64 n).wf = true := by
  have e1 : IntKind.i64.min = -9223372036854775808 := by decide
  have e2 : IntKind.i64.max = 9223372036854775807 := by decide
  simp [Lit.wf, e1, e2]; omega
theorem encFace_inj : ∀ x y : Int × List UInt8 × Nat, Value.agg #[.int .i64 x.1, .string (B x.2.1), .int .i64 x.2.2] = Value.agg #[.int .i64 y.1, .string (B y.2.1), .int .i64 y.2.2] → x = y := by
  rintro ⟨a, b, c⟩ ⟨a', b', c'⟩ h
  simp [B] at h
  obtain ⟨rfl, rfl, h3⟩ := h
  rw [show c = c' by omega]
theorem encTurn_inj : ∀ x y : Int × List UInt8, Value.agg #[.int .i64 x.1, .string (B x.2)] = Value.agg #[.int .i64 y.1, .string (B y.2)] → x = y := by
  rintro ⟨a, b⟩ ⟨a', b'⟩ h
  simp [B] at h
  obtain ⟨rfl, rfl⟩ := h
  rfl
theorem set_snoc {α : Type} (l : List α) (a b : α) : (l ++ [a]).set l.length b = l ++ [b] := by simp

set_option maxRecDepth 100000 in
set_option maxHeartbeats 8000000 in
theorem alikeFace_c (gv pv : Value) (ps : List Int) (look : Int → Int × List UInt8 × Nat) (w : World) (hp : IntsAt w pv ps) (hn : ps.length ≤ 1048576)
    (hkey : ∀ x ∈ ps, ∃ l, keyOf Tryd.prog 150 (.agg #[.int .i64 (look x).1, .string (B (look x).2.1), .int .i64 (look x).2.2]) = some l)
    (hlook : ∀ x ∈ ps, ∀ W, Below w.heap.size w W → Calls Tryd.prog 119 #[gv, .int .i64 x] W fun e w' => e = .returned (.agg #[.int .i64 (look x).1, .string (B (look x).2.1), .int .i64 (look x).2.2]) ∧ Below W.heap.size W w') :
    Calls Tryd.prog 118 #[pv, .func (.func 119) #[gv] #[]] w fun e w' => (∃ ga vc vs, e = .returned (.slice (some ⟨ga, 0, none⟩) (partsOf look ps).length vc) ∧ RoR w' w.heap.size (.slice (some ⟨ga, 0, none⟩) (partsOf look ps).length vc) (partsOf look ps) vs) ∧ Below w.heap.size w w' := by
  obtain ⟨i0, hi, hz0, hz1, hz2⟩ := info_parts Tryd.infoInt
  obtain ⟨j0, hj, hy0, hy1, hy2⟩ := info_parts Tryd.infoIntS
  have HP := hide hp
  obtain ⟨pa, pc, rfl, hp1, hp2, -⟩ := hp
  unfold maxLen at hp2
  have HK := hide hkey
  have HL := hide hlook
  clear hkey hlook
  have HK0 := hide ((Known.nil w 150 (fun y : Int × List UInt8 × Nat => .agg #[.int .i64 y.1, .string (B y.2.1), .int .i64 y.2.2])).keeps (keepsOthers_below (step_a (Below.refl _ _) (.cells #[] 41))))
  have HB0 := hide (step_a (step_a (Below.refl w.heap.size w) (.map #[] 0)) (.cells #[] 41))
  have HR0 : Hid (RoR ((w.alloc (.map #[] 0)).alloc (.cells #[] 41)) w.heap.size (.slice (some ⟨w.heap.size + 1, 0, none⟩) 0 0) [] []) := hide ⟨rfl, by have h := World.ownsRow_lit (base := w.heap.size) (e := 41) (size := 1) (w.alloc (.map #[] 0)) #[] 0 (by simp) (by unfold maxLen; omega) rfl; simpa using h, fun i x p h => by simp at h, fun i j x y _ h => by simp at h⟩
  have hmm : Sem.run Tryd.prog (Instr.makeMap 175 none) w = .ok (.map (some w.heap.size)) (w.alloc (.map #[] 0)) := by kernel_rfl
  go_enter Tryd.func118, Tryd.ntmps118
  go_wp2_with fail
  go_loopw [6, 16] (fun v u wr => ∃ (k : Nat) (D : DataW Unit) (vs : List Value) (ga vc : Nat), k ≤ ps.length ∧ u = .int .i64 k ∧ v = .slice (some ⟨ga, 0, none⟩) (partsOf look (ps.take k)).length vc ∧ Hid (Known wr 150 (fun y : Int × List UInt8 × Nat => .agg #[.int .i64 y.1, .string (B y.2.1), .int .i64 y.2.2]) w.heap.size (keysOf look (ps.take k)) D) ∧ Hid (RoR wr w.heap.size (.slice (some ⟨ga, 0, none⟩) (partsOf look (ps.take k)).length vc) (partsOf look (ps.take k)) vs) ∧ Hid (Below w.heap.size w wr))
    (fun _ u _ => ps.length - (intOf u).toNat)
  case atStart => exact ⟨0, _, _, w.heap.size + 1, 0, by omega, rfl, rfl, HK0, HR0, HB0⟩
  case round =>
    clear HK0 HB0 HR0 hmm
    obtain ⟨k, D, vs, ga, vc, hk, rfl, rfl, HKN, HR, HB⟩ := hrel
    have hpl := partsOf_len look (ps.take k)
    have hkl := keysOf_le look (ps.take k)
    rw [List.length_take] at hkl
    obtain ⟨K0, hK0⟩ : ∃ K0, keysOf look (ps.take k) = K0 := ⟨_, rfl⟩
    obtain ⟨P0, hP0⟩ : ∃ P0, partsOf look (ps.take k) = P0 := ⟨_, rfl⟩
    have HKE := hide hK0
    have HPE := hide hP0
    rw [hK0, hP0] at hpl
    rw [hK0] at hkl HKN
    rw [hP0] at HR ⊢
    have hm : P0.length ≤ 1048576 := by omega
    have HPL := hide hpl
    clear hpl hK0 hP0 hkl
    by_cases hlt : k < ps.length
    · obtain ⟨x, hx⟩ : ∃ x, ps[k]? = some x := ⟨_, List.getElem?_eq_getElem hlt⟩
      have hxm := List.mem_of_getElem? hx
      obtain ⟨a, cap, e1, _, _, h3⟩ := ints_cell ((unhide HP).below (unhide HB))
      injection e1 with e2 e3 e4
      obtain ⟨fb, fo, rfl, hfb, hfx⟩ := h3 k x hx
      subst e2
      clear e4 h3
      have htk : ps.take (k + 1) = ps.take k ++ [x] := by rw [List.take_add_one, hx]; rfl
      have HTK := hide htk
      obtain ⟨l, hl⟩ := unhide HK x hxm
      have HLX := hide ((unhide HL) x hxm wr (unhide HB))
      obtain ⟨y, hy⟩ : ∃ y, look x = y := ⟨_, rfl⟩
      rw [hy] at hl HLX
      have HY := hide hy
      obtain ⟨y1, y2, y3⟩ := y
      simp only at hl HLX
      have HLl := hide hl
      clear hy htk hx hl
      go_wp2_with fail
      have h := unhide HLX
      refine h.mono ?_
      clear h HLX
      rintro e w1 ⟨rfl, hb1⟩
      have hB2 := step_a hb1 (.cells #[.int .i64 y1, .string (B y2), .int .i64 y3] 150)
      have HK2 := hide ((unhide HKN).keeps (keepsOthers_below hB2))
      have HR2 := hide ((unhide HR).up hB2)
      have HB2 := hide (step_b (unhide HB) hB2)
      clear HKN HR HB hb1 hB2 hfx
      by_cases hin : (y1, y2, y3) ∈ K0
      · obtain ⟨t, ht⟩ := List.getElem?_of_mem hin
        have hKK := (unhide HK2).yes t _ l ht (unhide HLl)
        have htl : t < P0.length := by rw [unhide HPL]; exact (List.getElem?_eq_some_iff.1 ht).1
        have hold := partsOf_old (look := look) (ps := ps.take k) (x := x) (t := t) (by rw [unhide HKE, unhide HY]; exact ht)
        rw [unhide HPE, unhide HKE, ← unhide HTK] at hold
        obtain ⟨p, hp⟩ : ∃ p, (ps.take k).filter (fun y => decide (look y = look x)) = p := ⟨_, rfl⟩
        rw [hp] at hold
        have hpp : P0[t]? = some p := by
          rw [← unhide HPE]
          unfold partsOf
          rw [List.getElem?_map, unhide HKE, ht, Option.map_some, ← unhide HY, hp]
        have hpn : p.length ≤ 1048576 := by
          rw [← hp]; have := List.length_filter_le (fun y => decide (look y = look x)) (ps.take k); rw [List.length_take] at this; omega
        obtain ⟨xv, hxv⟩ : ∃ xv, vs[t]? = some xv := ⟨_, List.getElem?_eq_getElem (by rw [(unhide HR2).len]; exact htl)⟩
        have hxr := (unhide HR2).each t xv p hxv hpp
        obtain ⟨ra, rc, hxs⟩ := own_slice hxr
        subst hxs
        obtain ⟨g, hg⟩ : ∃ g, g = ga := ⟨_, rfl⟩
        subst hg
        have c0 : (w1.alloc (.cells #[.int .i64 y1, .string (B y2), .int .i64 y3] 150)).cell? ⟨g, t, none⟩ = some (.slice ra p.length rc) := by
          rw [(unhide HR2).row.cellAt t (by omega)]; exact hxv
        have HXR := hide hxr
        have HOL := hide hold
        have HPP := hide hpp
        have HXV := hide hxv
        have HKK := hide hKK
        clear hp hpp hxv hxr hold ht hin hKK
        go_wp2_with (first
          | (at_lookup; refine wpList_lookup_own_ok_int _ rfl _ _ 175 rfl 150 3 .i64 lawFace Tryd.underlying175 Tryd.underlying3 (zeroInt _) w.heap.size _ D rfl (unhide HK2).own _ _ rfl (unhide HLl) ?_; intro c hat hwc; rw [(unhide HKK).1]; obtain rfl : c = (t : Int) := (by have h := (unhide HKK).2; rw [hat] at h; injection h with h; injection h); clear hat hwc)
          | (at_builtin; refine wpList_append_own_at _ rfl _ _ 41 rfl w.heap.size 3 i0 (.int .i64 0) 1 8 Tryd.underlying41 hi hz0 hz1 hz2 rfl (by decide) _ _ _ rfl ((unhide HXR).alloc _) ⟨w1.heap.size + 1, 0, none⟩ 1 1 [.int .i64 x] rfl rfl (by have h := cell_one_new (w1.alloc (.cells #[.int .i64 y1, .string (B y2), .int .i64 y3] 150)) (.int .i64 x) 3; rwa [World.size_alloc] at h) (by intro u hu; simp at hu; subst hu; rfl) (by unfold maxLen; omega) (by omega) (by have := (unhide HB2).size; simp at this ⊢; omega) ?_; intro x' w3 hown hgrow hnil hloc; obtain ⟨qa, qc, rfl⟩ := own_slice hown; have HG := hide ((unhide HR2).grow (unhide HXV) (unhide HPP) hown hgrow (hloc.imp id (fun h => ⟨_, h, by simp⟩))); have r3 := own_keptS (unhide HR2).row ((Kept.of_below ((Below.refl _ _).alloc (Nat.le_refl _) _)).trans (Kept.of_grown hgrow (fun _ e => e))) (fun b hb hc => (unhide HR2).outer (List.mem_of_getElem? (unhide HXV)) hc hb); have f3 := r3.frozenAt t; have c3 : w3.cell? ⟨g, t, none⟩ = some (.slice ra p.length rc) := (by rw [r3.cellAt t (by omega)]; exact unhide HXV); clear hown hgrow hnil hloc r3))
        go_roundw
        case rel =>
          have hG := unhide HG
          have hKO := keepsOthers_kept hG.2 (fun b hb o ho => by
            rcases hb with rfl | hb
            · exact row_cells (unhide HR2).row rfl ho
            · exact row_cells (unhide HXR) hb ho)
          have hBL := hG.2.below (base := w.heap.size) (unhide HB2).size (fun b hb => by
            rcases hb with rfl | hb
            · exact (own_lt (unhide HR2).row rfl).1
            · exact (own_lt (unhide HXR) hb).1)
          refine ⟨k + 1, D, vs.set t (.slice qa (p.length + 1) qc), g, vc, by omega, by go_num, by rw [(unhide HOL).1]; simp, ?_, ?_, hide ((unhide HB2).trans hBL)⟩
          · exact hide (by rw [(unhide HOL).2]; exact (unhide HK2).keeps hKO)
          · exact hide (by rw [(unhide HOL).1]; have h := hG.1; rw [show (P0.set t (p ++ [x])).length = P0.length by simp]; exact h)
        case measure => simp [intOf]; omega
      · have hno := (unhide HK2).no _ l hin (unhide HLl)
        have hnew := partsOf_new (look := look) (ps := ps.take k) (x := x) (by rw [unhide HKE, unhide HY]; exact hin)
        rw [unhide HPE, unhide HKE, ← unhide HTK, unhide HY] at hnew
        have hmap := (unhide HK2).isMap
        have hwf := wf64 (P0.length : Int) (by omega) (by omega)
        have hk0 : K0.length < maxLen := by rw [← unhide HPL]; unfold maxLen; omega
        have HNO := hide hno
        have HNW := hide hnew
        have HIN := hide hin
        have HMP := hide hmap
        have HWF := hide hwf
        have HK00 := hide hk0
        clear hno hnew hin hmap hwf hk0
        go_wp2_with (first
          | (at_lookup; refine wpList_lookup_own_ok_int _ rfl _ _ 175 rfl 150 3 .i64 lawFace Tryd.underlying175 Tryd.underlying3 (zeroInt _) w.heap.size _ D rfl (unhide HK2).own _ _ rfl (unhide HLl) ?_; intro c hat hwc; rw [unhide HNO]; clear hat hwc)
          | (at_mapUpdate; refine wpList_mapUpdate_own _ rfl _ _ _ 175 rfl 150 3 lawFace Tryd.underlying175 _ w.heap.size _ D rfl (unhide HK2).own (unhide HK00) _ _ _ rfl rfl (unhide HLl) _ [] (plainElem_int Tryd.underlying3 (unhide HWF)) ?_; intro w3 hown3 hgrow3; rw [show (P0.length : Int) = (K0.length : Int) by rw [unhide HPL]] at hown3; have HK3 := hide ((unhide HK2).put lawFace encFace_inj (unhide HIN) (unhide HLl) hown3); have HR3 := hide ((unhide HR2).grownC hgrow3 (fun b e => by cases e; exact unhide HMP)); have HB3 := hide ((unhide HB2).grown hgrow3 (unhide HB2).size (fun k hk => by cases hk; exact Nat.le_refl _)); clear hown3 hgrow3)
          | (at_builtin; refine wpList_append_own_at _ rfl _ _ 145 rfl w.heap.size 41 j0 (.slice none 0 0) 1 24 Tryd.underlying145 hj hy0 hy1 hy2 rfl (by decide) _ _ _ rfl ((unhide HR3).row.alloc _) ⟨w3.heap.size, 0, none⟩ 1 1 [.slice none 0 0] rfl rfl (cell_one_new w3 (.slice none 0 0) 41) (by intro u hu; simp at hu; subst hu; rfl) (by unfold maxLen; omega) (by omega) (by have := (unhide HB3).size; simp at this ⊢; omega) ?_; intro v4 w4 hown4 hgrow4 hnil4 hloc4; obtain ⟨g, cap', rfl, _, hgb, _⟩ := own_some hown4 (by omega); have HR4 := hide ((unhide HR3).push hown4 hgrow4); have HKP : Hid (Kept (fun b => (Value.slice (some ⟨ga, 0, none⟩) P0.length vc).ownBlock = some b) w3 w4) := hide ((Kept.of_below ((Below.refl w3.heap.size w3).alloc (Nat.le_refl _) (.cells #[.slice none 0 0] 41))).trans (Kept.of_grown hgrow4 (fun _ e => e))); have hl4 : vs.length = P0.length := (unhide HR3).len; have HX4 : Hid ((vs ++ [Value.slice none 0 0])[P0.length]? = some (.slice none 0 0)) := hide (by rw [← hl4]; simp); have c4 : w4.cell? ⟨g, P0.length, none⟩ = some (.slice none 0 0) := (by rw [hown4.cellAt P0.length (by omega)]; exact unhide HX4); have HGB := hide hgb; have HOW := hide hown4; clear hown4 hgrow4 hnil4 hloc4 hl4 hgb)
          | (at_builtin; refine wpList_append_own_at _ rfl _ _ 41 rfl w.heap.size 3 i0 (.int .i64 0) 1 8 Tryd.underlying41 hi hz0 hz1 hz2 rfl (by decide) _ _ _ rfl (World.ownsRow_nil _ _ _ _) ⟨w4.heap.size, 0, none⟩ 1 1 [.int .i64 x] rfl rfl (cell_one_new w4 (.int .i64 x) 3) (by intro u hu; simp at hu; subst hu; rfl) (by unfold maxLen; omega) (by omega) (by have h1 := (unhide HB3).size; have h2 := (unhide HKP).size; simp; omega) ?_; intro x' w5 hown hgrow hnil hloc; obtain ⟨qa, qc, rfl⟩ := own_slice hown; have hpl5 : (P0 ++ [([] : List Int)])[P0.length]? = some [] := (by simp); have HG := hide ((unhide HR4).grow (unhide HX4) hpl5 hown hgrow (hloc.imp id (fun h => ⟨_, h, by simp⟩))); have k5 : Kept (fun b => (Value.slice none 0 0).ownBlock = some b) w4 w5 := (Kept.of_below ((Below.refl w4.heap.size w4).alloc (Nat.le_refl _) (.cells #[.int .i64 x] 3))).trans (Kept.of_grown hgrow (fun _ e => e)); have r5 := own_keptS (unhide HOW) k5 (fun b hb hc => by simp [Value.ownBlock] at hc); have f5 := r5.frozenAt P0.length; have c5 : w5.cell? ⟨g, P0.length, none⟩ = some (.slice none 0 0) := (by rw [r5.cellAt P0.length (by omega)]; exact unhide HX4); clear hown hgrow hnil hloc k5 r5 hpl5))
        go_roundw
        case rel =>
          have hG := unhide HG
          have hS4 : ∀ b, (Value.slice (some ⟨ga, 0, none⟩) P0.length vc).ownBlock = some b → w.heap.size ≤ b := fun b hb => (own_lt (unhide HR3).row hb).1
          have hKO := (keepsOthers_kept (unhide HKP) (fun b hb o ho => row_cells (unhide HR3).row hb ho)).trans (keepsOthers_kept hG.2 (fun b hb o ho => by
            rcases hb with rfl | hb
            · exact row_cells (unhide HOW) rfl ho
            · simp [Value.ownBlock] at hb))
          have hBL := ((unhide HKP).below (base := w.heap.size) (unhide HB3).size hS4).trans (hG.2.below (base := w.heap.size) (Nat.le_trans (unhide HB3).size (unhide HKP).size) (fun b hb => by
            rcases hb with rfl | hb
            · exact (own_lt (unhide HOW) rfl).1
            · simp [Value.ownBlock] at hb))
          refine ⟨k + 1, D.put l (I64 K0.length), (vs ++ [Value.slice none 0 0]).set P0.length (.slice qa 1 qc), g, cap', by omega, by go_num, by rw [(unhide HNW).1]; simp, ?_, ?_, hide ((unhide HB3).trans hBL)⟩
          · exact hide (by rw [(unhide HNW).2]; exact (unhide HK3).keeps hKO)
          · exact hide (by rw [(unhide HNW).1, ← set_snoc P0 [] [x]]; have h := hG.1; rw [show ((P0 ++ [([] : List Int)]).set P0.length [x]).length = P0.length + 1 by simp]; exact h)
        case measure => simp [intOf]; omega
    · obtain rfl : k = ps.length := by omega
      have HPF : Hid (partsOf look ps = P0) := hide (by have h := unhide HPE; rwa [List.take_of_length_le (Nat.le_refl _)] at h)
      go_wp2_with fail
      go_ret
      exact ⟨⟨ga, vc, vs, by rw [unhide HPF]; rfl, by rw [unhide HPF]; exact unhide HR⟩, unhide HB⟩
end Go.Proofs.YtcnnicbaeicboaaDoor
