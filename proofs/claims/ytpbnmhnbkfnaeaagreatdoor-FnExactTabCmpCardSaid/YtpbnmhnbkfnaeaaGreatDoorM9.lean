/- A part of the proof, put together out of smaller texts: each piece says what it is for. -/
import Derived.Test.YtpbnmhnbkfnaeaaGreatDoorM8
import Derived.RegionIn
import Derived.Stop.RegionWithIn
import Derived.BigQuiet
import Derived.Deep.QuietTactic
import Derived.Lib.OthersKept
import Derived.Laws.IdiomStrings
import Derived.Laws.Runes
import Derived.WalkMore
import Derived.Lib.Strings
import Derived.Shelf.Unicode.ValidAny
/- A region that reads, makes two boxes and fills them, by what holds whichever of its operations have been carried out. -/
namespace Go.Proofs.YtpbnmhnbkfnaeaaGreatDoor
open Go.RowKit Nt

abbrev st3 (w : World) (b : Nat) (u0 u1 u2 : Value) : World := ((w.setCell ⟨b, 0, none⟩ u0).setCell ⟨b, 1, none⟩ u1).setCell ⟨b, 2, none⟩ u2
theorem AtC.put3 {w : World} {b : Nat} {x y z : Value} {T : TypeId} (h : AtC w b #[x, y, z] T) (u v t : Value) : AtC (st3 w b u v t) b #[u, v, t] T :=
  ((h.put1 (i := 0) u).put1 (i := 1) v).put1 (i := 2) t
theorem AtC.far3 {w : World} {b g : Nat} {cs : Array Value} {T : TypeId} (h : AtC w g cs T) (hne : g ≠ b) (u v t : Value) : AtC (st3 w b u v t) g cs T := ((h.far1 hne u).far1 hne v).far1 hne t
theorem below_st3 {B : Nat} {a w : World} (h : Below B a w) {b : Nat} (hb : B ≤ b) (u v t : Value) : Below B a (st3 w b u v t) :=
  ((h.setCell (p := ⟨b, 0, none⟩) hb u).setCell (p := ⟨b, 1, none⟩) hb v).setCell (p := ⟨b, 2, none⟩) hb t
/-- a box that operation k fills -/
def Bx (l : Array Bool) (k : Nat) (w : World) (g : Nat) (z c : Array Value) (T : TypeId) : Prop := (¬ LL l k ∧ AtC w g z T) ∨ (LL l k ∧ AtC w g c T)
theorem Bx.lt {l : Array Bool} {k g : Nat} {w : World} {z c : Array Value} {T : TypeId} (h : Bx l k w g z c T) : g < w.heap.size := by
  rcases h with ⟨_, h⟩ | ⟨_, h⟩ <;> exact h.lt
theorem Bx.below {l : Array Bool} {k g : Nat} {w w' : World} {z c : Array Value} {T : TypeId} (h : Bx l k w g z c T) (hb : Below w.heap.size w w') : Bx l k w' g z c T := by
  rcases h with ⟨e, h⟩ | ⟨e, h⟩
  · exact .inl ⟨e, h.below hb⟩
  · exact .inr ⟨e, h.below hb⟩
theorem Bx.far {l : Array Bool} {k g b : Nat} {w : World} {z c : Array Value} {T : TypeId} (h : Bx l k w g z c T) (hne : g ≠ b) (u0 u1 u2 : Value) : Bx l k (st3 w b u0 u1 u2) g z c T := by
  rcases h with ⟨e, h⟩ | ⟨e, h⟩
  · exact .inl ⟨e, h.far3 hne _ _ _⟩
  · exact .inr ⟨e, h.far3 hne _ _ _⟩
theorem Bx.step {l l' : Array Bool} {k g : Nat} {w : World} {z c : Array Value} {T : TypeId} (h : Bx l k w g z c T) (hk : LL l' k ↔ LL l k) : Bx l' k w g z c T := by
  unfold Bx at h ⊢
  rw [hk]; exact h
/-- operations below N read (what is read is v); N and N + 1 make the boxes; N + 2 and N + 3 fill them -/
structure TwoB (N : Nat) (W : World) (v : Nat → Value) (z c d : Array Value) (T : TypeId) (l : Array Bool) (x : Nat → Value) (w : World) : Prop where
  sz : l.size = N + 4
  bl : Below W.heap.size W w
  val : ∀ i, i < N → LL l i → x i = v i
  f1 : LL l (N + 2) → LL l N
  f2 : LL l (N + 3) → LL l (N + 1)
  b1 : LL l N → ∃ g, x N = .pointer (some ⟨g, 0, none⟩) ∧ W.heap.size ≤ g ∧ Bx l (N + 2) w g z c T
  b2 : LL l (N + 1) → ∃ g, x (N + 1) = .pointer (some ⟨g, 0, none⟩) ∧ W.heap.size ≤ g ∧ Bx l (N + 3) w g z d T
  ne : LL l N → LL l (N + 1) → x N ≠ x (N + 1)
section
variable {N : Nat} {W w w' : World} {v x : Nat → Value} {z c d : Array Value} {T : TypeId} {l : Array Bool}
theorem TwoB.start (n : l = Array.replicate (N + 4) false) (h : Below W.heap.size W w) : TwoB N W v z c d T l x w := by
  subst n
  have hn : ∀ j, ¬ LL (Array.replicate (N + 4) false) j := fun j h => by
    unfold LL at h
    rw [Array.getElem?_replicate] at h
    split at h <;> simp at h
  exact ⟨by simp, h, fun i _ h => absurd h (hn _), fun h => absurd h (hn _), fun h => absurd h (hn _), fun h => absurd h (hn _), fun h => absurd h (hn _), fun h => absurd h (hn _)⟩
theorem TwoB.next (h : TwoB N W v z c d T l x w) (i : Nat) (hi : i < N + 2) (hl : ¬ LL l i) (u : Value) (hb : Below w.heap.size w w') (hv : i < N → u = v i)
    (hn : N ≤ i → u = .pointer (some ⟨w.heap.size, 0, none⟩) ∧ AtC w' w.heap.size z T) : TwoB N W v z c d T (l.setIfInBounds i true) (fun j => if j = i then u else x j) w' := by
  have hs := fun j => LL_set (l := l) (i := i) (by rw [h.sz]; omega) j
  have hk : ∀ {j}, j ≠ i → (LL (l.setIfInBounds i true) j ↔ LL l j) := fun {j} e => by rw [hs]; simp [e]
  have hx : ∀ {j}, j ≠ i → (if j = i then u else x j) = x j := fun {j} e => if_neg e
  have hB : Below W.heap.size W w' := step_b h.bl hb
  refine ⟨by simp [h.sz], hB, fun j hj e => ?_, fun e => ?_, fun e => ?_, fun e => ?_, fun e => ?_, fun e e' => ?_⟩
  · by_cases q : j = i
    · subst q
      show (if j = j then u else x j) = v j
      rw [if_pos rfl]; exact hv hj
    · show (if j = i then u else x j) = v j
      rw [hx q]; exact h.val j hj ((hk q).1 e)
  · exact (hs N).2 (.inr (h.f1 ((hk (by omega)).1 e)))
  · exact (hs (N + 1)).2 (.inr (h.f2 ((hk (by omega)).1 e)))
  · by_cases q : N = i
    · subst q
      obtain ⟨e1, e2⟩ := hn (Nat.le_refl _)
      refine ⟨w.heap.size, ?_, h.bl.size, .inl ⟨fun q => hl (h.f1 ((hk (by omega)).1 q)), e2⟩⟩
      show (if N = N then u else x N) = _
      rw [if_pos rfl]; exact e1
    · obtain ⟨g, e1, e2, e3⟩ := h.b1 ((hk q).1 e)
      refine ⟨g, ?_, e2, (e3.below hb).step (hk (by omega))⟩
      show (if N = i then u else x N) = _
      rw [hx q]; exact e1
  · by_cases q : N + 1 = i
    · subst q
      obtain ⟨e1, e2⟩ := hn (by omega)
      refine ⟨w.heap.size, ?_, h.bl.size, .inl ⟨fun q => hl (h.f2 ((hk (by omega)).1 q)), e2⟩⟩
      show (if N + 1 = N + 1 then u else x (N + 1)) = _
      rw [if_pos rfl]; exact e1
    · obtain ⟨g, e1, e2, e3⟩ := h.b2 ((hk q).1 e)
      refine ⟨g, ?_, e2, (e3.below hb).step (hk (by omega))⟩
      show (if N + 1 = i then u else x (N + 1)) = _
      rw [hx q]; exact e1
  · show (if N = i then u else x N) ≠ (if N + 1 = i then u else x (N + 1))
    by_cases q : N = i
    · subst q
      obtain ⟨e1, _⟩ := hn (Nat.le_refl _)
      obtain ⟨g, q1, _, q3⟩ := h.b2 ((hk (by omega)).1 e')
      rw [if_pos rfl, if_neg (by omega), e1, q1]
      intro q; simp at q; have := q3.lt; omega
    · by_cases q' : N + 1 = i
      · subst q'
        obtain ⟨e1, _⟩ := hn (by omega)
        obtain ⟨g, q1, _, q3⟩ := h.b1 ((hk q).1 e)
        rw [if_neg q, if_pos rfl, e1, q1]
        intro q; simp at q; have := q3.lt; omega
      · rw [hx q, hx q']
        exact h.ne ((hk q).1 e) ((hk q').1 e')
theorem TwoB.put1 {y0 y1 y2 u0 u1 u2 : Value} (h : TwoB N W v #[y0, y1, y2] #[u0, u1, u2] d T l x w) (hl : ¬ LL l (N + 2)) (h1 : LL l N) : ∃ g, x N = .pointer (some ⟨g, 0, none⟩) ∧ AtC w g #[y0, y1, y2] T ∧ TwoB N W v #[y0, y1, y2] #[u0, u1, u2] d T (l.setIfInBounds (N + 2) true) x (st3 w g u0 u1 u2) := by
  obtain ⟨g, e1, e2, e3⟩ := h.b1 h1
  rcases e3 with ⟨_, e3⟩ | ⟨e, _⟩
  · have hs := fun j => LL_set (l := l) (i := N + 2) (by rw [h.sz]; omega) j
    have hk : ∀ {j}, j ≠ N + 2 → (LL (l.setIfInBounds (N + 2) true) j ↔ LL l j) := fun {j} e => by rw [hs]; simp [e]
    refine ⟨g, e1, e3, by simp [h.sz], below_st3 h.bl e2 _ _ _, fun j hj e => h.val j hj ((hk (by omega)).1 e), fun _ => (hk (by omega)).2 h1, fun e => (hk (by omega)).2 (h.f2 ((hk (by omega)).1 e)), fun _ => ⟨g, e1, e2, .inr ⟨(hs _).2 (.inl rfl), e3.put3 _ _ _⟩⟩, fun e => ?_, fun e e' => h.ne ((hk (by omega)).1 e) ((hk (by omega)).1 e')⟩
    obtain ⟨g', r1, r2, r3⟩ := h.b2 ((hk (by omega)).1 e)
    exact ⟨g', r1, r2, (r3.far (fun q => h.ne h1 ((hk (by omega)).1 e) (by rw [e1, r1, q])) _ _ _).step (hk (by omega))⟩
  · exact absurd e hl
theorem TwoB.put2 {y0 y1 y2 u0 u1 u2 : Value} (h : TwoB N W v #[y0, y1, y2] c #[u0, u1, u2] T l x w) (hl : ¬ LL l (N + 3)) (h1 : LL l (N + 1)) : ∃ g, x (N + 1) = .pointer (some ⟨g, 0, none⟩) ∧ AtC w g #[y0, y1, y2] T ∧ TwoB N W v #[y0, y1, y2] c #[u0, u1, u2] T (l.setIfInBounds (N + 3) true) x (st3 w g u0 u1 u2) := by
  obtain ⟨g, e1, e2, e3⟩ := h.b2 h1
  rcases e3 with ⟨_, e3⟩ | ⟨e, _⟩
  · have hs := fun j => LL_set (l := l) (i := N + 3) (by rw [h.sz]; omega) j
    have hk : ∀ {j}, j ≠ N + 3 → (LL (l.setIfInBounds (N + 3) true) j ↔ LL l j) := fun {j} e => by rw [hs]; simp [e]
    refine ⟨g, e1, e3, by simp [h.sz], below_st3 h.bl e2 _ _ _, fun j hj e => h.val j hj ((hk (by omega)).1 e), fun e => (hk (by omega)).2 (h.f1 ((hk (by omega)).1 e)), fun _ => (hk (by omega)).2 h1, fun e => ?_, fun _ => ⟨g, e1, e2, .inr ⟨(hs _).2 (.inl rfl), e3.put3 _ _ _⟩⟩, fun e e' => h.ne ((hk (by omega)).1 e) ((hk (by omega)).1 e')⟩
    obtain ⟨g', r1, r2, r3⟩ := h.b1 ((hk (by omega)).1 e)
    exact ⟨g', r1, r2, (r3.far (fun q => h.ne ((hk (by omega)).1 e) h1 (by rw [e1, r1, q])) _ _ _).step (hk (by omega))⟩
  · exact absurd e hl
/-- behind the region -/
theorem TwoB.done (h : TwoB N W v z c d T l x w) (h1 : LL l (N + 2)) (h2 : LL l (N + 3)) : ∃ g g', x N = .pointer (some ⟨g, 0, none⟩) ∧ x (N + 1) = .pointer (some ⟨g', 0, none⟩) ∧ W.heap.size ≤ g ∧ W.heap.size ≤ g' ∧ AtC w g c T ∧ AtC w g' d T ∧ Below W.heap.size W w := by
  obtain ⟨g, e1, e2, e3⟩ := h.b1 (h.f1 h1)
  obtain ⟨g', r1, r2, r3⟩ := h.b2 (h.f2 h2)
  rcases e3 with ⟨e, _⟩ | ⟨_, e3⟩
  · exact absurd h1 e
  rcases r3 with ⟨e, _⟩ | ⟨_, r3⟩
  · exact absurd h2 e
  exact ⟨g, g', e1, r1, e2, r2, e3, r3, h.bl⟩
end
end Go.Proofs.YtpbnmhnbkfnaeaaGreatDoor
/- tabCompared's iterator: it tells the pairs level by level. -/
namespace Go.Proofs.YtpbnmhnbkfnaeaaGreatDoor
open Go.RowKit Go.Shelf Nt
attribute [local go_sem] Oper.semAt_some

theorem cell_kc {w w' : World} (k : KC w w') {a : Addr} {v : Value} (h : w.cell? a = some v) : w'.cell? a = some v := by
  unfold World.cell? at h ⊢
  cases e : w.heap[a.block]? with
  | none => rw [e] at h; simp at h
  | some o =>
    cases o with
    | cells cs T fr => rw [k.cells _ _ e rfl]; rw [e] at h; exact h
    | _ => rw [e] at h; simp at h
theorem IntsAt.kc {w w' : World} {v : Value} {xs : List Int} (h : IntsAt w v xs) (k : KC w w') : IntsAt w' v xs := by
  obtain ⟨a, cap, rfl, h1, h2, h3⟩ := h
  refine ⟨a, cap, rfl, h1, h2, fun h0 => ?_⟩
  obtain ⟨b, off, rfl, hb, hc⟩ := h3 h0
  exact ⟨b, off, rfl, Nat.lt_of_lt_of_le hb k.size, fun j x hx => cell_kc k (hc j x hx)⟩
theorem NodesAt.kc {w w' : World} {v : Value} {ns : List Nd} (h : NodesAt w v ns) (k : KC w w') : NodesAt w' v ns := by
  obtain ⟨a, cap, rfl, h1, h2, h3⟩ := h
  refine ⟨a, cap, rfl, h1, h2, fun h0 => ?_⟩
  obtain ⟨b, off, rfl, hb, hc⟩ := h3 h0
  refine ⟨b, off, rfl, Nat.lt_of_lt_of_le hb k.size, fun j nd hx => ?_⟩
  obtain ⟨c0, c1, hl, kv, c2, hk⟩ := hc j nd hx
  exact ⟨cell_kc k c0, cell_kc k c1, hl, kv, cell_kc k c2, hk.kc k⟩
theorem KC.steps {w wr wr' : World} (h : KC w wr) (k : Steps w.heap.size wr wr') : KC w wr' :=
  ⟨Nat.le_trans h.size k.bl.size, fun b o e ho => (k.bl.block b (Array.getElem?_eq_some_iff.1 e).1).trans (h.cells b o e ho)⟩
theorem mk_run {P : Program} {t e : TypeId} {i : TypeInfo} {z : Value} {bytes : Nat} (ht : P.underlying t = some (.slice e)) (hi : P.info? e = some i) (hz : i.zero = some z) (hs : i.size = 1) (hb : i.bytes = bytes) (hc : z.cells = #[z]) (n : Nat) (hn : bytes * n ≤ 281474976710656) (hn2 : n ≤ 281474976710656) (W : World) :
    (Instr.makeSlice t (.int .i64 (n : Int)) (.int .i64 (n : Int))).run P W = .ok (.slice (some ⟨W.heap.size, 0, none⟩) n n) (W.alloc (.cells (madeCells #[z] n) e)) := by
  have h := run_make (P := P) W t e i z ht hi hz .i64 .i64 (n : Int) (n : Int) (by omega) (by omega) (by rw [hb, ← Int.natCast_mul]; omega) (by omega)
  rw [hc, hs] at h
  simpa using h
theorem Tryz.infoBoolC : (Tryz.prog.info? 4).map (fun i => (i.zero, i.size, i.bytes)) = some (some (.bool false), 1, 1) := by kernel_rfl
theorem metA_nil (m nm : Nat) : madeCells #[.bool false] nm = metA m nm [] := by
  apply Array.ext'
  rw [toList_madeCells_one]
  unfold metA metB
  simp [List.map_const']
/-- a node as it is handed on -/
def nvA (ns : List Nd) (w : World) (b off : Nat) (x : Int) : Value := .agg #[.int .i64 (ndI ns x).1, .string (B (ndI ns x).2.1), (w.cell? ⟨b, off + x.toNat * 3 + 2, none⟩).getD undef]

set_option maxRecDepth 100000 in
set_option maxHeartbeats 8000000 in
theorem compared_seq (ns ms : List Nd) (a b : Int) (xb xo xc yb yo yc aB bB : Nat) (w0 : World) (hx : NodesAt w0 (.slice (some ⟨xb, xo, none⟩) ns.length xc) ns) (hy : NodesAt w0 (.slice (some ⟨yb, yo, none⟩) ms.length yc) ms)
    (okn : ns.all (ndOk ns.length) = true) (okm : ms.all (ndOk ms.length) = true) (hab : InP ns.length ms.length (a, b)) (hl1 : ns.length ≤ 80) (hl2 : ms.length ≤ 80)
    (ha : AtC w0 aB #[.slice (some ⟨xb, xo, none⟩) ns.length xc, .int .i64 a] 52) (hb : AtC w0 bB #[.slice (some ⟨yb, yo, none⟩) ms.length yc, .int .i64 b] 52) :
    SeqC Fence.wide 2 Tryz.prog 97 #[.pointer (some ⟨aB, 0, none⟩), .pointer (some ⟨bB, 0, none⟩)] (fun x : Int × Int => #[nvA ns w0 xb xo x.1, nvA ms w0 yb yo x.2]) (allL ns ms a b) w0 := by
  intro l J Jx w hW hJ hJx hY h0
  have HX := hide (hx.below hW)
  have HY := hide (hy.below hW)
  have HXV : Hid (∀ (x : Int) nd, ns[x.toNat]? = some nd → ∀ kv, w.cell? ⟨xb, xo + x.toNat * 3 + 2, none⟩ = some kv → nvA ns w0 xb xo x = .agg #[.int .i64 nd.1, .string (B nd.2.1), kv]) := hide (fun x nd h kv hkv => by
    obtain ⟨kv', _, _, c2, _, _⟩ := hx.node h
    have e := (cell_below hW c2).symm.trans hkv
    injection e with e
    unfold nvA
    rw [ndI_get h, c2, e]
    rfl)
  have HYV : Hid (∀ (x : Int) nd, ms[x.toNat]? = some nd → ∀ kv, w.cell? ⟨yb, yo + x.toNat * 3 + 2, none⟩ = some kv → nvA ms w0 yb yo x = .agg #[.int .i64 nd.1, .string (B nd.2.1), kv]) := hide (fun x nd h kv hkv => by
    obtain ⟨kv', _, _, c2, _, _⟩ := hy.node h
    have e := (cell_below hW c2).symm.trans hkv
    injection e with e
    unfold nvA
    rw [ndI_get h, c2, e]
    rfl)
  have HA := hide (ha.below hW)
  have HB := hide (hb.below hW)
  have hLs := Lst.start okn okm hab
  have HY0 := hide hY
  have HJ := hide hJ
  obtain ⟨L, hL⟩ : ∃ L, allL ns ms a b = L := ⟨_, rfl⟩
  rw [hL] at HY0 hLs ⊢
  have HLS := hide hLs
  have hnm : ns.length * ms.length ≤ 6400 := Nat.mul_le_mul hl1 hl2
  have HOK := hide (And.intro okn okm)
  have HAB := hide hab
  have HJ0 := hide h0
  clear hx hy hW ha hb hLs hY hJ hJx hL okn okm h0
  refine callsIn_of_wp Tryz.func97 rfl trivial ?_ rfl
  simp only [Tryz.ntmps97, List.size_toArray, List.length_cons, List.length_nil, Nat.reduceAdd, Nat.reduceSub, Array.replicate_succ, Array.replicate_zero, List.push_toArray, List.append_toArray, List.nil_append, List.cons_append]
  obtain ⟨nm, hnm'⟩ : ∃ q, ns.length * ms.length = q := ⟨_, rfl⟩
  rw [hnm'] at hnm
  have e1 : wrap64 ((ns.length : Int) * (ms.length : Int)) = (nm : Int) := by
    rw [← Int.natCast_mul, hnm']
    unfold wrap64
    omega
  have HNM := hide hnm'
  clear hnm'
  obtain ⟨ib, hib, hb0, hb1, hb2⟩ := info_parts Tryz.infoBoolC
  have hmk := fun W => mk_run Tryz.underlying126 hib hb0 hb1 hb2 rfl nm (by omega) (by omega) W
  rw [metA_nil ms.length nm] at hmk
  have a0 := (unhide HA).c 0
  have a1 := (unhide HA).c 1
  have b0 := (unhide HB).c 0
  have b1 := (unhide HB).c 1
  simp only [List.getElem?_toArray, List.getElem?_cons_zero, List.getElem?_cons_succ] at a0 a1 b0 b1
  have hbel := step_a (step_a (step_a (step_a (Below.refl w.heap.size w) (.cells (metA ms.length nm []) 4)) (.cells #[.slice (some ⟨w.heap.size, 0, none⟩) nm nm] 126)) (.cells #[] 129)) (.cells #[.slice (some ⟨w.heap.size + 1 + 1, 0, none⟩) 0 0] 127)
  have a1' := cell_below hbel a1
  have b1' := cell_below hbel b1
  have b0' := cell_below hbel b0
  have HM0 : Hid (MeetS ((((w.alloc (.cells (metA ms.length nm []) 4)).alloc (.cells #[.slice (some ⟨w.heap.size, 0, none⟩) nm nm] 126)).alloc (.cells #[] 129)).alloc (.cells #[.slice (some ⟨w.heap.size + 1 + 1, 0, none⟩) 0 0] 127)) w.heap.size w.heap.size (w.heap.size + 1) (w.heap.size + 1 + 1 + 1) ms.length nm []) := hide (by
    have h1 := ((AtC.new w (metA ms.length nm []) 4).alloc (.cells #[.slice (some ⟨w.heap.size, 0, none⟩) nm nm] 126)).alloc (.cells #[] 129)
    have h2 := (AtC.new (w.alloc (.cells (metA ms.length nm []) 4)) #[.slice (some ⟨w.heap.size, 0, none⟩) nm nm] 126).alloc (.cells #[] 129)
    rw [World.size_alloc] at h2
    have h3 := AtC.new (((w.alloc (.cells (metA ms.length nm []) 4)).alloc (.cells #[.slice (some ⟨w.heap.size, 0, none⟩) nm nm] 126)).alloc (.cells #[] 129)) #[.slice (some ⟨w.heap.size + 1 + 1, 0, none⟩) 0 0] 127
    rw [World.size_alloc, World.size_alloc, World.size_alloc] at h3
    have h4 : RowP (((w.alloc (.cells (metA ms.length nm []) 4)).alloc (.cells #[.slice (some ⟨w.heap.size, 0, none⟩) nm nm] 126)).alloc (.cells #[] 129)) w.heap.size 129 (.slice (some ⟨w.heap.size + 1 + 1, 0, none⟩) 0 0) [] := by
      have h := heap_alloc_new ((w.alloc (.cells (metA ms.length nm []) 4)).alloc (.cells #[.slice (some ⟨w.heap.size, 0, none⟩) nm nm] 126)) (.cells #[] 129)
      rw [World.size_alloc, World.size_alloc] at h
      exact ⟨rfl, .inr ⟨w.heap.size + 1 + 1, 0, _, rfl, by omega, h, Nat.le_refl _, by unfold maxLen; omega, rfl, rfl⟩⟩
    exact ⟨h1.alloc _, h2.alloc _, ⟨_, h3, own_below h4 (step_a (Below.refl _ _) _)⟩, Nat.le_refl _, by omega, by omega⟩)
  have HBE := hide hbel
  gi_wp2_with fail
  obtain ⟨W4, hW4⟩ : ∃ W4, (((w.alloc (.cells (metA ms.length nm []) 4)).alloc (.cells #[.slice (some ⟨w.heap.size, 0, none⟩) nm nm] 126)).alloc (.cells #[] 129)).alloc (.cells #[.slice (some ⟨w.heap.size + 1 + 1, 0, none⟩) 0 0] 127) = W4 := ⟨_, rfl⟩
  rw [hW4] at HM0 HBE b0' ⊢
  clear a0 a1 b0 b1 a1' b1' hbel hW4 hmk e1
  have hs4 := (unhide HBE).size
  have hmt := unhide HM0
  rw [← unhide HNM] at hmt
  refine ⟨trivial, (callsIn_wide.2 (meet_c a b ns.length ms.length w.heap.size bB w.heap.size (w.heap.size + 1) (w.heap.size + 1 + 1 + 1) yc (some ⟨yb, yo, none⟩) [] W4 (unhide HAB) hl1 hl2 (by simp) b0' hmt hs4)).mono ?_⟩
  clear hmt b0'
  rintro e W5 ⟨⟨vm, rfl⟩, hst5, hm5, _⟩
  rw [unhide HNM] at hm5
  have HM5 : Hid (MeetS W5 w.heap.size w.heap.size (w.heap.size + 1) (w.heap.size + 1 + 1 + 1) ms.length nm [(a, b)]) := hide (by simpa using hm5)
  have hst := (Steps.below (Nat.le_refl _) (unhide HBE)).trans hst5
  have HJ5 : Hid (J [] W5) := hide (hst.tr J [] (unhide HJ) (unhide HJ0))
  have HK5 : Hid (KC w W5) := hide ((KC.refl w).steps hst)
  have HL5 : Hid ([(a, b)].Nodup ∧ ∀ x ∈ [(a, b)], InP ns.length ms.length x) := hide ⟨by simp, fun x hx => by
    have : x = (a, b) := by simpa using hx
    rw [this]; exact unhide HAB⟩
  clear hst hst5 hm5 hs4 HM0 HBE HJ0
  gi_wp2_with fail
  gi_loopw [7] (fun iv wr => ∃ (lp : List (Int × Int)) (i : Nat), i ≤ lp.length ∧ iv = .int .i64 i ∧ Hid (MeetS wr w.heap.size w.heap.size (w.heap.size + 1) (w.heap.size + 1 + 1 + 1) ms.length nm lp) ∧ Hid (J (L.take i) wr) ∧ Hid (KC w wr) ∧ Hid (lp.Nodup ∧ ∀ x ∈ lp, InP ns.length ms.length x) ∧ Hid (Lst ns ms L i lp))
    (fun iv _ => 6400 - (intOf iv).toNat)
  case atStart => exact ⟨[(a, b)], 0, by simp, rfl, HM5, hide (by simpa using unhide HJ5), HK5, HL5, HLS⟩
  case round =>
    clear HM5 HJ5 HK5 HL5 HLS
    obtain ⟨lp, i, hil, rfl, HM, HJi, HK, HL, HLS⟩ := hrel
    obtain ⟨v, hpv, hrow⟩ := (unhide HM).pb
    have hll : lp.length ≤ 6400 := by have := pairs_few (unhide HL).1 (unhide HL).2; rw [unhide HNM] at this; omega
    obtain ⟨rp, rc, rfl⟩ := own_form hrow
    have pc := hpv.c 0
    simp only [List.getElem?_toArray, List.getElem?_cons_zero] at pc
    by_cases hlt : i < lp.length
    · obtain ⟨g, cap, ev, hc1, hc2, hgb, hcell⟩ := RowP.form hrow (by omega)
      injection ev with ev1 ev2 ev3
      subst ev1
      subst ev3
      obtain ⟨⟨pa, pb⟩, hp⟩ : ∃ p, lp[i]? = some p := ⟨_, List.getElem?_eq_getElem hlt⟩
      obtain ⟨g0, g1⟩ := hcell i _ hp
      simp only at g0 g1
      obtain ⟨⟨pa0, pa1⟩, pb0, pb1⟩ := inP_iff.1 ((unhide HL).2 _ (List.mem_of_getElem? hp))
      obtain ⟨na, hna⟩ : ∃ nd, ns[pa.toNat]? = some nd := ⟨_, List.getElem?_eq_getElem (by omega)⟩
      obtain ⟨nb, hnb⟩ : ∃ nd, ms[pb.toNat]? = some nd := ⟨_, List.getElem?_eq_getElem (by omega)⟩
      obtain ⟨kva, x0, x1, x2, _, hka⟩ := (unhide HX).node hna
      obtain ⟨kvb, y0, y1, y2, _, hkb⟩ := (unhide HY).node hnb
      have HVA : Hid (nvA ns w0 xb xo pa = .agg #[.int .i64 na.1, .string (B na.2.1), kva]) := hide ((unhide HXV) pa na hna kva x2)
      have HVB : Hid (nvA ms w0 yb yo pb = .agg #[.int .i64 nb.1, .string (B nb.2.1), kvb]) := hide ((unhide HYV) pb nb hnb kvb y2)
      have x0 := cell_kc (unhide HK) x0
      have x1 := cell_kc (unhide HK) x1
      have x2 := cell_kc (unhide HK) x2
      have y0 := cell_kc (unhide HK) y0
      have y1 := cell_kc (unhide HK) y1
      have y2 := cell_kc (unhide HK) y2
      have HKA := hide hka
      have HKB := hide hkb
      obtain ⟨aka, akc, rfl, ak1, ak2⟩ := hka.form
      obtain ⟨bka, bkc, rfl, bk1, bk2⟩ := hkb.form
      have HPI := hide hp
      have HNA := hide hna
      have HNB := hide hnb
      obtain ⟨sa, ta, ka⟩ := na
      obtain ⟨sb, tb, kb⟩ := nb
      simp only at x0 x1 x2 y0 y1 y2 HKA HKB HVA HVB ak1 bk1
      have qa := ((unhide HA).kc (unhide HK)).c 0
      have qb := ((unhide HB).kc (unhide HK)).c 0
      simp only [List.getElem?_toArray, List.getElem?_cons_zero] at qa qb
      have pan : pa.toNat * 3 + 0 = pa.toNat * 3 := rfl
      have HALL := hide (And.intro g0 (And.intro g1 (And.intro x0 (And.intro x1 (And.intro x2 (And.intro y0 (And.intro y1 (And.intro y2 (And.intro qa (And.intro qb pc))))))))))
      clear hp hna hnb hka hkb hcell hpv hrow pan
      gi_wp2_with fail
      --REGION7
      obtain ⟨v, hv⟩ : ∃ v : Nat → Value, v = fun j => match j with
        | 0 => .pointer (some ⟨aB, 0, none⟩)
        | 1 => .slice (some ⟨xb, xo, none⟩) ns.length xc
        | 2 => .slice (some ⟨g, 0, none⟩) lp.length rc
        | 3 => .int .i64 (i : Int)
        | 4 => .pointer (some ⟨g, i * 2, none⟩)
        | 5 => .pointer (some ⟨g, i * 2, none⟩)
        | 6 => .int .i64 pa
        | 7 => .pointer (some ⟨xb, xo + pa.toNat * 3, none⟩)
        | 8 => .agg #[.int .i64 sa, .string (B ta), .slice aka ka.length akc]
        | 9 => .pointer (some ⟨bB, 0, none⟩)
        | 10 => .slice (some ⟨yb, yo, none⟩) ms.length yc
        | 11 => .slice (some ⟨g, 0, none⟩) lp.length rc
        | 12 => .int .i64 (i : Int)
        | 13 => .pointer (some ⟨g, i * 2, none⟩)
        | 14 => .pointer (some ⟨g, i * 2 + 1, none⟩)
        | 15 => .int .i64 pb
        | 16 => .pointer (some ⟨yb, yo + pb.toNat * 3, none⟩)
        | 17 => .agg #[.int .i64 sb, .string (B tb), .slice bka kb.length bkc]
        | _ => undef := ⟨_, rfl⟩
      have v0 : v 0 = .pointer (some ⟨aB, 0, none⟩) := by subst hv; rfl
      have v1 : v 1 = .slice (some ⟨xb, xo, none⟩) ns.length xc := by subst hv; rfl
      have v2 : v 2 = .slice (some ⟨g, 0, none⟩) lp.length rc := by subst hv; rfl
      have v3 : v 3 = .int .i64 (i : Int) := by subst hv; rfl
      have v4 : v 4 = .pointer (some ⟨g, i * 2, none⟩) := by subst hv; rfl
      have v5 : v 5 = .pointer (some ⟨g, i * 2, none⟩) := by subst hv; rfl
      have v6 : v 6 = .int .i64 pa := by subst hv; rfl
      have v7 : v 7 = .pointer (some ⟨xb, xo + pa.toNat * 3, none⟩) := by subst hv; rfl
      have v8 : v 8 = .agg #[.int .i64 sa, .string (B ta), .slice aka ka.length akc] := by subst hv; rfl
      have v9 : v 9 = .pointer (some ⟨bB, 0, none⟩) := by subst hv; rfl
      have v10 : v 10 = .slice (some ⟨yb, yo, none⟩) ms.length yc := by subst hv; rfl
      have v11 : v 11 = .slice (some ⟨g, 0, none⟩) lp.length rc := by subst hv; rfl
      have v12 : v 12 = .int .i64 (i : Int) := by subst hv; rfl
      have v13 : v 13 = .pointer (some ⟨g, i * 2, none⟩) := by subst hv; rfl
      have v14 : v 14 = .pointer (some ⟨g, i * 2 + 1, none⟩) := by subst hv; rfl
      have v15 : v 15 = .int .i64 pb := by subst hv; rfl
      have v16 : v 16 = .pointer (some ⟨yb, yo + pb.toNat * 3, none⟩) := by subst hv; rfl
      have v17 : v 17 = .agg #[.int .i64 sb, .string (B tb), .slice bka kb.length bkc] := by subst hv; rfl
      clear hv
      refine wpIn_region_any (by kernel_rfl) ?_
      change wpAnyIn _ _ _ _ _ _ _ _ _ (World.drew _)
      refine wpAnyIn_inv (fun l' a' w' => ∃ x : Nat → Value, a' = ⟨#[.func (Fn.yield l) #[] #[], .pointer (some ⟨aB, 0, none⟩), .pointer (some ⟨bB, 0, none⟩), undef, .pointer (some ⟨w.heap.size + 1, 0, none⟩), .pointer (some ⟨w.heap.size + 1 + 1 + 1, 0, none⟩), .func (Fn.func (98 : Nat)) #[] #[.pointer (some ⟨bB, 0, none⟩), .pointer (some ⟨w.heap.size + 1, 0, none⟩), .pointer (some ⟨w.heap.size + 1 + 1 + 1, 0, none⟩)], .int .i64 ↑i, x 18, x 19, u10, .pointer (some ⟨aB, 0, none⟩), .slice (some ⟨xb, xo, none⟩) ns.length xc, .int .i64 ↑ns.length, .pointer (some ⟨bB, 0, none⟩), .slice (some ⟨yb, yo, none⟩) ms.length yc, .int .i64 ↑ms.length, .int .i64 ↑nm, .slice (some ⟨w.heap.size, 0, none⟩) nm nm, .slice (some ⟨w.heap.size + 1 + 1, 0, none⟩) 0 0, .func (Fn.func (98 : Nat)) #[] #[.pointer (some ⟨bB, 0, none⟩), .pointer (some ⟨w.heap.size + 1, 0, none⟩), .pointer (some ⟨w.heap.size + 1 + 1 + 1, 0, none⟩)], .func (Fn.func (98 : Nat)) #[] #[.pointer (some ⟨bB, 0, none⟩), .pointer (some ⟨w.heap.size + 1, 0, none⟩), .pointer (some ⟨w.heap.size + 1 + 1 + 1, 0, none⟩)], .pointer (some ⟨aB, 1, none⟩), .int .i64 a, .pointer (some ⟨bB, 1, none⟩), .int .i64 b, vm, .int .i64 ↑i, .slice (some ⟨g, 0, none⟩) lp.length rc, .int .i64 ↑lp.length, .bool true, u31, u32, x 0, x 1, x 2, x 3, x 4, x 5, x 6, x 7, x 8, x 9, x 10, x 11, x 12, x 13, x 14, x 15, x 16, x 17, u51, u52, u53, u54, u55, u56, u57, u58, u59, u60, u61, u62, u63, u64, u65, u66, u67, u68, u69, u70, u71, u72, u73, u74, u75, u76, u77, u78], []⟩ ∧ TwoB 18 wr v #[.int .i64 0, .string ⟨#[]⟩, .slice none 0 0] #[.int .i64 sa, .string (B ta), .slice aka ka.length akc] #[.int .i64 sb, .string (B tb), .slice bka kb.length bkc] 56 l' x w') ?hsz ?hend ?hstep ?hgo _ _ _ _ ?h0 ?hc
      case hsz =>
        rintro l' a' w' ⟨x, _, h⟩
        exact h.sz
      case h0 => exact ⟨fun j => [u33, u34, u35, u36, u37, u38, u39, u40, u41, u42, u43, u44, u45, u46, u47, u48, u49, u50, u8, u9].getD j undef, rfl, TwoB.start rfl (Below.refl _ _).drew⟩
      case hc => exact Nat.le_of_eq rfl
      case hgo =>
        rintro l' a' w' ⟨x, rfl, h⟩ hr j hj
        have k0 : l'[0]? = some true := LL_ready hr 0 (by simp) (by rw [h.sz]; rfl) (by simp [Region.binds, Array.getD_eq_getD_getElem?])
        have k1 : l'[1]? = some true := LL_ready hr 1 (by simp) (by rw [h.sz]; rfl) (by simp [Region.binds, Array.getD_eq_getD_getElem?, k0])
        have k2 : l'[2]? = some true := LL_ready hr 2 (by simp) (by rw [h.sz]; rfl) (by simp [Region.binds, Array.getD_eq_getD_getElem?])
        have k3 : l'[3]? = some true := LL_ready hr 3 (by simp) (by rw [h.sz]; rfl) (by simp [Region.binds, Array.getD_eq_getD_getElem?])
        have k4 : l'[4]? = some true := LL_ready hr 4 (by simp) (by rw [h.sz]; rfl) (by simp [Region.binds, Array.getD_eq_getD_getElem?, k2, k3])
        have k5 : l'[5]? = some true := LL_ready hr 5 (by simp) (by rw [h.sz]; rfl) (by simp [Region.binds, Array.getD_eq_getD_getElem?, k4])
        have k6 : l'[6]? = some true := LL_ready hr 6 (by simp) (by rw [h.sz]; rfl) (by simp [Region.binds, Array.getD_eq_getD_getElem?, k5])
        have k7 : l'[7]? = some true := LL_ready hr 7 (by simp) (by rw [h.sz]; rfl) (by simp [Region.binds, Array.getD_eq_getD_getElem?, k1, k6])
        have k8 : l'[8]? = some true := LL_ready hr 8 (by simp) (by rw [h.sz]; rfl) (by simp [Region.binds, Array.getD_eq_getD_getElem?, k7])
        have k9 : l'[9]? = some true := LL_ready hr 9 (by simp) (by rw [h.sz]; rfl) (by simp [Region.binds, Array.getD_eq_getD_getElem?])
        have k10 : l'[10]? = some true := LL_ready hr 10 (by simp) (by rw [h.sz]; rfl) (by simp [Region.binds, Array.getD_eq_getD_getElem?, k9])
        have k11 : l'[11]? = some true := LL_ready hr 11 (by simp) (by rw [h.sz]; rfl) (by simp [Region.binds, Array.getD_eq_getD_getElem?])
        have k12 : l'[12]? = some true := LL_ready hr 12 (by simp) (by rw [h.sz]; rfl) (by simp [Region.binds, Array.getD_eq_getD_getElem?])
        have k13 : l'[13]? = some true := LL_ready hr 13 (by simp) (by rw [h.sz]; rfl) (by simp [Region.binds, Array.getD_eq_getD_getElem?, k11, k12])
        have k14 : l'[14]? = some true := LL_ready hr 14 (by simp) (by rw [h.sz]; rfl) (by simp [Region.binds, Array.getD_eq_getD_getElem?, k13])
        have k15 : l'[15]? = some true := LL_ready hr 15 (by simp) (by rw [h.sz]; rfl) (by simp [Region.binds, Array.getD_eq_getD_getElem?, k14])
        have k16 : l'[16]? = some true := LL_ready hr 16 (by simp) (by rw [h.sz]; rfl) (by simp [Region.binds, Array.getD_eq_getD_getElem?, k10, k15])
        have k17 : l'[17]? = some true := LL_ready hr 17 (by simp) (by rw [h.sz]; rfl) (by simp [Region.binds, Array.getD_eq_getD_getElem?, k16])
        have k18 : l'[18]? = some true := LL_ready hr 18 (by simp) (by rw [h.sz]; rfl) (by simp [Region.binds, Array.getD_eq_getD_getElem?])
        have k19 : l'[19]? = some true := LL_ready hr 19 (by simp) (by rw [h.sz]; rfl) (by simp [Region.binds, Array.getD_eq_getD_getElem?])
        have k20 : l'[20]? = some true := LL_ready hr 20 (by simp) (by rw [h.sz]; rfl) (by simp [Region.binds, Array.getD_eq_getD_getElem?, k0, k1, k2, k3, k4, k5, k6, k7, k8, k9, k10, k11, k12, k13, k14, k15, k16, k17, k18, k19])
        have k21 : l'[21]? = some true := LL_ready hr 21 (by simp) (by rw [h.sz]; rfl) (by simp [Region.binds, Array.getD_eq_getD_getElem?, k0, k1, k2, k3, k4, k5, k6, k7, k8, k9, k10, k11, k12, k13, k14, k15, k16, k17, k18, k19, k20])
        have hj : j < 22 := by simpa using hj
        rcases (by omega : j = 0 ∨ j = 1 ∨ j = 2 ∨ j = 3 ∨ j = 4 ∨ j = 5 ∨ j = 6 ∨ j = 7 ∨ j = 8 ∨ j = 9 ∨ j = 10 ∨ j = 11 ∨ j = 12 ∨ j = 13 ∨ j = 14 ∨ j = 15 ∨ j = 16 ∨ j = 17 ∨ j = 18 ∨ j = 19 ∨ j = 20 ∨ j = 21) with rfl | rfl | rfl | rfl | rfl | rfl | rfl | rfl | rfl | rfl | rfl | rfl | rfl | rfl | rfl | rfl | rfl | rfl | rfl | rfl | rfl | rfl
        all_goals assumption
      case hstep =>
        rintro l' a' w' j ⟨x, rfl, h⟩ hi
        have hi2 := hi
        unfold Region.ready at hi2
        rw [List.mem_filter] at hi2
        obtain ⟨hjj, hi3⟩ := hi2
        have hjj : j < 22 := by simpa using hjj
        have hjl : ¬ LL l' j := fun e => by
          unfold LL at e
          simp [Array.getD_eq_getD_getElem?, e] at hi3
        clear hi
        obtain ⟨g0, g1, x0, x1, x2, y0, y1, y2, qa, qb, pc⟩ := unhide HALL
        have g0 := cell_below h.bl g0
        have g1 := cell_below h.bl g1
        have x0 := cell_below h.bl x0
        have x1 := cell_below h.bl x1
        have x2 := cell_below h.bl x2
        have y0 := cell_below h.bl y0
        have y1 := cell_below h.bl y1
        have y2 := cell_below h.bl y2
        have qa := cell_below h.bl qa
        have qb := cell_below h.bl qb
        have pc := cell_below h.bl pc
        rcases (by omega : j = 0 ∨ j = 1 ∨ j = 2 ∨ j = 3 ∨ j = 4 ∨ j = 5 ∨ j = 6 ∨ j = 7 ∨ j = 8 ∨ j = 9 ∨ j = 10 ∨ j = 11 ∨ j = 12 ∨ j = 13 ∨ j = 14 ∨ j = 15 ∨ j = 16 ∨ j = 17 ∨ j = 18 ∨ j = 19 ∨ j = 20 ∨ j = 21) with rfl | rfl | rfl | rfl | rfl | rfl | rfl | rfl | rfl | rfl | rfl | rfl | rfl | rfl | rfl | rfl | rfl | rfl | rfl | rfl | rfl | rfl
        · clear hi3
          refine wpOpIn_step rfl (fun K hK => ?_)
          go_simp
          exact hK _ _ ⟨_, by simp [v0], h.next 0 (by omega) hjl (v 0) (Below.refl _ _) (fun _ => rfl) (fun e => by omega)⟩
        · have l0 : LL l' 0 := LL_of (by simp [Region.binds, Array.getD_eq_getD_getElem?] at hi3; simp [hi3])
          clear hi3
          have w0 := (h.val 0 (by omega) l0).trans v0
          refine wpOpIn_step rfl (fun K hK => ?_)
          go_simp
          exact hK _ _ ⟨_, by simp [w0, v1], h.next 1 (by omega) hjl (v 1) (Below.refl _ _) (fun _ => rfl) (fun e => by omega)⟩
        · clear hi3
          refine wpOpIn_step rfl (fun K hK => ?_)
          go_simp
          exact hK _ _ ⟨_, by simp [v2], h.next 2 (by omega) hjl (v 2) (Below.refl _ _) (fun _ => rfl) (fun e => by omega)⟩
        · clear hi3
          refine wpOpIn_step rfl (fun K hK => ?_)
          go_simp
          exact hK _ _ ⟨_, by simp [v3], h.next 3 (by omega) hjl (v 3) (Below.refl _ _) (fun _ => rfl) (fun e => by omega)⟩
        · have l2 : LL l' 2 := LL_of (by simp [Region.binds, Array.getD_eq_getD_getElem?] at hi3; simp [hi3])
          have l3 : LL l' 3 := LL_of (by simp [Region.binds, Array.getD_eq_getD_getElem?] at hi3; simp [hi3])
          clear hi3
          have w2 := (h.val 2 (by omega) l2).trans v2
          have w3 := (h.val 3 (by omega) l3).trans v3
          refine wpOpIn_step rfl (fun K hK => ?_)
          go_simp
          exact hK _ _ ⟨_, by simp [w2, w3, v4], h.next 4 (by omega) hjl (v 4) (Below.refl _ _) (fun _ => rfl) (fun e => by omega)⟩
        · have l4 : LL l' 4 := LL_of (by simp [Region.binds, Array.getD_eq_getD_getElem?] at hi3; simp [hi3])
          clear hi3
          have w4 := (h.val 4 (by omega) l4).trans v4
          refine wpOpIn_step rfl (fun K hK => ?_)
          go_simp
          exact hK _ _ ⟨_, by simp [w4, v5], h.next 5 (by omega) hjl (v 5) (Below.refl _ _) (fun _ => rfl) (fun e => by omega)⟩
        · have l5 : LL l' 5 := LL_of (by simp [Region.binds, Array.getD_eq_getD_getElem?] at hi3; simp [hi3])
          clear hi3
          have w5 := (h.val 5 (by omega) l5).trans v5
          refine wpOpIn_step rfl (fun K hK => ?_)
          go_simp
          exact hK _ _ ⟨_, by simp [w5, v6], h.next 6 (by omega) hjl (v 6) (Below.refl _ _) (fun _ => rfl) (fun e => by omega)⟩
        · have l1 : LL l' 1 := LL_of (by simp [Region.binds, Array.getD_eq_getD_getElem?] at hi3; simp [hi3])
          have l6 : LL l' 6 := LL_of (by simp [Region.binds, Array.getD_eq_getD_getElem?] at hi3; simp [hi3])
          clear hi3
          have w1 := (h.val 1 (by omega) l1).trans v1
          have w6 := (h.val 6 (by omega) l6).trans v6
          refine wpOpIn_step rfl (fun K hK => ?_)
          go_simp
          exact hK _ _ ⟨_, by simp [w1, w6, v7], h.next 7 (by omega) hjl (v 7) (Below.refl _ _) (fun _ => rfl) (fun e => by omega)⟩
        · have l7 : LL l' 7 := LL_of (by simp [Region.binds, Array.getD_eq_getD_getElem?] at hi3; simp [hi3])
          clear hi3
          have w7 := (h.val 7 (by omega) l7).trans v7
          refine wpOpIn_step rfl (fun K hK => ?_)
          go_simp
          exact hK _ _ ⟨_, by simp [w7, v8], h.next 8 (by omega) hjl (v 8) (Below.refl _ _) (fun _ => rfl) (fun e => by omega)⟩
        · clear hi3
          refine wpOpIn_step rfl (fun K hK => ?_)
          go_simp
          exact hK _ _ ⟨_, by simp [v9], h.next 9 (by omega) hjl (v 9) (Below.refl _ _) (fun _ => rfl) (fun e => by omega)⟩
        · have l9 : LL l' 9 := LL_of (by simp [Region.binds, Array.getD_eq_getD_getElem?] at hi3; simp [hi3])
          clear hi3
          have w9 := (h.val 9 (by omega) l9).trans v9
          refine wpOpIn_step rfl (fun K hK => ?_)
          go_simp
          exact hK _ _ ⟨_, by simp [w9, v10], h.next 10 (by omega) hjl (v 10) (Below.refl _ _) (fun _ => rfl) (fun e => by omega)⟩
        · clear hi3
          refine wpOpIn_step rfl (fun K hK => ?_)
          go_simp
          exact hK _ _ ⟨_, by simp [v11], h.next 11 (by omega) hjl (v 11) (Below.refl _ _) (fun _ => rfl) (fun e => by omega)⟩
        · clear hi3
          refine wpOpIn_step rfl (fun K hK => ?_)
          go_simp
          exact hK _ _ ⟨_, by simp [v12], h.next 12 (by omega) hjl (v 12) (Below.refl _ _) (fun _ => rfl) (fun e => by omega)⟩
        · have l11 : LL l' 11 := LL_of (by simp [Region.binds, Array.getD_eq_getD_getElem?] at hi3; simp [hi3])
          have l12 : LL l' 12 := LL_of (by simp [Region.binds, Array.getD_eq_getD_getElem?] at hi3; simp [hi3])
          clear hi3
          have w11 := (h.val 11 (by omega) l11).trans v11
          have w12 := (h.val 12 (by omega) l12).trans v12
          refine wpOpIn_step rfl (fun K hK => ?_)
          go_simp
          exact hK _ _ ⟨_, by simp [w11, w12, v13], h.next 13 (by omega) hjl (v 13) (Below.refl _ _) (fun _ => rfl) (fun e => by omega)⟩
        · have l13 : LL l' 13 := LL_of (by simp [Region.binds, Array.getD_eq_getD_getElem?] at hi3; simp [hi3])
          clear hi3
          have w13 := (h.val 13 (by omega) l13).trans v13
          refine wpOpIn_step rfl (fun K hK => ?_)
          go_simp
          exact hK _ _ ⟨_, by simp [w13, v14], h.next 14 (by omega) hjl (v 14) (Below.refl _ _) (fun _ => rfl) (fun e => by omega)⟩
        · have l14 : LL l' 14 := LL_of (by simp [Region.binds, Array.getD_eq_getD_getElem?] at hi3; simp [hi3])
          clear hi3
          have w14 := (h.val 14 (by omega) l14).trans v14
          refine wpOpIn_step rfl (fun K hK => ?_)
          go_simp
          exact hK _ _ ⟨_, by simp [w14, v15], h.next 15 (by omega) hjl (v 15) (Below.refl _ _) (fun _ => rfl) (fun e => by omega)⟩
        · have l10 : LL l' 10 := LL_of (by simp [Region.binds, Array.getD_eq_getD_getElem?] at hi3; simp [hi3])
          have l15 : LL l' 15 := LL_of (by simp [Region.binds, Array.getD_eq_getD_getElem?] at hi3; simp [hi3])
          clear hi3
          have w10 := (h.val 10 (by omega) l10).trans v10
          have w15 := (h.val 15 (by omega) l15).trans v15
          refine wpOpIn_step rfl (fun K hK => ?_)
          go_simp
          exact hK _ _ ⟨_, by simp [w10, w15, v16], h.next 16 (by omega) hjl (v 16) (Below.refl _ _) (fun _ => rfl) (fun e => by omega)⟩
        · have l16 : LL l' 16 := LL_of (by simp [Region.binds, Array.getD_eq_getD_getElem?] at hi3; simp [hi3])
          clear hi3
          have w16 := (h.val 16 (by omega) l16).trans v16
          refine wpOpIn_step rfl (fun K hK => ?_)
          go_simp
          exact hK _ _ ⟨_, by simp [w16, v17], h.next 17 (by omega) hjl (v 17) (Below.refl _ _) (fun _ => rfl) (fun e => by omega)⟩
        · clear hi3
          refine wpOpIn_step rfl (fun K hK => ?_)
          go_simp
          exact hK _ _ ⟨_, by simp, h.next 18 (by omega) hjl (.pointer (some ⟨w'.heap.size, 0, none⟩)) (step_a (Below.refl _ _) (.cells #[.int .i64 0, .string ⟨#[]⟩, .slice none 0 0] 56)) (fun e => by omega) (fun _ => ⟨rfl, AtC.new _ _ _⟩)⟩
        · clear hi3
          refine wpOpIn_step rfl (fun K hK => ?_)
          go_simp
          exact hK _ _ ⟨_, by simp, h.next 19 (by omega) hjl (.pointer (some ⟨w'.heap.size, 0, none⟩)) (step_a (Below.refl _ _) (.cells #[.int .i64 0, .string ⟨#[]⟩, .slice none 0 0] 56)) (fun e => by omega) (fun _ => ⟨rfl, AtC.new _ _ _⟩)⟩
        · have l8 : LL l' 8 := LL_of (by simp [Region.binds, Array.getD_eq_getD_getElem?] at hi3; simp [hi3])
          have l18 : LL l' 18 := LL_of (by simp [Region.binds, Array.getD_eq_getD_getElem?] at hi3; simp [hi3])
          clear hi3
          have w8 := (h.val 8 (by omega) l8).trans v8
          obtain ⟨gg, e5, hM, hn⟩ := h.put1 hjl l18
          have m0 := hM.c 0
          have m1 := hM.c 1
          have m2 := hM.c 2
          have mf := hM.f
          simp only [List.getElem?_toArray, List.getElem?_cons_zero, List.getElem?_cons_succ] at m0 m1 m2
          have HN := hide hn
          clear hM hn
          refine wpOpIn_step rfl (fun K hK => ?_)
          go_simp
          exact hK _ _ ⟨_, by simp [w8, e5], unhide HN⟩
        · have l17 : LL l' 17 := LL_of (by simp [Region.binds, Array.getD_eq_getD_getElem?] at hi3; simp [hi3])
          have l19 : LL l' 19 := LL_of (by simp [Region.binds, Array.getD_eq_getD_getElem?] at hi3; simp [hi3])
          clear hi3
          have w17 := (h.val 17 (by omega) l17).trans v17
          obtain ⟨gg, e5, hM, hn⟩ := h.put2 hjl l19
          have m0 := hM.c 0
          have m1 := hM.c 1
          have m2 := hM.c 2
          have mf := hM.f
          simp only [List.getElem?_toArray, List.getElem?_cons_zero, List.getElem?_cons_succ] at m0 m1 m2
          have HN := hide hn
          clear hM hn
          refine wpOpIn_step rfl (fun K hK => ?_)
          go_simp
          exact hK _ _ ⟨_, by simp [w17, e5], unhide HN⟩
      case hend =>
      --ENDREGION7
        rintro l' a' w' ⟨x, rfl, h⟩ hall
        obtain ⟨b8, b9, e1, e2, hg8, hg9, A8, A9, hbl⟩ := h.done (hall 20 (by simp)) (hall 21 (by simp))
        rw [e1, e2]
        have hst := Steps.below (B := w.heap.size) (unhide HK).size hbl
        have HK1 := hide ((unhide HK).steps hst)
        have HM1 := hide ((unhide HM).below hbl)
        have hJ1 := hst.tr J (L.take i) (unhide HJ) (unhide HJi)
        have hLi := pre_get (unhide HLS).pre (unhide HPI)
        have htk : L.take i ++ [(pa, pb)] = L.take (i + 1) := by rw [List.take_add_one, hLi]; rfl
        have hyy := (unhide HY0) (L.take i) (pa, pb) w' hJ1 (by rw [htk]; exact List.take_prefix _ _)
        simp only at hyy
        rw [unhide HVA, unhide HVB, htk] at hyy
        obtain ⟨fn, tmps, assign, body, hyr, hR⟩ := hyy
        have m0 := A8.c 0
        have m1 := A8.c 1
        have m2 := A8.c 2
        have n0 := A9.c 0
        have n1 := A9.c 1
        have n2 := A9.c 2
        simp only [List.getElem?_toArray, List.getElem?_cons_zero, List.getElem?_cons_succ] at m0 m1 m2 n0 n1 n2
        have HA8 := hide A8
        have HA9 := hide A9
        clear h hall hst hJ1 hLi htk A8 A9 hbl HALL HK HM HJi v0 v1 v2 v3 v4 v5 v6 v7 v8 v9 v10 v11 v12 v13 v14 v15 v16 v17 g0 g1 x0 x1 x2 y0 y1 y2 qa qb pc
        gi_wp2_with fail
        refine hR.mono ?_
        rintro e W8 (⟨rfl, hJ8, hk8⟩ | ⟨rfl, hJx8⟩)
        · have HK8 := hide ((unhide HK1).trans hk8)
          have HM8 := hide ((unhide HM1).kc hk8)
          have HB8 := hide ((unhide HA8).kc hk8)
          have HB9 := hide ((unhide HA9).kc hk8)
          have HJ8 := hide hJ8
          have p2 := (unhide HB8).c 2
          have q2 := (unhide HB9).c 2
          simp only [List.getElem?_toArray, List.getElem?_cons_zero, List.getElem?_cons_succ] at p2 q2
          clear hk8 hJ8 m0 m1 m2 n0 n1 n2 HA8 HA9 HM1 HK1 hyr hR
          obtain ⟨zl, hzl⟩ : ∃ z, (ka.zip kb).length = z := ⟨_, rfl⟩
          have hz : min (ka.length : Int) (kb.length : Int) = (zl : Int) := by rw [← hzl, List.length_zip]; omega
          have HZL := hide hzl
          clear hzl
          gi_wp2_with fail
          gi_loopw [63] (fun kv wr2 => ∃ (k : Nat) (lq : List (Int × Int)), k ≤ zl ∧ kv = .int .i64 k ∧ Hid (lq = nxtP lp ((ka.zip kb).take k)) ∧ Hid (MeetS wr2 w.heap.size w.heap.size (w.heap.size + 1) (w.heap.size + 1 + 1 + 1) ms.length nm lq) ∧ Hid (J (L.take (i + 1)) wr2) ∧ Hid (KC w wr2) ∧ Hid (AtC wr2 b8 #[.int .i64 sa, .string (B ta), .slice aka ka.length akc] 56) ∧ Hid (AtC wr2 b9 #[.int .i64 sb, .string (B tb), .slice bka kb.length bkc] 56))
            (fun kv _ => zl - (intOf kv).toNat)
          case atStart => exact ⟨0, lp, by omega, rfl, hide rfl, HM8, HJ8, HK8, HB8, HB9⟩
          case round =>
            clear HM8 HJ8 HK8 HB8 HB9 p2 q2
            obtain ⟨k, lq, hkz, rfl, HLQ, HM, HJk, HK, HB8, HB9⟩ := hrel
            by_cases hkl : k < zl
            · have HKL : Hid (k + 1 ≤ zl ∧ zl - (k + 1) < zl - k) := hide ⟨by omega, by omega⟩
              have hzz := unhide HZL
              rw [List.length_zip] at hzz
              have hk9 : k < 9223372036854775807 := by
                have h1 := ak2
                unfold maxLen at h1
                omega
              obtain ⟨px, hpx⟩ : ∃ z, ka[k]? = some z := ⟨_, List.getElem?_eq_getElem (by omega)⟩
              obtain ⟨py, hpy⟩ : ∃ z, kb[k]? = some z := ⟨_, List.getElem?_eq_getElem (by omega)⟩
              have hkid : kidsP ns ms pa pb = ka.zip kb := by unfold kidsP; rw [ndI_get (unhide HNA), ndI_get (unhide HNB)]
              have hzk : (ka.zip kb)[k]? = some (px, py) := by rw [List.getElem?_zip_eq_some]; exact ⟨hpx, hpy⟩
              have hinn := fun z hz => kidsP_in (unhide HOK).1 (unhide HOK).2 pa pb ((unhide HL).2 _ (List.mem_of_getElem? (unhide HPI))) z hz
              rw [hkid] at hinn
              have HIN := hide (hinn _ (List.mem_of_getElem? hzk))
              have hok := nxtP_ok (unhide HL).1 (unhide HL).2 (ks := (ka.zip kb).take k) (fun z hz => hinn z (List.mem_of_mem_take hz))
              rw [← unhide HLQ] at hok
              have hlq : lq.length ≤ 6400 := by have := pairs_few hok.1 hok.2.1; rw [unhide HNM] at this; omega
              have HNX : Hid ((if (px, py) ∈ lq then lq else lq ++ [(px, py)]) = nxtP lp ((ka.zip kb).take (k + 1))) := hide (by rw [nxt_take hzk, ← unhide HLQ])
              obtain ⟨kb1, ko1, rfl, _, c1⟩ := ((unhide HKA).kc (unhide HK)).cell hpx
              obtain ⟨kb2, ko2, rfl, _, c2⟩ := ((unhide HKB).kc (unhide HK)).cell hpy
              have p2 := (unhide HB8).c 2
              have q2 := (unhide HB9).c 2
              have qb := ((unhide HB).kc (unhide HK)).c 0
              simp only [List.getElem?_toArray, List.getElem?_cons_zero, List.getElem?_cons_succ] at p2 q2 qb
              have hka : k < ka.length := by omega
              have hkb : k < kb.length := by omega
              have HMC : Hid (∀ W, Below wr.heap.size wr W → Calls Tryz.prog 98 #[.int .i64 px, .int .i64 py, .pointer (some ⟨bB, 0, none⟩), .pointer (some ⟨w.heap.size + 1, 0, none⟩), .pointer (some ⟨w.heap.size + 1 + 1 + 1, 0, none⟩)] W fun e W' => (∃ v, e = .returned v) ∧ Steps w.heap.size W W' ∧ MeetS W' w.heap.size w.heap.size (w.heap.size + 1) (w.heap.size + 1 + 1 + 1) ms.length nm (if (px, py) ∈ lq then lq else lq ++ [(px, py)]) ∧ ∀ b cs, AtC W b cs 56 → AtC W' b cs 56) := hide (fun W hb => by
                have hm := (unhide HM).below hb
                rw [← unhide HNM] at hm ⊢
                exact meet_c px py ns.length ms.length w.heap.size bB w.heap.size (w.heap.size + 1) (w.heap.size + 1 + 1 + 1) yc (some ⟨yb, yo, none⟩) lq W (unhide HIN) hl1 hl2 hlq (cell_below hb qb) hm (Nat.le_trans (unhide HK).size hb.size))
              clear hzz hpx hpy hkid hzk hinn hok hlq qb HLQ
              gi_wp2_with fail
              gi_region_with ((refine ⟨trivial, (callsIn_wide.2 (unhide HMC wr.drew (Below.refl _ _).drew)).mono ?_⟩; rintro e w9 ⟨⟨v9, rfl⟩, hs9, hm9, hf9⟩; have HS9 := hide hs9; have HM9 := hide hm9; have HF9 := hide hf9; clear hs9 hm9 hf9))
              all_goals
                have hst := (Steps.below (unhide HK).size (Below.refl wr.heap.size wr).drew).trans (unhide HS9)
                have HK9 := hide ((unhide HK).steps hst)
                have HJ9 := hide (hst.tr J _ (unhide HJ) (unhide HJk))
                have HC8 := hide (unhide HF9 _ _ ((unhide HB8).below (Below.refl wr.heap.size wr).drew))
                have HC9 := hide (unhide HF9 _ _ ((unhide HB9).below (Below.refl wr.heap.size wr).drew))
                have hm9 := unhide HM9
                rw [unhide HNX] at hm9
                have HM9' := hide hm9
                clear hst hm9
                gi_wp2_with fail
                exact ⟨⟨_, _, (unhide HKL).1, by go_num, hide rfl, HM9', HJ9, HK9, HC8, HC9⟩, by have := (unhide HKL).2; simpa [intOf] using this⟩
            · obtain rfl : k = zl := by omega
              have hkid : kidsP ns ms pa pb = ka.zip kb := by unfold kidsP; rw [ndI_get (unhide HNA), ndI_get (unhide HNB)]
              have hq : lq = nxtP lp (kidsP ns ms pa pb) := by rw [unhide HLQ, hkid, List.take_of_length_le (by rw [unhide HZL]; exact Nat.le_refl _)]
              have hok := nxtP_ok (unhide HL).1 (unhide HL).2 (ks := kidsP ns ms pa pb) (fun z hz => kidsP_in (unhide HOK).1 (unhide HOK).2 pa pb ((unhide HL).2 _ (List.mem_of_getElem? (unhide HPI))) z hz)
              have hF2 := (unhide HLS).next (unhide HPI)
              have hlen : i + 1 ≤ (nxtP lp (kidsP ns ms pa pb)).length := by
                obtain ⟨r, hr⟩ := hok.2.2
                rw [hr, List.length_append]; omega
              rw [← hq] at hok hF2 hlen
              have HL2 := hide (And.intro hok.1 hok.2.1)
              have HF2 := hide hF2
              clear hkid hq hok hF2
              gi_wp2_with fail
              exact ⟨⟨lq, i + 1, hlen, by go_num, HM, HJk, HK, HL2, HF2⟩, by simp [intOf]; omega⟩
        · have HJX := hide hJx8
          clear hJx8
          gi_wp2_with fail
          refine bodyPost_ret (results_none rfl _ _ _) rfl ?_
          exact ⟨⟨_, rfl⟩, .inr ⟨_, List.take_prefix _ _, unhide HJX⟩⟩
    · obtain rfl : i = lp.length := by omega
      have e := (unhide HLS).done
      subst e
      have hj := unhide HJi
      rw [List.take_of_length_le (Nat.le_refl _)] at hj
      have HJL := hide hj
      clear hj HJi hpv hrow hil hll
      gi_wp2_with fail
      go_end0
      exact ⟨⟨_, rfl⟩, .inl (unhide HJL)⟩
end Go.Proofs.YtpbnmhnbkfnaeaaGreatDoor
/- tabCompared. -/
namespace Go.Proofs.YtpbnmhnbkfnaeaaGreatDoor
open Go.RowKit Nt

theorem tabCompared_c (s t : Value) (a b : Int) (p q : Option Addr) (l r c d : Nat) (hs : s = .slice p l c) (ht : t = .slice q r d) (w : World) :
    Calls Tryz.prog 61 #[.agg #[s, .int .i64 a], .agg #[t, .int .i64 b]] w fun e w' => e = .returned (.func (.func 97) #[] #[.pointer (some ⟨w.heap.size, 0, none⟩), .pointer (some ⟨w.heap.size + 1, 0, none⟩)]) ∧ w' = (w.alloc (.cells #[s, .int .i64 a] 52)).alloc (.cells #[t, .int .i64 b] 52) := by
  subst hs
  subst ht
  go_enter Tryz.func61, Tryz.ntmps61
  go_wp2_with fail
  go_ret
  exact ⟨rfl, rfl⟩
end Go.Proofs.YtpbnmhnbkfnaeaaGreatDoor
/- Marks that loops over iterators leave on a call: taken up at its end. -/
namespace Go.Proofs.YtpbnmhnbkfnaeaaGreatDoor
open Go.RowKit Go.Shelf Nt

def markD (D : Nat) : Deferred := { target := .collected D, args := #[] }
/-- blocks of cells lie as they lay -/
structure Still (B : Nat) (w w' : World) : Prop where
  below : Below B w w'
  cells : ∀ (k : Nat) (o : Obj), w.heap[k]? = some o → o.isCells = true → w'.heap[k]? = some o
theorem Still.refl (B : Nat) (w : World) : Still B w w := ⟨Below.refl _ _, fun _ _ h _ => h⟩
theorem Still.trans {B : Nat} {a b c : World} (h : Still B a b) (k : Still B b c) : Still B a c := ⟨h.below.trans k.below, fun i o hi ho => k.cells i o (h.cells i o hi ho) ho⟩
theorem Still.kept {B : Nat} {w w' : World} (h : Still B w w') : Kept (fun b => ∃ o : Obj, w.heap[b]? = some o ∧ o.isCells = false) w w' :=
  ⟨h.below.os, h.below.tape, h.below.output, h.below.size, fun b hb hn => by
    have e := Array.getElem?_eq_getElem hb
    cases hc : (w.heap[b]'hb).isCells with
    | true => rw [h.cells b _ e hc, e]
    | false => exact absurd ⟨_, e, hc⟩ hn⟩
theorem Still.cell {B : Nat} {w w' : World} (h : Still B w w') {a : Addr} {v : Value} (hc : w.cell? a = some v) : w'.cell? a = some v := by
  obtain ⟨o, ho, hk⟩ := cells_of_cell hc
  have := h.cells _ o ho hk
  rw [World.cell?_of_block (this.trans ho.symm)]; exact hc
theorem Still.put {B : Nat} {w : World} {D : Nat} {o o' : Obj} (hB : B ≤ D) (h : w.heap[D]? = some o) (ho : o.isCells = false) : Still B w (w.putObj D o') :=
  ⟨⟨rfl, rfl, rfl, by simp, fun k hk => World.putObj_heap_other (by omega)⟩, fun k p hk hp => by
    have hne : k ≠ D := fun e => by subst e; rw [h] at hk; cases hk; rw [ho] at hp; cases hp
    rw [World.putObj_heap_other hne]; exact hk⟩

/-- marks: each at a block of its own, from B on, without deferred calls -/
structure Marks (B : Nat) (w : World) (Ds : List Nat) : Prop where
  nodup : Ds.Nodup
  at' : ∀ D ∈ Ds, B ≤ D ∧ w.heap[D]? = some (.deferred (some []))
theorem Marks.nil (B : Nat) (w : World) : Marks B w [] := ⟨List.nodup_nil, fun D h => by simp at h⟩
theorem Marks.cons {B : Nat} {w : World} {Ds : List Nat} {D : Nat} (h : Marks B w Ds) (hB : B ≤ D) (hD : w.heap[D]? = some (.deferred (some []))) (hn : D ∉ Ds) : Marks B w (D :: Ds) :=
  ⟨List.nodup_cons.2 ⟨hn, h.nodup⟩, fun d hd => by rcases List.mem_cons.1 hd with rfl | hd; exact ⟨hB, hD⟩; exact h.at' d hd⟩
theorem Marks.keeps {B C : Nat} {w w' : World} {Ds : List Nat} (h : Marks B w Ds) (k : KeepsFrom C w w') (hC : C ≤ B) : Marks B w' Ds :=
  ⟨h.nodup, fun D hD => ⟨(h.at' D hD).1, k.same D _ (Nat.le_trans hC (h.at' D hD).1) (h.at' D hD).2 rfl⟩⟩
theorem Marks.lt {B : Nat} {w : World} {Ds : List Nat} (h : Marks B w Ds) {D : Nat} (hD : D ∈ Ds) : D < w.heap.size := (Array.getElem?_eq_some_iff.1 (h.at' D hD).2).1
theorem Marks.fresh {B : Nat} {w : World} {Ds : List Nat} (h : Marks B w Ds) {D : Nat} (hD : w.heap.size ≤ D) : D ∉ Ds := fun hm => by have := h.lt hm; omega
theorem Marks.kept {B : Nat} {S : Nat → Prop} {w w' : World} {Ds : List Nat} (h : Marks B w Ds) (k : Kept S w w') (hS : ∀ D ∈ Ds, ¬ S D) : Marks B w' Ds :=
  ⟨h.nodup, fun D hD => ⟨(h.at' D hD).1, (k.block D (h.lt hD) (hS D hD)).trans (h.at' D hD).2⟩⟩
theorem Marks.below {B : Nat} {w w' : World} {Ds : List Nat} (h : Marks B w Ds) (k : Below w.heap.size w w') : Marks B w' Ds :=
  ⟨h.nodup, fun D hD => ⟨(h.at' D hD).1, (k.block D (h.lt hD)).trans (h.at' D hD).2⟩⟩

theorem leaves_marks {F : Fence} {n : Nat} {P : Program} {fn : Func} {tmps : Array Value} {R : Ending → World → Prop} (B : Nat) :
    ∀ (Ds : List Nat) (w : World), Marks B w Ds → (∀ w', Still B w w' → LeavesInM F n P fn tmps R [] .returning w') → LeavesInM F n P fn tmps R (Ds.map markD) .returning w
  | [], w, _, h => h w (Still.refl B w)
  | D :: Ds, w, hm, h => by
    have h0 := hm.at' D (by simp)
    have hnd := List.nodup_cons.1 hm.nodup
    refine ⟨by simp, .inl ⟨D, _, rfl, run_takeDeferred h0.2, ?_⟩⟩
    have hs : Still B w (w.putObj D (.deferred none)) := Still.put h0.1 h0.2 rfl
    refine leaves_marks B Ds _ ⟨hnd.2, fun d hd => ⟨(hm.at' d (by simp [hd])).1, ?_⟩⟩ (fun w' hw => h w' (hs.trans hw))
    rw [World.putObj_heap_other (fun e => hnd.1 (by rw [← e]; exact hd))]
    exact (hm.at' d (by simp [hd])).2
theorem ownFrom_kept {β : Type} {B : Nat} {S : Nat → Prop} {w₀ : World} (hB : w₀.heap.size ≤ B) : OwnFrom B (fun (_ : β) W => Kept S w₀ W) :=
  fun _ X Y row hs hg hr => ⟨hg.os.trans hs.os, hg.tape.trans hs.tape, hg.output.trans hs.output, Nat.le_trans hs.size hg.size, fun b hb hn => by
    refine (hg.block b (Nat.lt_of_lt_of_le hb hs.size) (fun e => ?_)).trans (hs.block b hb hn)
    have := (hr b e.symm).1
    omega⟩
theorem keepsOthers_below {W W' : World} (h : Below W.heap.size W W') : KeepsOthers W W' := ⟨h.size, fun k _ hk _ => (h.block k (Array.getElem?_eq_some_iff.1 hk).1).trans hk⟩
theorem still_boxed {B b : Nat} {w w' : World} {t : TypeId} {v : Value} (h : Still B w w') (hb : Boxed w b t v) : Boxed w' b t v := h.cells b _ hb rfl
theorem boxed_kept {S : Nat → Prop} {w w' : World} {b : Nat} {t : TypeId} {v : Value} (h : Boxed w b t v) (k : Kept S w w') (hS : ¬ S b) : Boxed w' b t v := (k.block b h.lt hS).trans h
theorem boxed_below {w w' : World} {b : Nat} {t : TypeId} {v : Value} (h : Boxed w b t v) (k : Below w.heap.size w w') : Boxed w' b t v := (k.block b h.lt).trans h
end Go.Proofs.YtpbnmhnbkfnaeaaGreatDoor
/- A range over a function whose iterator keeps cells of its own and whose variables are boxed (the assigning makes memory). -/
namespace Go.Proofs.YtpbnmhnbkfnaeaaGreatDoor
open Go.RowKit Nt

variable {F : Fence} {n : Nat} {P : Program}
theorem wpIn_range_boxes {α : Type} {g : Operand} {ps : Array Tmp} {assign body : Code} {Q : Exit → Act → World → Prop} {a : Act} {w : World}
    (hro : F.round = none) (h1 : 1 ≤ n) {gf : Nat} {lb : Array Value} (hg : a.eval g = .func (.func gf) #[] lb) (hFg : F.fn gf) (eg : ∀ args w, (callFunc gf args).run P w = .ok (.enter gf args) w)
    {encs : α → Array Value} {L : List α} (hseq : SeqC F (n - 1) P gf lb encs L w) (hps : ∀ x, (encs x).size = ps.size)
    (I Ix : List α → World → Prop) (hI : Turns w.heap.size I) (hIx : Turns w.heap.size Ix) (h0 : I [] w) (Asg : α → World → Act → World → Prop) (hA : ∀ {x W a1 W1}, Asg x W a1 W1 → Below W.heap.size W W1)
    (hassign : ∀ (l : Nat) (x : α), x ∈ L → ∀ (W : World) (K : Act → World → Prop), (∀ a1 W1, Asg x W a1 W1 → K a1 W1) →
      assign.wpIn (F.inRound l) (n - 1 - 1) P (Exit.then K (fun _ _ _ => False)) { tmps := (ps.zip (encs x)).foldl (fun t (p, v) => t.setIfInBounds p v) a.tmps, defers := [] } W)
    (hbody : ∀ (l : Nat) (pre : List α) (x : α) (W W1 W2 : World) (a1 : Act), Asg x W a1 W1 → KC W1 W2 → I pre W2 → (pre ++ [x]) <+: L → body.wpIn (F.inRound l) (n - 1 - 1) P (LeftC w.heap.size I Ix (pre ++ [x]) W2) a1 W2)
    (hdone : ∀ (D : Nat) (W : World), w.heap.size ≤ D → I L W → W.heap[D]? = some (.deferred (some [])) → Q .normal { a with defers := { target := .collected D, args := #[] } :: a.defers } W)
    (hstop : ∀ (D : Nat) (pre : List α) (W : World), w.heap.size ≤ D → pre <+: L → Ix pre W → W.heap[D]? = some (.deferred (some [])) → Code.ret.wpIn F n P Q { a with defers := { target := .collected D, args := #[] } :: a.defers } W) :
    (Code.rangeFunc g ps assign body).wpIn F n P Q a w := by
  refine wpIn_rangeFunc (fun fn hfn => ?_)
  rw [hro]
  obtain ⟨R, hR⟩ : ∃ R : LoopState → Option Code → Loop, ∀ s p, R s p = { state := s, pending := p, fn, tmps := a.tmps, params := ps, assign, body, defers := w.heap.size } := ⟨_, fun _ _ => rfl⟩
  have hne : w.heap.size ≠ w.heap.size + 1 := by omega
  have hrec : Recs ((w.alloc (.deferred (some []))).alloc (.loop (R .ready none))) w.heap.size (w.heap.size + 1) (R .ready none) := by
    refine ⟨?_, (Below.heap_alloc _ _ _ (by simp)).trans (World.alloc_heap_new w _)⟩
    have h := World.alloc_heap_new (w.alloc (.deferred (some []))) (.loop (R .ready none))
    rwa [World.size_alloc] at h
  have hin : I [] ((w.alloc (.deferred (some []))).alloc (.loop (R .ready none))) := hI.new (hI.new h0 _) _
  have hbel := step_a (step_a (Below.refl w.heap.size w) (.deferred (some []))) (.loop (R .ready none))
  have hent : (Instr.enterLoop fn a.tmps ps assign body none).run P w = .ok (w.heap.size + 1, [{ target := .collected w.heap.size, args := #[] }]) ((w.alloc (.deferred (some []))).alloc (.loop (R .ready none))) := by
    rw [hR]; exact run_enterLoop_outer _ _ _ _ _
  have hsz : w.heap.size + 2 = ((w.alloc (.deferred (some []))).alloc (.loop (R .ready none))).heap.size := by simp
  obtain ⟨W1, hW1⟩ : ∃ W1, (w.alloc (.deferred (some []))).alloc (.loop (R .ready none)) = W1 := ⟨_, rfl⟩
  rw [hW1] at hrec hin hbel hent hsz
  have turn : ∀ {β : Type} {K : β → World → Prop}, Turns w.heap.size K → TurnsC W1.heap.size K := fun hK s A B row hs hg' hr => hK s A B row hs hg' (fun r e => by have := (hr r e).1; omega)
  refine ⟨w.heap.size + 1, _, W1, { target := .fn (.func gf) lb, args := #[.func (.yield (w.heap.size + 1)) #[] #[]] }, W1, gf, #[.func (.yield (w.heap.size + 1)) #[] #[]] ++ lb, W1, hent, ?_, ?_, ?_, fun _ => h1, ?_⟩
  · simp only [resolve, hg]
    simp [go_sem]
  · intro f' hf'
    simp [Target.leads] at hf'
    subst hf'
    exact hFg
  · simp [invoke, go_sem, eg]
  refine (hseq (w.heap.size + 1) (fun pre W => I pre W ∧ Recs W w.heap.size (w.heap.size + 1) (R .ready none)) (fun pre W => Ix pre W ∧ Recs W w.heap.size (w.heap.size + 1) (R .done (some .ret))) W1 hbel
    (fun s A B row hs hg' hr => ⟨turn hI s A B row hs.1 hg' hr, hs.2.turn hg' (fun k e => (hr k e).2)⟩)
    (fun s A B row hs hg' hr => ⟨turn hIx s A B row hs.1 hg' hr, hs.2.turn hg' (fun k e => (hr k e).2)⟩)
    ?_ ⟨hin, hrec⟩).mono ?_
  · rintro pre x W ⟨hi, hr⟩ hpx
    have hy := run_yield (P := P) (args := encs x) hr.1 (by rw [hR]; exact hps x)
    rw [hR] at hy
    refine ⟨fn, _, assign, body, hy, roundIn_of_wpIn hfn (hassign _ x (List.IsPrefix.mem (by simp) hpx) W _ (fun a1 Wn hasg => ?_))⟩
    have hbn := hA hasg
    have hgn : W.grownBy Wn none := ⟨hbn.os, hbn.tape, hbn.output, hbn.size, fun k hk _ => hbn.block k hk⟩
    have hi := hI pre W Wn none hi hgn (fun r e => by cases e)
    have hr := hr.turn hgn (fun k e => by cases e)
    refine ⟨_, run_beginRound hr.1 (by rw [hR]), ?_⟩
    have hr2 := hr.put hne { R .ready none with state := .busy }
    refine wpIn_mono (hbody _ pre x W Wn _ a1 hasg (KC.put hr.1 rfl) (hI.put (by omega) hi _) hpx) ?_
    have kcn := KC.of_below hbn
    have kc := KC.put (o' := .loop { R .ready none with state := .busy }) hr.1 rfl
    obtain ⟨W2, hW2⟩ : ∃ W2, Wn.putObj (w.heap.size + 1) (.loop { R .ready none with state := .busy }) = W2 := ⟨_, rfl⟩
    rw [hW2] at hr2 kc ⊢
    rintro e a3 W3 hp
    cases e with
    | normal =>
      obtain ⟨k1, k2, k3⟩ := hp
      have hr3 := hr2.from k1 (by omega) (by omega)
      have he := run_endRound (P := P) none hr3.1
      have hr4 := hr3.put hne (R .ready none)
      rw [hR] at he hr4 ⊢
      exact ⟨_, _, he, .inl ⟨rfl, ⟨hI.put (by omega) k3 _, hr4⟩, ((kcn.trans kc).trans k2).trans (KC.put hr3.1 rfl)⟩⟩
    | ret =>
      obtain ⟨k1, k3⟩ := hp
      have hr3 := hr2.from k1 (by omega) (by omega)
      have he := run_endRound (P := P) (some .ret) hr3.1
      have hr4 := hr3.put hne (R .done (some .ret))
      rw [hR] at he
      rw [hR] at hr4
      exact ⟨_, _, he, .inr ⟨rfl, hIx.put (by omega) k3 _, by rw [hR]; exact hr4⟩⟩
    | exit id => exact hp.elim
    | goto t => exact hp.elim
    | panic ch => exact hp.elim
    | outgrown => exact hp.elim
  · rintro e W2 ⟨⟨v, rfl⟩, (⟨hi, hr⟩ | ⟨pre, hp, hi, hr⟩)⟩
    · have he := run_endLoop (P := P) hr.1 (by rw [hR]; simp)
      have hr4 := hr.put hne { R .ready none with state := .exhausted }
      rw [hR] at he hr4
      exact ⟨none, _, he, hdone _ _ (Nat.le_refl _) (hI.put (by omega) hi _) hr4.2⟩
    · have he := run_endLoop (P := P) hr.1 (by rw [hR]; simp)
      have hr4 := hr.put hne { R .done (some .ret) with state := .exhausted }
      rw [hR] at he hr4
      exact ⟨some .ret, _, he, hstop _ pre _ (Nat.le_refl _) hp (hIx.put (by omega) hi _) hr4.2⟩
end Go.Proofs.YtpbnmhnbkfnaeaaGreatDoor
/- tabSpot.cmp: two nodes with all that is in them. -/
namespace Go.Proofs.YtpbnmhnbkfnaeaaGreatDoor
open Go.RowKit Go.Shelf Nt
attribute [local go_sem] Oper.semAt_some

theorem sizeM_le4 (s : ByteArray) : sizeM s ≤ 4 := by
  unfold sizeM
  split
  · omega
  · rw [encode_size]
    split
    · omega
    · split
      · omega
      · split <;> omega
theorem textM_len {s : Int} {t : List UInt8} (h : textM s t = true) : t.length ≤ 1000 := by
  unfold textM at h
  split at h
  · unfold numTextM at h
    cases e : parseM t 10 with
    | none => rw [e] at h; exact absurd h (by simp)
    | some p =>
      unfold parseM at e
      split at e
      · rename_i e'
        simp only [Bool.and_eq_true, decide_eq_true_eq] at e'
        omega
      · cases e
  · split at h
    · unfold symM at h
      simp only [Bool.and_eq_true] at h
      have h := h.2
      unfold wordM at h
      cases t with
      | nil => simp
      | cons a r =>
        simp only [Bool.and_eq_true, decide_eq_true_eq] at h
        omega
    · split at h
      · simp only [Bool.and_eq_true, decide_eq_true_eq] at h
        omega
      · split at h
        · unfold oneM at h
          simp only [Bool.and_eq_true, decide_eq_true_eq] at h
          have := sizeM_le4 (B t)
          omega
        · split at h
          · simp only [Bool.or_eq_true, decide_eq_true_eq] at h
            rcases h with rfl | rfl <;> simp
          · split at h
            · simp only [decide_eq_true_eq] at h
              omega
            · simp only [decide_eq_true_eq] at h
              rw [h]; simp
theorem ok_text {n : Nat} {nd : Nd} (h : ndOk n nd = true) : nd.2.1.length ≤ 1000 := by
  unfold ndOk at h
  simp only [Bool.and_eq_true] at h
  exact textM_len h.1.2
theorem nvA_open {ns : List Nd} {w : World} {b off c : Nat} (h : NodesAt w (.slice (some ⟨b, off, none⟩) ns.length c) ns) {x : Int} (hx : 0 ≤ x ∧ x < ns.length) :
    ∃ ka kc, nvA ns w b off x = .agg #[.int .i64 (ndI ns x).1, .string (B (ndI ns x).2.1), .slice ka (ndI ns x).2.2.length kc] := by
  obtain ⟨nd, hnd⟩ : ∃ nd, ns[x.toNat]? = some nd := ⟨_, List.getElem?_eq_getElem (show x.toNat < ns.length by omega)⟩
  obtain ⟨kv, _, _, c2, _, ka, kc, rfl, _⟩ := h.node hnd
  refine ⟨ka, kc, ?_⟩
  unfold nvA
  rw [ndI_get hnd, c2]
  rfl
theorem Turns.kept {β : Type} {B : Nat} {S : Nat → Prop} {w₀ : World} (hB : w₀.heap.size ≤ B) : Turns B (fun (_ : β) W => Kept S w₀ W) :=
  fun _ X Y row hs hg hr => ⟨hg.os.trans hs.os, hg.tape.trans hs.tape, hg.output.trans hs.output, Nat.le_trans hs.size hg.size, fun b hb hn => by
    refine (hg.block b (Nat.lt_of_lt_of_le hb hs.size) (fun e => ?_)).trans (hs.block b hb hn)
    have := hr b e.symm
    omega⟩

set_option maxRecDepth 100000 in
set_option maxHeartbeats 4000000 in
theorem spotCmp_c (ns ms : List Nd) (a b : Int) (xb xo xc yb yo yc : Nat) (w : World) (hx : NodesAt w (.slice (some ⟨xb, xo, none⟩) ns.length xc) ns) (hy : NodesAt w (.slice (some ⟨yb, yo, none⟩) ms.length yc) ms)
    (okn : ns.all (ndOk ns.length) = true) (okm : ms.all (ndOk ms.length) = true) (hab : InP ns.length ms.length (a, b)) (hl1 : ns.length ≤ 80) (hl2 : ms.length ≤ 80) (hT : Tens w) (h3 : 3 < w.heap.size) :
    Calls Tryz.prog 32 #[.agg #[.slice (some ⟨xb, xo, none⟩) ns.length xc, .int .i64 a], .agg #[.slice (some ⟨yb, yo, none⟩) ms.length yc, .int .i64 b]] w fun e w' => e = .returned (.int .i64 (cmpAt ns ms a b)) ∧ Below w.heap.size w w' := by
  refine (callsIn_wide (n := 3)).1 ?_
  refine callsIn_of_wp_marks Tryz.func32 rfl trivial ?_ rfl
  simp only [Tryz.ntmps32, List.size_toArray, List.length_cons, List.length_nil, Nat.reduceAdd, Nat.reduceSub, Array.replicate_succ, Array.replicate_zero, List.push_toArray, List.append_toArray, List.nil_append, List.cons_append]
  gi_wp2_with fail
  refine ⟨trivial, (callsIn_wide.2 (tabCompared_c _ _ a b (some ⟨xb, xo, none⟩) (some ⟨yb, yo, none⟩) ns.length ms.length xc yc rfl rfl _)).mono ?_⟩
  rintro e w1 ⟨rfl, rfl⟩
  have hbel := step_a (step_a (step_a (step_a (step_a (Below.refl w.heap.size w) (.cells #[.slice (some ⟨xb, xo, none⟩) ns.length xc, .int .i64 a] 52)) (.cells #[.slice (some ⟨yb, yo, none⟩) ms.length yc, .int .i64 b] 52)) (.cells #[.int .i64 0] 3)) (.cells #[.slice (some ⟨xb, xo, none⟩) ns.length xc, .int .i64 a] 52)) (.cells #[.slice (some ⟨yb, yo, none⟩) ms.length yc, .int .i64 b] 52)
  have hbx : Boxed (((((w.alloc (.cells #[.slice (some ⟨xb, xo, none⟩) ns.length xc, .int .i64 a] 52)).alloc (.cells #[.slice (some ⟨yb, yo, none⟩) ms.length yc, .int .i64 b] 52)).alloc (.cells #[.int .i64 0] 3)).alloc (.cells #[.slice (some ⟨xb, xo, none⟩) ns.length xc, .int .i64 a] 52)).alloc (.cells #[.slice (some ⟨yb, yo, none⟩) ms.length yc, .int .i64 b] 52)) (w.heap.size + 1 + 1) 3 (.int .i64 0) := by
    have h := ((Boxed.new ((w.alloc (.cells #[.slice (some ⟨xb, xo, none⟩) ns.length xc, .int .i64 a] 52)).alloc (.cells #[.slice (some ⟨yb, yo, none⟩) ms.length yc, .int .i64 b] 52)) 3 (.int .i64 0)).alloc (.cells #[.slice (some ⟨xb, xo, none⟩) ns.length xc, .int .i64 a] 52)).alloc (.cells #[.slice (some ⟨yb, yo, none⟩) ms.length yc, .int .i64 b] 52)
    rwa [World.size_alloc, World.size_alloc] at h
  have ha : AtC (((((w.alloc (.cells #[.slice (some ⟨xb, xo, none⟩) ns.length xc, .int .i64 a] 52)).alloc (.cells #[.slice (some ⟨yb, yo, none⟩) ms.length yc, .int .i64 b] 52)).alloc (.cells #[.int .i64 0] 3)).alloc (.cells #[.slice (some ⟨xb, xo, none⟩) ns.length xc, .int .i64 a] 52)).alloc (.cells #[.slice (some ⟨yb, yo, none⟩) ms.length yc, .int .i64 b] 52)) (w.heap.size + 1 + 1 + 1) #[.slice (some ⟨xb, xo, none⟩) ns.length xc, .int .i64 a] 52 := by
    have h := (AtC.new (((w.alloc (.cells #[.slice (some ⟨xb, xo, none⟩) ns.length xc, .int .i64 a] 52)).alloc (.cells #[.slice (some ⟨yb, yo, none⟩) ms.length yc, .int .i64 b] 52)).alloc (.cells #[.int .i64 0] 3)) #[.slice (some ⟨xb, xo, none⟩) ns.length xc, .int .i64 a] 52).alloc (.cells #[.slice (some ⟨yb, yo, none⟩) ms.length yc, .int .i64 b] 52)
    rwa [World.size_alloc, World.size_alloc, World.size_alloc] at h
  have hb : AtC (((((w.alloc (.cells #[.slice (some ⟨xb, xo, none⟩) ns.length xc, .int .i64 a] 52)).alloc (.cells #[.slice (some ⟨yb, yo, none⟩) ms.length yc, .int .i64 b] 52)).alloc (.cells #[.int .i64 0] 3)).alloc (.cells #[.slice (some ⟨xb, xo, none⟩) ns.length xc, .int .i64 a] 52)).alloc (.cells #[.slice (some ⟨yb, yo, none⟩) ms.length yc, .int .i64 b] 52)) (w.heap.size + 1 + 1 + 1 + 1) #[.slice (some ⟨yb, yo, none⟩) ms.length yc, .int .i64 b] 52 := by
    have h := AtC.new ((((w.alloc (.cells #[.slice (some ⟨xb, xo, none⟩) ns.length xc, .int .i64 a] 52)).alloc (.cells #[.slice (some ⟨yb, yo, none⟩) ms.length yc, .int .i64 b] 52)).alloc (.cells #[.int .i64 0] 3)).alloc (.cells #[.slice (some ⟨xb, xo, none⟩) ns.length xc, .int .i64 a] 52)) #[.slice (some ⟨yb, yo, none⟩) ms.length yc, .int .i64 b] 52
    rwa [World.size_alloc, World.size_alloc, World.size_alloc, World.size_alloc] at h
  gi_wp2_with fail
  obtain ⟨W0, hW0⟩ : ∃ W0, ((((w.alloc (.cells #[.slice (some ⟨xb, xo, none⟩) ns.length xc, .int .i64 a] 52)).alloc (.cells #[.slice (some ⟨yb, yo, none⟩) ms.length yc, .int .i64 b] 52)).alloc (.cells #[.int .i64 0] 3)).alloc (.cells #[.slice (some ⟨xb, xo, none⟩) ns.length xc, .int .i64 a] 52)).alloc (.cells #[.slice (some ⟨yb, yo, none⟩) ms.length yc, .int .i64 b] 52) = W0 := ⟨_, rfl⟩
  rw [hW0] at hbel hbx ha hb ⊢
  have hseq := compared_seq ns ms a b xb xo xc yb yo yc (w.heap.size + 1 + 1 + 1) (w.heap.size + 1 + 1 + 1 + 1) W0 (hx.below hbel) (hy.below hbel) okn okm hab hl1 hl2 ha hb
  have HOK := hide (And.intro okn okm)
  have HFST := hide (cmpAt_fst okn okm hab)
  have HNX := hide (hx.below hbel)
  have HNY := hide (hy.below hbel)
  have HT0 := hide (And.intro (hT.belowB hbel h3) (Nat.lt_of_lt_of_le h3 hbel.size))
  have hbl := hbx.lt
  have HBX := hide hbx
  have HBL := hide hbel
  clear hx hy okn okm hab hT h3 hW0 ha hb hbx hbel
  refine wpIn_range_boxes rfl (by decide) (gf := 97) (lb := #[.pointer (some ⟨w.heap.size + 1 + 1 + 1, 0, none⟩), .pointer (some ⟨w.heap.size + 1 + 1 + 1 + 1, 0, none⟩)]) rfl trivial (enters_of Tryz.func97 (by kernel_rfl) rfl) hseq (fun _ => rfl)
    (fun pre W => (∀ x ∈ pre, labP ns ms x.1 x.2 = 0) ∧ Below W0.heap.size W0 W)
    (fun pre W => (∃ p y, pre = p ++ [y] ∧ (∀ x ∈ p, labP ns ms x.1 x.2 = 0) ∧ labP ns ms y.1 y.2 ≠ 0 ∧ Boxed W (w.heap.size + 1 + 1) 3 (.int .i64 (labP ns ms y.1 y.2))) ∧ Kept (fun b => b = w.heap.size + 1 + 1) W0 W)
    (Turns.and (Turns.pure _ _) (Turns.below (Nat.le_refl _) (Nat.le_refl _))) ?tix ⟨by simp, Below.refl _ _⟩
    (fun x W a1 W1 => ∃ ka kc la lc, a1 = ⟨#[.agg #[.slice (some ⟨xb, xo, none⟩) ns.length xc, .int .i64 a], .agg #[.slice (some ⟨yb, yo, none⟩) ms.length yc, .int .i64 b], .pointer (some ⟨w.heap.size, 0, none⟩), .pointer (some ⟨w.heap.size + 1, 0, none⟩), .pointer (some ⟨w.heap.size + 1 + 1, 0, none⟩), .pointer (some ⟨W.heap.size, 0, none⟩), .pointer (some ⟨W.heap.size + 1, 0, none⟩), undef, .agg #[.slice (some ⟨xb, xo, none⟩) ns.length xc, .int .i64 a], .agg #[.slice (some ⟨yb, yo, none⟩) ms.length yc, .int .i64 b], .func (.func 97) #[] #[.pointer (some ⟨w.heap.size + 1 + 1 + 1, 0, none⟩), .pointer (some ⟨w.heap.size + 1 + 1 + 1 + 1, 0, none⟩)], .agg #[.int .i64 (ndI ns x.1).1, .string (B (ndI ns x.1).2.1), .slice ka (ndI ns x.1).2.2.length kc], .agg #[.int .i64 (ndI ms x.2).1, .string (B (ndI ms x.2).2.1), .slice la (ndI ms x.2).2.2.length lc], undef, undef, undef, undef, undef, undef], []⟩ ∧
      W1 = (W.alloc (.cells #[.int .i64 (ndI ns x.1).1, .string (B (ndI ns x.1).2.1), .slice ka (ndI ns x.1).2.2.length kc] 56)).alloc (.cells #[.int .i64 (ndI ms x.2).1, .string (B (ndI ms x.2).2.1), .slice la (ndI ms x.2).2.2.length lc] 56))
    (fun ⟨_, _, _, _, _, h⟩ => by rw [h]; exact step_a (step_a (Below.refl _ _) _) _) ?assign ?body ?done ?stop
  case tix =>
    refine Turns.and ?_ (Turns.kept (Nat.le_refl _))
    rintro s W W' row ⟨p, y, e1, e2, e3, h⟩ hg hr
    exact ⟨p, y, e1, e2, e3, (hg.block _ h.lt (fun e => by have := hr _ e.symm; omega)).trans h⟩
  case assign =>
    intro l x hx W K hK
    have hin := (unhide HFST).2 x hx
    obtain ⟨ka, kc, e1⟩ := nvA_open (unhide HNX) hin.1
    obtain ⟨la, lc, e2⟩ := nvA_open (unhide HNY) hin.2
    have hK' := hK _ _ ⟨ka, kc, la, lc, rfl, rfl⟩
    clear hK
    have HK := hide hK'
    clear hK'
    rw [e1, e2]
    clear e1 e2
    gi_wp2
    exact unhide HK
  case body =>
    rintro l pre x W W1 W2 _ ⟨ka, kc, la, lc, rfl, rfl⟩ hkc ⟨hpre, hbw⟩ hpx
    have hin := (unhide HFST).2 x (List.IsPrefix.mem (by simp) hpx)
    have ok1 := List.all_eq_true.1 (unhide HOK).1 _ (ndI_mem hin.1)
    have ok2 := List.all_eq_true.1 (unhide HOK).2 _ (ndI_mem hin.2)
    obtain ⟨n1, hn1⟩ : ∃ n, ndI ns x.1 = n := ⟨_, rfl⟩
    obtain ⟨n2, hn2⟩ : ∃ n, ndI ms x.2 = n := ⟨_, rfl⟩
    have hlab : labP ns ms x.1 x.2 = labCmp n1 n2 := by unfold labP; rw [hn1, hn2]
    rw [hn1] at ok1 hkc ⊢
    rw [hn2] at ok2 hkc ⊢
    have hA1 : AtC3 W2 W.heap.size (.int .i64 n1.1) (.string (B n1.2.1)) (.slice ka n1.2.2.length kc) 56 := hkc.cells _ _ ((AtC3.new W (.int .i64 n1.1) (.string (B n1.2.1)) (.slice ka n1.2.2.length kc) 56).below (step_a (Below.refl _ _) (.cells #[.int .i64 n2.1, .string (B n2.2.1), .slice la n2.2.2.length lc] 56))) rfl
    have hA2 : AtC3 W2 (W.heap.size + 1) (.int .i64 n2.1) (.string (B n2.2.1)) (.slice la n2.2.2.length lc) 56 := by
      have h := AtC3.new (W.alloc (.cells #[.int .i64 n1.1, .string (B n1.2.1), .slice ka n1.2.2.length kc] 56)) (.int .i64 n2.1) (.string (B n2.2.1)) (.slice la n2.2.2.length lc) 56
      rw [World.size_alloc] at h
      exact hkc.cells _ _ h rfl
    have HN := hide (nodeCmp_c n1 n2 ka la kc lc W2 (kidOk_of ok1) (kidOk_of ok2) (ok_text ok1) (ok_text ok2) ((unhide HT0).1.belowB hbw (unhide HT0).2) (Nat.lt_of_lt_of_le (unhide HT0).2 hbw.size))
    have p0 := hA1.n0
    have p1 := hA1.n1
    have p2 := hA1.n2
    have q0 := hA2.n0
    have q1 := hA2.n1
    have q2 := hA2.n2
    obtain ⟨R, hR⟩ : ∃ R, labCmp n1 n2 = R := ⟨_, rfl⟩
    rw [hR] at hlab HN
    have HBW := hide hbw
    have HPRE := hide hpre
    have HLAB := hide hlab
    have HBX2 := hide (boxed_below (unhide HBX) hbw)
    clear hA1 hA2 hkc hR hlab ok1 ok2 hn1 hn2 hpre hbw hpx
    have h12 : 1 ≤ 3 - 1 - 1 := by decide
    gi_wp2_with fail
    refine ⟨trivial, (CallsIn.inRound l (callsIn_wide.2 (unhide HN))).mono ?_⟩
    rintro e w3 ⟨rfl, hb3⟩
    have HB3 := hide hb3
    clear hb3 p0 p1 p2 q0 q1 q2 HN
    by_cases h0 : R = 0
    · subst h0
      gi_wp2_with fail
      exact ⟨(keepsOthers_below (unhide HB3)).from _, KC.of_below (unhide HB3), fun y hy => by
        rcases List.mem_append.1 hy with hy | hy
        · exact unhide HPRE y hy
        · have : y = x := by simpa using hy
          rw [this]; exact unhide HLAB, step_b (unhide HBW) (unhide HB3)⟩
    · have k : (R != 0) = true := by simp [h0]
      have hbx3 := boxed_below (unhide HBX2) (unhide HB3)
      have HBX3 := hide hbx3
      have f0 := hbx3.cell
      have f1 := hbx3.frozen
      clear hbx3
      gi_wp2_with fail
      exact ⟨((keepsOthers_below (unhide HB3)).trans (KeepsOthers.setCell _ _ _)).from _, ⟨pre, x, rfl, unhide HPRE, by rw [unhide HLAB]; exact h0, by rw [unhide HLAB]; exact (unhide HBX3).set _⟩, ((Kept.of_below (unhide HBW)).trans (Kept.of_below (unhide HB3))).trans (Kept.set (S := fun b => b = w.heap.size + 1 + 1) (a := ⟨w.heap.size + 1 + 1, 0, none⟩) rfl _)⟩
  case done =>
    rintro D W hD ⟨hpre, hbw⟩ hK
    have HZ : Hid (cmpAt ns ms a b = 0) := hide (by rw [(unhide HFST).1]; exact fst_zero hpre)
    have hbx := boxed_below (unhide HBX) hbw
    have HM := hide (((Marks.nil w.heap.size W).cons (D := D) (by have := (unhide HBL).size; omega) hK (by simp)).kept (Kept.set (S := fun b => b = w.heap.size + 1 + 1) (a := ⟨w.heap.size + 1 + 1, 0, none⟩) rfl (.int .i64 0)) (fun d hd e => by
      have : d = D := by simpa using hd
      omega))
    have HBX3 := hide (hbx.set (.int .i64 0))
    have HBW := hide ((step_b (unhide HBL) hbw).setCell (p := ⟨w.heap.size + 1 + 1, 0, none⟩) (by show w.heap.size ≤ w.heap.size + 1 + 1; omega) (.int .i64 0))
    have f0 := hbx.cell
    have f1 := hbx.frozen
    clear hbx hpre hbw hK
    gi_wp2_with fail
    refine leaves_marks w.heap.size [D] _ (unhide HM) (fun w' hst => ?_)
    have f2 := (still_boxed hst (unhide HBX3)).cell
    refine ⟨.int .i64 0, by simp [results, Tryz.f32, go_sem, f2], by rw [unhide HZ], (unhide HBW).trans hst.below⟩
  case stop =>
    rintro D pre W hD hpr ⟨⟨p, y, rfl, hp, hy, hbx⟩, hkp⟩ hK
    have HZ : Hid (cmpAt ns ms a b = labP ns ms y.1 y.2) := hide (by rw [(unhide HFST).1]; exact fst_at hy hpr hp)
    have hm := (Marks.nil w.heap.size W).cons (D := D) (by have := (unhide HBL).size; omega) hK (by simp)
    have HBW := hide ((unhide HBL).trans (hkp.below (base := w.heap.size) (unhide HBL).size (fun b e => by omega)))
    have HM := hide hm
    have HB3 := hide hbx
    obtain ⟨R, hR⟩ : ∃ R, labP ns ms y.1 y.2 = R := ⟨_, rfl⟩
    rw [hR] at HZ HB3
    clear hm hbx hkp hK hp hy hpr hR
    gi_wp2_with fail
    refine leaves_marks w.heap.size [D] W (unhide HM) (fun w' hst => ?_)
    have f2 := (still_boxed hst (unhide HB3)).cell
    refine ⟨.int .i64 R, by simp [results, Tryz.f32, go_sem, f2], by rw [unhide HZ], (unhide HBW).trans hst.below⟩
end Go.Proofs.YtpbnmhnbkfnaeaaGreatDoor
/- The program's looks at a text, rune by rune: a rune among some signs. -/
namespace Go.Proofs.YtpbnmhnbkfnaeaaGreatDoor
open Go.RowKit Nt

def RuneOk (c : Nat) : Prop := c < 55296 ∨ (57344 ≤ c ∧ c ≤ 1114111)
theorem dec_rune (s : ByteArray) (k : Nat) : RuneOk (Utf8.decode s k).1 := by
  rw [Lib.decode_at]
  have l0 := (s.get! k).toNat_lt
  have key : ∀ (n b0 b1 b2 b3 : Nat), b0 < 256 → RuneOk (Lib.decodeN n b0 b1 b2 b3).1 := by
    intro n b0 b1 b2 b3 h0
    unfold Lib.decodeN RuneOk
    repeat' split
    all_goals (dsimp only at *; omega)
  exact key _ _ _ _ _ l0
theorem rune_valid (c : Nat) (hv : RuneOk c) : Utf8.valid (c : Int) = true := by
    unfold Utf8.valid
    rcases hv with hv | ⟨hv, hv2⟩
    · rw [decide_eq_true (show (0 : Int) ≤ (c : Int) by omega), decide_eq_true (show (c : Int) < 55296 by omega)]
      rfl
    · rw [decide_eq_true (show (57344 : Int) ≤ (c : Int) by omega), decide_eq_true (show (c : Int) ≤ 1114111 by omega)]
      simp
theorem enc_two (c : Nat) (h : 128 ≤ c) (h1 : c < 2048) (hv : Utf8.valid (c : Int) = true) : (Utf8.encode (c : Int)) = ⟨#[UInt8.ofNat (192 + c / 64), UInt8.ofNat (128 + c % 64)]⟩ := by
  unfold Utf8.encode
  simp only [hv, if_true, Int.toNat_natCast]
  rw [if_neg (by omega), if_pos h1]
theorem enc_three (c : Nat) (h : 2048 ≤ c) (h1 : c < 65536) (hv : Utf8.valid (c : Int) = true) : (Utf8.encode (c : Int)) = ⟨#[UInt8.ofNat (224 + c / 4096), UInt8.ofNat (128 + c / 64 % 64), UInt8.ofNat (128 + c % 64)]⟩ := by
  unfold Utf8.encode
  simp only [hv, if_true, Int.toNat_natCast]
  rw [if_neg (by omega), if_neg (by omega), if_pos h1]
theorem enc_four (c : Nat) (h : 65536 ≤ c) (hv : Utf8.valid (c : Int) = true) : (Utf8.encode (c : Int)) = ⟨#[UInt8.ofNat (240 + c / 262144), UInt8.ofNat (128 + c / 4096 % 64), UInt8.ofNat (128 + c / 64 % 64), UInt8.ofNat (128 + c % 64)]⟩ := by
  unfold Utf8.encode
  simp only [hv, if_true, Int.toNat_natCast]
  rw [if_neg (by omega), if_neg (by omega), if_neg (by omega)]
theorem get_two (x y : UInt8) (h : 1 < (⟨#[x, y]⟩ : ByteArray).size) : (⟨#[x, y]⟩ : ByteArray)[1]'h = y := by rw [ByteArray.getElem_eq_getElem_data]; rfl
theorem get_three (x y z : UInt8) (h : 2 < (⟨#[x, y, z]⟩ : ByteArray).size) : (⟨#[x, y, z]⟩ : ByteArray)[2]'h = z := by rw [ByteArray.getElem_eq_getElem_data]; rfl
theorem get_four (x y z u : UInt8) (h : 3 < (⟨#[x, y, z, u]⟩ : ByteArray).size) : (⟨#[x, y, z, u]⟩ : ByteArray)[3]'h = u := by rw [ByteArray.getElem_eq_getElem_data]; rfl
/-- what a rune from 128 on is written as ends in a byte from 128 on -/
theorem enc_last (c : Nat) (h : 128 ≤ c) (hv : RuneOk c) (E : ByteArray) (hE : Utf8.encode (c : Int) = E) : ∃ z : Nat, E.size = z + 1 ∧ 1 ≤ z ∧ z ≤ 3 ∧ ∃ b : UInt8, 128 ≤ b.toNat ∧ ∀ hz : z < E.size, E[z]'hz = b := by
  have hval := rune_valid c hv
  have hb : 128 ≤ (UInt8.ofNat (128 + c % 64)).toNat := by rw [UInt8.toNat_ofNat']; omega
  by_cases h1 : c < 2048
  · rw [enc_two c h h1 hval] at hE
    subst hE
    exact ⟨1, rfl, by omega, by omega, _, hb, fun hz => get_two _ _ hz⟩
  · by_cases h2 : c < 65536
    · rw [enc_three c (by omega) h2 hval] at hE
      subst hE
      exact ⟨2, rfl, by omega, by omega, _, hb, fun hz => get_three _ _ _ hz⟩
    · rw [enc_four c (by omega) hval] at hE
      subst hE
      exact ⟨3, rfl, by omega, by omega, _, hb, fun hz => get_four _ _ _ _ hz⟩
theorem index_no : ∀ {l : List UInt8} {b : UInt8}, (∀ c ∈ l, c ≠ b) → Lib.indexByte l b = -1
  | [], _, _ => rfl
  | c :: l, b, h => by
    unfold Lib.indexByte
    rw [index_no (fun d hd => h d (List.mem_cons_of_mem _ hd))]
    have : (c == b) = false := beq_eq_false_iff_ne.2 (h c List.mem_cons_self)
    rw [this]
    rfl
theorem index_yes : ∀ {l : List UInt8} {b : UInt8}, 0 ≤ Lib.indexByte l b ↔ b ∈ l
  | [], _ => by simp [Lib.indexByte]
  | c :: l, b => by
    have ih := index_yes (l := l) (b := b)
    have hg := Lib.indexByte_ge l b
    unfold Lib.indexByte
    by_cases e : c = b
    · subst e; simp
    · rw [if_neg (by simpa using e), List.mem_cons]
      by_cases e2 : Lib.indexByte l b = -1
      · rw [e2] at ih
        have : ¬ b ∈ l := fun h => by have := ih.2 h; omega
        simp [e2, this]
        exact fun h => e h.symm
      · rw [if_neg (by simpa using e2)]
        constructor
        · intro _; exact .inr (ih.1 (by omega))
        · rintro (h | h)
          · exact absurd h.symm e
          · have := ih.2 h; omega
theorem val_ok {c : Nat} (h : RuneOk c) : Lib.validRune (c : Int) = true := by
  unfold Lib.validRune RuneOk at *
  rw [decide_eq_true_eq]
  omega

set_option maxHeartbeats 4000000 in
set_option maxRecDepth 100000 in
theorem indexRune_high (l : List UInt8) (c : Nat) (w : World) (hl : ∀ d ∈ l, d.toNat < 128) (h128 : 128 ≤ c) (hv : RuneOk c) (_hlen : l.length ≤ 1000) :
    Calls Tryz.prog 225 #[.string (B l), .int .i32 c] w fun e w' => e = .returned (.int .i64 (-1)) ∧ Below w.heap.size w w' := by
  have c0 : (0 : Int) ≤ (c : Int) := by omega
  have c1 : ¬ (c : Int) < 128 := by omega
  have HL := hide hl
  by_cases he : c = 65533
  · subst he
    go_enter Tryz.func225, Tryz.ntmps225
    go_wp2_with fail
    go_loopw [4] (fun _ wr => ∃ pos : Nat, pos ≤ l.length ∧ wr.heap[w.heap.size]? = some (.stringIter (B l) pos) ∧ Below w.heap.size w wr)
      (fun _ wr => l.length - wr.iterPos w.heap.size)
    case atStart => exact ⟨0, Nat.zero_le _, World.iter_heap _ _ _, (Below.refl _ _).alloc (Nat.le_refl _) _⟩
    case round =>
      obtain ⟨pos, hpl, hit, hb⟩ := hrel
      have hpos0 := iterPos_of hit
      by_cases hlt : pos < l.length
      · have hlt2 : pos < (B l).size := by rw [B_size]; exact hlt
        have hd := (unhide HL) (l[pos]'hlt) (List.getElem_mem hlt)
        have hnx := fun ty => Lib.run_next_ascii_at (P := Tryz.prog) wr w.heap.size (B l) pos ty hit hlt2 (by rw [B_get]; exact hd)
        have hit2 := Lib.iterAt_heap wr w.heap.size (B l) pos (pos + 1) hit
        have hb2 := Lib.below_iterAt hb (k := w.heap.size) (Nat.le_refl _) (B l) (pos + 1)
        have hpos2 := iterPos_of hit2
        have hne : ((((B l)[pos]'hlt2).toNat : Int) == 65533) = false := by rw [beq_eq_false_iff_ne, B_get]; omega
        have Hit2 := hide hit2
        have Hp0 := hide hpos0
        have Hp2 := hide hpos2
        clear hit hit2 hpos0 hpos2 hd
        go_wp2_with fail
        go_roundw
        case rel => exact ⟨pos + 1, by omega, unhide Hit2, hb2⟩
        case measure => rw [unhide Hp0, unhide Hp2]; omega
      · have hlt2 : ¬ pos < (B l).size := by rw [B_size]; exact hlt
        have hnx := fun ty => Lib.run_next_end_at (P := Tryz.prog) wr w.heap.size (B l) pos ty hit hlt2
        clear hit hpos0
        go_wp2_with fail
        go_ret
        exact ⟨rfl, hb⟩
  · have hee : ((c : Int) == 65533) = false := by rw [beq_eq_false_iff_ne]; omega
    have HV := hide (fun W => (by have := Tryz.utf8_ValidRune (c : Int) W; rw [val_ok hv] at this; exact this : Calls Tryz.prog 229 #[.int .i32 c] W fun e w' => e = .returned (.bool true) ∧ w' = W))
    obtain ⟨E, hE⟩ : ∃ E, Utf8.encode (c : Int) = E := ⟨_, rfl⟩
    obtain ⟨z, hz, hz1, hz3, b, hb128, hzb⟩ := enc_last c h128 hv E hE
    have hzl : z < E.size := by omega
    have hzc : E[z]'hzl = b := hzb hzl
    clear hzb
    have HBB := hide hb128
    have hnb : ∀ d ∈ l, d ≠ b := fun d hd e => by have := hl d hd; rw [e] at this; omega
    have HNB := hide hnb
    have hsz := B_size l
    clear he hl hv h128 hb128 hnb
    go_enter Tryz.func225, Tryz.ntmps225
    go_wp2_with fail
    refine (unhide HV w).mono ?_
    rintro e w1 ⟨rfl, rfl⟩
    go_wp2_with fail
    go_step3
    go_wp2_with fail
    refine wp_loop_rounds 1 ?_
    rw [rounds_succ]
    by_cases hzl2 : z < l.length
    · have i0 : (z : Int) < ((B l).size : Int) := by omega
      have i1 : z < (B l).size := by omega
      obtain ⟨d, hd⟩ : ∃ d, (B l)[z]'i1 = d := ⟨_, rfl⟩
      have hdm : d ∈ l := by rw [← hd, B_get]; exact List.getElem_mem _
      obtain ⟨m, hm⟩ : ∃ m, d.toNat = m := ⟨_, rfl⟩
      obtain ⟨n, hn⟩ : ∃ n, b.toNat = n := ⟨_, rfl⟩
      have hdb : ((m : Int) == (n : Int)) = false := by
        rw [beq_eq_false_iff_ne]
        have := unhide HNB d hdm
        intro e
        exact this (UInt8.toNat_inj.1 (by omega))
      have hdn : ((m : Int) != (n : Int)) = true := by rw [bne, hdb]; rfl
      have hx : (B l).extract (z + 1) l.length = B (l.drop (z + 1)) := by rw [B_extract, List.take_length]
      have HI : Hid (∀ W, Calls Tryz.prog 228 #[.string ((B l).extract (z + 1) l.length), .int .u8 (n : Int)] W fun e w' => e = .returned (.int .i64 (-1)) ∧ w' = W) := hide (fun W => by
        rw [← hn]
        have h := Tryz.strings_IndexByte (B (l.drop (z + 1))) (b.toNat : Int) W
        rw [B_data, Int.toNat_natCast, show b.toNat.toUInt8 = b from by simp, index_no (fun c hc => unhide HNB c (List.mem_of_mem_drop hc))] at h
        rw [hx]
        exact h)
      have q0 : (0 : Int) ≤ (z : Int) := by omega
      have q1 : ((z : Int)).toNat = z := by omega
      have q2 : (z : Int) < (E.size : Int) := by omega
      have q3 : ((z : Int) + 1).toNat = z + 1 := by omega
      have q4 : IntKind.i64.wrap ((z : Int) + 1) = (z : Int) + 1 := by rw [wi64] <;> omega
      have q5 : (0 : Int) ≤ (z : Int) + 1 := by omega
      have q6 : (z : Int) + 1 ≤ ((B l).size : Int) := by omega
      have q7 : ¬ ((B l).size : Int) < (z : Int) + 1 := by omega
      clear hx
      go_wp2_with fail
      go_step3
      go_wp2_with fail
      go_big_quiet (fail)
      have HBW := hide (drewN_below w1 nq)
      obtain ⟨W2, hW2⟩ : ∃ W2, w1.drewN nq = W2 := ⟨_, rfl⟩
      rw [hW2] at HBW ⊢
      clear hW2
      go_wp2_with fail
      go_quiet ((go_at_call 228; exact Calls.quiet_of_same (unhide HI _)))
      go_wp2_with fail
      simp only [Exit.noGoto_ret, Exit.inBlock, Exit.then]
      go_ret
      exact ⟨rfl, step_b (unhide HBW) (drewN_below _ _)⟩
    · have i0 : ¬ (z : Int) < ((B l).size : Int) := by omega
      go_wp2_with fail
      go_ret
      exact ⟨rfl, Below.refl _ _⟩
end Go.Proofs.YtpbnmhnbkfnaeaaGreatDoor
/- The program's words of a text: how far a word goes. -/
namespace Go.Proofs.YtpbnmhnbkfnaeaaGreatDoor
open Go.RowKit Nt

def hasN (l : List UInt8) (c : Nat) : Bool := l.any fun d => d.toNat == c
theorem containsRune_c (l : List UInt8) (c : Nat) (w : World) (hl : ∀ d ∈ l, d.toNat < 128) (hv : RuneOk c) (hlen : l.length ≤ 1000) :
    Calls Tryz.prog 218 #[.string (B l), .int .i32 c] w fun e w' => e = .returned (.bool (hasN l c)) ∧ Below w.heap.size w w' := by
  by_cases h : c < 128
  · have h1 := Tryz.strings_ContainsRune_ascii (B l) (c : Int) w (by omega) (by omega)
    rw [B_data, Int.toNat_natCast] at h1
    have e : decide (0 ≤ Lib.indexByte l c.toUInt8) = hasN l c := by
      rw [Bool.eq_iff_iff, decide_eq_true_eq, index_yes]
      unfold hasN
      rw [List.any_eq_true]
      have hc : c.toUInt8.toNat = c := by rw [Nat.toUInt8, UInt8.toNat_ofNat']; omega
      constructor
      · intro hm; exact ⟨_, hm, by rw [hc]; simp⟩
      · rintro ⟨d, hd, he⟩
        have : d.toNat = c := by simpa using he
        rw [← UInt8.toNat_inj.1 (show d.toNat = c.toUInt8.toNat by rw [hc]; exact this)]
        exact hd
    rw [e] at h1
    refine h1.mono ?_
    rintro e w' ⟨rfl, rfl⟩
    exact ⟨rfl, Below.refl _ _⟩
  · have e : hasN l c = false := by
      unfold hasN
      rw [List.any_eq_false]
      intro d hd
      have := hl d hd
      simp; omega
    rw [e]
    have HI := hide (indexRune_high l c w hl (by omega) hv hlen)
    go_enter Tryz.func218, Tryz.ntmps218
    go_wp2_with fail
    refine (unhide HI).mono ?_
    rintro e w1 ⟨rfl, hb⟩
    have HB := hide hb
    clear hb
    go_wp2_with fail
    go_ret
    exact ⟨rfl, unhide HB⟩
def endersL : List UInt8 := [32, 9, 10, 13, 40, 41, 34, 59, 39]
theorem enders_has (c : Nat) : hasN endersL c = endN c := by
  unfold hasN endersL endN
  simp only [List.any_cons, List.any_nil, Bool.or_false]
  rw [Bool.eq_iff_iff]
  simp only [Bool.or_eq_true, beq_iff_eq, UInt8.toNat_ofNat]
  omega
theorem readEndsWord_c (c : Nat) (w : World) (hv : RuneOk c) :
    Calls Tryz.prog 211 #[.int .i32 c] w fun e w' => e = .returned (.bool (endN c)) ∧ Below w.heap.size w w' := by
  have HI : Hid (Calls Tryz.prog 218 #[.string ⟨#[32, 9, 10, 13, 40, 41, 34, 59, 39]⟩, .int .i32 c] w fun e w' => e = .returned (.bool (endN c)) ∧ Below w.heap.size w w') := hide (by
    have h := containsRune_c endersL c w (by decide) hv (by decide)
    rw [enders_has] at h
    exact h)
  go_enter Tryz.func211, Tryz.ntmps211
  go_wp2_with fail
  refine (unhide HI).mono ?_
  rintro e w1 ⟨rfl, hb⟩
  have HB := hide hb
  clear hb
  go_wp2_with fail
  go_ret
  exact ⟨rfl, unhide HB⟩

theorem end_small {c : Nat} (h : endN c = true) : c < 128 := by
  unfold endN at h
  simp only [Bool.or_eq_true, beq_iff_eq] at h
  omega
/-- the bytes of the character at a place, as p looks at them, p being false from 128 on -/
theorem rune_bytes {p : Nat → Bool} (hp : ∀ c, p c = true → c < 128) (t : List UInt8) (k : Nat) (h : k < t.length) :
    1 ≤ (Utf8.decode (B t) k).2 ∧ k + (Utf8.decode (B t) k).2 ≤ t.length ∧ (p (Utf8.decode (B t) k).1 = true → p (t[k]'h).toNat = true) ∧
    (p (Utf8.decode (B t) k).1 = false → ∀ i (hi : i < t.length), k ≤ i → i < k + (Utf8.decode (B t) k).2 → p (t[i]'hi).toNat = false) := by
  obtain ⟨a1, a2, a3, a4⟩ := dec_asc (B t) k (by rw [B_size]; exact h)
  rw [B_size] at a2
  have hg : ∀ i (hi : i < t.length), (B t).get! i = t[i]'hi := fun i hi => by
    rw [get!_lt _ _ (by rw [B_size]; exact hi), B_get]
  refine ⟨a1, a2, fun hq => ?_, fun hq i hi h1 h2 => ?_⟩
  · obtain ⟨_, e⟩ := a3 (hp _ hq)
    rw [hg k h] at e
    rw [e]; exact hq
  · by_cases hc : (Utf8.decode (B t) k).1 < 128
    · obtain ⟨e1, e⟩ := a3 hc
      obtain rfl : i = k := by omega
      rw [hg i hi] at e
      rw [e]; exact hq
    · have := a4 (by omega) i h1 h2
      rw [hg i hi] at this
      cases e : p (t[i]'hi).toNat with
      | false => rfl
      | true => have := hp _ e; omega

set_option maxHeartbeats 2000000 in
theorem readUntil_c (t : List UInt8) (w : World) (_hs : t.length ≤ 1048576) :
    Calls Tryz.prog 210 #[.string (B t), .func (.func 211) #[] #[]] w fun e w' => e = .returned (.int .i64 (untilM endN t : Nat)) ∧ Below w.heap.size w w' := by
  go_enter Tryz.func210, Tryz.ntmps210
  go_wp2_with fail
  go_loopw [5] (fun _ wr => ∃ pos : Nat, pos ≤ t.length ∧ Hid (wr.heap[w.heap.size]? = some (.stringIter (B t) pos)) ∧ Hid (Below w.heap.size w wr) ∧ Hid (∀ j (hj : j < t.length), j < pos → endN (t[j]'hj).toNat = false))
    (fun _ wr => t.length - wr.iterPos w.heap.size)
  case atStart => exact ⟨0, Nat.zero_le _, hide (World.iter_heap _ _ _), hide ((Below.refl _ _).alloc (Nat.le_refl _) _), hide (fun j _ h => by omega)⟩
  case round =>
    obtain ⟨pos, hpl, HIT, HB, HV⟩ := hrel
    have hpos0 := iterPos_of (unhide HIT)
    by_cases hlt : pos < t.length
    · have hlt2 : pos < (B t).size := by rw [B_size]; exact hlt
      have hnx := fun ty => Lib.run_next_any_at (P := Tryz.prog) wr w.heap.size (B t) pos ty (unhide HIT) hlt2
      have hb2 := Lib.below_iterAt (unhide HB) (k := w.heap.size) (Nat.le_refl _) (B t) (pos + (Utf8.decode (B t) pos).2)
      have hit2 := Lib.iterAt_heap wr w.heap.size (B t) pos (pos + (Utf8.decode (B t) pos).2) (unhide HIT)
      have HRB := hide (rune_bytes (p := endN) (fun c h => end_small h) t pos hlt)
      have HE := hide (fun W => readEndsWord_c (Utf8.decode (B t) pos).1 W (dec_rune (B t) pos))
      obtain ⟨c, wd, hcw⟩ : ∃ c wd, Utf8.decode (B t) pos = (c, wd) := ⟨_, _, rfl⟩
      rw [hcw] at hnx hb2 hit2 HRB HE
      simp only at hnx hb2 hit2 HRB HE
      have HB2 := hide hb2
      have HIT2 := hide hit2
      have HP0 := hide hpos0
      clear hcw hb2 hit2 hpos0 HB HIT
      go_wp2_with fail
      refine (unhide HE _).mono ?_
      rintro e w2 ⟨rfl, hb3⟩
      have HB3 := hide (step_b (unhide HB2) hb3)
      have HIT3 : Hid (w2.heap[w.heap.size]? = some (.stringIter (B t) (pos + wd))) := hide ((hb3.block w.heap.size (Array.getElem?_eq_some_iff.1 (unhide HIT2)).1).trans (unhide HIT2))
      have HP3 := hide (iterPos_of (unhide HIT3))
      clear hb3
      obtain ⟨r1, r2, r3, r4⟩ := unhide HRB
      rcases Bool.eq_false_or_eq_true (endN c) with he | he
      · have HU : Hid (untilM endN t = pos) := hide (until_eq (fun i h hi => unhide HV i h hi) (fun _ => r3 he) hpl)
        rw [he]
        clear he r3 r4
        go_wp2_with fail
        go_ret
        exact ⟨by rw [unhide HU]; rfl, unhide HB3⟩
      · have HV2 : Hid (∀ j (hj : j < t.length), j < pos + wd → endN (t[j]'hj).toNat = false) := hide (fun j hj h => by
          by_cases h2 : j < pos
          · exact unhide HV j hj h2
          · exact r4 he j hj (by omega) h)
        rw [he]
        clear he r3 r4
        go_wp2_with fail
        go_roundw
        case rel => exact ⟨pos + wd, r2, HIT3, HB3, HV2⟩
        case measure => rw [unhide HP0, unhide HP3]; omega
    · have hlt2 : ¬ pos < (B t).size := by rw [B_size]; exact hlt
      have hnx := fun ty => Lib.run_next_end_at (P := Tryz.prog) wr w.heap.size (B t) pos ty (unhide HIT) hlt2
      obtain rfl : pos = t.length := by omega
      have HU : Hid (((B t).size : Int) = (untilM endN t : Nat)) := hide (by rw [until_eq (fun i h hi => unhide HV i h hi) (fun h => by omega) (Nat.le_refl _), B_size])
      clear hpos0
      go_wp2_with fail
      go_ret
      exact ⟨ret_int (unhide HU), unhide HB⟩

set_option maxHeartbeats 1000000 in
theorem readWordSpan_c (t : List UInt8) (w : World) (hs : t.length ≤ 1048576) :
    Calls Tryz.prog 191 #[.string (B t)] w fun e w' => e = .returned (.string (B (headW t))) ∧ Below w.heap.size w w' := by
  have hle : untilM endN t ≤ t.length := by unfold untilM; exact (List.takeWhile_prefix _).length_le
  have HX : Hid ((B t).extract 0 (untilM endN t) = B (headW t)) := hide (by rw [B_extract, headW_eq]; simp)
  have hsz := B_size t
  have HU := hide (readUntil_c t w hs)
  obtain ⟨k, hk⟩ : ∃ k, untilM endN t = k := ⟨_, rfl⟩
  rw [hk] at hle HX HU
  clear hk
  go_enter Tryz.func191, Tryz.ntmps191
  go_wp2_with fail
  refine (unhide HU).mono ?_
  rintro e w1 ⟨rfl, hb⟩
  have HB := hide hb
  clear hb
  go_wp2_with fail
  go_ret
  exact ⟨by rw [← unhide HX]; rfl, unhide HB⟩

set_option maxHeartbeats 1000000 in
theorem readWordOf_c (t : List UInt8) (w : World) (hs : t.length ≤ 1048576) :
    Calls Tryz.prog 165 #[.string (B t)] w fun e w' => e = .returned (.iface 222 (.agg #[.string (B (headW t))])) ∧ Below w.heap.size w w' := by
  have HU := hide (readWordSpan_c t w hs)
  go_enter Tryz.func165, Tryz.ntmps165
  go_wp2_with fail
  refine (unhide HU).mono ?_
  rintro e w1 ⟨rfl, hb⟩
  have HB := hide hb
  clear hb
  go_wp2_with fail
  go_ret
  exact ⟨rfl, unhide HB⟩
end Go.Proofs.YtpbnmhnbkfnaeaaGreatDoor
/- Contracts of Go's library at this program: as the kit's lay-shelf.mjs and lay-plain.mjs print them (the numbers are this seat's: lay anew at another). -/
namespace Go.Proofs.YtpbnmhnbkfnaeaaGreatDoor
open Go.Shelf
def Tryz.lays196_ren : Go.Shelf.Ren := ⟨fun | 196 => 167 | 259 => 192 | n => n, fun | 9 => 9 | 4 => 4 | 3 => 3 | 5 => 5 | 12 => 12 | 119 => 224 | 0 => 0 | 46 => 150 | 139 => 227 | 138 => 226 | 53 => 173 | n => n, fun | 3 => 1 | 4 => 2 | n => n⟩
theorem Tryz.lays196 : Go.Proofs.Lays.n196 Tryz.prog Tryz.lays196_ren := {
  mixed := by kernel_rfl
  f196 := Tryz.func167.trans (congrArg some (by kernel_rfl))
  f259 := Tryz.func192.trans (congrArg some (by kernel_rfl))
  t0 := Tryz.underlying0
  a0 := Tryz.isAgg0
  z0 := Tryz.sizeOf0
  v0 := Tryz.zeroValue0
  t3 := Tryz.underlying3
  a3 := Tryz.isAgg3
  z3 := Tryz.sizeOf3
  v3 := Tryz.zeroValue3
  t4 := Tryz.underlying4
  a4 := Tryz.isAgg4
  z4 := Tryz.sizeOf4
  v4 := Tryz.zeroValue4
  t5 := Tryz.underlying5
  a5 := Tryz.isAgg5
  z5 := Tryz.sizeOf5
  v5 := Tryz.zeroValue5
  t9 := Tryz.underlying9
  a9 := Tryz.isAgg9
  z9 := Tryz.sizeOf9
  v9 := Tryz.zeroValue9
  t12 := Tryz.underlying12
  a12 := Tryz.isAgg12
  z12 := Tryz.sizeOf12
  v12 := Tryz.zeroValue12
  t46 := Tryz.underlying150
  a46 := Tryz.isAgg150
  z46 := Tryz.sizeOf150
  v46 := Tryz.zeroValue150
  t53 := Tryz.underlying173
  a53 := Tryz.isAgg173
  z53 := Tryz.sizeOf173
  v53 := Tryz.zeroValue173
  t119 := Tryz.underlying224
  a119 := Tryz.isAgg224
  z119 := Tryz.sizeOf224
  t138 := Tryz.underlying226
  a138 := Tryz.isAgg226
  z138 := Tryz.sizeOf226
  v138 := Tryz.zeroValue226
  t139 := Tryz.underlying227
  a139 := Tryz.isAgg227
  z139 := Tryz.sizeOf227
  v139 := Tryz.zeroValue227
  g3 := by kernel_rfl
  g4 := by kernel_rfl }
open Go.RowKit in
/-- unicode/utf8.ValidString at every string -/
theorem Tryz.utf8_ValidString (s : ByteArray) (w : World) (hs : s.size ≤ 9223372036854775807) (hT : Lib.Utf8Tabs 1 2 w) :
    Calls Tryz.prog 167 #[.string s] w fun e w' => e = .returned (.bool (Lib.validD s.data.toList)) ∧ Below w.heap.size w w' := Any.utf8_ValidString Tryz.lays196 s w hs hT
end Go.Proofs.YtpbnmhnbkfnaeaaGreatDoor
/- The program's looks at texts of strings, characters, symbols. -/
namespace Go.Proofs.YtpbnmhnbkfnaeaaGreatDoor
open Go.RowKit Nt

/-- the two tables of utf8 -/
def Tabz (w : World) : Prop := Lib.Utf8Tabs 1 2 w
theorem Tabz.below {B : Nat} {w w' : World} (h : Tabz w) (hB : 2 < B) (k : Below B w w') : Tabz w' := by
  refine ⟨fun c hc => ?_, fun i hi => ⟨?_, ?_⟩⟩
  · exact (k.cell (p := ⟨_, c, none⟩) (by show 1 < B; omega)).trans (h.1 c hc)
  · exact (k.cell (p := ⟨_, 2 * i, none⟩) (by show 2 < B; omega)).trans (h.2 i hi).1
  · exact (k.cell (p := ⟨_, 2 * i + 1, none⟩) (by show 2 < B; omega)).trans (h.2 i hi).2
theorem validString_c (t : List UInt8) (w : World) (hs : t.length ≤ 1048576) (hT : Tabz w) :
    Calls Tryz.prog 167 #[.string (B t)] w fun e w' => e = .returned (.bool (Lib.validD t)) ∧ Below w.heap.size w w' := by
  have h := Tryz.utf8_ValidString (B t) w (by rw [B_size]; omega) hT
  rw [B_data] at h
  exact h
theorem runeCount_c (t : List UInt8) (w : World) (hs : t.length ≤ 1048576) :
    Calls Tryz.prog 168 #[.string (B t)] w fun e w' => e = .returned (.int .i64 (Lib.runeCount (B t))) ∧ Below w.heap.size w w' := by
  refine (Tryz.utf8_RuneCountInString (B t) w (by rw [B_size]; omega)).mono ?_
  rintro e w' ⟨rfl, pos, rfl⟩
  exact ⟨rfl, (Below.refl _ _).alloc (Nat.le_refl _) _⟩

set_option maxHeartbeats 1000000 in
theorem readIsText_c (t : List UInt8) (w : World) (hs : t.length ≤ 1048576) (hT : Tabz w) :
    Calls Tryz.prog 136 #[.string (B t)] w fun e w' => e = .returned (.bool (decide (t.length ≤ 200) && Lib.validD t)) ∧ Below w.heap.size w w' := by
  have HV := hide (validString_c t w hs hT)
  by_cases h : t.length ≤ 200
  · have h' : ((B t).size : Int) ≤ 200 := by rw [B_size]; omega
    have HQ : Hid ((decide (t.length ≤ 200) && Lib.validD t) = Lib.validD t) := hide (by rw [decide_eq_true h, Bool.true_and])
    clear h
    go_enter Tryz.func136, Tryz.ntmps136
    go_wp2_with fail
    refine (unhide HV).mono ?_
    rintro e w1 ⟨rfl, hb⟩
    have HB := hide hb
    clear hb
    go_wp2_with fail
    go_ret
    exact ⟨by rw [unhide HQ]; rfl, unhide HB⟩
  · have h' : ¬ ((B t).size : Int) ≤ 200 := by rw [B_size]; omega
    have HQ : Hid ((decide (t.length ≤ 200) && Lib.validD t) = false) := hide (by rw [decide_eq_false h, Bool.false_and])
    clear h
    go_enter Tryz.func136, Tryz.ntmps136
    go_wp2_with fail
    go_ret
    exact ⟨by rw [unhide HQ]; rfl, Below.refl _ _⟩

set_option maxHeartbeats 1000000 in
theorem readIsCharacter_c (t : List UInt8) (w : World) (hs : t.length ≤ 1048576) (hT : Tabz w) :
    Calls Tryz.prog 137 #[.string (B t)] w fun e w' => e = .returned (.bool (oneM t)) ∧ Below w.heap.size w w' := by
  have HV := hide (validString_c t w hs hT)
  have HC := hide (fun W => runeCount_c t W hs)
  obtain ⟨n, hn⟩ : ∃ n, Lib.runeCount (B t) = n := ⟨_, rfl⟩
  have he := oneM_eq t
  rw [hn] at HC he
  have HE := hide he
  clear he hn
  cases hv : Lib.validD t with
  | false =>
    rw [hv] at HV HE
    clear hv
    go_enter Tryz.func137, Tryz.ntmps137
    go_wp2_with fail
    refine (unhide HV).mono ?_
    rintro e w1 ⟨rfl, hb⟩
    have HB := hide hb
    clear hb
    go_wp2_with fail
    go_ret
    exact ⟨by rw [unhide HE]; rfl, unhide HB⟩
  | true =>
    rw [hv] at HV HE
    have HQ : Hid (oneM t = ((n : Int) == 1)) := hide (by rw [unhide HE, Bool.true_and, Bool.eq_iff_iff]; simp; omega)
    clear hv
    go_enter Tryz.func137, Tryz.ntmps137
    go_wp2_with fail
    refine (unhide HV).mono ?_
    rintro e w1 ⟨rfl, hb⟩
    have HB := hide hb
    clear hb
    go_wp2_with fail
    refine (unhide HC w1).mono ?_
    rintro e w2 ⟨rfl, hb⟩
    have HB2 := hide (step_b (unhide HB) hb)
    clear hb
    go_wp2_with fail
    go_ret
    exact ⟨by rw [unhide HQ]; rfl, unhide HB2⟩

def firstsL : List UInt8 := [48, 49, 50, 51, 52, 53, 54, 55, 56, 57, 35, 44, 96]
def badsL : List UInt8 := [40, 41, 34, 59, 39, 92, 124]
theorem firsts_has (c : Nat) : hasN firstsL c = headN c := by
  unfold hasN firstsL headN
  simp only [List.any_cons, List.any_nil, Bool.or_false]
  rw [Bool.eq_iff_iff]
  simp only [Bool.or_eq_true, Bool.and_eq_true, beq_iff_eq, UInt8.toNat_ofNat, decide_eq_true_eq]
  omega
theorem bads_has (c : Nat) (h : ¬ c < 33) (h2 : c ≠ 127) : hasN badsL c = badN c := by
  unfold hasN badsL badN endN
  simp only [List.any_cons, List.any_nil, Bool.or_false]
  rw [Bool.eq_iff_iff]
  simp only [Bool.or_eq_true, beq_iff_eq, UInt8.toNat_ofNat, decide_eq_true_eq]
  omega
theorem bad_small {c : Nat} (h : badN c = true) : c < 128 := by
  unfold badN endN at h
  simp only [Bool.or_eq_true, beq_iff_eq, decide_eq_true_eq] at h
  omega
theorem bad_low {c : Nat} (h : c < 33) : badN c = true := by
  unfold badN; rw [decide_eq_true h]; simp
theorem bad_127 : badN 127 = true := by decide
theorem all_bads {l : List UInt8} {k : Nat} (h : k < l.length) (hb : badN (l[k]'h).toNat = true) : (l.all fun c => !badN c.toNat) = false := by
  rw [List.all_eq_false]; exact ⟨l[k]'h, List.getElem_mem h, by simp [hb]⟩
theorem all_goods {l : List UInt8} (h : ∀ i (hi : i < l.length), badN (l[i]'hi).toNat = false) : (l.all fun c => !badN c.toNat) = true := by
  rw [List.all_eq_true]
  intro c hc
  obtain ⟨i, hi, rfl⟩ := List.mem_iff_getElem.1 hc
  simp [h i hi]

set_option maxHeartbeats 4000000 in
set_option maxRecDepth 100000 in
theorem readSpellsSymbol_c (t : List UInt8) (w : World) (hs : t.length ≤ 1048576) (hT : Tabz w) :
    Calls Tryz.prog 250 #[.string (B t)] w fun e w' => e = .returned (.bool (wordM t)) ∧ Below w.heap.size w w' := by
  have HT := hide (readIsText_c t w hs hT)
  by_cases hne : t = []
  · have e0 : ((B t).toList.isEmpty) = true := by rw [hne, B_tl]; rfl
    have HQ : Hid (wordM t = false) := hide (by rw [hne]; rfl)
    clear hne
    go_enter Tryz.func250, Tryz.ntmps250
    go_wp2_with fail
    go_ret
    exact ⟨by rw [unhide HQ]; rfl, Below.refl _ _⟩
  · have e0 : ((B t).toList.isEmpty) = false := by rw [B_tl]; cases t with | nil => exact absurd rfl hne | cons a r => rfl
    obtain ⟨c, r, hcr⟩ : ∃ c r, t = c :: r := by cases t with | nil => exact absurd rfl hne | cons c r => exact ⟨c, r, rfl⟩
    have HW : Hid (wordM t = (!headN c.toNat && decide (t.length ≤ 200) && Lib.validD t && t.all fun c => !badN c.toNat)) := hide (by rw [hcr]; rfl)
    have hz : 0 < (B t).size := by rw [B_size, hcr]; simp
    have hc : (B t)[0]'hz = c := by rw [B_get]; subst hcr; rfl
    clear hcr hne
    rcases Bool.eq_false_or_eq_true (decide (t.length ≤ 200) && Lib.validD t) with hv | hv
    · rw [hv] at HT
      obtain ⟨n, hn⟩ : ∃ n, c.toNat = n := ⟨_, rfl⟩
      have hn256 : n < 256 := by rw [← hn]; exact c.toNat_lt
      have HC1 : Hid (∀ W, Calls Tryz.prog 218 #[.string ⟨#[48, 49, 50, 51, 52, 53, 54, 55, 56, 57, 35, 44, 96]⟩, .int .i32 n] W fun e w' => e = .returned (.bool (headN n)) ∧ Below W.heap.size W w') := hide (fun W => by
        have h := containsRune_c firstsL n W (by decide) (by unfold RuneOk; omega) (by decide)
        rw [firsts_has] at h
        exact h)
      have hw32 : wrap32 (n : Int) = (n : Int) := by unfold wrap32; omega
      have HW2 : Hid (wordM t = (!headN n && t.all fun c => !badN c.toNat)) := hide (by rw [unhide HW, hn, Bool.and_assoc (!headN n), hv, Bool.and_true])
      clear hv hn256 HW
      go_enter Tryz.func250, Tryz.ntmps250
      go_wp2_with fail
      refine (unhide HT).mono ?_
      rintro e w1 ⟨rfl, hb⟩
      have HB := hide hb
      clear hb
      go_wp2_with fail
      refine (unhide HC1 w1).mono ?_
      rintro e w2 ⟨rfl, hb⟩
      have HB2 := hide (step_b (unhide HB) hb)
      clear hb HB HC1
      rcases Bool.eq_false_or_eq_true (headN n) with hh | hh
      · have HQ : Hid (wordM t = false) := hide (by rw [unhide HW2, hh]; rfl)
        rw [hh]
        clear hh HW2
        go_wp2_with fail
        go_ret
        exact ⟨by rw [unhide HQ]; rfl, unhide HB2⟩
      · have HQ : Hid (wordM t = t.all fun c => !badN c.toNat) := hide (by rw [unhide HW2, hh]; rfl)
        rw [hh]
        have HIT0 : Hid ((w2.iter (B t) 0).heap[w2.heap.size]? = some (.stringIter (B t) 0)) := hide (World.iter_heap _ _ _)
        have HB0 : Hid (Below w.heap.size w (w2.iter (B t) 0)) := hide ((unhide HB2).alloc (unhide HB2).size _)
        have HBZ := hide (unhide HB2).size
        clear hh HW2 hc hn hw32 hz e0 HT HB2
        go_wp2_with fail
        go_loopw [4] (fun _ wr => ∃ pos : Nat, pos ≤ t.length ∧ Hid (wr.heap[w2.heap.size]? = some (.stringIter (B t) pos)) ∧ Hid (Below w.heap.size w wr) ∧ Hid (∀ j (hj : j < t.length), j < pos → badN (t[j]'hj).toNat = false))
          (fun _ wr => t.length - wr.iterPos w2.heap.size)
        case atStart => exact ⟨0, Nat.zero_le _, HIT0, HB0, hide (fun j _ h => by omega)⟩
        case round =>
          clear HIT0 HB0
          obtain ⟨pos, hpl, HIT, HB, HV⟩ := hrel
          have hpos0 := iterPos_of (unhide HIT)
          by_cases hlt : pos < t.length
          · have hlt2 : pos < (B t).size := by rw [B_size]; exact hlt
            have hnx := fun ty => Lib.run_next_any_at (P := Tryz.prog) wr w2.heap.size (B t) pos ty (unhide HIT) hlt2
            have hb2 := Lib.below_iterAt (unhide HB) (k := w2.heap.size) (unhide HBZ) (B t) (pos + (Utf8.decode (B t) pos).2)
            have hit2 := Lib.iterAt_heap wr w2.heap.size (B t) pos (pos + (Utf8.decode (B t) pos).2) (unhide HIT)
            have HRB := hide (rune_bytes (p := badN) (fun c h => bad_small h) t pos hlt)
            have hro := dec_rune (B t) pos
            obtain ⟨c, wd, hcw⟩ : ∃ c wd, Utf8.decode (B t) pos = (c, wd) := ⟨_, _, rfl⟩
            rw [hcw] at hnx hb2 hit2 HRB hro
            simp only at hnx hb2 hit2 HRB hro
            have HRO := hide hro
            have HB2 := hide hb2
            have HIT2 := hide hit2
            have HP0 := hide hpos0
            have HP2 := hide (iterPos_of hit2)
            clear hcw hb2 hit2 hpos0 HB HIT hro
            by_cases h33 : c < 33
            · have h33' : (c : Int) < 33 := by omega
              have HX : Hid (wordM t = false) := hide (by rw [unhide HQ]; exact all_bads hlt ((unhide HRB).2.2.1 (bad_low h33)))
              clear h33
              go_wp2_with fail
              go_ret
              exact ⟨by rw [unhide HX]; rfl, unhide HB2⟩
            · have h33' : ¬ (c : Int) < 33 := by omega
              by_cases h127 : c = 127
              · subst h127
                have HX : Hid (wordM t = false) := hide (by rw [unhide HQ]; exact all_bads hlt ((unhide HRB).2.2.1 bad_127))
                clear h33
                go_wp2_with fail
                go_ret
                exact ⟨by rw [unhide HX]; rfl, unhide HB2⟩
              · have h127' : ((c : Int) == 127) = false := by rw [beq_eq_false_iff_ne]; omega
                have HC : Hid (∀ W, Calls Tryz.prog 218 #[.string ⟨#[40, 41, 34, 59, 39, 92, 124]⟩, .int .i32 c] W fun e w' => e = .returned (.bool (badN c)) ∧ Below W.heap.size W w') := hide (fun W => by
                  have h := containsRune_c badsL c W (by decide) (unhide HRO) (by decide)
                  rw [bads_has c h33 h127] at h
                  exact h)
                clear h33 h127
                go_wp2_with fail
                refine (unhide HC _).mono ?_
                rintro e w3 ⟨rfl, hb3⟩
                have HB3 := hide (step_b (unhide HB2) hb3)
                have HIT3 : Hid (w3.heap[w2.heap.size]? = some (.stringIter (B t) (pos + wd))) := hide ((hb3.block w2.heap.size (Array.getElem?_eq_some_iff.1 (unhide HIT2)).1).trans (unhide HIT2))
                have HP3 := hide (iterPos_of (unhide HIT3))
                clear hb3
                obtain ⟨r1, r2, r3, r4⟩ := unhide HRB
                rcases Bool.eq_false_or_eq_true (badN c) with hb | hb
                · have HX : Hid (wordM t = false) := hide (by rw [unhide HQ]; exact all_bads hlt (r3 hb))
                  rw [hb]
                  clear hb r3 r4
                  go_wp2_with fail
                  go_ret
                  exact ⟨by rw [unhide HX]; rfl, unhide HB3⟩
                · have HV2 : Hid (∀ j (hj : j < t.length), j < pos + wd → badN (t[j]'hj).toNat = false) := hide (fun j hj h => by
                    by_cases h2 : j < pos
                    · exact unhide HV j hj h2
                    · exact r4 hb j hj (by omega) h)
                  rw [hb]
                  clear hb r3 r4
                  go_wp2_with fail
                  go_roundw
                  case rel => exact ⟨pos + wd, r2, HIT3, HB3, HV2⟩
                  case measure => rw [unhide HP0, unhide HP3]; omega
          · have hlt2 : ¬ pos < (B t).size := by rw [B_size]; exact hlt
            have hnx := fun ty => Lib.run_next_end_at (P := Tryz.prog) wr w2.heap.size (B t) pos ty (unhide HIT) hlt2
            have HX : Hid (wordM t = true) := hide (by rw [unhide HQ]; exact all_goods (fun i hi => unhide HV i hi (by omega)))
            clear hpos0
            go_wp2_with fail
            go_ret
            exact ⟨by rw [unhide HX]; rfl, unhide HB⟩
    · rw [hv] at HT
      have HQ : Hid (wordM t = false) := hide (by rw [unhide HW, Bool.and_assoc (!headN c.toNat), hv, Bool.and_false, Bool.false_and])
      clear hv HW
      go_enter Tryz.func250, Tryz.ntmps250
      go_wp2_with fail
      refine (unhide HT).mono ?_
      rintro e w1 ⟨rfl, hb⟩
      have HB := hide hb
      clear hb
      go_wp2_with fail
      go_ret
      exact ⟨by rw [unhide HQ]; rfl, unhide HB⟩
end Go.Proofs.YtpbnmhnbkfnaeaaGreatDoor
