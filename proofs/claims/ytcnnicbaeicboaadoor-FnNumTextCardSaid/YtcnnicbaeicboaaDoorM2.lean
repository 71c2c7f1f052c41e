/- A part of the proof, put together out of smaller texts. -/
import Derived.Test.YtcnnicbaeicboaaDoorM1
import Derived.Deep.RegionWith
set_option linter.all false
set_option maxRecDepth 100000
set_option maxHeartbeats 16000000
namespace Go.Proofs.YtcnnicbaeicboaaDoor
open Go.RowKit Nt
def zn (r : Int) : Bool := r == 2 || r == 8 || r == 10 || r == 16
theorem qg (r : Int) (w : World) :
  Calls Tryd.prog 42 #[.int .i64 r] w fun e w' => e = .returned (.bool (zn r)) ∧ w' = w := by
 unfold zn
 by_cases h2 : (r == 2) = true
 ·go_enter Tryd.func42, Tryd.ntmps42
  go_wp2
  go_ret
  exact ⟨zl (by simp [h2]), rfl⟩
 ·have h2' : (r == 2) = false := by simpa using h2
  clear h2
  by_cases h8 : (r == 8) = true
  ·go_enter Tryd.func42, Tryd.ntmps42
   go_wp2
   go_ret
   exact ⟨zl (by simp [h8, h2']), rfl⟩
  ·have h8' : (r == 8) = false := by simpa using h8
   clear h8
   by_cases h10 : (r == 10) = true
   ·go_enter Tryd.func42, Tryd.ntmps42
    go_wp2
    go_ret
    exact ⟨zl (by simp [h8', h2', h10]), rfl⟩
   ·have h10' : (r == 10) = false := by simpa using h10
    clear h10
    by_cases h16 : (r == 16) = true
    ·go_enter Tryd.func42, Tryd.ntmps42
     go_wp2
     go_ret
     exact ⟨zl (by simp [h8', h2', h10', h16]), rfl⟩
    ·have h16' : (r == 16) = false := by simpa using h16
     clear h16
     go_enter Tryd.func42, Tryd.ntmps42
     go_wp2
     go_ret
     exact ⟨zl (by simp [h8', h2', h10', h16']), rfl⟩
def findB (c : UInt8) : List UInt8 → Option Nat
 | [] => none
 | d :: r => if d = c then some 0 else (findB c r).map (· + 1)
def findI (c : UInt8) (l : List UInt8) : Int := match findB c l with | some k => (k : Int) | none => -1
theorem vk {c : UInt8} : ∀ {l : List UInt8} {k : Nat}, (h : k < l.length) → l[k] = c → (∀ j (hj : j < l.length), j < k → l[j] ≠ c) → findB c l = some k := by
 intro l
 induction l with
 | nil => intro k h; simp at h
 | cons d r ih =>
  intro k h hk hlt
  cases k with
  | zero => simp only [List.getElem_cons_zero] at hk; simp [findB, hk]
  | succ k =>
   have hd : d ≠ c := hlt 0 (by simp) (by omega)
   have := ih (k := k) (by simpa using h) (by simpa using hk) (fun j hj hjk => by have := hlt (j + 1) (by simpa using hj) (by omega); simpa using this)
   simp [findB, hd, this]
theorem vj {c : UInt8} : ∀ {l : List UInt8}, (∀ j (hj : j < l.length), l[j] ≠ c) → findB c l = none := by
 intro l
 induction l with
 | nil => intro _; rfl
 | cons d r ih =>
  intro h
  have hd : d ≠ c := h 0 (by simp)
  have := ih (fun j hj => by have := h (j + 1) (by simpa using hj); simpa using this)
  simp [findB, hd, this]
theorem xy (l : List UInt8) (c : UInt8) (w : World) (hs : l.length ≤ 1000000000) :
  Calls Tryd.prog 43 #[.string (B l), .int .u8 c.toNat] w fun e w' => e = .returned (.int .i64 (findI c l)) ∧ w' = w := by
 have hsz : (B l).size ≤ 1000000000 := by rw [zi]; exact hs
 go_enter Tryd.func43, Tryd.ntmps43
 go_wp2
 go_loop [5] (fun i => ∃ k : Nat, k ≤ l.length ∧ i = .int .i64 k ∧ Hid (∀ j (hj : j < l.length), j < k → l[j] ≠ c)) (fun i => l.length - (intOf i).toNat)
 case atStart => exact ⟨0, Nat.zero_le _, rfl, hide (fun j _ h => by omega)⟩
 case round =>
  obtain ⟨k, hk, rfl, hv⟩ := hrel
  by_cases hlt : k < l.length
  ·have hlt2 : k < (B l).size := by rw [zi]; exact hlt
   have hgk : ((B l)[k]'hlt2).toNat = (l[k]'hlt).toNat := by rw [B_get]
   by_cases heq : l[k]'hlt = c
   ·have hf : findI c l = (k : Int) := by unfold findI; rw [vk hlt heq (za hv)]
    have Hf := hide hf
    have ht : (((l[k]'hlt).toNat : Int) == (c.toNat : Int)) = true := by rw [heq]; simp
    clear hf heq
    go_wp2
    go_ret
    exact ⟨qx (za Hf).symm, rfl⟩
   ·have ht : (((l[k]'hlt).toNat : Int) == (c.toNat : Int)) = false := by
     rw [beq_eq_false_iff_ne]; intro hh; exact heq (UInt8.toNat_inj.1 (by omega))
    have hv2 : Hid (∀ j (hj : j < l.length), j < k + 1 → l[j] ≠ c) := by
     intro j hj hjk
     by_cases hjk2 : j < k
     ·exact za hv j hj hjk2
     ·have : j = k := by omega
      subst this; exact heq
    clear heq
    go_wp2
    go_round
    case rel => exact ⟨k + 1, by omega, by go_num, hv2⟩
    case measure => simp [intOf]; omega
  ·have hlt2 : ¬ k < (B l).size := by rw [zi]; exact hlt
   have hf : findI c l = -1 := by unfold findI; rw [vj (fun j hj => za hv j hj (by omega))]
   have Hf := hide hf
   clear hf
   go_wp2
   go_ret
   exact ⟨qx (za Hf).symm, rfl⟩
def numV (neg : Bool) (u d : ByteArray) : Value := .agg #[.bool neg, .string u, .string d]
def noNum : Value := numV false ⟨#[]⟩ ⟨#[]⟩
def zm (neg : Bool) (u d : Nat) : Option (Bool × Nat × Nat) :=
 if d = 0 ∨ 60 < (dec (u / Nat.gcd u d)).size ∨ 60 < (dec (d / Nat.gcd u d)).size then none else some (neg && u / Nat.gcd u d != 0, u / Nat.gcd u d, d / Nat.gcd u d)
def numO : Option (Bool × Nat × Nat) → Value
 | none => noNum
 | some (n, u, d) => numV n (dec u) (dec d)
def zd (o : Option (Bool × Nat × Nat)) : Value := .tuple #[numO o, .bool o.isSome]
theorem xn : dec 0 = ⟨#[48]⟩ := by unfold dec txt; rw [zE]; rfl
theorem qW (n : Nat) : ((dec n).toList == [48]) = decide (n = 0) := by
 have := j6 n 0
 rwa [show (dec 0).toList = [48] from by unfold dec txt; rw [B_tl, zE]] at this
theorem zO (neg : Bool) (u d : Nat) (w : World) (hsu : (dec u).size ≤ 50000) (hsd : (dec d).size ≤ 50000) :
  Calls Tryd.prog 47 #[.bool neg, .string (dec u), .string (dec d)] w fun e w' => e = .returned (zd (zm neg u d)) ∧ Below w.heap.size w w' := by
 have hd0 := qW d
 by_cases hz : d = 0
 ·rw [decide_eq_true hz] at hd0
  have hl : zm neg u d = none := by simp [zm, hz]
  rw [hl]
  clear hl hz
  go_enter Tryd.func47, Tryd.ntmps47
  go_wp2
  refine bodyPost_ret (v := zd none) (by simp [results, Tryd.results47, go_sem, zd, numO, noNum, numV]) rfl ⟨rfl, (Below.refl _ _).alloc (Nat.le_refl _) _⟩
 ·rw [decide_eq_false hz] at hd0
  have hg : 0 < Nat.gcd u d := Nat.gcd_pos_of_pos_right _ (by omega)
  have hg1 : (dec (Nat.gcd u d)).size ≤ 50000 := by have := qG (Nat.gcd_le_right u (show 0 < d by omega)); omega
  go_enter Tryd.func47, Tryd.ntmps47
  go_wp2_with fail
  refine (yj u d _ hsu hsd).mono ?_
  rintro e w1 ⟨rfl, hb1⟩
  go_wp2_with fail
  refine (j7 u _ _ hg hsu hg1).mono ?_
  rintro e w2 ⟨rfl, hb2⟩
  go_wp2_with fail
  refine (j7 d _ _ hg hsd hg1).mono ?_
  rintro e w3 ⟨rfl, hb3⟩
  have hb0 := zg hb1
  have h2 := ze hb0 (by have := hb1.size; simpa using this) hb2
  have h3 := ze h2.1 h2.2 hb3
  have c0 := zb h3.1 0
  have c1 := zb h3.1 1
  have c2 := zb h3.1 2
  have f0 := zc h3.1 0
  have f1 := zc h3.1 1
  have f2 := zc h3.1 2
  have hbX := zf h3.1
  simp at c0 c1 c2
  have hqz := qW (u / Nat.gcd u d)
  generalize hqu : u / Nat.gcd u d = qu at *
  generalize hqd : d / Nat.gcd u d = qd at *
  have Hlow : Hid (zm neg u d = if 60 < (dec qu).size ∨ 60 < (dec qd).size then none else some (neg && qu != 0, qu, qd)) := by
   show _ = _
   unfold zm; rw [hqu, hqd]
   by_cases h : 60 < (dec qu).size ∨ 60 < (dec qd).size
   ·rw [if_pos (by rcases h with h | h <;> simp [h]), if_pos h]
   ·rw [if_neg (by rintro (h1 | h1); exact hz h1; exact h h1), if_neg h]
  clear hb1 hb2 hb3 h2 h3 hb0 hqu hqd
  by_cases h1 : 60 < (dec qu).size
  ·rw [if_pos (.inl h1)] at Hlow
   go_wp2
   refine bodyPost_ret (v := zd none) (by simp [results, Tryd.results47, go_sem, zd, numO, noNum, numV, c0, c1, c2]) rfl ⟨by rw [za Hlow], ?_⟩
   exact ((hbX.setCell (by simp) _).setCell (by simp) _).setCell (by simp) _
  ·by_cases h2 : 60 < (dec qd).size
   ·rw [if_pos (.inr h2)] at Hlow
    go_wp2
    refine bodyPost_ret (v := zd none) (by simp [results, Tryd.results47, go_sem, zd, numO, noNum, numV, c0, c1, c2]) rfl ⟨by rw [za Hlow], ?_⟩
    exact ((hbX.setCell (by simp) _).setCell (by simp) _).setCell (by simp) _
   ·rw [if_neg (by rintro (h | h); exact h1 h; exact h2 h)] at Hlow
    by_cases hq0 : qu = 0
    ·rw [decide_eq_true hq0] at hqz
     have Hq0 := hide hq0
     clear hq0
     cases neg
     case false =>
      go_wp2
      refine bodyPost_ret (v := zd (some (false, qu, qd))) (by simp [results, Tryd.results47, go_sem, zd, numO, numV, c0, c1, c2]) rfl ⟨by rw [za Hlow]; rfl, ?_⟩
      exact ((hbX.setCell (by simp) _).setCell (by simp) _).setCell (by simp) _
     case true =>
      go_wp2
      refine bodyPost_ret (v := zd (some (false, qu, qd))) (by simp [results, Tryd.results47, go_sem, zd, numO, numV, c0, c1, c2]) rfl ⟨by rw [za Hlow, za Hq0]; rfl, ?_⟩
      exact ((hbX.setCell (by simp) _).setCell (by simp) _).setCell (by simp) _
    ·rw [decide_eq_false hq0] at hqz
     have Hq0 := hide hq0
     clear hq0
     cases neg
     case false =>
      go_wp2
      refine bodyPost_ret (v := zd (some (false, qu, qd))) (by simp [results, Tryd.results47, go_sem, zd, numO, numV, c0, c1, c2]) rfl ⟨by rw [za Hlow]; rfl, ?_⟩
      exact ((hbX.setCell (by simp) _).setCell (by simp) _).setCell (by simp) _
     case true =>
      go_wp2
      refine bodyPost_ret (v := zd (some (true, qu, qd))) (by simp [results, Tryd.results47, go_sem, zd, numO, numV, c0, c1, c2]) rfl ⟨by rw [za Hlow, bne_iff_ne.2 (za Hq0)]; rfl, ?_⟩
      exact ((hbX.setCell (by simp) _).setCell (by simp) _).setCell (by simp) _
theorem vO {P : Program} {src dst e : TypeId} (hs : P.underlying src = some (.slice e)) (he : P.underlying e = some (.int .u8)) (hd : P.underlying dst = some .string) (W w1 : World) (c : UInt8)
  (hb : Below (W.heap.size + 1) (W.alloc (.cells #[.int .u8 c.toNat] e)) w1) :
  (convert src dst (.slice (some ⟨W.heap.size, 0, none⟩) 1 1)).run P w1 = .ok (.string (B [c])) w1 := by
 have h0 := World.ownsRow_lit (base := 0) (e := e) (size := 1) W #[.int .u8 c.toNat] 1 (Nat.zero_le _) (by decide) (by simp)
 have h1 := zt h0 (by simpa using hb)
 have e1 : (#[Value.int .u8 c.toNat] : Array Value).toList = [c].map u8v := by simp [u8v]
 rw [e1] at h1
 exact zM hs he hd h1
theorem yJ (n k : Nat) (h : k < (dec n).size) : ((dec n)[k]'h).toNat = 48 + n / 10 ^ ((dec n).size - 1 - k) % 10 := by
 have h1 : k < (txl 10 n).length := by rw [← zq]; exact h
 have e := y7 n ((txl 10 n).length - 1 - k) (by omega)
 rw [List.getElem_reverse] at e
 have e2 : (txl 10 n).length - 1 - ((txl 10 n).length - 1 - k) = k := by omega
 simp only [e2] at e
 have hm : n / 10 ^ ((txl 10 n).length - 1 - k) % 10 < 10 := Nat.mod_lt _ (by omega)
 rw [zq]
 have e3 : ((dec n)[k]'h) = (txl 10 n)[k]'h1 := by simp only [dec, txt, B_get]
 rw [e3, e, zI (by omega), if_pos hm]
def qY : ByteArray := ⟨#[48, 49, 50, 51, 52, 53, 54, 55, 56, 57, 97, 98, 99, 100, 101, 102]⟩
theorem vL (d : Nat) (h : d < 16) (h' : d < qY.size) : (qY[d]'h').toNat = (sg d).toNat := by
 have : ∀ d : Fin 16, (qY[d.val]'d.isLt).toNat = (sg d.val).toNat := by decide
 exact this ⟨d, h⟩
theorem yn (N b : Nat) (w : World) (hb2 : 2 ≤ b) (hb16 : b ≤ 16) (hs : (dec N).size ≤ 5000) (ht : (txl b N).length ≤ 50000) :
  Calls Tryd.prog 54 #[.string (dec N), .int .i64 b] w fun e w' => e = .returned (.string (txt b N)) ∧ Below w.heap.size w w' := by
 have hbs := zF (n := b) (by omega)
 go_enter Tryd.func54, Tryd.ntmps54
 go_wp2
 go_loopw [0, 5] (fun n o wr => ∃ (m : Nat) (t : List UInt8), n = .string (dec m) ∧ o = .string (B t) ∧ m ≤ N ∧ t.length ≤ 50000 ∧ Below w.heap.size w wr ∧ Hid (txl b m ++ t = txl b N))
  (fun n _ _ => zj (match n with | .string s => s.data.toList | _ => []))
 case atStart => exact ⟨N, [], rfl, rfl, Nat.le_refl _, by simp, Below.refl _ _, hide (by simp)⟩
 case round =>
  obtain ⟨m, t, rfl, rfl, hmN, htl, hb, htx⟩ := hrel
  have hms := qG hmN
  have hmod : m % b < b := Nat.mod_lt _ (by omega)
  go_wp2_with fail
  refine (qe b (by omega) _).mono ?_
  rintro e w1 ⟨rfl, hb1⟩
  go_wp2_with fail
  refine (j7 m b _ (by omega) (by omega) (by omega)).mono ?_
  rintro e w2 ⟨rfl, hb2'⟩
  have hbA := ze hb hb.size hb1
  have hbB := ze hbA.1 hbA.2 hb2'
  clear hbA hb1 hb2'
  obtain ⟨q, hq⟩ : ∃ q, m / b = q := ⟨_, rfl⟩
  obtain ⟨r, hr⟩ : ∃ r, m % b = r := ⟨_, rfl⟩
  rw [hr] at hmod
  have hrs := zF (n := r) (by omega)
  have Hq := hide hq
  have Hr := hide hr
  rw [hq, hr]
  clear hq hr
  go_wp2_with fail
  go_loopw [8, 9] (fun d i wr => ∃ k : Nat, k ≤ (dec r).size ∧ i = .int .i64 k ∧ d = .int .i64 (pref r k : Nat) ∧ Below w.heap.size w wr) (fun _ i _ => (dec r).size - (intOf i).toNat)
  case atStart => exact ⟨0, Nat.zero_le _, rfl, by rw [jo]; rfl, hbB.1⟩
  case round =>
   obtain ⟨k, hk, rfl, rfl, hbC⟩ := hrel
   by_cases hlt : k < (dec r).size
   ·have hby := yJ r k hlt
    have hm10 : r / 10 ^ ((dec r).size - 1 - k) % 10 < 10 := Nat.mod_lt _ (by omega)
    have hps := jR r k hlt
    have hpl : pref r k ≤ r := Nat.div_le_self _ _
    generalize r / 10 ^ ((dec r).size - 1 - k) % 10 = c at *
    generalize pref r k = p at *
    have Hps := hide hps
    clear hps
    go_wp2
    go_roundw
    case rel => exact ⟨k + 1, by omega, by go_num, by rw [za Hps]; go_num, hbC⟩
    case measure => simp [intOf]; omega
   ·have hkl : k = (dec r).size := by omega
    subst hkl
    have hpa := jD r
    have hd16 : r < 16 := by omega
    have hg := vL r hd16 hd16
    unfold qY at hg
    have hconv := vO (P := Tryd.prog) (src := 22) (dst := 9) Tryd.underlying22 Tryd.underlying5 Tryd.underlying9 wr _ (sg r) (Below.refl _ _)
    have hcat : B [sg r] ++ B t = B (sg r :: t) := by rw [zu]; rfl
    have hs1 : (B [sg r]).size ≤ 1 := by rw [zi]; simp
    have hs2 : (B t).size ≤ 50000 := by rw [zi]; exact htl
    have hns : ¬ 9223372036854775807 < (B [sg r]).size + (B t).size := by omega
    have hbD := hbC.alloc (by have := hbC.size; exact this) (.cells #[.int .u8 (sg r).toNat] 5)
    have hq0 := qW q
    by_cases hz : q = 0
    ·rw [decide_eq_true hz] at hq0
     have hmb : m < b := by
      have := za Hq; rw [hz] at this
      rcases Nat.div_eq_zero_iff.1 this with h | h
      ·omega
      ·exact h
     have hfin : B (sg r :: t) = txt b N := by
      unfold txt
      rw [← za htx, qo b hb2 m hmb, ← za Hr, Nat.mod_eq_of_lt hmb]; rfl
     have Hfin := hide hfin
     clear hfin hz
     go_wp2
     go_ret
     exact ⟨zv (za Hfin), hbD⟩
    ·rw [decide_eq_false hz] at hq0
     have hmb : b ≤ m := by
      apply Nat.le_of_not_lt
      intro h; apply hz; rw [← za Hq]; exact Nat.div_eq_of_lt h
     have htx2 : txl b q ++ (sg r :: t) = txl b N := by
      rw [← za htx, jl b hb2 m hmb, za Hq, za Hr]; simp
     have Htx2 := hide htx2
     have hl2 : (sg r :: t).length ≤ 50000 := by
      have := congrArg List.length htx2
      rw [List.length_append] at this; omega
     have hqm : q < m := by rw [← za Hq]; exact Nat.div_lt_self (by omega) (by omega)
     clear htx2
     go_wp2
     go_roundw
     case rel => exact ⟨q, sg r :: t, rfl, rfl, by omega, hl2, hbD, Htx2⟩
     case measure =>
      show zj (txl 10 q) < zj (txl 10 m)
      rw [zC, zC]; exact hqm
def overM (neg : Bool) (b : Nat) (x y : List UInt8) : Option (Bool × Nat × Nat) :=
 if okN b x && okN b y then zm neg (rdN b x) (rdN b y) else none
theorem qw {b : Nat} {l : List UInt8} (hb16 : b ≤ 16) (h : okN b l = true) : (dec (rdN b l)).size ≤ 2 * l.length + 1 := by
 unfold okN at h
 simp only [Bool.and_eq_true] at h
 exact qX hb16 (kp b l (fun c hc => by simpa using List.all_eq_true.1 h.2 c hc))
theorem zh {w w3 : World} {b : Nat} (h : Below b w w3) (g : Nat) (hg : b ≤ g) (x y z : Value) : Below b w (((w3.setCell ⟨g, 0, none⟩ x).setCell ⟨g, 1, none⟩ y).setCell ⟨g, 2, none⟩ z) :=
 ((h.setCell hg _).setCell hg _).setCell hg _
theorem jz (neg : Bool) (l : List UInt8) (k b : Nat) (w : World) (hk : k < l.length) (hs : l.length ≤ 5000) (hb2 : 2 ≤ b) (hb16 : b ≤ 16) :
  Calls Tryd.prog 44 #[.bool neg, .string (B l), .int .i64 k, .int .i64 b] w fun e w' => e = .returned (zd (overM neg b (l.take k) (l.drop (k + 1)))) ∧ Below w.heap.size w w' := by
 have hsz : (B l).size ≤ 5000 := by rw [zi]; exact hs
 have hkz : k < (B l).size := by rw [zi]; exact hk
 have he1 : (B l).extract 0 k = B (l.take k) := by rw [zA]; simp
 have he2 : (B l).extract (k + 1) (B l).size = B (l.drop (k + 1)) := by rw [zA, zi, List.take_length]
 generalize hx : l.take k = x at *
 generalize hy : l.drop (k + 1) = y at *
 have hxl : x.length ≤ 5000 := by rw [← hx]; simp; omega
 have hyl : y.length ≤ 5000 := by rw [← hy]; simp; omega
 clear hx hy
 go_enter Tryd.func44, Tryd.ntmps44
 go_wp2_with fail
 refine (qk x b _ hb2 hb16 (by omega)).mono ?_
 rintro e w1 ⟨rfl, hb1⟩
 unfold z8
 go_wp2_with fail
 refine (qk y b _ hb2 hb16 (by omega)).mono ?_
 rintro e w2 ⟨rfl, hb2'⟩
 unfold z8
 have hb0 := zg hb1
 have hn2 := ze hb0 (by have := hb1.size; simpa using this) hb2'
 have hsx := fun h => qw (l := x) hb16 h
 have hsy := fun h => qw (l := y) hb16 h
 have hvx : okN b x = true → natV b x = rdN b x := fun h => by unfold natV; rw [if_pos h]
 have hvy : okN b y = true → natV b y = rdN b y := fun h => by unfold natV; rw [if_pos h]
 have Hov : Hid (overM neg b x y = if okN b x && okN b y then zm neg (rdN b x) (rdN b y) else none) := hide rfl
 generalize natV b x = vx at *
 generalize natV b y = vy at *
 generalize okN b x = ox at *
 generalize okN b y = oy at *
 cases ox
 ·
  have c0 := zb hn2.1 0
  have c1 := zb hn2.1 1
  have c2 := zb hn2.1 2
  have f0 := zc hn2.1 0
  have f1 := zc hn2.1 1
  have f2 := zc hn2.1 2
  have hbX := zf hn2.1
  simp at c0 c1 c2
  clear hb1 hb2' hb0 hn2 hsx hsy he1 he2 hvx hvy
  go_wp2
  refine bodyPost_ret (v := zd none) (by simp [results, Tryd.results44, go_sem, zd, numO, noNum, numV, c0, c1, c2]) rfl ⟨by rw [za Hov]; rfl, ?_⟩
  exact zh hbX _ (Nat.le_refl _) _ _ _
 ·cases oy
  ·
   have c0 := zb hn2.1 0
   have c1 := zb hn2.1 1
   have c2 := zb hn2.1 2
   have f0 := zc hn2.1 0
   have f1 := zc hn2.1 1
   have f2 := zc hn2.1 2
   have hbX := zf hn2.1
   simp at c0 c1 c2
   clear hb1 hb2' hb0 hn2 hsx hsy he1 he2 hvx hvy
   go_wp2
   refine bodyPost_ret (v := zd none) (by simp [results, Tryd.results44, go_sem, zd, numO, noNum, numV, c0, c1, c2]) rfl ⟨by rw [za Hov]; rfl, ?_⟩
   exact zh hbX _ (Nat.le_refl _) _ _ _
  ·have h1 := hsx rfl
   have h2 := hsy rfl
   rw [← hvx rfl] at h1
   rw [← hvy rfl] at h2
   have Hov2 : Hid (overM neg b x y = zm neg vx vy) := by rw [hvx rfl, hvy rfl]; exact Hov
   clear hsx hsy he1 he2 hvx hvy Hov
   go_wp2_with fail
   refine (zO neg vx vy _ (by omega) (by omega)).mono ?_
   rintro e w3 ⟨rfl, hb3⟩
   have hn3 := ze hn2.1 hn2.2 hb3
   have c0 := zb hn3.1 0
   have c1 := zb hn3.1 1
   have c2 := zb hn3.1 2
   have f0 := zc hn3.1 0
   have f1 := zc hn3.1 1
   have f2 := zc hn3.1 2
   have hbX := zf hn3.1
   simp at c0 c1 c2
   clear hb1 hb2' hb0 hn2 hb3 hn3
   generalize zm neg vx vy = o at *
   unfold zd
   obtain ⟨n3, u3, d3, ho⟩ : ∃ n3 u3 d3, numO o = numV n3 u3 d3 := by
    cases o with
    | none => exact ⟨_, _, _, rfl⟩
    | some p => exact ⟨_, _, _, rfl⟩
   have Ho := hide ho
   rw [ho]
   unfold numV
   clear ho
   go_wp2
   refine bodyPost_ret (v := zd o) (by simp [results, Tryd.results44, go_sem, zd, za Ho, numV, c0, c1, c2]) rfl ⟨by rw [za Hov2], ?_⟩
   exact zh hbX _ (Nat.le_refl _) _ _ _
def qm (neg : Bool) (x y : List UInt8) : Option (Bool × Nat × Nat) :=
 if okN 10 (x ++ y) then zm neg (rdN 10 (x ++ y)) (10 ^ y.length) else none
theorem qi : dec 1 = ⟨#[49]⟩ := by unfold dec txt; rw [qo 10 (by omega) 1 (by omega)]; rfl
theorem xm (j : Nat) : dec (10 ^ j) ++ ⟨#[48]⟩ = dec (10 ^ (j + 1)) := by
 have h1 : 0 < 10 ^ j := Nat.pow_pos (by omega)
 have h : 10 ≤ 10 ^ (j + 1) := by rw [Nat.pow_succ]; omega
 have e := jl 10 (by omega) (10 ^ (j + 1)) h
 rw [show 10 ^ (j + 1) / 10 = 10 ^ j from by rw [Nat.pow_succ]; omega, show 10 ^ (j + 1) % 10 = 0 from by rw [Nat.pow_succ]; omega] at e
 unfold dec txt
 rw [e, show (⟨#[48]⟩ : ByteArray) = B [sg 0] from rfl, zu]
theorem vK (j : Nat) : (dec (10 ^ j)).size ≤ j + 1 := by
 rw [zq]
 exact zB (by omega) (by omega) (Nat.pow_lt_pow_right (by omega) (by omega))
theorem jn (neg : Bool) (l : List UInt8) (k : Nat) (w : World) (hk : k < l.length) (hs : l.length ≤ 5000) :
  Calls Tryd.prog 45 #[.bool neg, .string (B l), .int .i64 k] w fun e w' => e = .returned (zd (qm neg (l.take k) (l.drop (k + 1)))) ∧ Below w.heap.size w w' := by
 have hsz : (B l).size ≤ 5000 := by rw [zi]; exact hs
 have hszI : ((B l).size : Int) = l.length := by rw [zi]
 have hkz : k < (B l).size := by rw [zi]; exact hk
 have he1 : (B l).extract 0 k = B (l.take k) := by rw [zA]; simp
 have he2 : (B l).extract (k + 1) (B l).size = B (l.drop (k + 1)) := by rw [zA, zi, List.take_length]
 have hyl : (l.drop (k + 1)).length = l.length - (k + 1) := by simp
 have hxl : (l.take k).length = k := by simp; omega
 generalize hx : l.take k = x at *
 generalize hy : l.drop (k + 1) = y at *
 have hcat : B x ++ B y = B (x ++ y) := zu x y
 have hxs : (B x).size = x.length := zi x
 have hys : (B y).size = y.length := zi y
 have hns : ¬ 9223372036854775807 < (B x).size + (B y).size := by omega
 have hns2 : ¬ (9223372036854775807 < ((B x).size : Int) + ((B y).size : Int)) := by omega
 have hxyl : (x ++ y).length ≤ 10000 := by rw [List.length_append]; omega
 have e1 := wi64 ((k : Int) + 1) (by omega) (by omega)
 have e2 : ((k : Int) + 1).toNat = k + 1 := by omega
 clear hx hy
 have Hyl := hide hyl
 clear hyl hxl hxs hys
 go_enter Tryd.func45, Tryd.ntmps45
 go_wp2
 go_region_with (go_at_call 46; refine (qk (x ++ y) 10 _ (by omega) (by omega) hxyl).mono ?_; rintro e w1 ⟨rfl, hb1⟩; unfold z8)
 all_goals
  have hb0 : Below (w.heap.size + 1) (w.alloc (.cells #[.bool false, .string ⟨#[]⟩, .string ⟨#[]⟩] 26)) w1 := by
   have := qs hb1; simpa using this
  have hzz : w.heap.size + 1 ≤ w1.heap.size := by have := hb1.size; simpa using this
  have hsx := fun h => qw (b := 10) (l := x ++ y) (by omega) h
  have hvx : okN 10 (x ++ y) = true → natV 10 (x ++ y) = rdN 10 (x ++ y) := fun h => by unfold natV; rw [if_pos h]
  have Hov : Hid (qm neg x y = if okN 10 (x ++ y) then zm neg (rdN 10 (x ++ y)) (10 ^ y.length) else none) := hide rfl
  generalize natV 10 (x ++ y) = vx at *
  generalize okN 10 (x ++ y) = ox at *
  clear hb1 he1 he2 hcat hns hns2 e1
  cases ox
  case' false =>
   have c0 := zb hb0 0
   have c1 := zb hb0 1
   have c2 := zb hb0 2
   have f0 := zc hb0 0
   have f1 := zc hb0 1
   have f2 := zc hb0 2
   have hbX := zf hb0
   simp at c0 c1 c2
   clear hb0 hsx hvx
   go_wp2
   refine bodyPost_ret (v := zd none) (by simp [results, Tryd.results45, go_sem, zd, numO, noNum, numV, c0, c1, c2]) rfl ⟨by rw [za Hov]; rfl, ?_⟩
   exact zh hbX _ (Nat.le_refl _) _ _ _
  case' true =>
   have h1 := hsx rfl
   rw [← hvx rfl] at h1
   have Hov2 : Hid (qm neg x y = zm neg vx (10 ^ y.length)) := by rw [hvx rfl]; exact Hov
   clear hsx hvx Hov
   go_wp2
   go_loopw [10, 11] (fun dn i wr => ∃ j : Nat, k + 1 + j ≤ l.length ∧ dn = .string (dec (10 ^ j)) ∧ i = .int .i64 ((k + 1 + j : Nat) : Int) ∧ wr = w1) (fun _ i _ => l.length - (intOf i).toNat)
   case atStart => exact ⟨0, by omega, by rw [Nat.pow_zero, qi], by go_num, rfl⟩
   case round =>
    obtain ⟨j, hj, rfl, rfl, rfl⟩ := hrel
    have hds := vK j
    by_cases hlt : k + 1 + j < l.length
    ·have htn := xm j
     have hns : ¬ 9223372036854775807 < (dec (10 ^ j)).size + 1 := by omega
     go_wp2
     go_roundw
     case rel => exact ⟨j + 1, by omega, rfl, by go_num, trivial⟩
     case measure => simp [intOf]; omega
    ·have hjy : j = y.length := by have := za Hyl; omega
     go_wp2_with fail
     have hds2 : (dec (10 ^ y.length)).size ≤ 50000 := by rw [← hjy]; omega
     clear hjy
     refine (zO neg vx (10 ^ y.length) _ (by omega) hds2).mono ?_
     rintro e w3 ⟨rfl, hb3⟩
     have hn3 := ze hb0 hzz hb3
     have c0 := zb hn3.1 0
     have c1 := zb hn3.1 1
     have c2 := zb hn3.1 2
     have f0 := zc hn3.1 0
     have f1 := zc hn3.1 1
     have f2 := zc hn3.1 2
     have hbX := zf hn3.1
     simp at c0 c1 c2
     clear hb0 hb3 hn3
     generalize zm neg vx (10 ^ y.length) = o at *
     unfold zd
     obtain ⟨n3, u3, d3, ho⟩ : ∃ n3 u3 d3, numO o = numV n3 u3 d3 := by
      cases o with
      | none => exact ⟨_, _, _, rfl⟩
      | some p => exact ⟨_, _, _, rfl⟩
     have Ho := hide ho
     rw [ho]
     unfold numV
     clear ho
     go_wp2
     refine bodyPost_ret (v := zd o) (by simp [results, Tryd.results45, go_sem, zd, za Ho, numV, c0, c1, c2]) rfl ⟨by rw [za Hov2], ?_⟩
     exact zh hbX _ (Nat.le_refl _) _ _ _
def zX (neg : Bool) (b : Nat) (l : List UInt8) : Option (Bool × Nat × Nat) := if okN b l then zm neg (rdN b l) 1 else none
def bodyM (neg : Bool) (b : Nat) (l : List UInt8) : Option (Bool × Nat × Nat) :=
 match findB 47 l with
 | some k => overM neg b (l.take k) (l.drop (k + 1))
 | none => match findB 46 l with
  | some k => if b = 10 then qm neg (l.take k) (l.drop (k + 1)) else zX neg b l
  | none => zX neg b l
def signB (b : Nat) : List UInt8 → Option (Bool × Nat × Nat)
 | [] => bodyM false b []
 | c :: t => if c = 45 then bodyM true b t else if c = 43 then bodyM false b t else bodyM false b (c :: t)
def zk (l : List UInt8) (r : Int) : Option (Bool × Nat × Nat) := if zn r && decide (l.length ≤ 240) then signB r.toNat l else none
theorem zY {c : UInt8} : ∀ {l : List UInt8} {k : Nat}, findB c l = some k → k < l.length := by
 intro l
 induction l with
 | nil => intro k h; simp [findB] at h
 | cons d r ih =>
  intro k h
  simp only [findB] at h
  split at h
  ·simp at h; subst h; simp
  ·cases hr : findB c r with
   | none => rw [hr] at h; simp at h
   | some j => rw [hr] at h; simp at h; subst h; have := ih hr; simp; omega
theorem qf (l : List UInt8) (c : UInt8) (n : Int) (hn : (c.toNat : Int) = n) (w : World) (hs : l.length ≤ 1000000000) :
  Calls Tryd.prog 43 #[.string (B l), .int .u8 n] w fun e w' => e = .returned (.int .i64 (findI c l)) ∧ w' = w := by
 subst hn; exact xy l c w hs
theorem qc {r : Int} (h : zn r = true) : ∃ b : Nat, r = b ∧ (b = 2 ∨ b = 8 ∨ b = 10 ∨ b = 16) := by
 unfold zn at h
 simp only [Bool.or_eq_true, beq_iff_eq] at h
 exact ⟨r.toNat, by omega, by omega⟩
theorem jP (l : List UInt8) (r : Int) (h : zn r = false ∨ 240 < l.length) : zk l r = none := by
 unfold zk
 rcases h with h | h
 ·simp [h]
 ·rw [decide_eq_false (by omega)]; simp
theorem j4 (l : List UInt8) (r : Int) (w : World) (hs : l.length ≤ 1000000000) (h : zn r = false ∨ 240 < l.length) :
  Calls Tryd.prog 8 #[.string (B l), .int .i64 r] w fun e w' => e = .returned (zd (zk l r)) ∧ Below w.heap.size w w' := by
 rw [jP l r h]
 have hsz : (B l).size ≤ 1000000000 := by rw [zi]; exact hs
 by_cases hr : zn r = false
 ·clear h
  go_enter Tryd.func8, Tryd.ntmps8
  go_wp2_with fail
  refine (qg r _).mono ?_
  rintro e w1 ⟨rfl, rfl⟩
  rw [hr]
  go_wp2
  refine bodyPost_ret (v := zd none) (by simp [results, Tryd.results8, go_sem, zd, numO, noNum, numV]) rfl ⟨rfl, ?_⟩
  exact (Below.refl _ _).alloc (Nat.le_refl _) _
 ·have hr' : zn r = true := by simpa using hr
  have hl : 240 < (B l).size := by rw [zi]; rcases h with h | h; exact absurd h hr; exact h
  clear h hr
  go_enter Tryd.func8, Tryd.ntmps8
  go_wp2_with fail
  refine (qg r _).mono ?_
  rintro e w1 ⟨rfl, rfl⟩
  rw [hr']
  go_wp2
  refine bodyPost_ret (v := zd none) (by simp [results, Tryd.results8, go_sem, zd, numO, noNum, numV]) rfl ⟨rfl, ?_⟩
  exact (Below.refl _ _).alloc (Nat.le_refl _) _
theorem qh (l : List UInt8) (b : Nat) (hb4 : b = 2 ∨ b = 8 ∨ b = 10 ∨ b = 16) (hl : l.length ≤ 240) : zk l (b : Int) = signB b l := by
 have hr : zn (b : Int) = true := by rcases hb4 with rfl | rfl | rfl | rfl <;> rfl
 unfold zk
 rw [hr, decide_eq_true hl]
 simp
theorem jH (b : Nat) (w : World) (hb4 : b = 2 ∨ b = 8 ∨ b = 10 ∨ b = 16) :
  Calls Tryd.prog 8 #[.string (B []), .int .i64 b] w fun e w' => e = .returned (zd (zk [] b)) ∧ Below w.heap.size w w' := by
 obtain ⟨l, hl⟩ : ∃ l : List UInt8, l = [] := ⟨_, rfl⟩
 rw [← hl]
 have hr : zn (b : Int) = true := by rcases hb4 with rfl | rfl | rfl | rfl <;> rfl
 have hl2 : l.length ≤ 240 := by rw [hl]; simp
 have Hm : Hid (zk l (b : Int) = bodyM false b l) := by show _ = _; rw [qh l b hb4 hl2, hl]; rfl
 have hz : (B l).size ≤ 0 := by rw [zi, hl]; simp
 clear hl
 go_enter Tryd.func8, Tryd.ntmps8
 go_wp2_with fail
 refine (qg b _).mono ?_
 rintro e w1 ⟨rfl, rfl⟩
 rw [hr]
 go_wp2_with fail
 refine (qf l 47 47 rfl _ (by omega)).mono ?_
 rintro e w1 ⟨rfl, rfl⟩
 cases hf : findB 47 l with
 | some k =>
  have hfi : findI 47 l = (k : Int) := by unfold findI; rw [hf]
  have hk := zY hf
  have Hov2 : Hid (zk l (b : Int) = overM false b ((l).take k) ((l).drop (k + 1))) := by
   show _ = _
   rw [za Hm]; unfold bodyM; rw [hf]
  rw [hfi]
  clear hfi hf
  go_wp2_with fail
  refine (jz false l k b _ hk (by omega) (by omega) (by omega)).mono ?_
  rintro e w2 ⟨rfl, hb2⟩
  have hb0 := zg hb2
  have c0 := zb hb0 0
  have c1 := zb hb0 1
  have c2 := zb hb0 2
  have f0 := zc hb0 0
  have f1 := zc hb0 1
  have f2 := zc hb0 2
  have hbX := zf hb0
  simp at c0 c1 c2
  clear hb2 hb0
  generalize overM false b ((l).take k) ((l).drop (k + 1)) = o at *
  unfold zd
  obtain ⟨n3, u3, d3, ho⟩ : ∃ n3 u3 d3, numO o = numV n3 u3 d3 := by
   cases o with
   | none => exact ⟨_, _, _, rfl⟩
   | some p => exact ⟨_, _, _, rfl⟩
  have Ho := hide ho
  rw [ho]
  unfold numV
  clear ho
  go_wp2
  refine bodyPost_ret (v := zd o) (by simp [results, Tryd.results8, go_sem, zd, za Ho, numV, c0, c1, c2]) rfl ⟨by rw [za Hov2], ?_⟩
  exact zh hbX _ (Nat.le_refl _) _ _ _
 | none =>
  have hfi : findI 47 l = -1 := by unfold findI; rw [hf]
  rw [hfi]
  clear hfi
  go_wp2_with fail
  refine (qf l 46 46 rfl _ (by omega)).mono ?_
  rintro e w2 ⟨rfl, rfl⟩
  have Hf := hide hf
  clear hf
  by_cases hpt : b = 10 ∧ ∃ k, findB 46 l = some k
  ·obtain ⟨hb10, k, hfk⟩ := hpt
   have hfi : findI 46 l = (k : Int) := by unfold findI; rw [hfk]
   have hk := zY hfk
   have Hov2 : Hid (zk l (b : Int) = qm false ((l).take k) ((l).drop (k + 1))) := by
    show _ = _
    rw [za Hm]; unfold bodyM; rw [za Hf]
    simp only [hfk]
    rw [if_pos hb10]
   rw [hfi]
   have hbq : ((b : Int) == 10) = true := by rw [beq_iff_eq]; omega
   clear hfi hfk hb10
   go_wp2_with fail
   refine (jn false l k _ hk (by omega)).mono ?_
   rintro e w3 ⟨rfl, hb3⟩
   have hb0 := zg hb3
   have c0 := zb hb0 0
   have c1 := zb hb0 1
   have c2 := zb hb0 2
   have f0 := zc hb0 0
   have f1 := zc hb0 1
   have f2 := zc hb0 2
   have hbX := zf hb0
   simp at c0 c1 c2
   clear hb3 hb0
   generalize qm false ((l).take k) ((l).drop (k + 1)) = o at *
   unfold zd
   obtain ⟨n3, u3, d3, ho⟩ : ∃ n3 u3 d3, numO o = numV n3 u3 d3 := by
    cases o with
    | none => exact ⟨_, _, _, rfl⟩
    | some p => exact ⟨_, _, _, rfl⟩
   have Ho := hide ho
   rw [ho]
   unfold numV
   clear ho
   go_wp2
   refine bodyPost_ret (v := zd o) (by simp [results, Tryd.results8, go_sem, zd, za Ho, numV, c0, c1, c2]) rfl ⟨by rw [za Hov2], ?_⟩
   exact zh hbX _ (Nat.le_refl _) _ _ _
  ·have Hpl : Hid (zk l (b : Int) = zX false b l) := by
    show _ = _
    rw [za Hm]; unfold bodyM; rw [za Hf]
    cases hfk : findB 46 l with
    | none => rfl
    | some k =>
     simp only
     rw [if_neg (fun h => hpt ⟨h, k, hfk⟩)]
   have hsn := fun h => qw (b := b) (l := l) (by omega) h
   have hvn : okN b l = true → natV b l = rdN b l := fun h => by unfold natV; rw [if_pos h]
   have Hpo : Hid (zX false b l = if okN b l then zm false (rdN b l) 1 else none) := hide rfl
   have d1 : dec 1 = ⟨#[49]⟩ := qi
   by_cases hfz : 0 ≤ findI 46 l
   ·have hbq : ((b : Int) == 10) = false := by
     rw [beq_eq_false_iff_ne]
     intro hh
     apply hpt
     refine ⟨by omega, ?_⟩
     unfold findI at hfz
     cases hfk : findB 46 l with
     | none => rw [hfk] at hfz; simp at hfz
     | some k => exact ⟨k, rfl⟩
    clear hpt
    go_wp2_with fail
    refine (qk l b _ (by omega) (by omega) (by omega)).mono ?_
    rintro e w3 ⟨rfl, hb3⟩
    unfold z8
    have hb0 := zg hb3
    have hzz : w.heap.size + 1 ≤ w3.heap.size := by have := hb3.size; simpa using this
    generalize natV b l = vx at *
    generalize okN b l = ox at *
    cases ox with
    | false =>
     have c0 := zb hb0 0
     have c1 := zb hb0 1
     have c2 := zb hb0 2
     have f0 := zc hb0 0
     have f1 := zc hb0 1
     have f2 := zc hb0 2
     have hbX := zf hb0
     simp at c0 c1 c2
     clear hb3 hb0 hsn hvn d1
     go_wp2
     refine bodyPost_ret (v := zd none) (by simp [results, Tryd.results8, go_sem, zd, numO, noNum, numV, c0, c1, c2]) rfl ⟨by rw [za Hpl, za Hpo]; rfl, ?_⟩
     exact zh hbX _ (Nat.le_refl _) _ _ _
    | true =>
     have h1 := hsn rfl
     rw [← hvn rfl] at h1
     have Hov2 : Hid (zk l (b : Int) = zm false vx 1) := by rw [hvn rfl]; exact (za Hpl).trans (za Hpo)
     have d1s := zF (n := 1) (by omega)
     clear hsn hvn
     go_wp2_with fail
     rw [← d1]
     clear d1
     refine (zO false vx 1 _ (by omega) (by omega)).mono ?_
     rintro e w4 ⟨rfl, hb4'⟩
     have hn4 := ze hb0 hzz hb4'
     have c0 := zb hn4.1 0
     have c1 := zb hn4.1 1
     have c2 := zb hn4.1 2
     have f0 := zc hn4.1 0
     have f1 := zc hn4.1 1
     have f2 := zc hn4.1 2
     have hbX := zf hn4.1
     simp at c0 c1 c2
     clear hb3 hb0 hb4' hn4
     generalize zm false vx 1 = o at *
     unfold zd
     obtain ⟨n3, u3, d3, ho⟩ : ∃ n3 u3 d3, numO o = numV n3 u3 d3 := by
      cases o with
      | none => exact ⟨_, _, _, rfl⟩
      | some p => exact ⟨_, _, _, rfl⟩
     have Ho := hide ho
     rw [ho]
     unfold numV
     clear ho
     go_wp2
     refine bodyPost_ret (v := zd o) (by simp [results, Tryd.results8, go_sem, zd, za Ho, numV, c0, c1, c2]) rfl ⟨by rw [za Hov2], ?_⟩
     exact zh hbX _ (Nat.le_refl _) _ _ _
   ·clear hpt
    go_wp2_with fail
    refine (qk l b _ (by omega) (by omega) (by omega)).mono ?_
    rintro e w3 ⟨rfl, hb3⟩
    unfold z8
    have hb0 := zg hb3
    have hzz : w.heap.size + 1 ≤ w3.heap.size := by have := hb3.size; simpa using this
    generalize natV b l = vx at *
    generalize okN b l = ox at *
    cases ox with
    | false =>
     have c0 := zb hb0 0
     have c1 := zb hb0 1
     have c2 := zb hb0 2
     have f0 := zc hb0 0
     have f1 := zc hb0 1
     have f2 := zc hb0 2
     have hbX := zf hb0
     simp at c0 c1 c2
     clear hb3 hb0 hsn hvn d1
     go_wp2
     refine bodyPost_ret (v := zd none) (by simp [results, Tryd.results8, go_sem, zd, numO, noNum, numV, c0, c1, c2]) rfl ⟨by rw [za Hpl, za Hpo]; rfl, ?_⟩
     exact zh hbX _ (Nat.le_refl _) _ _ _
    | true =>
     have h1 := hsn rfl
     rw [← hvn rfl] at h1
     have Hov2 : Hid (zk l (b : Int) = zm false vx 1) := by rw [hvn rfl]; exact (za Hpl).trans (za Hpo)
     have d1s := zF (n := 1) (by omega)
     clear hsn hvn
     go_wp2_with fail
     rw [← d1]
     clear d1
     refine (zO false vx 1 _ (by omega) (by omega)).mono ?_
     rintro e w4 ⟨rfl, hb4'⟩
     have hn4 := ze hb0 hzz hb4'
     have c0 := zb hn4.1 0
     have c1 := zb hn4.1 1
     have c2 := zb hn4.1 2
     have f0 := zc hn4.1 0
     have f1 := zc hn4.1 1
     have f2 := zc hn4.1 2
     have hbX := zf hn4.1
     simp at c0 c1 c2
     clear hb3 hb0 hb4' hn4
     generalize zm false vx 1 = o at *
     unfold zd
     obtain ⟨n3, u3, d3, ho⟩ : ∃ n3 u3 d3, numO o = numV n3 u3 d3 := by
      cases o with
      | none => exact ⟨_, _, _, rfl⟩
      | some p => exact ⟨_, _, _, rfl⟩
     have Ho := hide ho
     rw [ho]
     unfold numV
     clear ho
     go_wp2
     refine bodyPost_ret (v := zd o) (by simp [results, Tryd.results8, go_sem, zd, za Ho, numV, c0, c1, c2]) rfl ⟨by rw [za Hov2], ?_⟩
     exact zh hbX _ (Nat.le_refl _) _ _ _
theorem jv (t : List UInt8) (b : Nat) (w : World) (hb4 : b = 2 ∨ b = 8 ∨ b = 10 ∨ b = 16) (c : UInt8) (hc : c = 45) (hlen : (c :: t).length ≤ 240) :
  Calls Tryd.prog 8 #[.string (B (c :: t)), .int .i64 b] w fun e w' => e = .returned (zd (zk (c :: t) b)) ∧ Below w.heap.size w w' := by
 obtain ⟨l, hl⟩ : ∃ l : List UInt8, l = c :: t := ⟨_, rfl⟩
 rw [← hl]
 have hr : zn (b : Int) = true := by rcases hb4 with rfl | rfl | rfl | rfl <;> rfl
 have hl2 : l.length ≤ 240 := by rw [hl]; exact hlen
 have htl : t.length ≤ 240 := by simp at hlen; omega
 have hpos : 0 < (B l).size := by rw [zi, hl]; simp
 have hposI : (0 : Int) < ((B l).size : Int) := by omega
 have hsz : (B l).size ≤ 240 := by rw [zi]; exact hl2
 have hc0 : ((B l)[0]'hpos).toNat = c.toNat := by rw [B_get]; simp [hl]
 have hcut : (B l).extract 1 (B l).size = B t := by rw [zA, zi, List.take_length, hl]; rfl
 have Hm : Hid (zk l (b : Int) = bodyM true b t) := by show _ = _; rw [qh l b hb4 hl2, hl]; simp [signB, hc]
 have hq : (((B l)[0]'hpos).toNat : Int) == 45 := by rw [hc0, hc]; rfl
 clear hl hc hc0 hlen
 go_enter Tryd.func8, Tryd.ntmps8
 go_wp2_with fail
 refine (qg b _).mono ?_
 rintro e w1 ⟨rfl, rfl⟩
 rw [hr]
 go_wp2_with fail
 refine (qf t 47 47 rfl _ (by omega)).mono ?_
 rintro e w1 ⟨rfl, rfl⟩
 cases hf : findB 47 t with
 | some k =>
  have hfi : findI 47 t = (k : Int) := by unfold findI; rw [hf]
  have hk := zY hf
  have Hov2 : Hid (zk l (b : Int) = overM true b ((t).take k) ((t).drop (k + 1))) := by
   show _ = _
   rw [za Hm]; unfold bodyM; rw [hf]
  rw [hfi]
  clear hfi hf
  go_wp2_with fail
  refine (jz true t k b _ hk (by omega) (by omega) (by omega)).mono ?_
  rintro e w2 ⟨rfl, hb2⟩
  have hb0 := zg hb2
  have c0 := zb hb0 0
  have c1 := zb hb0 1
  have c2 := zb hb0 2
  have f0 := zc hb0 0
  have f1 := zc hb0 1
  have f2 := zc hb0 2
  have hbX := zf hb0
  simp at c0 c1 c2
  clear hb2 hb0
  generalize overM true b ((t).take k) ((t).drop (k + 1)) = o at *
  unfold zd
  obtain ⟨n3, u3, d3, ho⟩ : ∃ n3 u3 d3, numO o = numV n3 u3 d3 := by
   cases o with
   | none => exact ⟨_, _, _, rfl⟩
   | some p => exact ⟨_, _, _, rfl⟩
  have Ho := hide ho
  rw [ho]
  unfold numV
  clear ho
  go_wp2
  refine bodyPost_ret (v := zd o) (by simp [results, Tryd.results8, go_sem, zd, za Ho, numV, c0, c1, c2]) rfl ⟨by rw [za Hov2], ?_⟩
  exact zh hbX _ (Nat.le_refl _) _ _ _
 | none =>
  have hfi : findI 47 t = -1 := by unfold findI; rw [hf]
  rw [hfi]
  clear hfi
  go_wp2_with fail
  refine (qf t 46 46 rfl _ (by omega)).mono ?_
  rintro e w2 ⟨rfl, rfl⟩
  have Hf := hide hf
  clear hf
  by_cases hpt : b = 10 ∧ ∃ k, findB 46 t = some k
  ·obtain ⟨hb10, k, hfk⟩ := hpt
   have hfi : findI 46 t = (k : Int) := by unfold findI; rw [hfk]
   have hk := zY hfk
   have Hov2 : Hid (zk l (b : Int) = qm true ((t).take k) ((t).drop (k + 1))) := by
    show _ = _
    rw [za Hm]; unfold bodyM; rw [za Hf]
    simp only [hfk]
    rw [if_pos hb10]
   rw [hfi]
   have hbq : ((b : Int) == 10) = true := by rw [beq_iff_eq]; omega
   clear hfi hfk hb10
   go_wp2_with fail
   refine (jn true t k _ hk (by omega)).mono ?_
   rintro e w3 ⟨rfl, hb3⟩
   have hb0 := zg hb3
   have c0 := zb hb0 0
   have c1 := zb hb0 1
   have c2 := zb hb0 2
   have f0 := zc hb0 0
   have f1 := zc hb0 1
   have f2 := zc hb0 2
   have hbX := zf hb0
   simp at c0 c1 c2
   clear hb3 hb0
   generalize qm true ((t).take k) ((t).drop (k + 1)) = o at *
   unfold zd
   obtain ⟨n3, u3, d3, ho⟩ : ∃ n3 u3 d3, numO o = numV n3 u3 d3 := by
    cases o with
    | none => exact ⟨_, _, _, rfl⟩
    | some p => exact ⟨_, _, _, rfl⟩
   have Ho := hide ho
   rw [ho]
   unfold numV
   clear ho
   go_wp2
   refine bodyPost_ret (v := zd o) (by simp [results, Tryd.results8, go_sem, zd, za Ho, numV, c0, c1, c2]) rfl ⟨by rw [za Hov2], ?_⟩
   exact zh hbX _ (Nat.le_refl _) _ _ _
  ·have Hpl : Hid (zk l (b : Int) = zX true b t) := by
    show _ = _
    rw [za Hm]; unfold bodyM; rw [za Hf]
    cases hfk : findB 46 t with
    | none => rfl
    | some k =>
     simp only
     rw [if_neg (fun h => hpt ⟨h, k, hfk⟩)]
   have hsn := fun h => qw (b := b) (l := t) (by omega) h
   have hvn : okN b t = true → natV b t = rdN b t := fun h => by unfold natV; rw [if_pos h]
   have Hpo : Hid (zX true b t = if okN b t then zm true (rdN b t) 1 else none) := hide rfl
   have d1 : dec 1 = ⟨#[49]⟩ := qi
   by_cases hfz : 0 ≤ findI 46 t
   ·have hbq : ((b : Int) == 10) = false := by
     rw [beq_eq_false_iff_ne]
     intro hh
     apply hpt
     refine ⟨by omega, ?_⟩
     unfold findI at hfz
     cases hfk : findB 46 t with
     | none => rw [hfk] at hfz; simp at hfz
     | some k => exact ⟨k, rfl⟩
    clear hpt
    go_wp2_with fail
    refine (qk t b _ (by omega) (by omega) (by omega)).mono ?_
    rintro e w3 ⟨rfl, hb3⟩
    unfold z8
    have hb0 := zg hb3
    have hzz : w.heap.size + 1 ≤ w3.heap.size := by have := hb3.size; simpa using this
    generalize natV b t = vx at *
    generalize okN b t = ox at *
    cases ox with
    | false =>
     have c0 := zb hb0 0
     have c1 := zb hb0 1
     have c2 := zb hb0 2
     have f0 := zc hb0 0
     have f1 := zc hb0 1
     have f2 := zc hb0 2
     have hbX := zf hb0
     simp at c0 c1 c2
     clear hb3 hb0 hsn hvn d1
     go_wp2
     refine bodyPost_ret (v := zd none) (by simp [results, Tryd.results8, go_sem, zd, numO, noNum, numV, c0, c1, c2]) rfl ⟨by rw [za Hpl, za Hpo]; rfl, ?_⟩
     exact zh hbX _ (Nat.le_refl _) _ _ _
    | true =>
     have h1 := hsn rfl
     rw [← hvn rfl] at h1
     have Hov2 : Hid (zk l (b : Int) = zm true vx 1) := by rw [hvn rfl]; exact (za Hpl).trans (za Hpo)
     have d1s := zF (n := 1) (by omega)
     clear hsn hvn
     go_wp2_with fail
     rw [← d1]
     clear d1
     refine (zO true vx 1 _ (by omega) (by omega)).mono ?_
     rintro e w4 ⟨rfl, hb4'⟩
     have hn4 := ze hb0 hzz hb4'
     have c0 := zb hn4.1 0
     have c1 := zb hn4.1 1
     have c2 := zb hn4.1 2
     have f0 := zc hn4.1 0
     have f1 := zc hn4.1 1
     have f2 := zc hn4.1 2
     have hbX := zf hn4.1
     simp at c0 c1 c2
     clear hb3 hb0 hb4' hn4
     generalize zm true vx 1 = o at *
     unfold zd
     obtain ⟨n3, u3, d3, ho⟩ : ∃ n3 u3 d3, numO o = numV n3 u3 d3 := by
      cases o with
      | none => exact ⟨_, _, _, rfl⟩
      | some p => exact ⟨_, _, _, rfl⟩
     have Ho := hide ho
     rw [ho]
     unfold numV
     clear ho
     go_wp2
     refine bodyPost_ret (v := zd o) (by simp [results, Tryd.results8, go_sem, zd, za Ho, numV, c0, c1, c2]) rfl ⟨by rw [za Hov2], ?_⟩
     exact zh hbX _ (Nat.le_refl _) _ _ _
   ·clear hpt
    go_wp2_with fail
    refine (qk t b _ (by omega) (by omega) (by omega)).mono ?_
    rintro e w3 ⟨rfl, hb3⟩
    unfold z8
    have hb0 := zg hb3
    have hzz : w.heap.size + 1 ≤ w3.heap.size := by have := hb3.size; simpa using this
    generalize natV b t = vx at *
    generalize okN b t = ox at *
    cases ox with
    | false =>
     have c0 := zb hb0 0
     have c1 := zb hb0 1
     have c2 := zb hb0 2
     have f0 := zc hb0 0
     have f1 := zc hb0 1
     have f2 := zc hb0 2
     have hbX := zf hb0
     simp at c0 c1 c2
     clear hb3 hb0 hsn hvn d1
     go_wp2
     refine bodyPost_ret (v := zd none) (by simp [results, Tryd.results8, go_sem, zd, numO, noNum, numV, c0, c1, c2]) rfl ⟨by rw [za Hpl, za Hpo]; rfl, ?_⟩
     exact zh hbX _ (Nat.le_refl _) _ _ _
    | true =>
     have h1 := hsn rfl
     rw [← hvn rfl] at h1
     have Hov2 : Hid (zk l (b : Int) = zm true vx 1) := by rw [hvn rfl]; exact (za Hpl).trans (za Hpo)
     have d1s := zF (n := 1) (by omega)
     clear hsn hvn
     go_wp2_with fail
     rw [← d1]
     clear d1
     refine (zO true vx 1 _ (by omega) (by omega)).mono ?_
     rintro e w4 ⟨rfl, hb4'⟩
     have hn4 := ze hb0 hzz hb4'
     have c0 := zb hn4.1 0
     have c1 := zb hn4.1 1
     have c2 := zb hn4.1 2
     have f0 := zc hn4.1 0
     have f1 := zc hn4.1 1
     have f2 := zc hn4.1 2
     have hbX := zf hn4.1
     simp at c0 c1 c2
     clear hb3 hb0 hb4' hn4
     generalize zm true vx 1 = o at *
     unfold zd
     obtain ⟨n3, u3, d3, ho⟩ : ∃ n3 u3 d3, numO o = numV n3 u3 d3 := by
      cases o with
      | none => exact ⟨_, _, _, rfl⟩
      | some p => exact ⟨_, _, _, rfl⟩
     have Ho := hide ho
     rw [ho]
     unfold numV
     clear ho
     go_wp2
     refine bodyPost_ret (v := zd o) (by simp [results, Tryd.results8, go_sem, zd, za Ho, numV, c0, c1, c2]) rfl ⟨by rw [za Hov2], ?_⟩
     exact zh hbX _ (Nat.le_refl _) _ _ _
theorem jI (t : List UInt8) (b : Nat) (w : World) (hb4 : b = 2 ∨ b = 8 ∨ b = 10 ∨ b = 16) (c : UInt8) (hc : c = 43) (hlen : (c :: t).length ≤ 240) :
  Calls Tryd.prog 8 #[.string (B (c :: t)), .int .i64 b] w fun e w' => e = .returned (zd (zk (c :: t) b)) ∧ Below w.heap.size w w' := by
 obtain ⟨l, hl⟩ : ∃ l : List UInt8, l = c :: t := ⟨_, rfl⟩
 rw [← hl]
 have hr : zn (b : Int) = true := by rcases hb4 with rfl | rfl | rfl | rfl <;> rfl
 have hl2 : l.length ≤ 240 := by rw [hl]; exact hlen
 have htl : t.length ≤ 240 := by simp at hlen; omega
 have hpos : 0 < (B l).size := by rw [zi, hl]; simp
 have hposI : (0 : Int) < ((B l).size : Int) := by omega
 have hsz : (B l).size ≤ 240 := by rw [zi]; exact hl2
 have hc0 : ((B l)[0]'hpos).toNat = c.toNat := by rw [B_get]; simp [hl]
 have hcut : (B l).extract 1 (B l).size = B t := by rw [zA, zi, List.take_length, hl]; rfl
 have Hm : Hid (zk l (b : Int) = bodyM false b t) := by show _ = _; rw [qh l b hb4 hl2, hl]; simp [signB, hc]
 have hq : ((((B l)[0]'hpos).toNat : Int) == 45) = false := by rw [hc0, hc]; rfl
 have hq2 : ((((B l)[0]'hpos).toNat : Int) == 43) = true := by rw [hc0, hc]; rfl
 clear hl hc hc0 hlen
 go_enter Tryd.func8, Tryd.ntmps8
 go_wp2_with fail
 refine (qg b _).mono ?_
 rintro e w1 ⟨rfl, rfl⟩
 rw [hr]
 go_wp2_with fail
 refine (qf t 47 47 rfl _ (by omega)).mono ?_
 rintro e w1 ⟨rfl, rfl⟩
 cases hf : findB 47 t with
 | some k =>
  have hfi : findI 47 t = (k : Int) := by unfold findI; rw [hf]
  have hk := zY hf
  have Hov2 : Hid (zk l (b : Int) = overM false b ((t).take k) ((t).drop (k + 1))) := by
   show _ = _
   rw [za Hm]; unfold bodyM; rw [hf]
  rw [hfi]
  clear hfi hf
  go_wp2_with fail
  refine (jz false t k b _ hk (by omega) (by omega) (by omega)).mono ?_
  rintro e w2 ⟨rfl, hb2⟩
  have hb0 := zg hb2
  have c0 := zb hb0 0
  have c1 := zb hb0 1
  have c2 := zb hb0 2
  have f0 := zc hb0 0
  have f1 := zc hb0 1
  have f2 := zc hb0 2
  have hbX := zf hb0
  simp at c0 c1 c2
  clear hb2 hb0
  generalize overM false b ((t).take k) ((t).drop (k + 1)) = o at *
  unfold zd
  obtain ⟨n3, u3, d3, ho⟩ : ∃ n3 u3 d3, numO o = numV n3 u3 d3 := by
   cases o with
   | none => exact ⟨_, _, _, rfl⟩
   | some p => exact ⟨_, _, _, rfl⟩
  have Ho := hide ho
  rw [ho]
  unfold numV
  clear ho
  go_wp2
  refine bodyPost_ret (v := zd o) (by simp [results, Tryd.results8, go_sem, zd, za Ho, numV, c0, c1, c2]) rfl ⟨by rw [za Hov2], ?_⟩
  exact zh hbX _ (Nat.le_refl _) _ _ _
 | none =>
  have hfi : findI 47 t = -1 := by unfold findI; rw [hf]
  rw [hfi]
  clear hfi
  go_wp2_with fail
  refine (qf t 46 46 rfl _ (by omega)).mono ?_
  rintro e w2 ⟨rfl, rfl⟩
  have Hf := hide hf
  clear hf
  by_cases hpt : b = 10 ∧ ∃ k, findB 46 t = some k
  ·obtain ⟨hb10, k, hfk⟩ := hpt
   have hfi : findI 46 t = (k : Int) := by unfold findI; rw [hfk]
   have hk := zY hfk
   have Hov2 : Hid (zk l (b : Int) = qm false ((t).take k) ((t).drop (k + 1))) := by
    show _ = _
    rw [za Hm]; unfold bodyM; rw [za Hf]
    simp only [hfk]
    rw [if_pos hb10]
   rw [hfi]
   have hbq : ((b : Int) == 10) = true := by rw [beq_iff_eq]; omega
   clear hfi hfk hb10
   go_wp2_with fail
   refine (jn false t k _ hk (by omega)).mono ?_
   rintro e w3 ⟨rfl, hb3⟩
   have hb0 := zg hb3
   have c0 := zb hb0 0
   have c1 := zb hb0 1
   have c2 := zb hb0 2
   have f0 := zc hb0 0
   have f1 := zc hb0 1
   have f2 := zc hb0 2
   have hbX := zf hb0
   simp at c0 c1 c2
   clear hb3 hb0
   generalize qm false ((t).take k) ((t).drop (k + 1)) = o at *
   unfold zd
   obtain ⟨n3, u3, d3, ho⟩ : ∃ n3 u3 d3, numO o = numV n3 u3 d3 := by
    cases o with
    | none => exact ⟨_, _, _, rfl⟩
    | some p => exact ⟨_, _, _, rfl⟩
   have Ho := hide ho
   rw [ho]
   unfold numV
   clear ho
   go_wp2
   refine bodyPost_ret (v := zd o) (by simp [results, Tryd.results8, go_sem, zd, za Ho, numV, c0, c1, c2]) rfl ⟨by rw [za Hov2], ?_⟩
   exact zh hbX _ (Nat.le_refl _) _ _ _
  ·have Hpl : Hid (zk l (b : Int) = zX false b t) := by
    show _ = _
    rw [za Hm]; unfold bodyM; rw [za Hf]
    cases hfk : findB 46 t with
    | none => rfl
    | some k =>
     simp only
     rw [if_neg (fun h => hpt ⟨h, k, hfk⟩)]
   have hsn := fun h => qw (b := b) (l := t) (by omega) h
   have hvn : okN b t = true → natV b t = rdN b t := fun h => by unfold natV; rw [if_pos h]
   have Hpo : Hid (zX false b t = if okN b t then zm false (rdN b t) 1 else none) := hide rfl
   have d1 : dec 1 = ⟨#[49]⟩ := qi
   by_cases hfz : 0 ≤ findI 46 t
   ·have hbq : ((b : Int) == 10) = false := by
     rw [beq_eq_false_iff_ne]
     intro hh
     apply hpt
     refine ⟨by omega, ?_⟩
     unfold findI at hfz
     cases hfk : findB 46 t with
     | none => rw [hfk] at hfz; simp at hfz
     | some k => exact ⟨k, rfl⟩
    clear hpt
    go_wp2_with fail
    refine (qk t b _ (by omega) (by omega) (by omega)).mono ?_
    rintro e w3 ⟨rfl, hb3⟩
    unfold z8
    have hb0 := zg hb3
    have hzz : w.heap.size + 1 ≤ w3.heap.size := by have := hb3.size; simpa using this
    generalize natV b t = vx at *
    generalize okN b t = ox at *
    cases ox with
    | false =>
     have c0 := zb hb0 0
     have c1 := zb hb0 1
     have c2 := zb hb0 2
     have f0 := zc hb0 0
     have f1 := zc hb0 1
     have f2 := zc hb0 2
     have hbX := zf hb0
     simp at c0 c1 c2
     clear hb3 hb0 hsn hvn d1
     go_wp2
     refine bodyPost_ret (v := zd none) (by simp [results, Tryd.results8, go_sem, zd, numO, noNum, numV, c0, c1, c2]) rfl ⟨by rw [za Hpl, za Hpo]; rfl, ?_⟩
     exact zh hbX _ (Nat.le_refl _) _ _ _
    | true =>
     have h1 := hsn rfl
     rw [← hvn rfl] at h1
     have Hov2 : Hid (zk l (b : Int) = zm false vx 1) := by rw [hvn rfl]; exact (za Hpl).trans (za Hpo)
     have d1s := zF (n := 1) (by omega)
     clear hsn hvn
     go_wp2_with fail
     rw [← d1]
     clear d1
     refine (zO false vx 1 _ (by omega) (by omega)).mono ?_
     rintro e w4 ⟨rfl, hb4'⟩
     have hn4 := ze hb0 hzz hb4'
     have c0 := zb hn4.1 0
     have c1 := zb hn4.1 1
     have c2 := zb hn4.1 2
     have f0 := zc hn4.1 0
     have f1 := zc hn4.1 1
     have f2 := zc hn4.1 2
     have hbX := zf hn4.1
     simp at c0 c1 c2
     clear hb3 hb0 hb4' hn4
     generalize zm false vx 1 = o at *
     unfold zd
     obtain ⟨n3, u3, d3, ho⟩ : ∃ n3 u3 d3, numO o = numV n3 u3 d3 := by
      cases o with
      | none => exact ⟨_, _, _, rfl⟩
      | some p => exact ⟨_, _, _, rfl⟩
     have Ho := hide ho
     rw [ho]
     unfold numV
     clear ho
     go_wp2
     refine bodyPost_ret (v := zd o) (by simp [results, Tryd.results8, go_sem, zd, za Ho, numV, c0, c1, c2]) rfl ⟨by rw [za Hov2], ?_⟩
     exact zh hbX _ (Nat.le_refl _) _ _ _
   ·clear hpt
    go_wp2_with fail
    refine (qk t b _ (by omega) (by omega) (by omega)).mono ?_
    rintro e w3 ⟨rfl, hb3⟩
    unfold z8
    have hb0 := zg hb3
    have hzz : w.heap.size + 1 ≤ w3.heap.size := by have := hb3.size; simpa using this
    generalize natV b t = vx at *
    generalize okN b t = ox at *
    cases ox with
    | false =>
     have c0 := zb hb0 0
     have c1 := zb hb0 1
     have c2 := zb hb0 2
     have f0 := zc hb0 0
     have f1 := zc hb0 1
     have f2 := zc hb0 2
     have hbX := zf hb0
     simp at c0 c1 c2
     clear hb3 hb0 hsn hvn d1
     go_wp2
     refine bodyPost_ret (v := zd none) (by simp [results, Tryd.results8, go_sem, zd, numO, noNum, numV, c0, c1, c2]) rfl ⟨by rw [za Hpl, za Hpo]; rfl, ?_⟩
     exact zh hbX _ (Nat.le_refl _) _ _ _
    | true =>
     have h1 := hsn rfl
     rw [← hvn rfl] at h1
     have Hov2 : Hid (zk l (b : Int) = zm false vx 1) := by rw [hvn rfl]; exact (za Hpl).trans (za Hpo)
     have d1s := zF (n := 1) (by omega)
     clear hsn hvn
     go_wp2_with fail
     rw [← d1]
     clear d1
     refine (zO false vx 1 _ (by omega) (by omega)).mono ?_
     rintro e w4 ⟨rfl, hb4'⟩
     have hn4 := ze hb0 hzz hb4'
     have c0 := zb hn4.1 0
     have c1 := zb hn4.1 1
     have c2 := zb hn4.1 2
     have f0 := zc hn4.1 0
     have f1 := zc hn4.1 1
     have f2 := zc hn4.1 2
     have hbX := zf hn4.1
     simp at c0 c1 c2
     clear hb3 hb0 hb4' hn4
     generalize zm false vx 1 = o at *
     unfold zd
     obtain ⟨n3, u3, d3, ho⟩ : ∃ n3 u3 d3, numO o = numV n3 u3 d3 := by
      cases o with
      | none => exact ⟨_, _, _, rfl⟩
      | some p => exact ⟨_, _, _, rfl⟩
     have Ho := hide ho
     rw [ho]
     unfold numV
     clear ho
     go_wp2
     refine bodyPost_ret (v := zd o) (by simp [results, Tryd.results8, go_sem, zd, za Ho, numV, c0, c1, c2]) rfl ⟨by rw [za Hov2], ?_⟩
     exact zh hbX _ (Nat.le_refl _) _ _ _
theorem jG (t : List UInt8) (b : Nat) (w : World) (hb4 : b = 2 ∨ b = 8 ∨ b = 10 ∨ b = 16) (c : UInt8) (hc : c ≠ 45) (hc2 : c ≠ 43) (hlen : (c :: t).length ≤ 240) :
  Calls Tryd.prog 8 #[.string (B (c :: t)), .int .i64 b] w fun e w' => e = .returned (zd (zk (c :: t) b)) ∧ Below w.heap.size w w' := by
 obtain ⟨l, hl⟩ : ∃ l : List UInt8, l = c :: t := ⟨_, rfl⟩
 rw [← hl]
 have hr : zn (b : Int) = true := by rcases hb4 with rfl | rfl | rfl | rfl <;> rfl
 have hl2 : l.length ≤ 240 := by rw [hl]; exact hlen
 have htl : t.length ≤ 240 := by simp at hlen; omega
 have hpos : 0 < (B l).size := by rw [zi, hl]; simp
 have hposI : (0 : Int) < ((B l).size : Int) := by omega
 have hsz : (B l).size ≤ 240 := by rw [zi]; exact hl2
 have hc0 : ((B l)[0]'hpos).toNat = c.toNat := by rw [B_get]; simp [hl]
 have hcut : (B l).extract 1 (B l).size = B t := by rw [zA, zi, List.take_length, hl]; rfl
 have Hm : Hid (zk l (b : Int) = bodyM false b l) := by show _ = _; rw [qh l b hb4 hl2, hl]; simp [signB, hc, hc2]
 have hq : ((((B l)[0]'hpos).toNat : Int) == 45) = false := by
  rw [hc0, beq_eq_false_iff_ne]; intro hh; apply hc; apply UInt8.toNat_inj.1; simp only [UInt8.toNat_ofNat]; omega
 have hq2 : ((((B l)[0]'hpos).toNat : Int) == 43) = false := by
  rw [hc0, beq_eq_false_iff_ne]; intro hh; apply hc2; apply UInt8.toNat_inj.1; simp only [UInt8.toNat_ofNat]; omega
 clear hl hc hc2 hc0 hlen hcut
 go_enter Tryd.func8, Tryd.ntmps8
 go_wp2_with fail
 refine (qg b _).mono ?_
 rintro e w1 ⟨rfl, rfl⟩
 rw [hr]
 go_wp2_with fail
 refine (qf l 47 47 rfl _ (by omega)).mono ?_
 rintro e w1 ⟨rfl, rfl⟩
 cases hf : findB 47 l with
 | some k =>
  have hfi : findI 47 l = (k : Int) := by unfold findI; rw [hf]
  have hk := zY hf
  have Hov2 : Hid (zk l (b : Int) = overM false b ((l).take k) ((l).drop (k + 1))) := by
   show _ = _
   rw [za Hm]; unfold bodyM; rw [hf]
  rw [hfi]
  clear hfi hf
  go_wp2_with fail
  refine (jz false l k b _ hk (by omega) (by omega) (by omega)).mono ?_
  rintro e w2 ⟨rfl, hb2⟩
  have hb0 := zg hb2
  have c0 := zb hb0 0
  have c1 := zb hb0 1
  have c2 := zb hb0 2
  have f0 := zc hb0 0
  have f1 := zc hb0 1
  have f2 := zc hb0 2
  have hbX := zf hb0
  simp at c0 c1 c2
  clear hb2 hb0
  generalize overM false b ((l).take k) ((l).drop (k + 1)) = o at *
  unfold zd
  obtain ⟨n3, u3, d3, ho⟩ : ∃ n3 u3 d3, numO o = numV n3 u3 d3 := by
   cases o with
   | none => exact ⟨_, _, _, rfl⟩
   | some p => exact ⟨_, _, _, rfl⟩
  have Ho := hide ho
  rw [ho]
  unfold numV
  clear ho
  go_wp2
  refine bodyPost_ret (v := zd o) (by simp [results, Tryd.results8, go_sem, zd, za Ho, numV, c0, c1, c2]) rfl ⟨by rw [za Hov2], ?_⟩
  exact zh hbX _ (Nat.le_refl _) _ _ _
 | none =>
  have hfi : findI 47 l = -1 := by unfold findI; rw [hf]
  rw [hfi]
  clear hfi
  go_wp2_with fail
  refine (qf l 46 46 rfl _ (by omega)).mono ?_
  rintro e w2 ⟨rfl, rfl⟩
  have Hf := hide hf
  clear hf
  by_cases hpt : b = 10 ∧ ∃ k, findB 46 l = some k
  ·obtain ⟨hb10, k, hfk⟩ := hpt
   have hfi : findI 46 l = (k : Int) := by unfold findI; rw [hfk]
   have hk := zY hfk
   have Hov2 : Hid (zk l (b : Int) = qm false ((l).take k) ((l).drop (k + 1))) := by
    show _ = _
    rw [za Hm]; unfold bodyM; rw [za Hf]
    simp only [hfk]
    rw [if_pos hb10]
   rw [hfi]
   have hbq : ((b : Int) == 10) = true := by rw [beq_iff_eq]; omega
   clear hfi hfk hb10
   go_wp2_with fail
   refine (jn false l k _ hk (by omega)).mono ?_
   rintro e w3 ⟨rfl, hb3⟩
   have hb0 := zg hb3
   have c0 := zb hb0 0
   have c1 := zb hb0 1
   have c2 := zb hb0 2
   have f0 := zc hb0 0
   have f1 := zc hb0 1
   have f2 := zc hb0 2
   have hbX := zf hb0
   simp at c0 c1 c2
   clear hb3 hb0
   generalize qm false ((l).take k) ((l).drop (k + 1)) = o at *
   unfold zd
   obtain ⟨n3, u3, d3, ho⟩ : ∃ n3 u3 d3, numO o = numV n3 u3 d3 := by
    cases o with
    | none => exact ⟨_, _, _, rfl⟩
    | some p => exact ⟨_, _, _, rfl⟩
   have Ho := hide ho
   rw [ho]
   unfold numV
   clear ho
   go_wp2
   refine bodyPost_ret (v := zd o) (by simp [results, Tryd.results8, go_sem, zd, za Ho, numV, c0, c1, c2]) rfl ⟨by rw [za Hov2], ?_⟩
   exact zh hbX _ (Nat.le_refl _) _ _ _
  ·have Hpl : Hid (zk l (b : Int) = zX false b l) := by
    show _ = _
    rw [za Hm]; unfold bodyM; rw [za Hf]
    cases hfk : findB 46 l with
    | none => rfl
    | some k =>
     simp only
     rw [if_neg (fun h => hpt ⟨h, k, hfk⟩)]
   have hsn := fun h => qw (b := b) (l := l) (by omega) h
   have hvn : okN b l = true → natV b l = rdN b l := fun h => by unfold natV; rw [if_pos h]
   have Hpo : Hid (zX false b l = if okN b l then zm false (rdN b l) 1 else none) := hide rfl
   have d1 : dec 1 = ⟨#[49]⟩ := qi
   by_cases hfz : 0 ≤ findI 46 l
   ·have hbq : ((b : Int) == 10) = false := by
     rw [beq_eq_false_iff_ne]
     intro hh
     apply hpt
     refine ⟨by omega, ?_⟩
     unfold findI at hfz
     cases hfk : findB 46 l with
     | none => rw [hfk] at hfz; simp at hfz
     | some k => exact ⟨k, rfl⟩
    clear hpt
    go_wp2_with fail
    refine (qk l b _ (by omega) (by omega) (by omega)).mono ?_
    rintro e w3 ⟨rfl, hb3⟩
    unfold z8
    have hb0 := zg hb3
    have hzz : w.heap.size + 1 ≤ w3.heap.size := by have := hb3.size; simpa using this
    generalize natV b l = vx at *
    generalize okN b l = ox at *
    cases ox with
    | false =>
     have c0 := zb hb0 0
     have c1 := zb hb0 1
     have c2 := zb hb0 2
     have f0 := zc hb0 0
     have f1 := zc hb0 1
     have f2 := zc hb0 2
     have hbX := zf hb0
     simp at c0 c1 c2
     clear hb3 hb0 hsn hvn d1
     go_wp2
     refine bodyPost_ret (v := zd none) (by simp [results, Tryd.results8, go_sem, zd, numO, noNum, numV, c0, c1, c2]) rfl ⟨by rw [za Hpl, za Hpo]; rfl, ?_⟩
     exact zh hbX _ (Nat.le_refl _) _ _ _
    | true =>
     have h1 := hsn rfl
     rw [← hvn rfl] at h1
     have Hov2 : Hid (zk l (b : Int) = zm false vx 1) := by rw [hvn rfl]; exact (za Hpl).trans (za Hpo)
     have d1s := zF (n := 1) (by omega)
     clear hsn hvn
     go_wp2_with fail
     rw [← d1]
     clear d1
     refine (zO false vx 1 _ (by omega) (by omega)).mono ?_
     rintro e w4 ⟨rfl, hb4'⟩
     have hn4 := ze hb0 hzz hb4'
     have c0 := zb hn4.1 0
     have c1 := zb hn4.1 1
     have c2 := zb hn4.1 2
     have f0 := zc hn4.1 0
     have f1 := zc hn4.1 1
     have f2 := zc hn4.1 2
     have hbX := zf hn4.1
     simp at c0 c1 c2
     clear hb3 hb0 hb4' hn4
     generalize zm false vx 1 = o at *
     unfold zd
     obtain ⟨n3, u3, d3, ho⟩ : ∃ n3 u3 d3, numO o = numV n3 u3 d3 := by
      cases o with
      | none => exact ⟨_, _, _, rfl⟩
      | some p => exact ⟨_, _, _, rfl⟩
     have Ho := hide ho
     rw [ho]
     unfold numV
     clear ho
     go_wp2
     refine bodyPost_ret (v := zd o) (by simp [results, Tryd.results8, go_sem, zd, za Ho, numV, c0, c1, c2]) rfl ⟨by rw [za Hov2], ?_⟩
     exact zh hbX _ (Nat.le_refl _) _ _ _
   ·clear hpt
    go_wp2_with fail
    refine (qk l b _ (by omega) (by omega) (by omega)).mono ?_
    rintro e w3 ⟨rfl, hb3⟩
    unfold z8
    have hb0 := zg hb3
    have hzz : w.heap.size + 1 ≤ w3.heap.size := by have := hb3.size; simpa using this
    generalize natV b l = vx at *
    generalize okN b l = ox at *
    cases ox with
    | false =>
     have c0 := zb hb0 0
     have c1 := zb hb0 1
     have c2 := zb hb0 2
     have f0 := zc hb0 0
     have f1 := zc hb0 1
     have f2 := zc hb0 2
     have hbX := zf hb0
     simp at c0 c1 c2
     clear hb3 hb0 hsn hvn d1
     go_wp2
     refine bodyPost_ret (v := zd none) (by simp [results, Tryd.results8, go_sem, zd, numO, noNum, numV, c0, c1, c2]) rfl ⟨by rw [za Hpl, za Hpo]; rfl, ?_⟩
     exact zh hbX _ (Nat.le_refl _) _ _ _
    | true =>
     have h1 := hsn rfl
     rw [← hvn rfl] at h1
     have Hov2 : Hid (zk l (b : Int) = zm false vx 1) := by rw [hvn rfl]; exact (za Hpl).trans (za Hpo)
     have d1s := zF (n := 1) (by omega)
     clear hsn hvn
     go_wp2_with fail
     rw [← d1]
     clear d1
     refine (zO false vx 1 _ (by omega) (by omega)).mono ?_
     rintro e w4 ⟨rfl, hb4'⟩
     have hn4 := ze hb0 hzz hb4'
     have c0 := zb hn4.1 0
     have c1 := zb hn4.1 1
     have c2 := zb hn4.1 2
     have f0 := zc hn4.1 0
     have f1 := zc hn4.1 1
     have f2 := zc hn4.1 2
     have hbX := zf hn4.1
     simp at c0 c1 c2
     clear hb3 hb0 hb4' hn4
     generalize zm false vx 1 = o at *
     unfold zd
     obtain ⟨n3, u3, d3, ho⟩ : ∃ n3 u3 d3, numO o = numV n3 u3 d3 := by
      cases o with
      | none => exact ⟨_, _, _, rfl⟩
      | some p => exact ⟨_, _, _, rfl⟩
     have Ho := hide ho
     rw [ho]
     unfold numV
     clear ho
     go_wp2
     refine bodyPost_ret (v := zd o) (by simp [results, Tryd.results8, go_sem, zd, za Ho, numV, c0, c1, c2]) rfl ⟨by rw [za Hov2], ?_⟩
     exact zh hbX _ (Nat.le_refl _) _ _ _
theorem vE (l : List UInt8) (r : Int) (w : World) (hs : l.length ≤ 1000000000) :
  Calls Tryd.prog 8 #[.string (B l), .int .i64 r] w fun e w' => e = .returned (zd (zk l r)) ∧ Below w.heap.size w w' := by
 by_cases h : zn r = false ∨ 240 < l.length
 ·exact j4 l r w hs h
 ·have hr : zn r = true := by cases hh : zn r with
   | true => rfl
   | false => exact absurd (.inl hh) h
  obtain ⟨b, rfl, hb4⟩ := qc hr
  have hl : l.length ≤ 240 := by
   rcases Nat.lt_or_ge 240 l.length with h1 | h1
   ·exact absurd (.inr h1) h
   ·exact h1
  cases l with
  | nil => exact jH b w hb4
  | cons c t =>
   by_cases h1 : c = 45
   ·exact jv t b w hb4 c h1 hl
   ·by_cases h2 : c = 43
    ·exact jI t b w hb4 c h2 hl
    ·exact jG t b w hb4 c h1 h2 hl
def okM (neg : Bool) (u d : List UInt8) : Bool :=
 decide (u.length ≤ 60) && decide (d.length ≤ 60) && isDec u && isDec d && decide (zj d ≠ 0) && !(neg && decide (zj u = 0)) && decide (Nat.gcd (zj u) (zj d) = 1)
def numB (neg : Bool) (u d : List UInt8) : Value := .agg #[.bool neg, .string (B u), .string (B d)]
theorem yf (n : Nat) : ((dec n).toList == [49]) = decide (n = 1) := by
 have := j6 n 1
 rwa [show (dec 1).toList = [49] from by rw [qi]; exact B_tl [49]] at this
theorem jY (neg : Bool) (u d : List UInt8) (w : World) (hsu : u.length ≤ 1000000000) (hsd : d.length ≤ 1000000000) :
  Calls Tryd.prog 21 #[numB neg u d] w fun e w' => e = .returned (.bool (okM neg u d)) ∧ Below w.heap.size w w' := by
 unfold numB
 have hzu : (B u).size = u.length := zi u
 have hzd : (B d).size = d.length := zi d
 by_cases h1 : u.length ≤ 60
 ·by_cases h2 : d.length ≤ 60
  ·by_cases h3 : isDec u = true
   ·by_cases h4 : isDec d = true
    ·have eu := zz h3
     have ed := zz h4
     have Hok : Hid (okM neg u d = (decide (zj d ≠ 0) && !(neg && decide (zj u = 0)) && decide (Nat.gcd (zj u) (zj d) = 1))) := by
      show _ = _; unfold okM; rw [decide_eq_true h1, decide_eq_true h2, h3, h4]; simp
     have Bu : B u = dec (zj u) := by unfold dec txt; rw [← eu]
     have Bd : B d = dec (zj d) := by unfold dec txt; rw [← ed]
     have h3d := @qj u
     have h4d := @qj d
     rw [h3] at h3d
     rw [h4] at h4d
     rw [Bu] at h3d hzu
     rw [Bd] at h4d hzd
     rw [Bu, Bd]
     have H3 := hide h3d
     have H4 := hide h4d
     generalize zj u = a at *
     generalize zj d = b at *
     have hau : (dec a).size ≤ 60 := by omega
     have hbd : (dec b).size ≤ 60 := by omega
     have ha0 := qW a
     have hb0 := qW b
     clear h3d h4d eu ed Bu Bd h3 h4
     by_cases hb : b = 0
     ·rw [decide_eq_true hb] at hb0
      have Hok : Hid (okM neg u d = false) := by show _ = _; rw [za Hok]; simp [hb]
      clear hb
      go_enter Tryd.func21, Tryd.ntmps21
      go_wp2_with fail
      refine (za H3 _ (by omega)).mono ?_
      rintro e w1 ⟨rfl, rfl⟩
      go_wp2_with fail
      refine (za H4 _ (by omega)).mono ?_
      rintro e w1 ⟨rfl, rfl⟩
      go_wp2
      go_ret
      exact ⟨zl (za Hok).symm, (Below.refl _ _).alloc (Nat.le_refl _) _⟩
     ·rw [decide_eq_false hb] at hb0
      by_cases hn : neg = true ∧ a = 0
      ·obtain ⟨hn1, ha⟩ := hn
       rw [decide_eq_true ha] at ha0
       subst hn1
       have Hok : Hid (okM true u d = false) := by show _ = _; rw [za Hok]; simp [ha]
       clear hb ha
       go_enter Tryd.func21, Tryd.ntmps21
       go_wp2_with fail
       refine (za H3 _ (by omega)).mono ?_
       rintro e w1 ⟨rfl, rfl⟩
       go_wp2_with fail
       refine (za H4 _ (by omega)).mono ?_
       rintro e w1 ⟨rfl, rfl⟩
       go_wp2
       go_ret
       exact ⟨zl (za Hok).symm, (Below.refl _ _).alloc (Nat.le_refl _) _⟩
      ·have Hok : Hid (okM neg u d = decide (Nat.gcd a b = 1)) := by
        show _ = _; rw [za Hok]
        cases neg
        ·simp [hb]
        ·simp at hn; simp [hb, hn]
       have hg1 := yf (Nat.gcd a b)
       have hcase : neg = false ∨ (neg = true ∧ a ≠ 0) := by cases neg <;> simp_all
       rcases hcase with rfl | ⟨rfl, ha⟩
       ·clear hn hb
        go_enter Tryd.func21, Tryd.ntmps21
        go_wp2_with fail
        refine (za H3 _ (by omega)).mono ?_
        rintro e w1 ⟨rfl, rfl⟩
        go_wp2_with fail
        refine (za H4 _ (by omega)).mono ?_
        rintro e w1 ⟨rfl, rfl⟩
        go_wp2_with fail
        refine (yj a b _ (by omega) (by omega)).mono ?_
        rintro e w2 ⟨rfl, hb2⟩
        go_wp2
        go_ret
        exact ⟨zl (za Hok).symm, zf (zg hb2)⟩
       ·rw [decide_eq_false ha] at ha0
        clear hn hb ha
        go_enter Tryd.func21, Tryd.ntmps21
        go_wp2_with fail
        refine (za H3 _ (by omega)).mono ?_
        rintro e w1 ⟨rfl, rfl⟩
        go_wp2_with fail
        refine (za H4 _ (by omega)).mono ?_
        rintro e w1 ⟨rfl, rfl⟩
        go_wp2_with fail
        refine (yj a b _ (by omega) (by omega)).mono ?_
        rintro e w2 ⟨rfl, hb2⟩
        go_wp2
        go_ret
        exact ⟨zl (za Hok).symm, zf (zg hb2)⟩
    ·have h4' : isDec d = false := by simpa using h4
     have Hok : Hid (okM neg u d = false) := by show _ = _; unfold okM; rw [h4']; simp
     have h3d := @qj u
     have h4d := @qj d
     rw [h3] at h3d
     rw [h4'] at h4d
     have H3 := hide h3d
     have H4 := hide h4d
     clear h3d h4d h3 h4 h4'
     go_enter Tryd.func21, Tryd.ntmps21
     go_wp2_with fail
     refine (za H3 _ (by omega)).mono ?_
     rintro e w1 ⟨rfl, rfl⟩
     go_wp2_with fail
     refine (za H4 _ (by omega)).mono ?_
     rintro e w1 ⟨rfl, rfl⟩
     go_wp2
     go_ret
     exact ⟨zl (za Hok).symm, (Below.refl _ _).alloc (Nat.le_refl _) _⟩
   ·have h3' : isDec u = false := by simpa using h3
    have Hok : Hid (okM neg u d = false) := by show _ = _; unfold okM; rw [h3']; simp
    have h3d := @qj u
    rw [h3'] at h3d
    have H3 := hide h3d
    clear h3d h3 h3'
    go_enter Tryd.func21, Tryd.ntmps21
    go_wp2_with fail
    refine (za H3 _ (by omega)).mono ?_
    rintro e w1 ⟨rfl, rfl⟩
    go_wp2
    go_ret
    exact ⟨zl (za Hok).symm, (Below.refl _ _).alloc (Nat.le_refl _) _⟩
  ·have Hok : Hid (okM neg u d = false) := by show _ = _; unfold okM; simp [h2]
   go_enter Tryd.func21, Tryd.ntmps21
   go_wp2
   go_ret
   exact ⟨zl (za Hok).symm, (Below.refl _ _).alloc (Nat.le_refl _) _⟩
 ·have Hok : Hid (okM neg u d = false) := by show _ = _; unfold okM; simp [h1]
  go_enter Tryd.func21, Tryd.ntmps21
  go_wp2
  go_ret
  exact ⟨zl (za Hok).symm, (Below.refl _ _).alloc (Nat.le_refl _) _⟩
def prM (neg : Bool) (a d b : Nat) : List UInt8 := (if neg then [45] else []) ++ txl b a ++ (if d = 1 then [] else 47 :: txl b d)
def zw (neg : Bool) (u d : List UInt8) (r : Int) : List UInt8 := if okM neg u d && zn r then prM neg (zj u) (zj d) r.toNat else []
theorem zR {neg : Bool} {u d : List UInt8} (h : okM neg u d = true) : isDec u = true ∧ isDec d = true ∧ u.length ≤ 60 ∧ d.length ≤ 60 ∧ zj d ≠ 0 ∧ (neg = true → zj u ≠ 0) ∧ Nat.gcd (zj u) (zj d) = 1 := by
 unfold okM at h
 simp only [Bool.and_eq_true, decide_eq_true_eq, Bool.not_eq_true', Bool.and_eq_false_iff, decide_eq_false_iff_not] at h
 obtain ⟨⟨⟨⟨⟨⟨h1, h2⟩, h3⟩, h4⟩, h5⟩, h6⟩, h7⟩ := h
 exact ⟨h3, h4, h1, h2, h5, fun hn => by rcases h6 with h6 | h6; rw [hn] at h6; cases h6; exact h6, h7⟩
theorem qU {b n : Nat} (hb2 : 2 ≤ b) (h : (dec n).size ≤ 60) : (txt b n).size ≤ 240 := by
 unfold txt; rw [zi]
 apply zB hb2 (by omega)
 have h1 := zW n
 have h2 : (10 : Nat) ^ (dec n).size ≤ 16 ^ 60 := Nat.le_trans (Nat.pow_le_pow_left (by omega) _) (Nat.pow_le_pow_right (by omega) h)
 have h3 : (16 : Nat) ^ 60 = 2 ^ 240 := by rw [show (16 : Nat) = 2 ^ 4 from rfl, ← Nat.pow_mul]
 have h4 : (2 : Nat) ^ 240 ≤ b ^ 240 := Nat.pow_le_pow_left hb2 _
 omega
theorem j5 (neg : Bool) (u d : List UInt8) (r : Int) (w : World) (hsu : u.length ≤ 1000000000) (hsd : d.length ≤ 1000000000) (h : (okM neg u d && zn r) = false) :
  Calls Tryd.prog 12 #[numB neg u d, .int .i64 r] w fun e w' => e = .returned (.string (B (zw neg u d r))) ∧ Below w.heap.size w w' := by
 have Hf : Hid (B (zw neg u d r) = ⟨#[]⟩) := by show _ = _; unfold zw; rw [h]; rfl
 have h1 := fun w => jY neg u d w hsu hsd
 have H1 := hide h1
 clear h1
 unfold numB at *
 cases hok : okM neg u d with
 | false =>
  rw [hok] at H1
  clear h hok
  go_enter Tryd.func12, Tryd.ntmps12
  go_wp2_with fail
  refine (za H1 _).mono ?_
  rintro e w1 ⟨rfl, hb1⟩
  have hb0 := zg hb1
  have hz0 : w.heap.size + 1 ≤ w1.heap.size := by have := hb1.size; simpa using this
  have c0 := zb hb0 0
  have c1 := zb hb0 1
  have c2 := zb hb0 2
  simp at c0 c1 c2
  go_wp2
  go_ret
  exact ⟨zv (za Hf).symm, zf hb0⟩
 | true =>
  rw [hok] at H1 h
  have hr : zn r = false := by simpa using h
  clear h hok
  go_enter Tryd.func12, Tryd.ntmps12
  go_wp2_with fail
  refine (za H1 _).mono ?_
  rintro e w1 ⟨rfl, hb1⟩
  have hb0 := zg hb1
  have hz0 : w.heap.size + 1 ≤ w1.heap.size := by have := hb1.size; simpa using this
  have c0 := zb hb0 0
  have c1 := zb hb0 1
  have c2 := zb hb0 2
  simp at c0 c1 c2
  go_wp2_with fail
  refine (qg r _).mono ?_
  rintro e w2 ⟨rfl, rfl⟩
  rw [hr]
  go_wp2
  go_ret
  exact ⟨zv (za Hf).symm, zf hb0⟩
theorem jS (neg : Bool) (u d : List UInt8) (b : Nat) (w : World) (hok : okM neg u d = true) (hb4 : b = 2 ∨ b = 8 ∨ b = 10 ∨ b = 16) :
  Calls Tryd.prog 12 #[numB neg u d, .int .i64 b] w fun e w' => e = .returned (.string (B (zw neg u d b))) ∧ Below w.heap.size w w' := by
 have hr : zn (b : Int) = true := by rcases hb4 with rfl | rfl | rfl | rfl <;> rfl
 obtain ⟨h3, h4, hu, hd, hd0, hn0, _⟩ := zR hok
 have h1 := fun w => jY neg u d w (by omega) (by omega)
 rw [hok] at h1
 have Hf : Hid (zw neg u d b = prM neg (zj u) (zj d) b) := by show _ = _; unfold zw; rw [hok, hr]; simp
 have Bu : B u = dec (zj u) := by unfold dec txt; rw [← zz h3]
 have Bd : B d = dec (zj d) := by unfold dec txt; rw [← zz h4]
 have hau := zi u
 have had := zi d
 unfold numB at *
 rw [Bu, Bd] at h1
 rw [Bu] at hau
 rw [Bd] at had
 rw [Bu, Bd]
 generalize zj u = a at *
 generalize zj d = q at *
 have hau60 : (dec a).size ≤ 60 := by omega
 have had60 : (dec q).size ≤ 60 := by omega
 have hq1 := yf q
 have hta := qU (b := b) (by omega) hau60
 have htq := qU (b := b) (by omega) had60
 have hta' : (txl b a).length ≤ 240 := by unfold txt at hta; rwa [zi] at hta
 have htq' : (txl b q).length ≤ 240 := by unfold txt at htq; rwa [zi] at htq
 have H1 := hide h1
 clear h1 Bu Bd h3 h4 hok hau had hn0
 go_enter Tryd.func12, Tryd.ntmps12
 go_wp2_with fail
 refine (za H1 _).mono ?_
 rintro e w1 ⟨rfl, hb1⟩
 have hb0 := zg hb1
 have hz0 : w.heap.size + 1 ≤ w1.heap.size := by have := hb1.size; simpa using this
 have c0 := zb hb0 0
 have c1 := zb hb0 1
 have c2 := zb hb0 2
 simp at c0 c1 c2
 go_wp2_with fail
 refine (qg b _).mono ?_
 rintro e w2 ⟨rfl, rfl⟩
 rw [hr]
 go_wp2_with fail
 refine (yn a b _ (by omega) (by omega) (by omega) (by omega)).mono ?_
 rintro e w3 ⟨rfl, hb3⟩
 have hn3 := ze hb0 hz0 hb3
 clear c0 c1 c2 hb1 hb0 hz0 hb3
 have c0 := zb hn3.1 0
 have c1 := zb hn3.1 1
 have c2 := zb hn3.1 2
 simp at c0 c1 c2
 by_cases hone : q = 1
 ·rw [decide_eq_true hone] at hq1
  cases neg with
  | false =>
   have Hf2 : Hid (B (zw false u d b) = txt b a) := by show _ = _; rw [za Hf]; simp [prM, hone, txt]
   clear hone
   go_wp2
   go_ret
   exact ⟨zv (za Hf2).symm, zf hn3.1⟩
  | true =>
   have Hf2 : Hid (B (zw true u d b) = ⟨#[45]⟩ ++ txt b a) := by
    show _ = _; rw [za Hf, show (⟨#[45]⟩ : ByteArray) = B [45] from rfl]; unfold txt; rw [zu]; simp [prM, hone]
   have hns : ¬ 9223372036854775807 < 1 + (txt b a).size := by omega
   clear hone
   go_wp2
   go_ret
   exact ⟨zv (za Hf2).symm, zf hn3.1⟩
 ·rw [decide_eq_false hone] at hq1
  cases neg with
  | false =>
   have Hf2 : Hid (B (zw false u d b) = (txt b a ++ ⟨#[47]⟩) ++ txt b q) := by
    show _ = _; rw [za Hf, show (⟨#[47]⟩ : ByteArray) = B [47] from rfl]; unfold txt; rw [zu, zu]; simp [prM, hone]
   clear hone
   go_wp2_with fail
   refine (yn q b _ (by omega) (by omega) (by omega) (by omega)).mono ?_
   rintro e w4 ⟨rfl, hb4'⟩
   have hn4 := ze hn3.1 hn3.2 hb4'
   go_wp2
   go_ret
   exact ⟨zv (za Hf2).symm, zf hn4.1⟩
  | true =>
   have Hf2 : Hid (B (zw true u d b) = ((⟨#[45]⟩ ++ txt b a) ++ ⟨#[47]⟩) ++ txt b q) := by
    show _ = _; rw [za Hf, show (⟨#[47]⟩ : ByteArray) = B [47] from rfl, show (⟨#[45]⟩ : ByteArray) = B [45] from rfl]; unfold txt; rw [zu, zu, zu]; simp [prM, hone]
   have hns : ¬ 9223372036854775807 < 1 + (txt b a).size := by omega
   clear hone
   go_wp2_with fail
   refine (yn q b _ (by omega) (by omega) (by omega) (by omega)).mono ?_
   rintro e w4 ⟨rfl, hb4'⟩
   have hn4 := ze hn3.1 hn3.2 hb4'
   go_wp2
   go_ret
   exact ⟨zv (za Hf2).symm, zf hn4.1⟩
theorem jk (neg : Bool) (u d : List UInt8) (r : Int) (w : World) (hsu : u.length ≤ 1000000000) (hsd : d.length ≤ 1000000000) :
  Calls Tryd.prog 12 #[numB neg u d, .int .i64 r] w fun e w' => e = .returned (.string (B (zw neg u d r))) ∧ Below w.heap.size w w' := by
 cases h : okM neg u d && zn r with
 | false => exact j5 neg u d r w hsu hsd h
 | true =>
  simp only [Bool.and_eq_true] at h
  obtain ⟨b, rfl, hb4⟩ := qc h.2
  exact jS neg u d b w h.1 hb4
def intV (i : Int) : Value := numV (decide (i < 0)) (dec i.natAbs) (dec 1)
theorem q8 (i : Int) (w : World) (h0 : -9223372036854775808 ≤ i) (h1 : i ≤ 9223372036854775807) :
  Calls Tryd.prog 15 #[.int .i64 i] w fun e w' => e = .returned (intV i) ∧ Below w.heap.size w w' := by
 by_cases hi : 0 ≤ i
 ·obtain ⟨n, rfl⟩ := Int.eq_ofNat_of_zero_le hi
  have Hf : Hid (intV (n : Int) = numV false (dec n) ⟨#[49]⟩) := by
   show _ = _; unfold intV; rw [decide_eq_false (by omega), qi]; simp
  go_enter Tryd.func15, Tryd.ntmps15
  go_wp2_with fail
  refine (qe n (by omega) _).mono ?_
  rintro e w1 ⟨rfl, hb1⟩
  have hb0 := zg hb1
  have c0 := zb hb0 0
  have c1 := zb hb0 1
  have c2 := zb hb0 2
  have f0 := zc hb0 0
  have f1 := zc hb0 1
  have f2 := zc hb0 2
  have hbX := zf hb0
  simp at c0 c1 c2
  clear hb1 hb0
  go_wp2
  refine bodyPost_ret (v := numV false (dec n) ⟨#[49]⟩) (by simp [results, Tryd.results15, go_sem, numV, c0, c1, c2]) rfl ⟨by rw [za Hf], ?_⟩
  exact zh hbX _ (Nat.le_refl _) _ _ _
 ·obtain ⟨n, hn⟩ := Int.eq_ofNat_of_zero_le (show 0 ≤ -(i + 1) by omega)
  have hn' : i = -(n : Int) - 1 := by omega
  have e1 : (i : Int) + 1 = -(n : Int) := by omega
  subst hn'
  have Hf : Hid (intV (-(n : Int) - 1) = numV true (dec (n + 1)) ⟨#[49]⟩) := by
   show _ = _; unfold intV; rw [decide_eq_true (by omega), qi, show (-(n : Int) - 1).natAbs = n + 1 from by omega]
  have hs1 := zF (n := 1) (by omega)
  have hsn : (dec n).size ≤ 19 := by rw [zq]; exact zB (by omega) (by omega) (by omega)
  have d1 : dec 1 = ⟨#[49]⟩ := qi
  clear hn
  go_enter Tryd.func15, Tryd.ntmps15
  go_wp2_with fail
  refine (qe n (by omega) _).mono ?_
  rintro e w1 ⟨rfl, hb1⟩
  have hb0 := zg hb1
  have hz0 : w.heap.size + 1 ≤ w1.heap.size := by have := hb1.size; simpa using this
  go_wp2_with fail
  rw [← d1]
  refine (kC n 1 _ (by omega) (by omega)).mono ?_
  rintro e w2 ⟨rfl, hb2⟩
  have hn2 := ze hb0 hz0 hb2
  have c0 := zb hn2.1 0
  have c1 := zb hn2.1 1
  have c2 := zb hn2.1 2
  have f0 := zc hn2.1 0
  have f1 := zc hn2.1 1
  have f2 := zc hn2.1 2
  have hbX := zf hn2.1
  simp at c0 c1 c2
  clear hb1 hb0 hb2 hn2 hz0
  go_wp2
  refine bodyPost_ret (v := numV true (dec (n + 1)) ⟨#[49]⟩) (by simp [results, Tryd.results15, go_sem, numV, c0, c1, c2]) rfl ⟨by rw [za Hf], ?_⟩
  exact zh hbX _ (Nat.le_refl _) _ _ _
theorem yg {d : Nat} (h : d < 16) : digN (sg d) = d := by
 unfold digN
 rw [zI h]
 by_cases h10 : d < 10
 ·rw [if_pos h10, if_pos (by omega)]; omega
 ·rw [if_neg h10, if_neg (by omega), if_pos (by omega)]; omega
theorem yx {b : Nat} (hb2 : 2 ≤ b) (hb16 : b ≤ 16) (n : Nat) : rdN b (txl b n) = n := by
 induction n using Nat.strongRecOn with
 | _ n ih =>
  by_cases h : n < b
  ·rw [qo b hb2 n h]; show 0 * b + digN (sg n) = n; rw [yg (by omega)]; omega
  ·have hm : n % b < b := Nat.mod_lt _ (by omega)
   rw [jl b hb2 n (by omega), jE, ih (n / b) (Nat.div_lt_self (by omega) (by omega)), yg (by omega)]
   exact Nat.div_add_mod' n b
theorem vH {b : Nat} (hb2 : 2 ≤ b) (n : Nat) : ∀ c ∈ txl b n, ∃ d, d < b ∧ c = sg d := by
 intro c hc
 unfold txl at hc
 split at hc
 ·simp at hc; exact ⟨0, by omega, by rw [hc]; rfl⟩
 ·simp at hc
  obtain ⟨d, hd, rfl⟩ := hc
  exact ⟨d, dg_lt hb2 n d hd, rfl⟩
theorem yu {b : Nat} (hb2 : 2 ≤ b) (hb16 : b ≤ 16) (n : Nat) : okN b (txl b n) = true := by
 apply jB (qn hb2 n)
 intro c hc
 obtain ⟨d, hd, rfl⟩ := vH hb2 n c hc
 rw [yg (by omega)]; exact hd
theorem sg_ge {d : Nat} (h : d < 16) : 48 ≤ (sg d).toNat := by rw [zI h]; split <;> omega
theorem yE {b : Nat} (hb2 : 2 ≤ b) (hb16 : b ≤ 16) (n : Nat) {c : UInt8} (hc : c.toNat < 48) : ∀ x ∈ txl b n, x ≠ c := by
 intro x hx
 obtain ⟨d, hd, rfl⟩ := vH hb2 n x hx
 intro h
 have := sg_ge (d := d) (by omega)
 rw [h] at this; omega
theorem yK {b : Nat} (hb2 : 2 ≤ b) (hb16 : b ≤ 16) (n : Nat) {c : UInt8} (hc : c.toNat < 48) : findB c (txl b n) = none :=
 vj fun _ hj => yE hb2 hb16 n hc _ (List.getElem_mem hj)
theorem kP {b : Nat} (hb2 : 2 ≤ b) (hb16 : b ≤ 16) (n : Nat) (r : List UInt8) : findB 47 (txl b n ++ 47 :: r) = some (txl b n).length := by
 apply vk (by simp)
 ·simp
 ·intro j hj hlt
  rw [List.getElem_append_left hlt]
  exact yE hb2 hb16 n (by decide) _ (List.getElem_mem hlt)
theorem vW {neg : Bool} {a q : Nat} (hq : q ≠ 0) (hg : Nat.gcd a q = 1) (ha : (dec a).size ≤ 60) (hqs : (dec q).size ≤ 60) (hn : neg = true → a ≠ 0) : zm neg a q = some (neg, a, q) := by
 unfold zm
 rw [hg, Nat.div_one, Nat.div_one, if_neg (by omega)]
 cases neg with
 | false => rfl
 | true => simp [hn rfl]
theorem y5 {neg : Bool} {a q b : Nat} (hb2 : 2 ≤ b) (hb16 : b ≤ 16) (hq : q ≠ 0) (hg : Nat.gcd a q = 1) (ha : (dec a).size ≤ 60) (hqs : (dec q).size ≤ 60) (hn : neg = true → a ≠ 0) :
  bodyM neg b (txl b a ++ (if q = 1 then [] else 47 :: txl b q)) = some (neg, a, q) := by
 by_cases h1 : q = 1
 ·subst h1
  rw [if_pos rfl, List.append_nil]
  unfold bodyM
  rw [yK hb2 hb16 a (by decide), yK hb2 hb16 a (by decide)]
  show zX neg b (txl b a) = _
  unfold zX
  rw [yu hb2 hb16, yx hb2 hb16]
  exact vW hq hg ha hqs hn
 ·rw [if_neg h1]
  unfold bodyM
  rw [kP hb2 hb16 a]
  show overM neg b _ _ = _
  rw [List.take_left' rfl, show (txl b a ++ 47 :: txl b q).drop ((txl b a).length + 1) = txl b q from by simp [List.drop_append, List.drop_eq_nil_of_le]]
  unfold overM
  rw [yu hb2 hb16, yu hb2 hb16, yx hb2 hb16, yx hb2 hb16]
  exact vW hq hg ha hqs hn
theorem kt {neg : Bool} {a q b : Nat} (hb2 : 2 ≤ b) (hb16 : b ≤ 16) (hq : q ≠ 0) (hg : Nat.gcd a q = 1) (ha : (dec a).size ≤ 60) (hqs : (dec q).size ≤ 60) (hn : neg = true → a ≠ 0) :
  signB b (prM neg a q b) = some (neg, a, q) := by
 have hb := y5 hb2 hb16 hq hg ha hqs hn
 unfold prM
 cases neg with
 | true => simpa [signB] using hb
 | false =>
  rw [if_neg (by simp), List.nil_append]
  have hne : 0 < (txl b a).length := qn hb2 a
  have h45 := yE hb2 hb16 a (c := 45) (by decide)
  have h43 := yE hb2 hb16 a (c := 43) (by decide)
  revert hb hne h45 h43
  cases txl b a with
  | nil => intro _ h; simp at h
  | cons c t =>
   intro hb _ h45 h43
   rw [List.cons_append] at hb ⊢
   show (if c = 45 then _ else if c = 43 then _ else _) = _
   rw [if_neg (h45 c (by simp)), if_neg (h43 c (by simp))]
   exact hb
theorem yX {neg : Bool} {u d : List UInt8} {b : Nat} (hok : okM neg u d = true) (hb4 : b = 2 ∨ b = 8 ∨ b = 10 ∨ b = 16) (hl : (zw neg u d b).length ≤ 240) :
  zk (zw neg u d b) b = some (neg, zj u, zj d) := by
 have hr : zn (b : Int) = true := by rcases hb4 with rfl | rfl | rfl | rfl <;> rfl
 obtain ⟨h3, h4, hu, hd, hd0, hn0, hg⟩ := zR hok
 have e : zw neg u d b = prM neg (zj u) (zj d) b := by unfold zw; rw [hok, hr]; simp
 rw [qh _ b hb4 hl, e]
 exact kt (by omega) (by omega) hd0 hg (by rw [zq, ← zz h3]; exact hu) (by rw [zq, ← zz h4]; exact hd) hn0
theorem xH {neg : Bool} {u d : List UInt8} (h1 : u.length ≤ 60) (h2 : d.length ≤ 60) (h3 : isDec u = true) (h4 : isDec d = true) (h5 : zj d ≠ 0) (h6 : neg = true → zj u ≠ 0) (h7 : Nat.gcd (zj u) (zj d) = 1) : okM neg u d = true := by
 unfold okM
 simp only [Bool.and_eq_true, decide_eq_true_eq, Bool.not_eq_true', Bool.and_eq_false_iff, decide_eq_false_iff_not]
 refine ⟨⟨⟨⟨⟨⟨h1, h2⟩, h3⟩, h4⟩, h5⟩, ?_⟩, h7⟩
 cases neg with
 | false => exact .inl rfl
 | true => exact .inr (h6 rfl)
theorem jN {neg n : Bool} {u d x y : Nat} (h : zm neg u d = some (n, x, y)) : okM n (txl 10 x) (txl 10 y) = true := by
 unfold zm at h
 split at h
 ·cases h
 ·rename_i hh
  simp only [Option.some.injEq, Prod.mk.injEq] at h
  obtain ⟨rfl, rfl, rfl⟩ := h
  have hd : d ≠ 0 := fun hd => hh (.inl hd)
  have h1 : ¬ 60 < (dec (u / Nat.gcd u d)).size := fun k => hh (.inr (.inl k))
  have h2 : ¬ 60 < (dec (d / Nat.gcd u d)).size := fun k => hh (.inr (.inr k))
  rw [zq] at h1 h2
  have hgp : 0 < Nat.gcd u d := Nat.gcd_pos_of_pos_right _ (by omega)
  have hdd : d / Nat.gcd u d ≠ 0 := by
   have := Nat.div_pos (Nat.le_of_dvd (by omega) (Nat.gcd_dvd_right u d)) hgp
   omega
  have hco : Nat.gcd (u / Nat.gcd u d) (d / Nat.gcd u d) = 1 := Nat.coprime_div_gcd_div_gcd hgp
  refine xH (by omega) (by omega) (qQ _) (qQ _) (by rw [zC]; exact hdd) ?_ (by rw [zC, zC]; exact hco)
  intro hh
  rw [zC]
  intro h0
  rw [h0] at hh
  simp at hh
theorem yH {neg : Bool} {b : Nat} {l : List UInt8} {p : Bool × Nat × Nat} (h : bodyM neg b l = some p) : ∃ u d, zm neg u d = some p := by
 unfold bodyM overM qm zX at h
 split at h
 ·split at h
  ·exact ⟨_, _, h⟩
  ·cases h
 ·split at h
  ·split at h
   ·split at h
    ·exact ⟨_, _, h⟩
    ·cases h
   ·split at h
    ·exact ⟨_, _, h⟩
    ·cases h
  ·split at h
   ·exact ⟨_, _, h⟩
   ·cases h
theorem yW {l : List UInt8} {r : Int} {n : Bool} {x y : Nat} (h : zk l r = some (n, x, y)) : okM n (txl 10 x) (txl 10 y) = true := by
 have key : ∀ neg b l, bodyM neg b l = some (n, x, y) → okM n (txl 10 x) (txl 10 y) = true := by
  intro neg b l h
  obtain ⟨u, d, h⟩ := yH h
  exact jN h
 unfold zk at h
 split at h
 ·unfold signB at h
  split at h
  ·exact key _ _ _ h
  ·split at h
   ·exact key _ _ _ h
   ·split at h
    ·exact key _ _ _ h
    ·exact key _ _ _ h
 ·cases h
def ansN (o : Option (Bool × Nat × Nat)) : Bool := match o with | some (n, _, _) => n | none => false
def ansU (o : Option (Bool × Nat × Nat)) : List UInt8 := match o with | some (_, u, _) => txl 10 u | none => []
def ansD (o : Option (Bool × Nat × Nat)) : List UInt8 := match o with | some (_, _, d) => txl 10 d | none => []
theorem xE (o : Option (Bool × Nat × Nat)) : numO o = numB (ansN o) (ansU o) (ansD o) := by
 cases o with
 | none => rfl
 | some p => rfl
theorem x1 (l : List UInt8) (r : Int) : okM (ansN (zk l r)) (ansU (zk l r)) (ansD (zk l r)) = (zk l r).isSome := by
 cases h : zk l r with
 | none => rfl
 | some p => obtain ⟨n, x, y⟩ := p; exact yW h
theorem xS (l : List UInt8) (r : Int) : (ansU (zk l r)).length ≤ 60 ∧ (ansD (zk l r)).length ≤ 60 := by
 cases h : zk l r with
 | none => exact ⟨by simp [ansU], by simp [ansD]⟩
 | some p =>
  obtain ⟨n, x, y⟩ := p
  have := zR (yW h)
  exact ⟨this.2.2.1, this.2.2.2.1⟩
theorem jM (i : Int) : intV i = numB (decide (i < 0)) (txl 10 i.natAbs) (txl 10 1) := rfl
theorem kb {i : Int} (h0 : -9223372036854775808 ≤ i) (h1 : i ≤ 9223372036854775807) : okM (decide (i < 0)) (txl 10 i.natAbs) (txl 10 1) = true := by
 have hl : (txl 10 i.natAbs).length ≤ 60 := zB (by omega) (by omega) (Nat.lt_of_le_of_lt (show i.natAbs ≤ 9223372036854775808 by omega) (by decide))
 refine xH hl (by decide) (qQ _) (qQ _) (by rw [zC]; omega) ?_ (by rw [zC, zC]; exact Nat.gcd_one_right _)
 intro hi
 rw [zC]
 have := of_decide_eq_true hi
 omega
theorem xl : dec 0 = ⟨#[48]⟩ ∧ dec 1 = ⟨#[49]⟩ ∧ dec 2 = ⟨#[50]⟩ ∧ dec 10 = ⟨#[49, 48]⟩ ∧ dec 100 = ⟨#[49, 48, 48]⟩ ∧ dec 999 = ⟨#[57, 57, 57]⟩ ∧ dec 1000 = ⟨#[49, 48, 48, 48]⟩ := by
 refine ⟨rfl, rfl, rfl, rfl, rfl, rfl, rfl⟩
theorem qB (g p n cap : Nat) (a : Option Addr) (w : World) (h : Rd w g p a n cap) (hp : p ≤ 900000000) :
  Calls Tryd.prog 37 #[.pointer (some ⟨g, 0, none⟩)] w fun e w' => (∃ x, e = .returned (.string (dec x)) ∧ (dec x).size ≤ 60) ∧ Drawn w g p n cap a 100 w' := by
 unfold Drawn
 have H := hide h
 clear h
 go_enter Tryd.func37, Tryd.ntmps37
 go_wp2_with fail
 refine (q6 g p n cap a 4 _ (za H) (by omega) (by omega)).mono ?_
 rintro e w1 ⟨⟨i1, rfl, hi1⟩, hr1, hk1⟩
 have hi1' : i1 < 4 := by rcases hi1 with h | h <;> omega
 have HR1 := hide hr1
 have HK1 := hide hk1
 clear hr1 hk1 hi1
 go_wp2_with fail
 refine (q6 g (p + 1) n cap a 8 _ (za HR1) (by omega) (by omega)).mono ?_
 rintro e w2 ⟨⟨i2, rfl, hi2⟩, hr2, hk2⟩
 have HR2 := hide hr2
 have HK2 := hide ((za HK1).trans hk2)
 clear hr2 hk2 hi2
 by_cases h0 : i2 = 0
 ·subst h0
  go_wp2_with fail
  refine (q6 g (p + 1 + 1) n cap a 30 _ (za HR2) (by omega) (by omega)).mono ?_
  rintro e w2' ⟨⟨i3, rfl, hi3⟩, hr3, hk3⟩
  have hi3' : i3 < 30 := by rcases hi3 with h | h <;> omega
  have HR3 := hide hr3
  have HK3 := hide ((za HK2).trans hk3)
  clear hr3 hk3 hi3
  go_wp2
  go_loopw [4, 5] (fun vo vi wr => ∃ (xs : List Nat) (p' : Nat), vi = .int .i64 (xs.length : Int) ∧ vo = .string (B ((xs.map sg).reverse)) ∧ Hid (∀ d ∈ xs, d < 10) ∧ (xs.length : Int) ≤ (1 + (i3 : Int)) ∧ p' ≤ (p + 1 + 1 + 1) + xs.length ∧ Rd wr g p' a n cap ∧ Keeps g w wr) (fun _ vi _ => ((1 + (i3 : Int)) - intOf vi).toNat)
  case atStart => exact ⟨[], (p + 1 + 1 + 1), rfl, rfl, hide (by simp), by simp; omega, by simp, (za HR3), (za HK3)⟩
  case round =>
   obtain ⟨xs, p', rfl, rfl, hd, hle, hp', hr', hk'⟩ := hrel
   have HR' := hide hr'
   have HK' := hide hk'
   clear hr' hk'
   have hBx := zi ((xs.map sg).reverse)
   simp only [List.length_reverse, List.length_map] at hBx
   by_cases hlt : (xs.length : Int) < (1 + (i3 : Int))
   ·go_wp2_with fail
    refine (q6 g p' n cap a 10 _ (za HR') (by omega) (by omega)).mono ?_
    rintro e w3 ⟨⟨d, rfl, hd10⟩, hr3, hk3⟩
    have hd9 : d < 10 := by rcases hd10 with h | h <;> omega
    have HR3 := hide hr3
    have HK3 := hide hk3
    clear hr3 hk3 hd10
    go_wp2_with fail
    refine (qe d (by omega) _).mono ?_
    rintro e w4 ⟨rfl, hb4⟩
    have hds : (dec d).size = 1 := by unfold dec txt; rw [qo 10 (by omega) d hd9, zi]; rfl
    have happ : Hid (B ((xs.map sg).reverse) ++ dec d = B (((d :: xs).map sg).reverse)) := by
     show _ = _; unfold dec txt; rw [qo 10 (by omega) d hd9, zu]; simp
    go_wp2
    go_roundw
    case rel => exact ⟨d :: xs, p' + 1, by simp, by rw [za happ], hide (by intro x hx; rcases List.mem_cons.1 hx with rfl | hx; exact hd9; exact za hd x hx), by simp; omega, by simp; omega, (za HR3).keep hb4, ((za HK').trans (za HK3)).trans (Keeps.of_below hb4)⟩
    case measure => simp [intOf]; omega
   ·have hne : xs ≠ [] := by intro h; subst h; simp at hlt; omega
    have htr := qE xs (za hd) hne
    have hlen : (xs.map sg).reverse.length ≤ 60 := by simp; omega
    have htl := qK ((xs.map sg).reverse)
    rw [htr] at htl
    have Htr := hide htr
    clear htr
    go_wp2_with fail
    refine (jd ((xs.map sg).reverse) _ (by omega)).mono ?_
    rintro e w3 ⟨rfl, rfl⟩
    go_wp2
    go_ret
    exact ⟨⟨ofd 10 xs, zv (by rw [za Htr]; rfl), by rw [zq]; omega⟩, ⟨p', by omega, za HR'⟩, za HK'⟩
 ·by_cases h1 : i2 = 1
  ·subst h1
   go_wp2_with fail
   refine (q6 g (p + 1 + 1) n cap a 3 _ (za HR2) (by omega) (by omega)).mono ?_
   rintro e w2' ⟨⟨i3, rfl, hi3⟩, hr3, hk3⟩
   have hi3' : i3 < 3 := by rcases hi3 with h | h <;> omega
   have HR3 := hide hr3
   have HK3 := hide ((za HK2).trans hk3)
   clear hr3 hk3 hi3
   go_wp2
   go_loopw [4, 5] (fun vo vi wr => ∃ (xs : List Nat) (p' : Nat), vi = .int .i64 (xs.length : Int) ∧ vo = .string (B ((xs.map sg).reverse)) ∧ Hid (∀ d ∈ xs, d < 10) ∧ (xs.length : Int) ≤ (60 - (i3 : Int)) ∧ p' ≤ (p + 1 + 1 + 1) + xs.length ∧ Rd wr g p' a n cap ∧ Keeps g w wr) (fun _ vi _ => ((60 - (i3 : Int)) - intOf vi).toNat)
   case atStart => exact ⟨[], (p + 1 + 1 + 1), rfl, rfl, hide (by simp), by simp; omega, by simp, (za HR3), (za HK3)⟩
   case round =>
    obtain ⟨xs, p', rfl, rfl, hd, hle, hp', hr', hk'⟩ := hrel
    have HR' := hide hr'
    have HK' := hide hk'
    clear hr' hk'
    have hBx := zi ((xs.map sg).reverse)
    simp only [List.length_reverse, List.length_map] at hBx
    by_cases hlt : (xs.length : Int) < (60 - (i3 : Int))
    ·go_wp2_with fail
     refine (q6 g p' n cap a 10 _ (za HR') (by omega) (by omega)).mono ?_
     rintro e w3 ⟨⟨d, rfl, hd10⟩, hr3, hk3⟩
     have hd9 : d < 10 := by rcases hd10 with h | h <;> omega
     have HR3 := hide hr3
     have HK3 := hide hk3
     clear hr3 hk3 hd10
     go_wp2_with fail
     refine (qe d (by omega) _).mono ?_
     rintro e w4 ⟨rfl, hb4⟩
     have hds : (dec d).size = 1 := by unfold dec txt; rw [qo 10 (by omega) d hd9, zi]; rfl
     have happ : Hid (B ((xs.map sg).reverse) ++ dec d = B (((d :: xs).map sg).reverse)) := by
      show _ = _; unfold dec txt; rw [qo 10 (by omega) d hd9, zu]; simp
     go_wp2
     go_roundw
     case rel => exact ⟨d :: xs, p' + 1, by simp, by rw [za happ], hide (by intro x hx; rcases List.mem_cons.1 hx with rfl | hx; exact hd9; exact za hd x hx), by simp; omega, by simp; omega, (za HR3).keep hb4, ((za HK').trans (za HK3)).trans (Keeps.of_below hb4)⟩
     case measure => simp [intOf]; omega
    ·have hne : xs ≠ [] := by intro h; subst h; simp at hlt; omega
     have htr := qE xs (za hd) hne
     have hlen : (xs.map sg).reverse.length ≤ 60 := by simp; omega
     have htl := qK ((xs.map sg).reverse)
     rw [htr] at htl
     have Htr := hide htr
     clear htr
     go_wp2_with fail
     refine (jd ((xs.map sg).reverse) _ (by omega)).mono ?_
     rintro e w3 ⟨rfl, rfl⟩
     go_wp2
     go_ret
     exact ⟨⟨ofd 10 xs, zv (by rw [za Htr]; rfl), by rw [zq]; omega⟩, ⟨p', by omega, za HR'⟩, za HK'⟩
  ·have z0 : ((i2 : Int) == 0) = false := by rw [beq_eq_false_iff_ne]; omega
   have z1 : ((i2 : Int) == 1) = false := by rw [beq_eq_false_iff_ne]; omega
   by_cases h2 : i2 = 2
   ·subst h2
    have hr2 := (za HR2)
    have hlt := hr2.lt
    go_wp2_with fail
    refine (of_c g (p + 1 + 1) n cap w2.heap.size a #[.string ⟨#[48]⟩, .string ⟨#[49]⟩, .string ⟨#[50]⟩, .string ⟨#[49, 48]⟩, .string ⟨#[49, 48, 48]⟩, .string ⟨#[57, 57, 57]⟩, .string ⟨#[49, 48, 48, 48]⟩] 7 _ (hr2.keep ((Below.refl _ _).alloc (Nat.le_refl _) _)) (by omega) rfl (by omega) (by omega) (by show (w2.heap.push _)[w2.heap.size]? = _; rw [Array.getElem?_push, if_pos rfl]) (by omega)).mono ?_
    rintro e w3 ⟨⟨v, rfl, hv⟩, ⟨p3, hp3, hr3⟩, hk3⟩
    have hx : ∃ x, v = .string (dec x) ∧ (dec x).size ≤ 60 := by
     obtain ⟨d0, d1, d2, d3, d4, d5, d6⟩ := xl
     simp at hv
     rcases hv with rfl | rfl | rfl | rfl | rfl | rfl | rfl
     ·exact ⟨0, by rw [d0], by rw [d0]; decide⟩
     ·exact ⟨1, by rw [d1], by rw [d1]; decide⟩
     ·exact ⟨2, by rw [d2], by rw [d2]; decide⟩
     ·exact ⟨10, by rw [d3], by rw [d3]; decide⟩
     ·exact ⟨100, by rw [d4], by rw [d4]; decide⟩
     ·exact ⟨999, by rw [d5], by rw [d5]; decide⟩
     ·exact ⟨1000, by rw [d6], by rw [d6]; decide⟩
    obtain ⟨x, rfl, hx60⟩ := hx
    have HR3 := hide hr3
    have HK3 := hide ((za HK2).trans ((Keeps.refl _ _).alloc _ |>.trans hk3))
    clear hr3 hk3 hr2 hv
    go_wp2
    go_ret
    exact ⟨⟨x, rfl, hx60⟩, ⟨p3, by omega, za HR3⟩, za HK3⟩
   ·have z2 : ((i2 : Int) == 2) = false := by rw [beq_eq_false_iff_ne]; omega
    go_wp2
    go_loopw [4, 5] (fun vo vi wr => ∃ (xs : List Nat) (p' : Nat), vi = .int .i64 (xs.length : Int) ∧ vo = .string (B ((xs.map sg).reverse)) ∧ Hid (∀ d ∈ xs, d < 10) ∧ (xs.length : Int) ≤ (1 + (i1 : Int)) ∧ p' ≤ (p + 1 + 1) + xs.length ∧ Rd wr g p' a n cap ∧ Keeps g w wr) (fun _ vi _ => ((1 + (i1 : Int)) - intOf vi).toNat)
    case atStart => exact ⟨[], (p + 1 + 1), rfl, rfl, hide (by simp), by simp; omega, by simp, (za HR2), (za HK2)⟩
    case round =>
     obtain ⟨xs, p', rfl, rfl, hd, hle, hp', hr', hk'⟩ := hrel
     have HR' := hide hr'
     have HK' := hide hk'
     clear hr' hk'
     have hBx := zi ((xs.map sg).reverse)
     simp only [List.length_reverse, List.length_map] at hBx
     by_cases hlt : (xs.length : Int) < (1 + (i1 : Int))
     ·go_wp2_with fail
      refine (q6 g p' n cap a 10 _ (za HR') (by omega) (by omega)).mono ?_
      rintro e w3 ⟨⟨d, rfl, hd10⟩, hr3, hk3⟩
      have hd9 : d < 10 := by rcases hd10 with h | h <;> omega
      have HR3 := hide hr3
      have HK3 := hide hk3
      clear hr3 hk3 hd10
      go_wp2_with fail
      refine (qe d (by omega) _).mono ?_
      rintro e w4 ⟨rfl, hb4⟩
      have hds : (dec d).size = 1 := by unfold dec txt; rw [qo 10 (by omega) d hd9, zi]; rfl
      have happ : Hid (B ((xs.map sg).reverse) ++ dec d = B (((d :: xs).map sg).reverse)) := by
       show _ = _; unfold dec txt; rw [qo 10 (by omega) d hd9, zu]; simp
      go_wp2
      go_roundw
      case rel => exact ⟨d :: xs, p' + 1, by simp, by rw [za happ], hide (by intro x hx; rcases List.mem_cons.1 hx with rfl | hx; exact hd9; exact za hd x hx), by simp; omega, by simp; omega, (za HR3).keep hb4, ((za HK').trans (za HK3)).trans (Keeps.of_below hb4)⟩
      case measure => simp [intOf]; omega
     ·have hne : xs ≠ [] := by intro h; subst h; simp at hlt; omega
      have htr := qE xs (za hd) hne
      have hlen : (xs.map sg).reverse.length ≤ 60 := by simp; omega
      have htl := qK ((xs.map sg).reverse)
      rw [htr] at htl
      have Htr := hide htr
      clear htr
      go_wp2_with fail
      refine (jd ((xs.map sg).reverse) _ (by omega)).mono ?_
      rintro e w3 ⟨rfl, rfl⟩
      go_wp2
      go_ret
      exact ⟨⟨ofd 10 xs, zv (by rw [za Htr]; rfl), by rw [zq]; omega⟩, ⟨p', by omega, za HR'⟩, za HK'⟩
theorem kE (g p n cap : Nat) (a : Option Addr) (w : World) (h : Rd w g p a n cap) (hp : p ≤ 800000000) :
  Calls Tryd.prog 34 #[.pointer (some ⟨g, 0, none⟩)] w fun e w' => (∃ neg x y, e = .returned (numV neg (dec x) (dec y)) ∧ (dec x).size ≤ 60 ∧ (dec y).size ≤ 60) ∧ Drawn w g p n cap a 300 w' := by
 have hlt := h.lt
 have Hlt := hide hlt
 have HR := hide (h.alloc (.cells #[.bool false, .string ⟨#[]⟩, .string ⟨#[]⟩] 26))
 clear h
 go_enter Tryd.func34, Tryd.ntmps34
 go_wp2_with fail
 refine (zL g p n cap a 2 _ (za HR) (by omega) (by omega)).mono ?_
 rintro e w1 ⟨⟨i, rfl, hi⟩, ⟨p1, hp1, hr1⟩, hk1⟩
 have HR1 := hide hr1
 have HK1 := hide hk1
 clear hr1 hk1 hi
 by_cases hi0 : i = 0
 ·have z0 : ((i : Int) == 0) = true := by rw [beq_iff_eq]; omega
  have HK := hide hi0
  clear hi0
  go_wp2_with fail
  have h := qB g p1 n cap a w1 (za HR1) (by omega)
  refine h.mono ?_
  clear h
  rintro e w2 ⟨⟨d, rfl, hd60⟩, ⟨p2, hp2, hr2⟩, hk2⟩
  have HR2 := hide hr2
  have HK2 := hide ((za HK1).trans hk2)
  clear hr2 hk2
  go_wp2_with fail
  refine (zL g p2 n cap a 2 _ (za HR2) (by omega) (by omega)).mono ?_
  rintro e w3 ⟨⟨j, rfl, hj⟩, ⟨p3, hp3, hr3⟩, hk3⟩
  have HR3 := hide hr3
  have HK3 := hide (((za HK2)).trans hk3)
  clear hr3 hk3 hj
  go_wp2_with fail
  have h := qB g p3 n cap a w3 (za HR3) (by omega)
  refine h.mono ?_
  clear h
  rintro e w4 ⟨⟨u, rfl, hu60⟩, ⟨p4, hp4, hr4⟩, hk4⟩
  have HR4 := hide hr4
  have HK4 := hide ((za HK3).trans hk4)
  clear hr4 hk4
  go_wp2_with fail
  have h := zO ((j : Int) == 0) u d w4 (by omega) (by omega)
  refine h.mono ?_
  clear h
  rintro e w5 ⟨rfl, hb5⟩
  have hr5 := (za HR4).keep hb5
  have hk5 := (za HK4).trans (Keeps.of_below hb5)
  have hA := (At3.new w (.bool false) (.string ⟨#[]⟩) (.string ⟨#[]⟩)).keeps hk5 (by omega)
  have hsz := hA.lt
  have c0 := hA.c0
  have c1 := hA.c1
  have c2 := hA.c2
  have f := hA.f
  have Hfin : Hid (Drawn w g p n cap a 300 w5) := ⟨⟨p4, by omega, hr5⟩, ((Keeps.refl g w).alloc _).trans hk5⟩
  clear hr5 hk5 hA HR3 HK3 HR4 HK4 HR1 HK1 HR2 HK2 HR HK
  have hne : w5.heap.size ≠ w.heap.size := by omega
  cases hl : zm ((j : Int) == 0) u d with
  | none =>
   unfold zd numO noNum numV
   go_wp2
   refine bodyPost_ret (v := .agg #[.bool false, .string ⟨#[55]⟩, .string ⟨#[49]⟩]) (by simp [results, Tryd.results34, go_sem, c0, c1, c2, hsz]) rfl ⟨⟨false, 7, 1, rfl, by decide, by decide⟩, ?_⟩
   exact (za Hfin).more (za Hlt) ((zh (Below.refl _ _) w.heap.size (by omega) _ _ _).alloc (by simp; omega) _)
  | some r =>
   obtain ⟨nn, x, y⟩ := r
   have hok := zR (jN hl)
   have hx60 : (dec x).size ≤ 60 := by rw [zq]; exact hok.2.2.1
   have hy60 : (dec y).size ≤ 60 := by rw [zq]; exact hok.2.2.2.1
   clear hok
   unfold zd numO numV
   go_wp2
   refine bodyPost_ret (v := numV nn (dec x) (dec y)) (by simp [results, Tryd.results34, go_sem, numV, c0, c1, c2, hsz]) rfl ⟨⟨nn, x, y, rfl, hx60, hy60⟩, ?_⟩
   exact (za Hfin).more (za Hlt) ((zh (Below.refl _ _) w.heap.size (by omega) _ _ _).alloc (by simp; omega) _)
 ·have z0 : ((i : Int) == 0) = false := by rw [beq_eq_false_iff_ne]; omega
  have HK := hide hi0
  have HR2 := HK
  have HK2 := HK
  clear hi0
  have hd60 : (dec 1).size ≤ 60 := by decide
  rw [show (Value.string ⟨#[49]⟩) = .string (dec 1) from rfl]
  go_wp2_with fail
  refine (zL g p1 n cap a 2 _ (za HR1) (by omega) (by omega)).mono ?_
  rintro e w3 ⟨⟨j, rfl, hj⟩, ⟨p3, hp3, hr3⟩, hk3⟩
  have HR3 := hide hr3
  have HK3 := hide (((za HK1)).trans hk3)
  clear hr3 hk3 hj
  go_wp2_with fail
  have h := qB g p3 n cap a w3 (za HR3) (by omega)
  refine h.mono ?_
  clear h
  rintro e w4 ⟨⟨u, rfl, hu60⟩, ⟨p4, hp4, hr4⟩, hk4⟩
  have HR4 := hide hr4
  have HK4 := hide ((za HK3).trans hk4)
  clear hr4 hk4
  go_wp2_with fail
  have h := zO ((j : Int) == 0) u 1 w4 (by omega) (by omega)
  refine h.mono ?_
  clear h
  rintro e w5 ⟨rfl, hb5⟩
  have hr5 := (za HR4).keep hb5
  have hk5 := (za HK4).trans (Keeps.of_below hb5)
  have hA := (At3.new w (.bool false) (.string ⟨#[]⟩) (.string ⟨#[]⟩)).keeps hk5 (by omega)
  have hsz := hA.lt
  have c0 := hA.c0
  have c1 := hA.c1
  have c2 := hA.c2
  have f := hA.f
  have Hfin : Hid (Drawn w g p n cap a 300 w5) := ⟨⟨p4, by omega, hr5⟩, ((Keeps.refl g w).alloc _).trans hk5⟩
  clear hr5 hk5 hA HR3 HK3 HR4 HK4 HR1 HK1 HR2 HK2 HR HK
  have hne : w5.heap.size ≠ w.heap.size := by omega
  cases hl : zm ((j : Int) == 0) u 1 with
  | none =>
   unfold zd numO noNum numV
   go_wp2
   refine bodyPost_ret (v := .agg #[.bool false, .string ⟨#[55]⟩, .string ⟨#[49]⟩]) (by simp [results, Tryd.results34, go_sem, c0, c1, c2, hsz]) rfl ⟨⟨false, 7, 1, rfl, by decide, by decide⟩, ?_⟩
   exact (za Hfin).more (za Hlt) ((zh (Below.refl _ _) w.heap.size (by omega) _ _ _).alloc (by simp; omega) _)
  | some r =>
   obtain ⟨nn, x, y⟩ := r
   have hok := zR (jN hl)
   have hx60 : (dec x).size ≤ 60 := by rw [zq]; exact hok.2.2.1
   have hy60 : (dec y).size ≤ 60 := by rw [zq]; exact hok.2.2.2.1
   clear hok
   unfold zd numO numV
   go_wp2
   refine bodyPost_ret (v := numV nn (dec x) (dec y)) (by simp [results, Tryd.results34, go_sem, numV, c0, c1, c2, hsz]) rfl ⟨⟨nn, x, y, rfl, hx60, hy60⟩, ?_⟩
   exact (za Hfin).more (za Hlt) ((zh (Below.refl _ _) w.heap.size (by omega) _ _ _).alloc (by simp; omega) _)
def numS (neg : Bool) (us ds : ByteArray) : Value := .agg #[.bool neg, .string us, .string ds]
def ku (us ds : ByteArray) : Prop := us.size ≤ 1000 ∧ ds.size ≤ 1000
theorem jx {x : Nat} (h : (dec x).size ≤ 60) : (dec (x * 2)).size ≤ 61 := by
 by_cases h0 : x = 0
 ·subst h0; decide
 ·have := jw (ρ := x * 2) (b := x) (by omega); omega
theorem j9 {l : List Value} {v : Value} {M : Nat} (h : l.all (isS M) = true) (hv : v ∈ l) : ∃ s, v = .string s ∧ s.size ≤ M := xX (List.all_eq_true.1 h v hv)
theorem kS (g p n cap : Nat) (a : Option Addr) (neg : Bool) (x y : Nat) (w : World) (h : Rd w g p a n cap) (hp : p ≤ 800000000) (hx : (dec x).size ≤ 60) (hy : (dec y).size ≤ 60) :
  Calls Tryd.prog 99 #[.pointer (some ⟨g, 0, none⟩), numV neg (dec x) (dec y)] w fun e w' => (∃ neg us ds, e = .returned (numS neg us ds) ∧ ku us ds) ∧ Drawn w g p n cap a 10 w' := by
 have hlt := h.lt
 have Hlt := hide hlt
 have hAa := (At3.new w (.bool neg) (.string (dec x)) (.string (dec y))).alloc (.cells #[.bool false, .string ⟨#[]⟩, .string ⟨#[]⟩] 26)
 have hAb := At3.new (w.alloc (.cells #[.bool neg, .string (dec x), .string (dec y)] 26)) (.bool false) (.string ⟨#[]⟩) (.string ⟨#[]⟩)
 have hR0 := (h.alloc (.cells #[.bool neg, .string (dec x), .string (dec y)] 26)).alloc (.cells #[.bool false, .string ⟨#[]⟩, .string ⟨#[]⟩] 26)
 rw [show (w.alloc (.cells #[.bool neg, .string (dec x), .string (dec y)] 26)).heap.size = w.heap.size + 1 from by simp] at hAb
 have HA1 := hide hAa
 have HA2 := hide hAb
 have HR := hide hR0
 clear h hAa hAb hR0
 unfold numV
 go_enter Tryd.func99, Tryd.ntmps99
 go_wp2_with fail
 refine (zL g p n cap a 7 _ (za HR) (by omega) (by omega)).mono ?_
 rintro e w1 ⟨⟨i, rfl, hi⟩, ⟨p1, hp1, hr1⟩, hk1⟩
 have HR1 := hide hr1
 have HK1 := hide hk1
 clear hr1 hk1 hi
 have hA1 := (za HA1).keeps (za HK1) (by omega)
 have hA2 := (za HA2).keeps (za HK1) (by omega)
 have c10 := hA1.c0
 have c11 := hA1.c1
 have c12 := hA1.c2
 have f1 := hA1.f
 have c20 := hA2.c0
 have c21 := hA2.c1
 have c22 := hA2.c2
 have f2 := hA2.f
 have hs1 := hA1.lt
 have hs2 := hA2.lt
 clear hA1 hA2
 rcases Nat.lt_or_ge i 1 with h | h
 ·have hi0 : i = 0 := by omega
  subst hi0
  have hr1 := za HR1
  have hlt1 := hr1.lt
  go_wp2_with fail
  refine (of_c g p1 n cap w1.heap.size a #[.string ⟨#[]⟩, .string ⟨#[48, 48]⟩, .string ⟨#[48]⟩, .string ⟨#[120]⟩, .string ⟨#[45, 49]⟩, .string ⟨#[48, 55]⟩] 6 _ (hr1.alloc _) (by omega) rfl (by omega) (by omega) (by show (w1.heap.push _)[w1.heap.size]? = _; rw [Array.getElem?_push, if_pos rfl]) (by omega)).mono ?_
  rintro e w2 ⟨⟨v, rfl, hv⟩, ⟨p2, hp2, hr2⟩, hk2⟩
  obtain ⟨s, rfl, hs⟩ := j9 (M := 10) (by rfl) hv
  have HR2 := hide hr2
  have HK2 := hide (((za HK1).alloc _).trans hk2)
  clear hr2 hk2 hv hr1 c10 c11 c12 f1 c20 c21 c22 f2 hs1 hs2
  have hA1 := (za HA1).keeps (za HK2) (by omega)
  have hA2 := (za HA2).keeps (za HK2) (by omega)
  have c10 := hA1.c0
  have c11 := hA1.c1
  have c12 := hA1.c2
  have f1 := hA1.f
  have c20 := hA2.c0
  have c21 := hA2.c1
  have c22 := hA2.c2
  have f2 := hA2.f
  have hs1 := hA1.lt
  have hs2 := hA2.lt
  clear hA1 hA2
  go_wp2
  have hcc := And.intro c10 (And.intro c11 (And.intro c12 (And.intro c20 (And.intro c21 (And.intro c22 (And.intro hs1 hs2))))))
  refine bodyPost_ret (v := numS neg s (dec y)) (by simp [results, Tryd.results99, go_sem, numS, hcc]) rfl ⟨⟨neg, s, (dec y), rfl, ⟨by omega, by omega⟩⟩, ?_⟩
  have hD : Drawn w g p n cap a 10 w2 := ⟨⟨p2, by omega, (za HR2)⟩, (((Keeps.refl g w).alloc _).alloc _).trans (za HK2)⟩
  refine hD.more (za Hlt) ?_
  repeat (first | exact Below.refl _ _ | refine Below.setCell ?_ (by first | exact Nat.le_refl _ | exact Nat.le_succ _ | (simp; done) | (simp; omega)) _ | refine Below.alloc ?_ (by first | exact Nat.le_refl _ | (simp; done) | (simp; omega)) _)
 rcases Nat.lt_or_ge i 2 with h2 | h2
 ·have hi1 : i = 1 := by omega
  subst hi1
  have hr1 := za HR1
  have hlt1 := hr1.lt
  go_wp2_with fail
  refine (of_c g p1 n cap w1.heap.size a #[.string ⟨#[]⟩, .string ⟨#[48]⟩, .string ⟨#[48, 48]⟩, .string ⟨#[120]⟩, .string ⟨#[48, 49]⟩, .string ⟨#[49]⟩] 6 _ (hr1.alloc _) (by omega) rfl (by omega) (by omega) (by show (w1.heap.push _)[w1.heap.size]? = _; rw [Array.getElem?_push, if_pos rfl]) (by omega)).mono ?_
  rintro e w2 ⟨⟨v, rfl, hv⟩, ⟨p2, hp2, hr2⟩, hk2⟩
  obtain ⟨s, rfl, hs⟩ := j9 (M := 10) (by rfl) hv
  have HR2 := hide hr2
  have HK2 := hide (((za HK1).alloc _).trans hk2)
  clear hr2 hk2 hv hr1 c10 c11 c12 f1 c20 c21 c22 f2 hs1 hs2
  have hA1 := (za HA1).keeps (za HK2) (by omega)
  have hA2 := (za HA2).keeps (za HK2) (by omega)
  have c10 := hA1.c0
  have c11 := hA1.c1
  have c12 := hA1.c2
  have f1 := hA1.f
  have c20 := hA2.c0
  have c21 := hA2.c1
  have c22 := hA2.c2
  have f2 := hA2.f
  have hs1 := hA1.lt
  have hs2 := hA2.lt
  clear hA1 hA2
  go_wp2
  have hcc := And.intro c10 (And.intro c11 (And.intro c12 (And.intro c20 (And.intro c21 (And.intro c22 (And.intro hs1 hs2))))))
  refine bodyPost_ret (v := numS neg (dec x) s) (by simp [results, Tryd.results99, go_sem, numS, hcc]) rfl ⟨⟨neg, (dec x), s, rfl, ⟨by omega, by omega⟩⟩, ?_⟩
  have hD : Drawn w g p n cap a 10 w2 := ⟨⟨p2, by omega, (za HR2)⟩, (((Keeps.refl g w).alloc _).alloc _).trans (za HK2)⟩
  refine hD.more (za Hlt) ?_
  repeat (first | exact Below.refl _ _ | refine Below.setCell ?_ (by first | exact Nat.le_refl _ | exact Nat.le_succ _ | (simp; done) | (simp; omega)) _ | refine Below.alloc ?_ (by first | exact Nat.le_refl _ | (simp; done) | (simp; omega)) _)
 have z0 : ((i : Int) == 0) = false := by rw [beq_eq_false_iff_ne]; omega
 have z1 : ((i : Int) == 1) = false := by rw [beq_eq_false_iff_ne]; omega
 rcases Nat.lt_or_ge i 3 with h3 | h3
 ·have hi2 : i = 2 := by omega
  subst hi2
  cases neg with
  | false =>
   go_wp2
   have hcc := And.intro c10 (And.intro c11 (And.intro c12 (And.intro c20 (And.intro c21 (And.intro c22 (And.intro hs1 hs2))))))
   refine bodyPost_ret (v := numS true (dec x) (dec y)) (by simp [results, Tryd.results99, go_sem, numS, hcc]) rfl ⟨⟨true, (dec x), (dec y), rfl, ⟨by omega, by omega⟩⟩, ?_⟩
   have hD : Drawn w g p n cap a 10 w1 := ⟨⟨p1, by omega, (za HR1)⟩, (((Keeps.refl g w).alloc _).alloc _).trans (za HK1)⟩
   refine hD.more (za Hlt) ?_
   repeat (first | exact Below.refl _ _ | refine Below.setCell ?_ (by first | exact Nat.le_refl _ | exact Nat.le_succ _ | (simp; done) | (simp; omega)) _ | refine Below.alloc ?_ (by first | exact Nat.le_refl _ | (simp; done) | (simp; omega)) _)
  | true =>
   go_wp2
   have hcc := And.intro c10 (And.intro c11 (And.intro c12 (And.intro c20 (And.intro c21 (And.intro c22 (And.intro hs1 hs2))))))
   refine bodyPost_ret (v := numS false (dec x) (dec y)) (by simp [results, Tryd.results99, go_sem, numS, hcc]) rfl ⟨⟨false, (dec x), (dec y), rfl, ⟨by omega, by omega⟩⟩, ?_⟩
   have hD : Drawn w g p n cap a 10 w1 := ⟨⟨p1, by omega, (za HR1)⟩, (((Keeps.refl g w).alloc _).alloc _).trans (za HK1)⟩
   refine hD.more (za Hlt) ?_
   repeat (first | exact Below.refl _ _ | refine Below.setCell ?_ (by first | exact Nat.le_refl _ | exact Nat.le_succ _ | (simp; done) | (simp; omega)) _ | refine Below.alloc ?_ (by first | exact Nat.le_refl _ | (simp; done) | (simp; omega)) _)
 have z2 : ((i : Int) == 2) = false := by rw [beq_eq_false_iff_ne]; omega
 rcases Nat.lt_or_ge i 4 with h4 | h4
 ·have hi3 : i = 3 := by omega
  subst hi3
  go_wp2_with fail
  rw [show (Value.string ⟨#[50]⟩) = .string (dec 2) from rfl]
  have h := ym x 2 w1 (by omega) (by decide)
  refine h.mono ?_
  clear h
  rintro e w2 ⟨rfl, hb2⟩
  have HR2 := hide ((za HR1).keep hb2)
  have HK2 := hide ((za HK1).trans (Keeps.of_below hb2))
  clear hb2 c10 c11 c12 f1 c20 c21 c22 f2 hs1 hs2
  have hA1 := (za HA1).keeps (za HK2) (by omega)
  have hA2 := (za HA2).keeps (za HK2) (by omega)
  have c10 := hA1.c0
  have c11 := hA1.c1
  have c12 := hA1.c2
  have f1 := hA1.f
  have c20 := hA2.c0
  have c21 := hA2.c1
  have c22 := hA2.c2
  have f2 := hA2.f
  have hs1 := hA1.lt
  have hs2 := hA2.lt
  clear hA1 hA2
  have hB1 := ((za HA1).keeps (za HK2) (by omega)).set1 (.string (dec (x * 2)))
  have hB2 := ((za HA2).keeps (za HK2) (by omega)).set (p := ⟨w.heap.size, 1, none⟩) (by simp) (.string (dec (x * 2)))
  have HR3 := hide ((za HR2).below (w' := w2.setCell ⟨w.heap.size, 1, none⟩ (.string (dec (x * 2)))) ((Below.refl _ _).setCell (by show g + 1 ≤ w.heap.size; omega) _))
  have HK3 := hide ((((Keeps.refl g w).alloc (.cells #[.bool neg, .string (dec x), .string (dec y)] 26)).alloc (.cells #[.bool false, .string ⟨#[]⟩, .string ⟨#[]⟩] 26)).trans (za HK2))
  have HK4 := hide ((za HK3).setNew (p := ⟨w.heap.size, 1, none⟩) (Nat.le_refl _) (.string (dec (x * 2))))
  have HB1 := hide hB1
  have HB2 := hide hB2
  clear hB1 hB2
  go_wp2_with fail
  rw [show (Value.string ⟨#[50]⟩) = .string (dec 2) from rfl]
  have h := ym y 2 (w2.setCell ⟨w.heap.size, 1, none⟩ (.string (dec (x * 2)))) (by omega) (by decide)
  refine h.mono ?_
  clear h
  rintro e w3 ⟨rfl, hb3⟩
  have hR := (za HR3).keep hb3
  have hK := (za HK4).trans (Keeps.of_below hb3)
  have hA1 := (za HB1).below hb3
  have hA2 := (za HB2).below hb3
  clear hb3 c10 c11 c12 f1 c20 c21 c22 f2 hs1 hs2
  have c10 := hA1.c0
  have c11 := hA1.c1
  have c12 := hA1.c2
  have f1 := hA1.f
  have c20 := hA2.c0
  have c21 := hA2.c1
  have c22 := hA2.c2
  have f2 := hA2.f
  have hs1 := hA1.lt
  have hs2 := hA2.lt
  have HR := hide hR
  have HK := hide hK
  have hx2 : (dec (x * 2)).size ≤ 61 := jx hx
  have hy2 : (dec (y * 2)).size ≤ 61 := jx hy
  clear hA1 hA2 hR hK
  go_wp2
  have hcc := And.intro c10 (And.intro c11 (And.intro c12 (And.intro c20 (And.intro c21 (And.intro c22 (And.intro hs1 hs2))))))
  refine bodyPost_ret (v := numS neg (dec (x * 2)) (dec (y * 2))) (by simp [results, Tryd.results99, go_sem, numS, hcc]) rfl ⟨⟨neg, _, _, rfl, ⟨by omega, by omega⟩⟩, ?_⟩
  have hD : Drawn w g p n cap a 10 w3 := ⟨⟨_, by omega, za HR⟩, za HK⟩
  refine hD.more (za Hlt) ?_
  repeat (first | exact Below.refl _ _ | refine Below.setCell ?_ (by first | exact Nat.le_refl _ | exact Nat.le_succ _ | (simp; done) | (simp; omega)) _ | refine Below.alloc ?_ (by first | exact Nat.le_refl _ | (simp; done) | (simp; omega)) _)
 have z3 : ((i : Int) == 3) = false := by rw [beq_eq_false_iff_ne]; omega
 rcases Nat.lt_or_ge i 5 with h5 | h5
 ·have hi4 : i = 4 := by omega
  subst hi4
  go_wp2_with fail
  refine (zL g p1 n cap a 2 _ (za HR1) (by omega) (by omega)).mono ?_
  rintro e w2 ⟨⟨j, rfl, hj⟩, ⟨p2, hp2, hr2⟩, hk2⟩
  have hj2 : j < 2 := by rcases hj with h | h <;> omega
  have HR2 := hide hr2
  have HK2 := hide ((za HK1).trans hk2)
  clear hr2 hk2 hj c10 c11 c12 f1 c20 c21 c22 f2 hs1 hs2
  go_wp2_with fail
  refine (vr ⟨#[57]⟩ (60 + (j : Int)) 100 _ (by show 1 * _ ≤ _; omega) (by omega) (by omega)).mono ?_
  rintro e w3 ⟨⟨s, rfl, hs⟩, rfl⟩
  have hA1 := (za HA1).keeps (za HK2) (by omega)
  have hA2 := (za HA2).keeps (za HK2) (by omega)
  have c10 := hA1.c0
  have c11 := hA1.c1
  have c12 := hA1.c2
  have f1 := hA1.f
  have c20 := hA2.c0
  have c21 := hA2.c1
  have c22 := hA2.c2
  have f2 := hA2.f
  have hs1 := hA1.lt
  have hs2 := hA2.lt
  clear hA1 hA2
  go_wp2
  have hcc := And.intro c10 (And.intro c11 (And.intro c12 (And.intro c20 (And.intro c21 (And.intro c22 (And.intro hs1 hs2))))))
  refine bodyPost_ret (v := numS neg s (dec y)) (by simp [results, Tryd.results99, go_sem, numS, hcc]) rfl ⟨⟨neg, s, (dec y), rfl, ⟨by omega, by omega⟩⟩, ?_⟩
  have hD : Drawn w g p n cap a 10 w3 := ⟨⟨p2, by omega, (za HR2)⟩, (((Keeps.refl g w).alloc _).alloc _).trans (za HK2)⟩
  refine hD.more (za Hlt) ?_
  repeat (first | exact Below.refl _ _ | refine Below.setCell ?_ (by first | exact Nat.le_refl _ | exact Nat.le_succ _ | (simp; done) | (simp; omega)) _ | refine Below.alloc ?_ (by first | exact Nat.le_refl _ | (simp; done) | (simp; omega)) _)
 have z4 : ((i : Int) == 4) = false := by rw [beq_eq_false_iff_ne]; omega
 rcases Nat.lt_or_ge i 6 with h6 | h6
 ·have hi5 : i = 5 := by omega
  subst hi5
  go_wp2_with fail
  refine (zL g p1 n cap a 2 _ (za HR1) (by omega) (by omega)).mono ?_
  rintro e w2 ⟨⟨j, rfl, hj⟩, ⟨p2, hp2, hr2⟩, hk2⟩
  have hj2 : j < 2 := by rcases hj with h | h <;> omega
  have HR2 := hide hr2
  have HK2 := hide ((za HK1).trans hk2)
  clear hr2 hk2 hj c10 c11 c12 f1 c20 c21 c22 f2 hs1 hs2
  go_wp2_with fail
  refine (vr ⟨#[48]⟩ (59 + (j : Int)) 100 _ (by show 1 * _ ≤ _; omega) (by omega) (by omega)).mono ?_
  rintro e w3 ⟨⟨s, rfl, hs⟩, rfl⟩
  have hsz : (⟨#[49]⟩ ++ s : ByteArray).size ≤ 101 := by rw [ByteArray.size_append]; show 1 + _ ≤ _; omega
  have hns : ¬ 9223372036854775807 < 1 + s.size := by omega
  have hA1 := (za HA1).keeps (za HK2) (by omega)
  have hA2 := (za HA2).keeps (za HK2) (by omega)
  have c10 := hA1.c0
  have c11 := hA1.c1
  have c12 := hA1.c2
  have f1 := hA1.f
  have c20 := hA2.c0
  have c21 := hA2.c1
  have c22 := hA2.c2
  have f2 := hA2.f
  have hs1 := hA1.lt
  have hs2 := hA2.lt
  clear hA1 hA2
  go_wp2
  have hcc := And.intro c10 (And.intro c11 (And.intro c12 (And.intro c20 (And.intro c21 (And.intro c22 (And.intro hs1 hs2))))))
  refine bodyPost_ret (v := numS neg (dec x) (⟨#[49]⟩ ++ s)) (by simp [results, Tryd.results99, go_sem, numS, hcc]) rfl ⟨⟨neg, (dec x), (⟨#[49]⟩ ++ s), rfl, ⟨by omega, by omega⟩⟩, ?_⟩
  have hD : Drawn w g p n cap a 10 w3 := ⟨⟨p2, by omega, (za HR2)⟩, (((Keeps.refl g w).alloc _).alloc _).trans (za HK2)⟩
  refine hD.more (za Hlt) ?_
  repeat (first | exact Below.refl _ _ | refine Below.setCell ?_ (by first | exact Nat.le_refl _ | exact Nat.le_succ _ | (simp; done) | (simp; omega)) _ | refine Below.alloc ?_ (by first | exact Nat.le_refl _ | (simp; done) | (simp; omega)) _)
 have z5 : ((i : Int) == 5) = false := by rw [beq_eq_false_iff_ne]; omega
 go_wp2
 have hcc := And.intro c10 (And.intro c11 (And.intro c12 (And.intro c20 (And.intro c21 (And.intro c22 (And.intro hs1 hs2))))))
 refine bodyPost_ret (v := numS false ⟨#[]⟩ ⟨#[]⟩) (by simp [results, Tryd.results99, go_sem, numS, hcc]) rfl ⟨⟨false, _, _, rfl, ⟨by decide, by decide⟩⟩, ?_⟩
 have hD : Drawn w g p n cap a 10 w1 := ⟨⟨p1, by omega, za HR1⟩, (((Keeps.refl g w).alloc _).alloc _).trans (za HK1)⟩
 refine hD.more (za Hlt) ?_
 repeat (first | exact Below.refl _ _ | refine Below.setCell ?_ (by first | exact Nat.le_refl _ | exact Nat.le_succ _ | (simp; done) | (simp; omega)) _ | refine Below.alloc ?_ (by first | exact Nat.le_refl _ | (simp; done) | (simp; omega)) _)
end Go.Proofs.YtcnnicbaeicboaaDoor
