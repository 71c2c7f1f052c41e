/- A part of the proof, put together out of smaller texts. -/
import Derived.Test.YtcnnicbaeicboaaDoorM2
import Derived.Lib.OthersKept
import Derived.Deep.RegionWith
set_option linter.all false
set_option maxRecDepth 100000
set_option maxHeartbeats 16000000
namespace Go.Proofs.YtcnnicbaeicboaaDoor
open Go.RowKit Nt
theorem B_tl (l : List UInt8) : (B l).toList = l := by rw [ByteArray.toList_eq, QT]
theorem y8 : ∀ (l m : List Nat), l.length = m.length → (∀ d ∈ l, d < 10) → (∀ d ∈ m, d < 10) →
  Op.bytesLess (l.map sg) (m.map sg) = decide (ofd 10 l.reverse < ofd 10 m.reverse) := by
 intro l
 induction l with
 | nil => intro m h _ _; have : m = [] := List.eq_nil_of_length_eq_zero (by simpa using h.symm)
          subst this; simp [Op.bytesLess]
 | cons d r ih =>
  intro m h hl hm
  match m, h with
  | [], h => simp at h
  | c :: s, h =>
   have hrs : r.length = s.length := by simpa using h
   have hd := hl d (by simp)
   have hc := hm c (by simp)
   have hr := fun x hx => hl x (List.mem_cons_of_mem d hx)
   have hs := fun x hx => hm x (List.mem_cons_of_mem c hx)
   simp only [List.map_cons, Op.bytesLess, List.reverse_cons, ih s hrs hr hs]
   rw [zG, zG, List.length_reverse, List.length_reverse, ← hrs]
   have h1 := jt (b := 10) r.reverse (fun x hx => hr x (by simpa using hx))
   have h2 := jt (b := 10) s.reverse (fun x hx => hs x (by simpa using hx))
   rw [List.length_reverse] at h1 h2
   rw [← hrs] at h2
   generalize 10 ^ r.length = p at *
   have e1 : decide (sg d < sg c) = decide (d < c) := by
    simp only [UInt8.lt_iff_toNat_lt, zY (show d < 16 by omega), zY (show c < 16 by omega), if_pos hd, if_pos hc]; simp
   have e2 : (sg d == sg c) = decide (d = c) := by
    by_cases hdc : d = c
    ·subst hdc; simp
    ·have : sg d ≠ sg c := fun hh => hdc (Q2 (by omega) (by omega) hh)
     simp [this, hdc]
   rw [e1, e2]
   rcases Nat.lt_trichotomy d c with hlt | heq | hgt
   ·have : p * (d + 1) ≤ p * c := Nat.mul_le_mul_left p hlt
    rw [Nat.mul_add] at this
    simp only [hlt, decide_true, Bool.true_or]
    symm; rw [decide_eq_true_iff]; omega
   ·subst heq; simp
   ·have : p * (c + 1) ≤ p * d := Nat.mul_le_mul_left p hgt
    rw [Nat.mul_add] at this
    have hn : ¬ d < c := by omega
    have hne : d ≠ c := by omega
    simp only [hn, hne, decide_false, Bool.false_and, Bool.or_false]
    symm; rw [decide_eq_false_iff_not]; omega
def hi10 (n : Nat) : List Nat := if n = 0 then [0] else (dg 10 n).reverse
theorem vK (n : Nat) : txl 10 n = (hi10 n).map sg := by
 unfold txl hi10; split
 ·simp [sg]
 ·rw [List.map_reverse]
theorem yC (n : Nat) : ∀ d ∈ hi10 n, d < 10 := by
 intro d hd; unfold hi10 at hd; split at hd
 ·simp at hd; omega
 ·exact dg_lt (by omega) n d (by simpa using hd)
theorem Z9 (n : Nat) : ofd 10 (hi10 n).reverse = n := by
 unfold hi10; split
 ·subst n; simp [ofd]
 ·rw [List.reverse_reverse, jJ (by omega)]
theorem ZI {a b : Nat} (h : (dec a).size = (dec b).size) : Op.bytesLess (dec a).toList (dec b).toList = decide (a < b) := by
 unfold dec txt
 rw [B_tl, B_tl, vK, vK, y8 _ _ _ (yC a) (yC b), Z9, Z9]
 rw [zj, zj, vK, vK] at h
 simpa using h
theorem vb (a b : Nat) : ((dec a).toList == (dec b).toList) = decide (a = b) := by
 by_cases h : a = b
 ·subst h; simp
 ·have : (dec a).toList ≠ (dec b).toList := by
   intro hh
   unfold dec txt at hh
   rw [B_tl, B_tl] at hh
   exact h (xG (by omega) (by omega) hh)
  simp [this, h]
theorem j5 {a b : Nat} (h : (dec a).size < (dec b).size) : a < b := by
 rcases Nat.lt_or_ge a b with h1 | h1
 ·exact h1
 ·have := qb (b := 10) (by omega) (qv a) (Nat.lt_of_le_of_lt h1 (z8 a))
  rw [← zj] at this; omega
def cmpN (a b : Nat) : Int := if a < b then -1 else if b < a then 1 else 0
theorem vh (a b : Nat) (w : World) (_hsa : (dec a).size ≤ 1000000000) (_hsb : (dec b).size ≤ 1000000000) :
  Calls Tryd.prog 108 #[.string (dec a), .string (dec b)] w fun e w' => e = .returned (.int .i64 (cmpN a b)) ∧ w' = w := by
 by_cases he : (dec a).size = (dec b).size
 ·have h1 := ZI he
  have h2 := vb a b
  have h0 : ((dec a).size != (dec b).size) = false := by simp [he]
  have hI : (((dec a).size : Int) != ((dec b).size : Int)) = false := by simp [he]
  rcases Nat.lt_trichotomy a b with hlt | heq | hgt
  ·have hr : cmpN a b = -1 := by simp [cmpN, hlt]
   rw [decide_eq_true hlt] at h1
   rw [hr]
   clear he h2 h0 hr
   go_enter Tryd.func108, Tryd.ntmps108
   go_wp2
   go_ret
   exact ⟨rfl, rfl⟩
  ·subst heq
   have hr : cmpN a a = 0 := by simp [cmpN]
   rw [decide_eq_false (by omega)] at h1
   rw [hr]
   clear he h0 hr
   go_enter Tryd.func108, Tryd.ntmps108
   go_wp2
   go_ret
   exact ⟨rfl, rfl⟩
  ·have hr : cmpN a b = 1 := by unfold cmpN; rw [if_neg (by omega), if_pos hgt]
   rw [decide_eq_false (by omega)] at h1 h2
   rw [hr]
   clear he h0 hr
   go_enter Tryd.func108, Tryd.ntmps108
   go_wp2
   go_ret
   exact ⟨rfl, rfl⟩
 ·have hI : (((dec a).size : Int) != ((dec b).size : Int)) = true := by rw [bne_iff_ne]; omega
  by_cases hlt : (dec a).size < (dec b).size
  ·have hr : cmpN a b = -1 := by simp [cmpN, j5 hlt]
   rw [hr]
   clear he hr
   go_enter Tryd.func108, Tryd.ntmps108
   go_wp2
   go_ret
   exact ⟨rfl, rfl⟩
  ·have hgt := j5 (a := b) (b := a) (by omega)
   have hr : cmpN a b = 1 := by unfold cmpN; rw [if_neg (by omega), if_pos hgt]
   rw [hr]
   clear he hr hgt
   go_enter Tryd.func108, Tryd.ntmps108
   go_wp2
   go_ret
   exact ⟨rfl, rfl⟩
def isDec (l : List UInt8) : Bool := l != [] && l.all (fun c => 48 ≤ c && c ≤ 57) && (l.length ≤ 1 || l.head? != some 48)
theorem jZ (n : Nat) : isDec (txl 10 n) = true := by
 have hall : (txl 10 n).all (fun c => 48 ≤ c && c ≤ 57) = true := by
  rw [List.all_eq_true]
  intro c hc
  rw [vK] at hc
  obtain ⟨d, hd, rfl⟩ := List.mem_map.1 hc
  have := yC n d hd
  simp only [Bool.and_eq_true, decide_eq_true_eq, UInt8.le_iff_toNat_le, zY (show d < 16 by omega), if_pos this]
  simp; omega
 have hne : txl 10 n ≠ [] := fun h => by have := jy (b := 10) (by omega) n; rw [h] at this; simp at this
 have hlead : (txl 10 n).length ≤ 1 ∨ (txl 10 n).head? ≠ some 48 := by
  have ht := kp n
  cases hl : txl 10 n with
  | nil => left; simp
  | cons c r =>
   by_cases hr : r = []
   ·left; subst hr; simp
   ·right
    intro hc
    simp at hc
    subst hc
    rw [hl] at ht
    simp only [trim] at ht
    rw [if_pos ⟨trivial, hr⟩] at ht
    have := q4 r
    have := congrArg List.length ht
    simp at this; omega
 unfold isDec
 simp only [bne_iff_ne, Bool.and_eq_true, Bool.or_eq_true, decide_eq_true_eq]
 exact ⟨⟨by simpa using hne, hall⟩, hlead⟩
def zz (l : List UInt8) : Nat := ofd 10 ((l.map fun c => c.toNat - 48).reverse)
theorem qf {l : List UInt8} (h : isDec l = true) : l = txl 10 (zz l) := by
 unfold isDec at h
 simp only [bne_iff_ne, Bool.and_eq_true, Bool.or_eq_true, decide_eq_true_eq] at h
 obtain ⟨⟨hne, hall⟩, hlead⟩ := h
 rw [List.all_eq_true] at hall
 have hc : ∀ c ∈ l, 48 ≤ c.toNat ∧ c.toNat ≤ 57 := by
  intro c hc; have := hall c hc
  simp only [Bool.and_eq_true, decide_eq_true_eq, UInt8.le_iff_toNat_le] at this
  simpa using this
 have hm : (l.map fun c => c.toNat - 48).map sg = l := by
  rw [List.map_map]
  have : ∀ c ∈ l, (sg ∘ fun c : UInt8 => c.toNat - 48) c = id c := by
   intro c hcl
   have := hc c hcl
   apply UInt8.toNat_inj.1
   simp only [Function.comp, id]
   rw [zY (by omega), if_pos (by omega)]; omega
  rw [List.map_congr_left this, List.map_id]
 have hd : ∀ d ∈ (l.map fun c => c.toNat - 48).reverse, d < 10 := by
  intro d hd
  rw [List.mem_reverse] at hd
  obtain ⟨c, hcl, rfl⟩ := List.mem_map.1 hd
  have := hc c hcl
  show c.toNat - 48 < 10
  omega
 have ht := qW _ hd (by simpa using hne)
 rw [List.map_reverse, List.reverse_reverse, hm] at ht
 unfold zz
 rw [← ht]
 symm
 apply yx
 rcases hlead with h1 | h1
 ·exact .inl h1
 ·right
  cases l with
  | nil => exact absurd rfl hne
  | cons c r => exact ⟨c, r, rfl, fun h => h1 (by simp [h])⟩
def isDig (c : UInt8) : Bool := 48 ≤ c && c ≤ 57
theorem ya (c : UInt8) : isDig c = true ↔ 48 ≤ c.toNat ∧ c.toNat ≤ 57 := by
 simp [isDig, UInt8.le_iff_toNat_le]
theorem qS {l : List UInt8} (k : Nat) (h : k < l.length) (hb : ¬ (48 ≤ l[k].toNat ∧ l[k].toNat ≤ 57)) : isDec l = false := by
 cases hd : isDec l with
 | false => rfl
 | true =>
  unfold isDec at hd
  simp only [bne_iff_ne, Bool.and_eq_true, Bool.or_eq_true, decide_eq_true_eq] at hd
  have := List.all_eq_true.1 hd.1.2 l[k] (List.getElem_mem h)
  exact absurd ((ya _).1 this) hb
theorem jf {l : List UInt8} (h0 : 0 < l.length) (hl : l.length ≤ 1 ∨ l.head? ≠ some 48) (h : ∀ k (hk : k < l.length), 48 ≤ l[k].toNat ∧ l[k].toNat ≤ 57) : isDec l = true := by
 unfold isDec
 simp only [bne_iff_ne, Bool.and_eq_true, Bool.or_eq_true, decide_eq_true_eq]
 refine ⟨⟨fun hh => by rw [hh] at h0; simp at h0, ?_⟩, hl⟩
 rw [List.all_eq_true]
 intro c hc
 obtain ⟨k, hk, rfl⟩ := List.getElem_of_mem hc
 exact (ya _).2 (h k hk)
theorem qw (l : List UInt8) (w : World) (hs : l.length ≤ 1000000000) :
  Calls Tryd.prog 64 #[.string (B l)] w fun e w' => e = .returned (.bool (isDec l)) ∧ w' = w := by
 have hsz : (B l).size ≤ 1000000000 := by rw [zy]; exact hs
 have hI : ((B l).size : Int) = (l.length : Int) := by rw [zy]
 by_cases hz : l.length = 0
 ·have : l = [] := List.eq_nil_of_length_eq_zero hz
  subst this
  have h0 : (((B []).size : Int) == 0) = true := by simp [zy]
  clear hI hs hsz hz
  go_enter Tryd.func64, Tryd.ntmps64
  go_wp2
  go_ret
  exact ⟨rfl, rfl⟩
 ·have h0 : 0 < l.length := by omega
  have h0I : (((B l).size : Int) == 0) = false := by rw [beq_eq_false_iff_ne]; omega
  by_cases h1 : 1 < l.length
  ·have h1I : (1 : Int) < ((B l).size : Int) := by omega
   have hg0 : 0 < (B l).size := by omega
   have hg : ((B l)[0]'hg0).toNat = (l[0]'h0).toNat := by rw [B_get]
   by_cases hc : l[0]'h0 = 48
   ·have hq : ((((B l)[0]'hg0).toNat : Int) == 48) = true := by rw [hg, hc]; rfl
    have hf : isDec l = false := by
     cases hd : isDec l with
     | false => rfl
     | true =>
      unfold isDec at hd
      simp only [bne_iff_ne, Bool.and_eq_true, Bool.or_eq_true, decide_eq_true_eq] at hd
      rcases hd.2 with h2 | h2
      ·omega
      ·exact absurd (by rw [List.head?_eq_getElem?, List.getElem?_eq_getElem h0, hc]) h2
    rw [hf]
    clear hI hc hg hf hz
    go_enter Tryd.func64, Tryd.ntmps64
    go_wp2
    go_ret
    exact ⟨rfl, rfl⟩
   ·have hq : ((((B l)[0]'hg0).toNat : Int) == 48) = false := by
     rw [hg, beq_eq_false_iff_ne]
     intro hh
     apply hc
     apply UInt8.toNat_inj.1
     simp only [UInt8.toNat_ofNat]; omega
    have hl0 : Hid (l.length ≤ 1 ∨ l.head? ≠ some 48) := .inr (by
     rw [List.head?_eq_getElem?, List.getElem?_eq_getElem h0]
     intro hh; exact hc (by simpa using hh))
    clear hI hc hg hz
    go_enter Tryd.func64, Tryd.ntmps64
    go_wp2
    go_loop [3] (fun i => ∃ k : Nat, k ≤ l.length ∧ i = .int .i64 k ∧ Hid (∀ j (hj : j < l.length), j < k → 48 ≤ l[j].toNat ∧ l[j].toNat ≤ 57)) (fun i => l.length - (intOf i).toNat)
    case atStart => exact ⟨0, Nat.zero_le _, rfl, hide (fun j _ h => by omega)⟩
    case round =>
     clear hq
     obtain ⟨k, hk, rfl, hv⟩ := hrel
     by_cases hlt : k < l.length
     ·have hlt2 : k < (B l).size := by rw [zy]; exact hlt
      have hgk : ((B l)[k]'hlt2).toNat = (l[k]'hlt).toNat := by rw [B_get]
      by_cases h1 : ((l[k]'hlt).toNat : Int) < 48
      ·go_wp2
       go_ret
       exact ⟨zx (by rw [qS k hlt (by omega)]), rfl⟩
      ·by_cases h2 : 57 < ((l[k]'hlt).toNat : Int)
       ·go_wp2
        go_ret
        exact ⟨zx (by rw [qS k hlt (by omega)]), rfl⟩
       ·have h3 : 48 ≤ (l[k]'hlt).toNat ∧ (l[k]'hlt).toNat ≤ 57 := by omega
        have hv2 : Hid (∀ j (hj : j < l.length), j < k + 1 → 48 ≤ l[j].toNat ∧ l[j].toNat ≤ 57) := by
         intro j hj hjk
         by_cases hjk2 : j < k
         ·exact za hv j hj hjk2
         ·have : j = k := by omega
          subst this; exact h3
        go_wp2
        go_round
        case rel => exact ⟨k + 1, by omega, by go_num, hv2⟩
        case measure => simp [intOf]; omega
     ·have hlt2 : ¬ k < (B l).size := by rw [zy]; exact hlt
      have fin : isDec l = true := jf h0 (za hl0) (fun j hj => za hv j hj (by omega))
      have Fin := hide fin
      clear fin
      go_wp2
      go_ret
      exact ⟨zx (za Fin).symm, rfl⟩
  ·have h1I : ¬ (1 : Int) < ((B l).size : Int) := by omega
   have hl0 : Hid (l.length ≤ 1 ∨ l.head? ≠ some 48) := .inl (by omega)
   clear hI hz
   go_enter Tryd.func64, Tryd.ntmps64
   go_wp2
   go_loop [3] (fun i => ∃ k : Nat, k ≤ l.length ∧ i = .int .i64 k ∧ Hid (∀ j (hj : j < l.length), j < k → 48 ≤ l[j].toNat ∧ l[j].toNat ≤ 57)) (fun i => l.length - (intOf i).toNat)
   case atStart => exact ⟨0, Nat.zero_le _, rfl, hide (fun j _ h => by omega)⟩
   case round =>
    obtain ⟨k, hk, rfl, hv⟩ := hrel
    by_cases hlt : k < l.length
    ·have hlt2 : k < (B l).size := by rw [zy]; exact hlt
     have hgk : ((B l)[k]'hlt2).toNat = (l[k]'hlt).toNat := by rw [B_get]
     by_cases h1 : ((l[k]'hlt).toNat : Int) < 48
     ·go_wp2
      go_ret
      exact ⟨zx (by rw [qS k hlt (by omega)]), rfl⟩
     ·by_cases h2 : 57 < ((l[k]'hlt).toNat : Int)
      ·go_wp2
       go_ret
       exact ⟨zx (by rw [qS k hlt (by omega)]), rfl⟩
      ·have h3 : 48 ≤ (l[k]'hlt).toNat ∧ (l[k]'hlt).toNat ≤ 57 := by omega
       have hv2 : Hid (∀ j (hj : j < l.length), j < k + 1 → 48 ≤ l[j].toNat ∧ l[j].toNat ≤ 57) := by
        intro j hj hjk
        by_cases hjk2 : j < k
        ·exact za hv j hj hjk2
        ·have : j = k := by omega
         subst this; exact h3
       go_wp2
       go_round
       case rel => exact ⟨k + 1, by omega, by go_num, hv2⟩
       case measure => simp [intOf]; omega
    ·have hlt2 : ¬ k < (B l).size := by rw [zy]; exact hlt
     have fin : isDec l = true := jf h0 (za hl0) (fun j hj => za hv j hj (by omega))
     have Fin := hide fin
     clear fin
     go_wp2
     go_ret
     exact ⟨zx (za Fin).symm, rfl⟩
def plain (l : List UInt8) : Bool := isDec l && decide (l.length ≤ 60)
theorem kW {l : List UInt8} (h : 60 < l.length) : plain l = false := by
 unfold plain; rw [decide_eq_false (by omega)]; simp
theorem vF {l : List UInt8} (h : isDec l = false) : plain l = false := by unfold plain; rw [h]; simp
theorem kj (l : List UInt8) (pos : Nat) (h : pos < l.length) :
  (48 ≤ (l[pos]).toNat ∧ (l[pos]).toNat ≤ 57 ∧ Utf8.decode (B l) pos = ((l[pos]).toNat, 1)) ∨ (¬ (48 ≤ (l[pos]).toNat ∧ (l[pos]).toNat ≤ 57) ∧ ((Utf8.decode (B l) pos).1 < 48 ∨ 57 < (Utf8.decode (B l) pos).1)) := by
 have h2 : pos < (B l).size := by rw [zy]; exact h
 have hg : ((B l)[pos]'h2) = l[pos]'h := B_get l pos h2
 by_cases ha : (l[pos]).toNat < 128
 ·have := decode_ascii (B l) pos h2 (by rw [hg]; exact ha)
  rw [hg] at this
  by_cases hd : 48 ≤ (l[pos]).toNat ∧ (l[pos]).toNat ≤ 57
  ·exact .inl ⟨hd.1, hd.2, this⟩
  ·refine .inr ⟨hd, ?_⟩
   rw [this]
   show (l[pos]).toNat < 48 ∨ 57 < (l[pos]).toNat
   omega
 ·have := (decode_high (B l) pos h2 (by rw [hg]; omega)).1
  exact .inr ⟨by omega, .inr (by omega)⟩
theorem ji (l : List UInt8) (w : World) (hs : l.length ≤ 1000000000) :
  Calls Tryd.prog 48 #[.string (B l)] w fun e w' => e = .returned (.bool (plain l)) ∧ Below w.heap.size w w' := by
 have hI : ((B l).size : Int) = (l.length : Int) := by rw [zy]
 by_cases hz : l.length = 0
 ·have : l = [] := List.eq_nil_of_length_eq_zero hz
  subst this
  have hI0 : (((B []).size : Int) == 0) = true := by rw [hI]; rfl
  clear hI hz hs
  go_enter Tryd.func48, Tryd.ntmps48
  go_wp2
  go_ret
  exact ⟨rfl, Below.refl _ _⟩
 ·have h0 : 0 < l.length := by omega
  have h0I : (((B l).size : Int) == 0) = false := by rw [beq_eq_false_iff_ne]; omega
  by_cases h60 : 60 < l.length
  ·have h60I : (60 : Int) < ((B l).size : Int) := by omega
   rw [kW h60]
   clear hI hz h60
   go_enter Tryd.func48, Tryd.ntmps48
   go_wp2
   go_ret
   exact ⟨rfl, Below.refl _ _⟩
  ·have h60I : ¬ (60 : Int) < ((B l).size : Int) := by omega
   by_cases h1 : 1 < l.length
   ·have h1I : (1 : Int) < ((B l).size : Int) := by omega
    have hg0 : 0 < (B l).size := by omega
    have hg : ((B l)[0]'hg0).toNat = (l[0]'h0).toNat := by rw [B_get]
    by_cases hc : l[0]'h0 = 48
    ·have hq : ((((B l)[0]'hg0).toNat : Int) == 48) = true := by rw [hg, hc]; rfl
     have hf : plain l = false := by
      apply vF
      cases hd : isDec l with
      | false => rfl
      | true =>
       unfold isDec at hd
       simp only [bne_iff_ne, Bool.and_eq_true, Bool.or_eq_true, decide_eq_true_eq] at hd
       rcases hd.2 with h2 | h2
       ·omega
       ·exact absurd (by rw [List.head?_eq_getElem?, List.getElem?_eq_getElem h0, hc]) h2
     rw [hf]
     clear hI hc hg hf hz
     go_enter Tryd.func48, Tryd.ntmps48
     go_wp2
     go_ret
     exact ⟨rfl, Below.refl _ _⟩
    ·have hq : ((((B l)[0]'hg0).toNat : Int) == 48) = false := by
      rw [hg, beq_eq_false_iff_ne]
      intro hh
      apply hc
      apply UInt8.toNat_inj.1
      simp only [UInt8.toNat_ofNat]; omega
     have hl0 : Hid (l.length ≤ 1 ∨ l.head? ≠ some 48) := .inr (by
      rw [List.head?_eq_getElem?, List.getElem?_eq_getElem h0]
      intro hh; exact hc (by simpa using hh))
     clear hI hc hg hz
     go_enter Tryd.func48, Tryd.ntmps48
     go_wp2
     go_loopw [4] (fun _ wr => ∃ pos : Nat, pos ≤ l.length ∧ wr.heap[w.heap.size]? = some (.stringIter (B l) pos) ∧ Below w.heap.size w wr ∧ Hid (∀ j (hj : j < l.length), j < pos → 48 ≤ (l[j]).toNat ∧ (l[j]).toNat ≤ 57))
      (fun _ wr => l.length - wr.iterPos w.heap.size)
     case atStart => exact ⟨0, Nat.zero_le _, World.iter_heap _ _ _, (Below.refl _ _).alloc (Nat.le_refl _) _, hide (fun j _ h => by omega)⟩
     case round =>
      obtain ⟨pos, hpl, hit, hb, hv⟩ := hrel
      have hpos0 := iterPos_of hit
      by_cases hlt : pos < l.length
      ·have hlt2 : pos < (B l).size := by rw [zy]; exact hlt
       have hnx := fun ty => Lib.run_next_any_at (P := Tryd.prog) wr w.heap.size (B l) pos ty hit hlt2
       rcases kj l pos hlt with ⟨h1, h2, h3⟩ | ⟨h1, h2⟩
       ·rw [h3] at hnx
        have hit2 := Lib.iterAt_heap wr w.heap.size (B l) pos (pos + 1) hit
        have hb2 := Lib.below_iterAt hb (k := w.heap.size) (Nat.le_refl _) (B l) (pos + 1)
        have hpos2 := iterPos_of hit2
        have hv2 : Hid (∀ j (hj : j < l.length), j < pos + 1 → 48 ≤ (l[j]).toNat ∧ (l[j]).toNat ≤ 57) := by
         intro j hj hjk
         by_cases hjk2 : j < pos
         ·exact za hv j hj hjk2
         ·have : j = pos := by omega
          subst this; exact ⟨h1, h2⟩
        have h1I : (48 : Int) ≤ ((l[pos]'hlt).toNat : Int) := by omega
        have h2I : ((l[pos]'hlt).toNat : Int) ≤ 57 := by omega
        have Hit2 := hide hit2
        have Hp0 := hide hpos0
        have Hp2 := hide hpos2
        clear h3 hit hit2 hpos0 hpos2
        go_wp2
        go_roundw
        case rel => exact ⟨pos + 1, by omega, za Hit2, hb2, hv2⟩
        case measure => rw [za Hp0, za Hp2]; omega
       ·have hb2 := Lib.below_iterAt hb (k := w.heap.size) (Nat.le_refl _) (B l) (pos + (Utf8.decode (B l) pos).2)
        have hf := vF (qS pos hlt h1)
        have Hf := hide hf
        generalize Utf8.decode (B l) pos = rw_ at *
        clear hf h1 hit hpos0
        rcases h2 with h2 | h2
        ·have h2I : (rw_.1 : Int) < 48 := by omega
         clear h2
         go_wp2
         go_ret
         exact ⟨zx (za Hf).symm, hb2⟩
        ·have h2I : (57 : Int) < rw_.1 := by omega
         have h3I : ¬ (rw_.1 : Int) < 48 := by omega
         clear h2
         go_wp2
         go_ret
         exact ⟨zx (za Hf).symm, hb2⟩
      ·have hlt2 : ¬ pos < (B l).size := by rw [zy]; exact hlt
       have hnx := fun ty => Lib.run_next_end_at (P := Tryd.prog) wr w.heap.size (B l) pos ty hit hlt2
       have hf : plain l = true := by
        unfold plain
        rw [jf h0 (za hl0) (fun j hj => za hv j hj (by omega)), decide_eq_true (by omega)]; rfl
       have Hf := hide hf
       clear hf hit hpos0
       go_wp2
       go_ret
       exact ⟨zx (za Hf).symm, hb⟩
   ·have h1I : ¬ (1 : Int) < ((B l).size : Int) := by omega
    have hl0 : Hid (l.length ≤ 1 ∨ l.head? ≠ some 48) := .inl (by omega)
    clear hI hz
    go_enter Tryd.func48, Tryd.ntmps48
    go_wp2
    go_loopw [4] (fun _ wr => ∃ pos : Nat, pos ≤ l.length ∧ wr.heap[w.heap.size]? = some (.stringIter (B l) pos) ∧ Below w.heap.size w wr ∧ Hid (∀ j (hj : j < l.length), j < pos → 48 ≤ (l[j]).toNat ∧ (l[j]).toNat ≤ 57))
     (fun _ wr => l.length - wr.iterPos w.heap.size)
    case atStart => exact ⟨0, Nat.zero_le _, World.iter_heap _ _ _, (Below.refl _ _).alloc (Nat.le_refl _) _, hide (fun j _ h => by omega)⟩
    case round =>
     obtain ⟨pos, hpl, hit, hb, hv⟩ := hrel
     have hpos0 := iterPos_of hit
     by_cases hlt : pos < l.length
     ·have hlt2 : pos < (B l).size := by rw [zy]; exact hlt
      have hnx := fun ty => Lib.run_next_any_at (P := Tryd.prog) wr w.heap.size (B l) pos ty hit hlt2
      rcases kj l pos hlt with ⟨h1, h2, h3⟩ | ⟨h1, h2⟩
      ·rw [h3] at hnx
       have hit2 := Lib.iterAt_heap wr w.heap.size (B l) pos (pos + 1) hit
       have hb2 := Lib.below_iterAt hb (k := w.heap.size) (Nat.le_refl _) (B l) (pos + 1)
       have hpos2 := iterPos_of hit2
       have hv2 : Hid (∀ j (hj : j < l.length), j < pos + 1 → 48 ≤ (l[j]).toNat ∧ (l[j]).toNat ≤ 57) := by
        intro j hj hjk
        by_cases hjk2 : j < pos
        ·exact za hv j hj hjk2
        ·have : j = pos := by omega
         subst this; exact ⟨h1, h2⟩
       have h1I : (48 : Int) ≤ ((l[pos]'hlt).toNat : Int) := by omega
       have h2I : ((l[pos]'hlt).toNat : Int) ≤ 57 := by omega
       have Hit2 := hide hit2
       have Hp0 := hide hpos0
       have Hp2 := hide hpos2
       clear h3 hit hit2 hpos0 hpos2
       go_wp2
       go_roundw
       case rel => exact ⟨pos + 1, by omega, za Hit2, hb2, hv2⟩
       case measure => rw [za Hp0, za Hp2]; omega
      ·have hb2 := Lib.below_iterAt hb (k := w.heap.size) (Nat.le_refl _) (B l) (pos + (Utf8.decode (B l) pos).2)
       have hf := vF (qS pos hlt h1)
       have Hf := hide hf
       generalize Utf8.decode (B l) pos = rw_ at *
       clear hf h1 hit hpos0
       rcases h2 with h2 | h2
       ·have h2I : (rw_.1 : Int) < 48 := by omega
        clear h2
        go_wp2
        go_ret
        exact ⟨zx (za Hf).symm, hb2⟩
       ·have h2I : (57 : Int) < rw_.1 := by omega
        have h3I : ¬ (rw_.1 : Int) < 48 := by omega
        clear h2
        go_wp2
        go_ret
        exact ⟨zx (za Hf).symm, hb2⟩
     ·have hlt2 : ¬ pos < (B l).size := by rw [zy]; exact hlt
      have hnx := fun ty => Lib.run_next_end_at (P := Tryd.prog) wr w.heap.size (B l) pos ty hit hlt2
      have hf : plain l = true := by
       unfold plain
       rw [jf h0 (za hl0) (fun j hj => za hv j hj (by omega)), decide_eq_true (by omega)]; rfl
      have Hf := hide hf
      clear hf hit hpos0
      go_wp2
      go_ret
      exact ⟨zx (za Hf).symm, hb⟩
theorem jk {P : Program} {src dst e : TypeId} (hs : P.underlying src = some (.slice e)) (he : P.underlying e = some (.int .u8)) (hd : P.underlying dst = some .string) (W w1 : World) (d : Nat) (hd10 : d < 10)
  (hb : Below (W.heap.size + 1) (W.alloc (.cells #[.int .u8 (48 + (d : Int))] e)) w1) :
  (convert src dst (.slice (some ⟨W.heap.size, 0, none⟩) 1 1)).run P w1 = .ok (.string (B [sg d])) w1 := by
 have h0 := World.ownsRow_lit (base := 0) (e := e) (size := 1) W #[.int .u8 (48 + (d : Int))] 1 (Nat.zero_le _) (by decide) (by simp)
 have h1 := zl h0 (by simpa using hb)
 have e1 : (#[Value.int .u8 (48 + (d : Int))] : Array Value).toList = [sg d].map u8v := by simp [yR hd10]
 rw [e1] at h1
 exact qB hs he hd h1
theorem kq (b : Nat) (hb : 2 ≤ b) (n : Nat) (h : b ≤ n) : txl b n = txl b (n / b) ++ [sg (n % b)] := by
 have h0 : n ≠ 0 := by omega
 have hq : n / b ≠ 0 := by
  intro hh
  rcases Nat.div_eq_zero_iff.1 hh with h1 | h1 <;> omega
 rw [qo h0, qO hb (by omega), qo hq]; simp
theorem qR (b : Nat) (hb : 2 ≤ b) (n : Nat) (h : n < b) : txl b n = [sg n] := by
 by_cases h0 : n = 0
 ·subst h0; simp [zM, sg]
 ·rw [qo h0, qO hb (by omega), Nat.mod_eq_of_lt h, Nat.div_eq_of_lt h, qk]; simp
theorem j0 (n : Nat) (hn : n ≤ 9223372036854775807) (w : World) :
  Calls Tryd.prog 57 #[.int .i64 n] w fun e w' => e = .returned (.string (dec n)) ∧ Below w.heap.size w w' := by
 induction n using Nat.strongRecOn generalizing w with
 | _ n ih =>
  by_cases h : n < 10
  ·have hfin : B [sg n] = dec n := by rw [dec, txt, qR 10 (by omega) n h]
   have Fin := hide hfin
   have hconv := jk (dst := 9) Tryd.underlying22 Tryd.underlying5 Tryd.underlying9 w _ n h (Below.refl _ _)
   clear ih hfin
   go_enter Tryd.func57, Tryd.ntmps57
   go_wp2
   go_ret
   exact ⟨qn (za Fin), (Below.refl _ _).alloc (Nat.le_refl _) _⟩
  ·have hlt : n / 10 < n := Nat.div_lt_self (by omega) (by omega)
   have hq := ih (n / 10) hlt (by omega)
   have hfin : dec (n / 10) ++ B [sg (n % 10)] = dec n := by
    unfold dec txt; rw [jo, ← kq 10 (by omega) n (by omega)]
   have Fin := hide hfin
   have Hq := hide hq
   have hm : n % 10 < 10 := Nat.mod_lt _ (by omega)
   have hconv := fun (W : World) => jk (P := Tryd.prog) (src := 22) (dst := 9) Tryd.underlying22 Tryd.underlying5 Tryd.underlying9 W _ (n % 10) hm (Below.refl _ _)
   have hconv2 := fun (W w1 : World) => jk (P := Tryd.prog) (src := 22) (dst := 9) Tryd.underlying22 Tryd.underlying5 Tryd.underlying9 W w1 (n % 10) hm
   clear ih hfin hq
   obtain ⟨q, hqd⟩ : ∃ q : Nat, n / 10 = q := ⟨_, rfl⟩
   obtain ⟨r, hrd⟩ : ∃ r : Nat, n % 10 = r := ⟨_, rfl⟩
   rw [hrd] at hconv hconv2 hm Fin
   rw [hqd] at Fin Hq hlt
   have e1 : (n : Int) / 10 = (q : Int) := by omega
   have e2 : (n : Int).tmod 10 = (r : Int) := by rw [Int.tmod_eq_emod_of_nonneg (by omega)]; omega
   have e3 := wi64 (q : Int) (by omega) (by omega)
   have e4 := wi64 (48 + (r : Int)) (by omega) (by omega)
   have e5 := wu8 (48 + (r : Int)) (by omega) (by omega)
   have hqs : (dec q).size ≤ 19 := by
    rw [zj]; exact qb (by omega) (by omega) (by omega)
   have hrs : (B [sg r]).size ≤ 1 := by rw [zy]; simp
   have hns : ¬ 9223372036854775807 < (dec q).size + (B [sg r]).size := by omega
   have hns2 : ¬ (9223372036854775807 < ((dec q).size : Int) + ((B [sg r]).size : Int)) := by omega
   clear hqd hrd
   go_enter Tryd.func57, Tryd.ntmps57
   go_wp2
   have hcv0 := hconv2 w (w.alloc (.cells #[.int .u8 (48 + (r : Int))] 5)).drew ((Below.refl _ _).drew)
   go_region_with (go_at_call 57; refine (za Hq _).mono ?_; rintro e w1 ⟨rfl, hb1⟩; try have hcv := hconv2 w w1 (q5 (by simpa using hb1)))
   all_goals
    go_wp2
    go_ret
    refine ⟨qn (za Fin), ?_⟩
    first
     | exact (q5 hb1).alloc hb1.size _
     | exact ((Below.refl _ _).alloc (Nat.le_refl _) _).trans ((q5 hb1).mono (by simp))
theorem vx (l : List Nat) (j : Nat) (h : j < l.length) : (ints l)[j]? = some (.int .i64 (l[j] : Nat)) := by simp [ints, h]
theorem y3 (l : List Nat) (j d : Nat) : (ints l).set j (.int .i64 (d : Int)) = ints (l.set j d) := by simp [ints, List.map_set]
theorem xW (n : Nat) : List.replicate n (Value.int .i64 0) = ints (List.replicate n 0) := by simp [ints]
theorem v6 (l : List Nat) (j d : Nat) (v : Int) (h : v = (d : Int)) : (ints l).set j (.int .i64 v) = ints (l.set j d) := by rw [h, y3]
theorem Z7 {xs : List Nat} {L j X : Nat} (hl : xs.length = L) (hj : j + 1 = L) (h : ∀ t (ht : t < xs.length), t < j → xs[t] < 10) (hX : ofd 10 xs = X) (hlt : X < 10 ^ L) : ∀ d ∈ xs, d < 10 := by
 intro d hd
 obtain ⟨t, ht, rfl⟩ := List.getElem_of_mem hd
 by_cases htj : t < j
 ·exact h t ht htj
 ·have htj2 : t = j := by omega
  subst htj2
  have h1 := kO 10 xs t ht
  rw [hX] at h1
  rw [← hj, Nat.pow_succ] at hlt
  have h2 : 10 ^ t * xs[t] < 10 ^ t * 10 := by omega
  exact Nat.lt_of_mul_lt_mul_left h2
theorem kL {a b i la lb L : Nat} (hla : (dec a).size = la) (hlb : (dec b).size = lb) (hL : la + lb = L) : a % 10 ^ (i + 1) * b < 10 ^ L := by
 have h1 := z8 a
 have h2 := z8 b
 rw [hla] at h1
 rw [hlb] at h2
 rw [← hL, Nat.pow_add 10 la lb]
 exact Nat.mul_lt_mul'' (Nat.lt_of_le_of_lt (Nat.mod_le _ _) h1) h2
theorem Za {xs : List Nat} {j x y q r X : Nat} (hj : j + 1 < xs.length) (hx : xs[j]'(by omega) = x) (hy : xs[j + 1] = y) (hq : x / 10 = q) (hr : x % 10 = r) (hX : ofd 10 xs = X) :
  ofd 10 ((xs.set (j + 1) (y + q)).set j r) = X := by
 have h1 := qH 10 xs (j + 1) (y + q) hj
 have h2 := qH 10 (xs.set (j + 1) (y + q)) j r (by rw [List.length_set]; omega)
 rw [List.getElem_set_ne (by omega), hx] at h2
 rw [hy, hX, ← hq] at h1
 rw [← hr, ← hq] at h2
 have := kz h1 h2
 rw [← hq, ← hr]; exact this
abbrev rowOf (w : World) (L : Nat) : Value := .slice (some ⟨w.heap.size, 0, none⟩) L L
theorem qx (a b : Nat) (w : World) (hsa : (dec a).size ≤ 100000) (hsb : (dec b).size ≤ 100000) :
  Calls Tryd.prog 96 #[.string (dec a), .string (dec b)] w fun e w' => e = .returned (.string (dec (a * b))) ∧ Below w.heap.size w w' := by
 obtain ⟨i0, hi, hz0, hz1, hz2⟩ := info_parts Tryd.infoInt
 obtain ⟨la, hla⟩ : ∃ la, (dec a).size = la := ⟨_, rfl⟩
 obtain ⟨lb, hlb⟩ : ∃ lb, (dec b).size = lb := ⟨_, rfl⟩
 have Hla := hide hla
 have Hlb := hide hlb
 obtain ⟨L, hL⟩ : ∃ L, la + lb = L := ⟨_, rfl⟩
 have hLI : (la : Int) + lb = L := by omega
 have HL := hide hL
 have hlaI : ((dec a).size : Int) = la := by omega
 have hlbI : ((dec b).size : Int) = lb := by omega
 rw [hla] at hsa
 rw [hlb] at hsb
 have hLs : L ≤ 200000 := by omega
 have hlaL : la ≤ L := by omega
 clear hL
 go_enter Tryd.func96, Tryd.ntmps96
 go_wp2_with (refine wpList_make_full _ rfl (.tmp 13) (.tmp 13) 41 rfl w.heap.size 3 i0 (.int .i64 0) 1 Tryd.underlying41 hi hz0 hz1 .i64 .i64 L L L rfl rfl rfl rfl (by rw [hz2]; omega) (by unfold maxLen; omega) (Nat.le_refl _) ?_; intro w1 hown1 hg1)
 go_loopw [6, 7, 8] (fun i k j wr => ∃ (i' : Nat) (xs : List Nat), i' ≤ la ∧ i = .int .i64 i' ∧ xs.length = L ∧ wr.ownsRow w.heap.size 3 1 (rowOf w L) L (ints xs) ∧ Below w.heap.size w wr ∧
   Hid (∀ d ∈ xs, d < 10) ∧ Hid (ofd 10 xs = a % 10 ^ i' * b))
  (fun i _ _ _ => la - (intOf i).toNat)
 case atStart =>
  refine ⟨0, List.replicate L 0, Nat.zero_le _, rfl, by simp, ?_, (Below.refl _ _).grown hg1 (Nat.le_refl _) (fun _ h => by cases h), ?_, ?_⟩
  ·simpa [Value.cells, toList_madeCells_one, xW] using hown1
  ·intro d hd; simp at hd; omega
  ·show _ = _; rw [zL]; simp [Nat.mod_one]
 case round =>
  clear hown1 hg1
  obtain ⟨i', xs, hi', rfl, hxl, hown, hb, hdg, hval⟩ := hrel
  by_cases hlt : i' < la
  ·have hai : a / 10 ^ i' % 10 < 10 := Nat.mod_lt _ (by omega)
   generalize hga : a / 10 ^ i' % 10 = ai at *
   have Ha := hide hga
   clear hga
   go_wp2
   go_loopw [7] (fun k wr => ∃ (k' : Nat) (xs : List Nat), k' ≤ lb ∧ k = .int .i64 k' ∧ xs.length = L ∧ wr.ownsRow w.heap.size 3 1 (rowOf w L) L (ints xs) ∧ Below w.heap.size w wr ∧
     Hid (∀ d ∈ xs, d ≤ 90) ∧ Hid (∀ j (h : j < xs.length), i' + k' ≤ j → xs[j] < 10) ∧ Hid (ofd 10 xs = a % 10 ^ i' * b + 10 ^ i' * (ai * (b % 10 ^ k'))))
    (fun k _ => lb - (intOf k).toNat)
   case atStart =>
    exact ⟨0, xs, Nat.zero_le _, rfl, hxl, hown, hb, hide (fun d hd => by have := za hdg d hd; omega), hide (fun j h _ => za hdg _ (List.getElem_mem h)), hide (by rw [za hval]; simp [Nat.mod_one])⟩
   case round =>
    clear hown hb hdg hval hxl
    clear xs
    obtain ⟨k', xs, hk', rfl, hxl, hown, hb, hdg, hup, hval⟩ := hrel
    by_cases hlt2 : k' < lb
    ·have hbk : b / 10 ^ k' % 10 < 10 := Nat.mod_lt _ (by omega)
     generalize hgb : b / 10 ^ k' % 10 = bk at *
     have Hb := hide hgb
     clear hgb
     have hjL : i' + k' < L := by omega
     have hx10 : xs[i' + k']'(by omega) < 10 := za hup _ (by omega) (Nat.le_refl _)
     have hcell := hown.cellAt (i' + k') (by omega)
     rw [vx _ _ (by omega)] at hcell
     have hfr := hown.frozenAt (i' + k')
     generalize hx : xs[i' + k']'(by omega) = x at *
     have Hx := hide hx
     have hmul : ai * bk ≤ 9 * 9 := Nat.mul_le_mul (by omega) (by omega)
     generalize hpp : ai * bk = pp at *
     have hppI : (ai : Int) * bk = pp := by rw [← hpp]; simp
     have Hpp := hide hpp
     clear hx hpp
     have hst := hown.stored (i' + k') (.int .i64 ((x : Int) + pp))
     rw [v6 _ _ (x + pp) _ (by simp)] at hst
     have Hst := hide hst
     clear hst
     have e1 := wi64 ((i' : Int) + k') (by omega) (by omega)
     have e2 := wi64 (pp : Int) (by omega) (by omega)
     have e3 := wi64 ((x : Int) + pp) (by omega) (by omega)
     have e4 : ((i' : Int) + k').toNat = i' + k' := by omega
     have hix : (i' : Int) + k' < L := by omega
     go_wp2
     go_region_with (first | (go_at_call_of 102 (dec a); refine (q7 a i' ai _ (za Ha) (by omega) (by omega)).mono ?_; rintro e w1 ⟨rfl, rfl⟩) | (go_at_call_of 102 (dec b); refine (q7 b k' bk _ (za Hb) (by omega) (by omega)).mono ?_; rintro e w1 ⟨rfl, rfl⟩))
     all_goals
      go_wp2
      go_roundw
      case rel =>
       refine ⟨k' + 1, xs.set (i' + k') (x + pp), by omega, by go_num, by simpa using hxl, (za Hst).1, ?_, hide (zX (za hdg) (by omega)), ?_, ?_⟩
       ·first
        | exact (hb.setCell (by simp) _).drew
        | exact hb.setCell (by simp) _
       ·intro j hj hij
        rw [List.getElem_set_ne (by omega)]
        exact za hup j (by simpa using hj) (by omega)
       ·have hs := qH 10 xs (i' + k') (x + pp) (by omega)
        rw [za Hx, ← za Hpp] at hs
        have := Z8 (za Ha) (za Hb) (za hval) hs
        rw [za Hpp] at this
        exact this
      case measure => simp [intOf]; omega
    ·have hkl : k' = lb := by omega
     subst hkl
     have hlen := Nat.lt_of_le_of_lt (Nat.zero_le _) hlt
     go_wp2
     go_loopw [8] (fun j wr => ∃ (j' : Nat) (xs : List Nat), j' + 1 ≤ L ∧ j = .int .i64 j' ∧ xs.length = L ∧ wr.ownsRow w.heap.size 3 1 (rowOf w L) L (ints xs) ∧ Below w.heap.size w wr ∧
       Hid (∀ d ∈ xs, d ≤ 99) ∧ Hid (∀ t (h : t < xs.length), t < j' → xs[t] < 10) ∧ Hid (∀ t (h : t < xs.length), j' < t → xs[t] ≤ 90) ∧ Hid (ofd 10 xs = a % 10 ^ (i' + 1) * b))
      (fun j _ => L - (intOf j).toNat)
     case atStart =>
      refine ⟨0, xs, by omega, rfl, hxl, hown, hb, hide (fun d hd => by have := za hdg d hd; omega), hide (fun j h _ => by omega), hide (fun t ht _ => za hdg _ (List.getElem_mem ht)), ?_⟩
      show _ = _
      rw [za hval, ← QG (za Ha)]
      have hbl := z8 b
      rw [za Hlb] at hbl
      rw [Nat.mod_eq_of_lt hbl]
     case round =>
      clear hown hb hdg hval hxl hup
      clear xs
      obtain ⟨j', xs, hj', rfl, hxl, hown, hb, hdg, hlow, hhi, hval⟩ := hrel
      by_cases hlt3 : j' + 1 < L
      ·have hc0 := hown.cellAt j' (by omega)
       rw [vx _ _ (by omega)] at hc0
       have hc1 := hown.cellAt (j' + 1) (by omega)
       rw [vx _ _ (by omega)] at hc1
       have hf0 := hown.frozenAt j'
       have hf1 := hown.frozenAt (j' + 1)
       have hx99 : xs[j']'(by omega) ≤ 99 := za hdg _ (List.getElem_mem _)
       have hy90 : xs[j' + 1]'(by omega) ≤ 90 := za hhi _ (by omega) (by omega)
       generalize hx : xs[j']'(by omega) = x at *
       generalize hy : xs[j' + 1]'(by omega) = y at *
       have Hx := hide hx
       have Hy := hide hy
       clear hx hy
       obtain ⟨q, hq⟩ : ∃ q : Nat, (x : Int) / 10 = q := ⟨x / 10, by omega⟩
       obtain ⟨r, hr⟩ : ∃ r : Nat, (x : Int) % 10 = r := ⟨x % 10, by omega⟩
       have hqN : x / 10 = q := by omega
       have hrN : x % 10 = r := by omega
       have HqN := hide hqN
       have HrN := hide hrN
       clear hqN hrN
       have hq9 : q ≤ 9 := by omega
       have hr9 : r ≤ 9 := by omega
       have hq' : (x : Int).tdiv 10 = q := by rw [Int.tdiv_eq_ediv_of_nonneg (by omega)]; exact hq
       have hr' : (x : Int).tmod 10 = r := by rw [Int.tmod_eq_emod_of_nonneg (by omega)]; exact hr
       have hst := hown.stored (j' + 1) (.int .i64 ((y : Int) + q))
       rw [v6 _ _ (y + q) _ (by simp)] at hst
       have hst2 := hst.1.stored j' (.int .i64 (r : Int))
       rw [y3] at hst2
       have Hst := hide hst2
       have e1 := wi64 ((j' : Int) + 1) (by omega) (by omega)
       have e2 := wi64 ((y : Int) + q) (by omega) (by omega)
       have e3 := wi64 (q : Int) (by omega) (by omega)
       have e4 : ((j' : Int) + 1).toNat = j' + 1 := by omega
       have hix : (j' : Int) + 1 < L := by omega
       clear hst hst2
       go_wp2
       go_region
       all_goals
        go_wp2
        go_roundw
        case rel =>
         refine ⟨j' + 1, (xs.set (j' + 1) (y + q)).set j' r, by omega, by go_num, by simpa using hxl, (za Hst).1, ((hb.setCell (by simp) _).setCell (by simp) _).drew, hide (zX (zX (za hdg) (by omega)) (by omega)), ?_, ?_, hide (Za (by omega) (za Hx) (za Hy) (za HqN) (za HrN) (za hval))⟩
         ·intro t ht htj
          by_cases hh : t = j'
          ·subst hh; rw [List.getElem_set_self]; omega
          ·rw [List.getElem_set_ne (by omega), List.getElem_set_ne (by omega)]
           exact za hlow t (by simpa using ht) (by omega)
         ·intro t ht htj
          rw [List.getElem_set_ne (by omega), List.getElem_set_ne (by omega)]
          exact za hhi t (by simpa using ht) (by omega)
        case measure => simp [intOf]; omega
      ·go_wp2
       go_roundw
       case rel =>
        have hjl : j' + 1 = L := by omega
        exact ⟨i' + 1, xs, by omega, by go_num, hxl, hown, hb, hide (Z7 hxl hjl (za hlow) (za hval) (kL (za Hla) (za Hlb) (za HL))), hval⟩
       case measure => simp [intOf]; omega
  ·have hil : i' = la := by omega
   subst hil
   go_wp2_with fail
   refine (vz xs _ _ (za hdg) (by omega) (by rw [hxl]; exact zE hown (Nat.zero_le _))).mono ?_
   rintro e w1 ⟨rfl, hb1⟩
   go_wp2
   go_ret
   have hal := z8 a
   rw [za Hla] at hal
   have hv := za hval
   rw [Nat.mod_eq_of_lt hal] at hv
   exact ⟨qn (by rw [hv]), hb.trans (hb1.mono hb.size)⟩
theorem y5 (l : List UInt8) (n : Nat) (w : World) (hs : l.length ≤ 1000000000) (h : trim l = txl 10 n) :
  Calls Tryd.prog 89 #[.string (B l)] w fun e w' => e = .returned (.string (dec n)) ∧ w' = w := by
 have := jr l w hs
 rw [h] at this
 exact this
theorem Zt (R c : Nat) (hc : c < 10) : trim (txl 10 R ++ [sg c]) = txl 10 (10 * R + c) := by
 by_cases h : R = 0
 ·subst h
  rw [zM, Nat.mul_zero, Nat.zero_add, qR 10 (by omega) c hc]
  simp [trim]
 ·have := kq 10 (by omega) (10 * R + c) (by omega)
  rw [show (10 * R + c) / 10 = R from by omega, show (10 * R + c) % 10 = c from by omega] at this
  rw [← this, kp]
def pref (a i : Nat) : Nat := a / 10 ^ ((dec a).size - i)
theorem j3 (a : Nat) : pref a 0 = 0 := Nat.div_eq_of_lt (z8 a)
theorem vH (a : Nat) : pref a (dec a).size = a := by simp [pref]
theorem ym (a i : Nat) (h : i < (dec a).size) : pref a (i + 1) = 10 * pref a i + a / 10 ^ ((dec a).size - 1 - i) % 10 := by
 unfold pref
 rw [show (dec a).size - i = ((dec a).size - 1 - i) + 1 from by omega, show (dec a).size - (i + 1) = (dec a).size - 1 - i from by omega, Nat.pow_succ, ← Nat.div_div_eq_div_mul]
 omega
theorem Qt (a i : Nat) (h : i < (dec a).size) : (dec a).extract i (i + 1) = B [sg (a / 10 ^ ((dec a).size - 1 - i) % 10)] := by
 have h1 : i < (txl 10 a).length := by rw [← zj]; exact h
 have e := kA a ((txl 10 a).length - 1 - i) (by omega)
 rw [List.getElem_reverse] at e
 have e2 : (txl 10 a).length - 1 - ((txl 10 a).length - 1 - i) = i := by omega
 simp only [e2] at e
 rw [zj, ← e]
 unfold dec txt
 rw [vW, List.take_succ_eq_append_getElem h1, List.drop_append_of_le_length (by simp; omega)]
 simp
theorem ZP {A b q R c m : Nat} (hq : A / b = q) (hR : A % b = R) (hm : (10 * R + c) / b = m) (hb : 0 < b) : (10 * A + c) / b = m + 10 * q ∧ (10 * A + c) % b = (10 * R + c) % b := by
 have hA := Nat.div_add_mod A b
 rw [hq, hR] at hA
 have e : 10 * A + c = 10 * R + c + b * (10 * q) := by
  rw [← hA, Nat.mul_add, Nat.mul_left_comm]; omega
 rw [e, Nat.add_mul_div_left _ _ hb, Nat.add_mul_mod_self_left, hm]
 exact ⟨rfl, rfl⟩
theorem ZQ {ρ m b X : Nat} (h : ρ + m * b = X) (hlt : ρ < b) : X / b = m ∧ X % b = ρ := by
 have hb : 0 < b := by omega
 rw [← h, Nat.mul_comm m b, Nat.add_mul_div_left _ _ hb, Nat.add_mul_mod_self_left, Nat.div_eq_of_lt hlt, Nat.mod_eq_of_lt hlt]
 exact ⟨by omega, rfl⟩
theorem kM {m b X ρ : Nat} (h : ρ + m * b = X) (hX : X < 10 * b) (hge : b ≤ ρ) : m + 1 ≤ 9 := by
 have h1 : (m + 1) * b < 10 * b := by rw [Nat.add_mul]; omega
 have := Nat.lt_of_mul_lt_mul_right h1
 omega
theorem qJ {m n : Nat} (h : m ≤ n) : (dec m).size ≤ (dec n).size := by
 have := qb (b := 10) (by omega) (qv n) (Nat.lt_of_le_of_lt h (z8 n))
 rw [zj m]; exact this
theorem jM {ρ b : Nat} (h : ρ < 10 * b) : (dec ρ).size ≤ (dec b).size + 1 := by
 rw [zj ρ]
 apply qb (by omega) (by omega)
 have := z8 b
 rw [Nat.pow_succ]; omega
theorem ZE {a b : Nat} (h : b ≤ a) : 0 ≤ cmpN a b := by unfold cmpN; rw [if_neg (by omega)]; split <;> omega
theorem ZF {a b : Nat} (h : a < b) : cmpN a b < 0 := by unfold cmpN; rw [if_pos h]; omega
theorem yE (a b : Nat) (w : World) (hb0 : 0 < b) (hsa : (dec a).size ≤ 50000) (hsb : (dec b).size ≤ 50000) :
  Calls Tryd.prog 97 #[.string (dec a), .string (dec b)] w fun e w' => e = .returned (.tuple #[.string (dec (a / b)), .string (dec (a % b))]) ∧ Below w.heap.size w w' := by
 obtain ⟨i0, hi, hz0, hz1, hz2⟩ := info_parts Tryd.infoByte
 go_enter Tryd.func97, Tryd.ntmps97
 go_wp2
 go_loopw [6, 7, 8, 9] (fun q r i _ wr => ∃ (i' R : Nat) (Q : List Nat), i' ≤ (dec a).size ∧ i = .int .i64 i' ∧ r = .string (dec R) ∧ R < b ∧ Q.length = i' ∧ wr.ownsRow w.heap.size 5 1 q i' ((Q.map sg).map u8v) ∧ Below w.heap.size w wr ∧
   Hid (∀ d ∈ Q, d < 10) ∧ Hid (pref a i' / b = ofd 10 Q.reverse) ∧ Hid (pref a i' % b = R))
  (fun _ _ i _ _ => (dec a).size - (intOf i).toNat)
 case atStart =>
  refine ⟨0, 0, [], Nat.zero_le _, rfl, rfl, hb0, rfl, World.ownsRow_made w #[] 0 (Nat.le_refl _) (by decide) (by simp), (Below.refl _ _).alloc (Nat.le_refl _) _, hide (by simp), ?_, ?_⟩
  ·show _ = _; rw [j3]; simp [ofd]
  ·show _ = _; rw [j3]; simp
 case round =>
  obtain ⟨i', R, Q, hi', rfl, rfl, hR, hQl, hown, hb, hdg, hqv, hrv⟩ := hrel
  by_cases hlt : i' < (dec a).size
  ·have hc : a / 10 ^ ((dec a).size - 1 - i') % 10 < 10 := Nat.mod_lt _ (by omega)
   have hcut := Qt a i' hlt
   have hps := ym a i' hlt
   generalize a / 10 ^ ((dec a).size - 1 - i') % 10 = c at *
   have Hps := hide hps
   clear hps
   have hRs : (dec R).size ≤ (dec b).size := qJ (by omega)
   have hcs : (B [sg c]).size ≤ 1 := by rw [zy]; simp
   have hcat : dec R ++ B [sg c] = B (txl 10 R ++ [sg c]) := by unfold dec txt; rw [jo]
   have hlen : (txl 10 R ++ [sg c]).length ≤ 1000000000 := by rw [List.length_append, ← zj]; simp; omega
   have hns : ¬ 9223372036854775807 < (dec R).size + (B [sg c]).size := by omega
   have Htp := hide (Zt R c hc)
   go_wp2_with fail
   refine (y5 _ (10 * R + c) _ hlen (za Htp)).mono ?_
   rintro e w1 ⟨rfl, rfl⟩
   go_wp2_with fail
   have hX : 10 * R + c < 10 * b := by omega
   generalize hXd : 10 * R + c = X at *
   have HXd := hide hXd
   clear hXd hcut hcat hns Htp hlen
   go_loopw [7, 9] (fun r n wr => ∃ (ρ m : Nat), r = .string (dec ρ) ∧ n = .int .u8 (48 + (m : Int)) ∧ m ≤ 9 ∧ ρ < 10 * b ∧ wr.ownsRow w.heap.size 5 1 u6 i' ((Q.map sg).map u8v) ∧ Below w.heap.size w wr ∧ Hid (ρ + m * b = X))
    (fun _ n _ => 60 - (intOf n).toNat)
   case atStart => exact ⟨X, 0, rfl, rfl, by omega, hX, hown, hb, hide (by simp)⟩
   case round =>
    clear hown hb
    obtain ⟨ρ, m, rfl, rfl, hm9, hρ, hown, hb, hinv⟩ := hrel
    have hρs := jM hρ
    by_cases hge : b ≤ ρ
    ·have hcg := ZE hge
     have hm1 := kM (za hinv) hX hge
     go_wp2_with fail
     refine (vh ρ b _ (by omega) (by omega)).mono ?_
     rintro e w1 ⟨rfl, rfl⟩
     go_wp2_with fail
     refine (yG ρ b _ hge (by omega)).mono ?_
     rintro e w2 ⟨rfl, hb2⟩
     go_wp2_with fail
     go_roundw
     case rel =>
      exact ⟨ρ - b, m + 1, rfl, by go_num, by omega, by omega, zl hown hb2, hb.trans (hb2.mono hb.size), hide (by have := za hinv; rw [Nat.add_mul]; omega)⟩
     case measure => simp [intOf]; omega
    ·have hρb : ρ < b := by omega
     have hcl := ZF hρb
     go_wp2_with fail
     refine (vh ρ b _ (by omega) (by omega)).mono ?_
     rintro e w1 ⟨rfl, rfl⟩
     have hw := hb.size
     go_wp2_with (at_builtin; refine wpList_append_own _ rfl (.tmp 34) (.tmp 36) 22 rfl w.heap.size 5 i0 (.int .u8 0) 1 1 Tryd.underlying22 hi hz0 hz1 hz2 rfl (by decide) _ _ _ rfl (hown.alloc _) ⟨w1.heap.size, 0, none⟩ 1 1 [.int .u8 (48 + (m : Int))] rfl rfl (cell_one_new _ _ _) (by intro u hu; simp at hu; subst hu; rfl) (by unfold maxLen; omega) (by omega) (by simp; omega) ?_; intro v2 w2 hown2 hg2 _)
     have hbX := zV (hb.alloc hw _) (hown.alloc _) hg2 (by simp <;> omega)
     have hds := ZQ (za hinv) hρb
     have hpush := ZP (c := c) (m := m) (za hqv) (za hrv) (by rw [za HXd]; exact hds.1) hb0
     go_roundw
     case rel =>
      refine ⟨i' + 1, ρ, Q ++ [m], by omega, by go_num, rfl, hρb, by simp [hQl], ?_, hbX, q8 hdg (by omega), ?_, ?_⟩
      ·rw [List.map_append, List.map_append]
       simp only [List.map_cons, List.map_nil, yR (show m < 10 by omega)]
       exact hown2
      ·show _ = _
       rw [za Hps, hpush.1, List.reverse_append]; simp [ofd]
      ·show _ = _
       rw [za Hps, hpush.2, za HXd]; exact hds.2
     case measure => simp [intOf]; omega
  ·have hil : i' = (dec a).size := by omega
   subst hil
   have hQ0 : Q ≠ [] := fun h => by have := qv a; rw [h] at hQl; simp at hQl; omega
   have hconv := qB (dst := 9) Tryd.underlying22 Tryd.underlying5 Tryd.underlying9 hown
   have htr : trim (Q.map sg) = txl 10 (a / b) := by
    have h1 := qW Q.reverse (fun d hd => za hdg d (by simpa using hd)) (by simpa using hQ0)
    rw [List.map_reverse, List.reverse_reverse] at h1
    rw [h1, ← za hqv, vH]
   have Htr := hide htr
   have hrv2 := za hrv
   rw [vH] at hrv2
   have Hrv2 := hide hrv2
   clear hrv2 htr
   go_wp2_with fail
   refine (y5 _ (a / b) _ (by simp; omega) (za Htr)).mono ?_
   rintro e w1 ⟨rfl, rfl⟩
   go_wp2
   go_ret2
   exact ⟨by rw [za Hrv2]; rfl, hb⟩
theorem zn (n : Nat) : zz (txl 10 n) = n := by
 have := qf (jZ n)
 exact (xG (by omega) (by omega) this).symm
theorem yF (a b : Nat) (w : World) (hsa : (dec a).size ≤ 50000) (hsb : (dec b).size ≤ 50000) :
  Calls Tryd.prog 65 #[.string (dec a), .string (dec b)] w fun e w' => e = .returned (.string (dec (Nat.gcd a b))) ∧ Below w.heap.size w w' := by
 go_enter Tryd.func65, Tryd.ntmps65
 go_wp2
 go_loopw [0, 1] (fun x y wr => ∃ (a' b' : Nat), x = .string (dec a') ∧ y = .string (dec b') ∧ (dec a').size ≤ 50000 ∧ (dec b').size ≤ 50000 ∧ Below w.heap.size w wr ∧ Hid (Nat.gcd a' b' = Nat.gcd a b))
  (fun _ y _ => zz (match y with | .string s => s.data.toList | _ => []))
 case atStart => exact ⟨a, b, rfl, rfl, hsa, hsb, Below.refl _ _, hide rfl⟩
 case round =>
  obtain ⟨a', b', rfl, rfl, ha', hb', hb, hg⟩ := hrel
  by_cases hz : b' = 0
  ·subst hz
   have h0 : ((dec 0).toList == [48]) = true := by unfold dec txt; rw [B_tl, zM]; rfl
   go_wp2
   go_ret
   have := za hg
   rw [Nat.gcd_zero_right] at this
   exact ⟨qn (by rw [this]), hb⟩
  ·have h0 : ((dec b').toList == [48]) = false := by
    have := vb b' 0
    rw [decide_eq_false hz] at this
    rw [show (dec 0).toList = [48] from by unfold dec txt; rw [B_tl, zM]] at this
    exact this
   go_wp2_with fail
   refine (yE a' b' _ (by omega) ha' hb').mono ?_
   rintro e w1 ⟨rfl, hb1⟩
   go_wp2_with fail
   go_roundw
   case rel =>
    refine ⟨b', a' % b', rfl, rfl, hb', ?_, hb.trans (hb1.mono hb.size), hide ?_⟩
    ·have := qJ (Nat.le_of_lt (Nat.mod_lt a' (show 0 < b' by omega))); omega
    ·rw [Nat.gcd_comm b', ← Nat.gcd_rec b' a', Nat.gcd_comm, za hg]
   case measure =>
    show zz (txl 10 (a' % b')) < zz (txl 10 b')
    rw [zn, zn]
    exact Nat.mod_lt _ (by omega)
def findB (c : UInt8) : List UInt8 → Option Nat
 | [] => none
 | d :: r => if d = c then some 0 else (findB c r).map (· + 1)
def findI (c : UInt8) (l : List UInt8) : Int := match findB c l with | some k => (k : Int) | none => -1
theorem kE {c : UInt8} : ∀ {l : List UInt8} {k : Nat}, (h : k < l.length) → l[k] = c → (∀ j (hj : j < l.length), j < k → l[j] ≠ c) → findB c l = some k := by
 intro l
 induction l with
 | nil => intro k h; simp at h
 | cons d r ih =>
  intro k h hk hlt
  cases k with
  | zero => simp only [List.getElem_cons_zero] at hk; simp [findB, hk]
  | succ k =>
   have hd : d ≠ c := hlt 0 (by simp) (by omega)
   have := ih (k := k) (by simpa using h) (by simpa using hk) (fun j hj hjk => by have := hlt (j + 1) (by simpa using hj) (by omega); simpa using this)
   simp [findB, hd, this]
theorem kD {c : UInt8} : ∀ {l : List UInt8}, (∀ j (hj : j < l.length), l[j] ≠ c) → findB c l = none := by
 intro l
 induction l with
 | nil => intro _; rfl
 | cons d r ih =>
  intro h
  have hd : d ≠ c := h 0 (by simp)
  have := ih (fun j hj => by have := h (j + 1) (by simpa using hj); simpa using this)
  simp [findB, hd, this]
theorem Q5 (l : List UInt8) (c : UInt8) (w : World) (hs : l.length ≤ 1000000000) :
  Calls Tryd.prog 43 #[.string (B l), .int .u8 c.toNat] w fun e w' => e = .returned (.int .i64 (findI c l)) ∧ w' = w := by
 have hsz : (B l).size ≤ 1000000000 := by rw [zy]; exact hs
 go_enter Tryd.func43, Tryd.ntmps43
 go_wp2
 go_loop [5] (fun i => ∃ k : Nat, k ≤ l.length ∧ i = .int .i64 k ∧ Hid (∀ j (hj : j < l.length), j < k → l[j] ≠ c)) (fun i => l.length - (intOf i).toNat)
 case atStart => exact ⟨0, Nat.zero_le _, rfl, hide (fun j _ h => by omega)⟩
 case round =>
  obtain ⟨k, hk, rfl, hv⟩ := hrel
  by_cases hlt : k < l.length
  ·have hlt2 : k < (B l).size := by rw [zy]; exact hlt
   have hgk : ((B l)[k]'hlt2).toNat = (l[k]'hlt).toNat := by rw [B_get]
   by_cases heq : l[k]'hlt = c
   ·have hf : findI c l = (k : Int) := by unfold findI; rw [kE hlt heq (za hv)]
    have Hf := hide hf
    have ht : (((l[k]'hlt).toNat : Int) == (c.toNat : Int)) = true := by rw [heq]; simp
    clear hf heq
    go_wp2
    go_ret
    exact ⟨jT (za Hf).symm, rfl⟩
   ·have ht : (((l[k]'hlt).toNat : Int) == (c.toNat : Int)) = false := by
     rw [beq_eq_false_iff_ne]; intro hh; exact heq (UInt8.toNat_inj.1 (by omega))
    have hv2 : Hid (∀ j (hj : j < l.length), j < k + 1 → l[j] ≠ c) := by
     intro j hj hjk
     by_cases hjk2 : j < k
     ·exact za hv j hj hjk2
     ·have : j = k := by omega
      subst this; exact heq
    clear heq
    go_wp2
    go_round
    case rel => exact ⟨k + 1, by omega, by go_num, hv2⟩
    case measure => simp [intOf]; omega
  ·have hlt2 : ¬ k < (B l).size := by rw [zy]; exact hlt
   have hf : findI c l = -1 := by unfold findI; rw [kD (fun j hj => za hv j hj (by omega))]
   have Hf := hide hf
   clear hf
   go_wp2
   go_ret
   exact ⟨jT (za Hf).symm, rfl⟩
def numV (neg : Bool) (u d : ByteArray) : Value := .agg #[.bool neg, .string u, .string d]
def noNum : Value := numV false ⟨#[]⟩ ⟨#[]⟩
def zm (neg : Bool) (u d : Nat) : Option (Bool × Nat × Nat) :=
 if d = 0 ∨ 60 < (dec (u / Nat.gcd u d)).size ∨ 60 < (dec (d / Nat.gcd u d)).size then none else some (neg && u / Nat.gcd u d != 0, u / Nat.gcd u d, d / Nat.gcd u d)
def numO : Option (Bool × Nat × Nat) → Value
 | none => noNum
 | some (n, u, d) => numV n (dec u) (dec d)
def zk (o : Option (Bool × Nat × Nat)) : Value := .tuple #[numO o, .bool o.isSome]
theorem ZK : dec 0 = ⟨#[48]⟩ := by unfold dec txt; rw [zM]; rfl
theorem jA (n : Nat) : ((dec n).toList == [48]) = decide (n = 0) := by
 have := vb n 0
 rwa [show (dec 0).toList = [48] from by unfold dec txt; rw [B_tl, zM]] at this
theorem vA (neg : Bool) (u d : Nat) (w : World) (hsu : (dec u).size ≤ 50000) (hsd : (dec d).size ≤ 50000) :
  Calls Tryd.prog 47 #[.bool neg, .string (dec u), .string (dec d)] w fun e w' => e = .returned (zk (zm neg u d)) ∧ Below w.heap.size w w' := by
 have hd0 := jA d
 by_cases hz : d = 0
 ·rw [decide_eq_true hz] at hd0
  have hl : zm neg u d = none := by simp [zm, hz]
  rw [hl]
  clear hl hz
  go_enter Tryd.func47, Tryd.ntmps47
  go_wp2
  refine bodyPost_ret (v := zk none) (by simp [results, Tryd.results47, go_sem, zk, numO, noNum, numV]) rfl ⟨rfl, (Below.refl _ _).alloc (Nat.le_refl _) _⟩
 ·rw [decide_eq_false hz] at hd0
  have hg : 0 < Nat.gcd u d := Nat.gcd_pos_of_pos_right _ (by omega)
  have hg1 : (dec (Nat.gcd u d)).size ≤ 50000 := by have := qJ (Nat.gcd_le_right u (show 0 < d by omega)); omega
  go_enter Tryd.func47, Tryd.ntmps47
  go_wp2_with fail
  refine (yF u d _ hsu hsd).mono ?_
  rintro e w1 ⟨rfl, hb1⟩
  go_wp2_with fail
  refine (yE u _ _ hg hsu hg1).mono ?_
  rintro e w2 ⟨rfl, hb2⟩
  go_wp2_with fail
  refine (yE d _ _ hg hsd hg1).mono ?_
  rintro e w3 ⟨rfl, hb3⟩
  have hb0 := zu hb1
  have h2 := zf hb0 (by have := hb1.size; simpa using this) hb2
  have h3 := zf h2.1 h2.2 hb3
  have c0 := zi h3.1 0
  have c1 := zi h3.1 1
  have c2 := zi h3.1 2
  have f0 := zF h3.1 0
  have f1 := zF h3.1 1
  have f2 := zF h3.1 2
  have hbX := zA h3.1
  simp at c0 c1 c2
  have hqz := jA (u / Nat.gcd u d)
  generalize hqu : u / Nat.gcd u d = qu at *
  generalize hqd : d / Nat.gcd u d = qd at *
  have Hlow : Hid (zm neg u d = if 60 < (dec qu).size ∨ 60 < (dec qd).size then none else some (neg && qu != 0, qu, qd)) := by
   show _ = _
   unfold zm; rw [hqu, hqd]
   by_cases h : 60 < (dec qu).size ∨ 60 < (dec qd).size
   ·rw [if_pos (by rcases h with h | h <;> simp [h]), if_pos h]
   ·rw [if_neg (by rintro (h1 | h1); exact hz h1; exact h h1), if_neg h]
  clear hb1 hb2 hb3 h2 h3 hb0 hqu hqd
  by_cases h1 : 60 < (dec qu).size
  ·rw [if_pos (.inl h1)] at Hlow
   go_wp2
   refine bodyPost_ret (v := zk none) (by simp [results, Tryd.results47, go_sem, zk, numO, noNum, numV, c0, c1, c2]) rfl ⟨by rw [za Hlow], ?_⟩
   exact ((hbX.setCell (by simp) _).setCell (by simp) _).setCell (by simp) _
  ·by_cases h2 : 60 < (dec qd).size
   ·rw [if_pos (.inr h2)] at Hlow
    go_wp2
    refine bodyPost_ret (v := zk none) (by simp [results, Tryd.results47, go_sem, zk, numO, noNum, numV, c0, c1, c2]) rfl ⟨by rw [za Hlow], ?_⟩
    exact ((hbX.setCell (by simp) _).setCell (by simp) _).setCell (by simp) _
   ·rw [if_neg (by rintro (h | h); exact h1 h; exact h2 h)] at Hlow
    by_cases hq0 : qu = 0
    ·rw [decide_eq_true hq0] at hqz
     have Hq0 := hide hq0
     clear hq0
     cases neg
     case false =>
      go_wp2
      refine bodyPost_ret (v := zk (some (false, qu, qd))) (by simp [results, Tryd.results47, go_sem, zk, numO, numV, c0, c1, c2]) rfl ⟨by rw [za Hlow]; rfl, ?_⟩
      exact ((hbX.setCell (by simp) _).setCell (by simp) _).setCell (by simp) _
     case true =>
      go_wp2
      refine bodyPost_ret (v := zk (some (false, qu, qd))) (by simp [results, Tryd.results47, go_sem, zk, numO, numV, c0, c1, c2]) rfl ⟨by rw [za Hlow, za Hq0]; rfl, ?_⟩
      exact ((hbX.setCell (by simp) _).setCell (by simp) _).setCell (by simp) _
    ·rw [decide_eq_false hq0] at hqz
     have Hq0 := hide hq0
     clear hq0
     cases neg
     case false =>
      go_wp2
      refine bodyPost_ret (v := zk (some (false, qu, qd))) (by simp [results, Tryd.results47, go_sem, zk, numO, numV, c0, c1, c2]) rfl ⟨by rw [za Hlow]; rfl, ?_⟩
      exact ((hbX.setCell (by simp) _).setCell (by simp) _).setCell (by simp) _
     case true =>
      go_wp2
      refine bodyPost_ret (v := zk (some (true, qu, qd))) (by simp [results, Tryd.results47, go_sem, zk, numO, numV, c0, c1, c2]) rfl ⟨by rw [za Hlow, bne_iff_ne.2 (za Hq0)]; rfl, ?_⟩
      exact ((hbX.setCell (by simp) _).setCell (by simp) _).setCell (by simp) _
theorem ZH (n k : Nat) (h : k < (dec n).size) : ((dec n)[k]'h).toNat = 48 + n / 10 ^ ((dec n).size - 1 - k) % 10 := by
 have h1 : k < (txl 10 n).length := by rw [← zj]; exact h
 have e := kA n ((txl 10 n).length - 1 - k) (by omega)
 rw [List.getElem_reverse] at e
 have e2 : (txl 10 n).length - 1 - ((txl 10 n).length - 1 - k) = k := by omega
 simp only [e2] at e
 have hm : n / 10 ^ ((txl 10 n).length - 1 - k) % 10 < 10 := Nat.mod_lt _ (by omega)
 rw [zj]
 have e3 : ((dec n)[k]'h) = (txl 10 n)[k]'h1 := by simp only [dec, txt, B_get]
 rw [e3, e, zY (by omega), if_pos hm]
def Tens (w : World) : Prop := ∀ j, j < 9 → w.cell? ⟨0, j, none⟩ = some (.int .u64 ((10 ^ j : Nat) : Int))
theorem Tens.below {w w' : World} (h : Tens w) (hb : Below w.heap.size w w') : Tens w' := by
 intro j hj
 have h1 := h j hj
 rw [hb.cell (p := ⟨0, j, none⟩) (World.block_lt_of_cell? w _ h1)]
 exact h1
theorem Tens.lt {w : World} (h : Tens w) : 0 < w.heap.size := World.block_lt_of_cell? w _ (h 0 (by omega))
theorem Tens.belowB {w w' : World} {b : Nat} (h : Tens w) (hb : Below b w w') (hlt : 0 < b) : Tens w' := by
 intro j hj
 rw [hb.cell (p := ⟨0, j, none⟩) hlt]
 exact h j hj
theorem kV {w : World} {base : Nat} {e : TypeId} {size : Nat} {v : Value} {n : Nat} {xs : List Value} (h : w.ownsRow base e size v n xs) {k : Nat} (hk : v.ownBlock ≠ some k) (s : ByteArray) (p : Nat) : (w.iterAt k s p).ownsRow base e size v n xs := by
 obtain ⟨h1, h2⟩ := h
 refine ⟨h1, ?_⟩
 rcases h2 with h2 | ⟨g, cap, cur, rfl, hb, hg, rest⟩
 ·exact .inl h2
 ·refine .inr ⟨g, cap, cur, rfl, hb, ?_, rest⟩
  rw [Lib.iterAt_other _ _ _ _ _ (by intro hh; apply hk; simp [Value.ownBlock, hh])]
  exact hg
def yI (xs : List Nat) (k : Nat) : Prop := ∀ g (h : g < xs.length), xs[g] < 1000000000 ∧ 10 ^ (min 9 (k - 9 * g)) ∣ xs[g]
theorem xY {a c r : Nat} (ha : a < 10 ^ 9) (hr : r < 9) (hd : 10 ^ (r + 1) ∣ a) (hc : c ≤ 9) : a + c * 10 ^ r < 10 ^ 9 := by
 obtain ⟨t, rfl⟩ := hd
 have e : (10 : Nat) ^ 9 = 10 ^ (r + 1) * 10 ^ (8 - r) := by rw [← Nat.pow_add]; congr 1; omega
 rw [e] at ha ⊢
 have h1 : t < 10 ^ (8 - r) := Nat.lt_of_mul_lt_mul_left ha
 have h2 : 10 ^ (r + 1) * (t + 1) ≤ 10 ^ (r + 1) * 10 ^ (8 - r) := Nat.mul_le_mul_left _ h1
 rw [Nat.mul_add, Nat.mul_one] at h2
 have h3 : c * 10 ^ r < 10 ^ (r + 1) := by
  rw [Nat.pow_succ, Nat.mul_comm]
  exact Nat.mul_lt_mul_of_pos_left (by omega) (Nat.pow_pos (by omega))
 omega
theorem xZ {xs : List Nat} {p c : Nat} (h : yI xs (p + 1)) (hg : p / 9 < xs.length) (hc : c ≤ 9) :
  xs[p / 9] + c * 10 ^ (p % 9) < 1000000000 ∧ yI (xs.set (p / 9) (xs[p / 9] + c * 10 ^ (p % 9))) p := by
 have hr : p % 9 < 9 := Nat.mod_lt _ (by omega)
 have h0 := h (p / 9) hg
 have hmin : min 9 (p + 1 - 9 * (p / 9)) = p % 9 + 1 := by omega
 rw [hmin] at h0
 have hroom := xY (a := xs[p / 9]) h0.1 hr h0.2 hc
 refine ⟨hroom, ?_⟩
 intro g hgl
 by_cases hgg : g = p / 9
 ·subst hgg
  rw [List.getElem_set_self]
  refine ⟨hroom, ?_⟩
  rw [show min 9 (p - 9 * (p / 9)) = p % 9 from by omega]
  exact Nat.dvd_add (Nat.dvd_trans (Nat.pow_dvd_pow 10 (by omega)) h0.2) (Nat.dvd_mul_left _ _)
 ·rw [List.getElem_set_ne (by omega)]
  have h1 := h g (by simpa using hgl)
  exact ⟨h1.1, Nat.dvd_trans (Nat.pow_dvd_pow 10 (by omega)) h1.2⟩
theorem yi (p : Nat) : 1000000000 ^ (p / 9) * 10 ^ (p % 9) = 10 ^ p := by
 have e : (1000000000 : Nat) = 10 ^ 9 := by decide
 rw [e, ← Nat.pow_mul, ← Nat.pow_add]
 congr 1; omega
theorem ZZ {xs : List Nat} {p c V : Nat} (hg : p / 9 < xs.length) (hV : ofd 1000000000 xs = V) : ofd 1000000000 (xs.set (p / 9) (xs[p / 9] + c * 10 ^ (p % 9))) = V + c * 10 ^ p := by
 have h := qH 1000000000 xs (p / 9) (xs[p / 9] + c * 10 ^ (p % 9)) hg
 rw [hV, Nat.mul_add, Nat.mul_left_comm, yi] at h
 omega
theorem jH (x : Nat) (w : World) (hs : (dec x).size ≤ 100000) (hT : Tens w) :
  Calls Tryd.prog 49 #[.string (dec x)] w fun e w' => (∃ v', e = .returned v' ∧ isNatB w' w.heap.size v' x) ∧ Below w.heap.size w w' := by
 obtain ⟨i0, hi, hz0, hz1, hz2⟩ := info_parts Tryd.infoU64
 obtain ⟨n, hn⟩ : ∃ n, (dec x).size = n := ⟨_, rfl⟩
 obtain ⟨G, hG⟩ : ∃ G : Nat, (n : Int) / 9 + 1 = G := ⟨n / 9 + 1, by omega⟩
 have hnI : ((dec x).size : Int) = n := by omega
 have hn0 : 0 < n := by have := qv x; omega
 rw [hn] at hs
 have Hn := hide hn
 have HT := hide hT
 clear hn hT
 go_enter Tryd.func49, Tryd.ntmps49
 go_wp2_with (refine wpList_make_full _ rfl (.tmp 10) (.tmp 10) 65 rfl w.heap.size 80 i0 (.int .u64 0) 1 Tryd.underlying65 hi hz0 hz1 .i64 .i64 G G G rfl rfl rfl rfl (by rw [hz2]; omega) (by unfold maxLen; omega) (Nat.le_refl _) ?_; intro w1 hown1 hg1)
 have hown0 : w1.ownsRow w.heap.size 80 1 (.slice (some ⟨w.heap.size, 0, none⟩) G G) G (u64s (List.replicate G 0)) := by
  simpa [Value.cells, toList_madeCells_one, qh] using hown1
 have hb1 : Below w.heap.size w w1 := (Below.refl _ _).grown hg1 (Nat.le_refl _) (fun _ h => by cases h)
 have hlt1 : w.heap.size < w1.heap.size := (hown0.lt _ rfl).2
 clear hown1 hg1
 go_loopw [4] (fun _ wr => ∃ (pos : Nat) (xs : List Nat), pos ≤ n ∧ wr.heap[w1.heap.size]? = some (.stringIter (dec x) pos) ∧ xs.length = G ∧ wr.ownsRow w.heap.size 80 1 (.slice (some ⟨w.heap.size, 0, none⟩) G G) G (u64s xs) ∧ Below w.heap.size w wr ∧
   Hid (yI xs (n - pos)) ∧ Hid (ofd 1000000000 xs = pref x pos * 10 ^ (n - pos)))
  (fun _ wr => n - wr.iterPos w1.heap.size)
 case atStart =>
  refine ⟨0, List.replicate G 0, Nat.zero_le _, World.iter_heap _ _ _, by simp, hown0.alloc _, hb1.alloc hb1.size _, ?_, ?_⟩
  ·intro g hg
   simp
  ·show _ = _
   rw [zL, j3]; simp
 case round =>
  clear hown0 hb1
  obtain ⟨pos, xs, hpl, hit, hxl, hown, hb, hlaid, hval⟩ := hrel
  have hpos0 := iterPos_of hit
  by_cases hlt : pos < n
  ·have hlt2 : pos < (dec x).size := by rw [za Hn]; exact hlt
   obtain ⟨p, hp⟩ : ∃ p : Nat, (n : Int) - 1 - pos = p := ⟨n - 1 - pos, by omega⟩
   have hpN : n - 1 - pos = p := by omega
   have hby := ZH x pos hlt2
   have hps := ym x pos hlt2
   rw [za Hn, hpN] at hby hps
   have hc9 : x / 10 ^ p % 10 < 10 := Nat.mod_lt _ (by omega)
   generalize x / 10 ^ p % 10 = c at *
   have hnx := fun ty => Lib.run_next_ascii_at (P := Tryd.prog) wr w1.heap.size (dec x) pos ty hit hlt2 (by omega)
   obtain ⟨b, hbb⟩ : ∃ b, ((dec x)[pos]'hlt2).toNat = b := ⟨_, rfl⟩
   rw [hbb] at hnx hby
   have hb48 : (b : Int) - 48 = c := by omega
   have hit2 := Lib.iterAt_heap wr w1.heap.size (dec x) pos (pos + 1) hit
   have hb2 := Lib.below_iterAt hb (k := w1.heap.size) (by omega) (dec x) (pos + 1)
   have hown2 := kV hown (k := w1.heap.size) (by simp [Value.ownBlock]; omega) (dec x) (pos + 1)
   obtain ⟨W1, hW1⟩ : ∃ W1, W1 = wr.iterAt w1.heap.size (dec x) (pos + 1) := ⟨_, rfl⟩
   rw [← hW1] at hnx hit2 hb2 hown2
   have hgp : p / 9 < xs.length := by omega
   have hT2 := ((za HT).belowB hb2 (za HT).lt) (p % 9) (Nat.mod_lt _ (by omega))
   have hlaid' : yI xs (p + 1) := by have := za hlaid; rwa [show n - pos = p + 1 from by omega] at this
   have hst := xZ (c := c) hlaid' hgp (by omega)
   have hval' : ofd 1000000000 xs = pref x pos * 10 ^ (p + 1) := by have := za hval; rwa [show n - pos = p + 1 from by omega] at this
   have hof := ZZ (c := c) hgp hval'
   have hcx := hown2.cellAt (p / 9) (by omega)
   rw [zh _ _ hgp] at hcx
   have hfr := hown2.frozenAt (p / 9)
   have hpow : 10 ^ (p % 9) ≤ 100000000 := by
    have : (10 : Nat) ^ (p % 9) ≤ 10 ^ 8 := Nat.pow_le_pow_right (by omega) (by omega)
    exact this
   generalize xs[p / 9]'hgp = a at *
   obtain ⟨t, ht⟩ : ∃ t, 10 ^ (p % 9) = t := ⟨_, rfl⟩
   rw [ht] at hT2 hst hof hpow
   obtain ⟨q, hq⟩ : ∃ q, p / 9 = q := ⟨_, rfl⟩
   obtain ⟨r, hr⟩ : ∃ r, p % 9 = r := ⟨_, rfl⟩
   rw [hq] at hgp hst hof hcx hfr
   rw [hr] at hT2
   obtain ⟨pp, hpp⟩ : ∃ pp, c * t = pp := ⟨_, rfl⟩
   have hppI : (c : Int) * t = pp := by rw [← hpp]; simp
   rw [hpp] at hst hof
   have hst2 := hown2.stored q (.int .u64 ((a : Int) + pp))
   rw [qj _ _ (a + pp) _ (by simp)] at hst2
   have e1 : (p : Int).tdiv 9 = q := by rw [Int.tdiv_eq_ediv_of_nonneg (by omega)]; omega
   have e2 : (p : Int).tmod 9 = r := by rw [Int.tmod_eq_emod_of_nonneg (by omega)]; omega
   have e3 := wi64 (q : Int) (by omega) (by omega)
   have e4 := wi32 (c : Int) (by omega) (by omega)
   have e5 := wu64 (c : Int) (by omega) (by omega)
   have hrm : c * t ≤ 9 * 100000000 := Nat.mul_le_mul (by omega) hpow
   have e6 := wu64 (pp : Int) (by omega) (by omega)
   have e7 := wu64 ((a : Int) + pp) (by omega) (by omega)
   have hqG : (q : Int) < G := by omega
   have hr9 : (r : Int) < 9 := by omega
   have hqn : q < G := by omega
   have hrn : r < 9 := by omega
   have Hst := hide hst
   have Hof := hide hof
   have Hst2 := hide hst2
   have Hit2 := hide hit2
   have Hps := hide hps
   have Hp0 := hide hpos0
   clear hst hof hst2 hit hit2 hps hpos0 hown hb hval hval' hlaid hlaid' hW1 hby hbb ht hq hr hpp hpN
   go_wp2
   go_region
   all_goals
    go_wp2
    go_roundw
    case rel =>
     refine ⟨pos + 1, xs.set q (a + pp), by omega, ?_, by simpa using hxl, (za Hst2).1, (hb2.setCell (by simp) _).drew, ?_, ?_⟩
     ·have h1 := za Hit2
      show (W1.setCell ⟨w.heap.size, q, none⟩ _).heap[w1.heap.size]? = _
      rw [Below.heap_setCell _ _ _ _ (by show w1.heap.size ≠ w.heap.size; omega)]
      exact h1
     ·rw [show n - (pos + 1) = p from by omega]; exact (za Hst).2
     ·show _ = _
      rw [za Hof, za Hps, show n - (pos + 1) = p from by omega, Nat.add_mul, Nat.pow_succ, Nat.mul_comm (10 ^ p) 10, ← Nat.mul_assoc, Nat.mul_comm 10 (pref x pos)]
    case measure =>
     have h1 := za Hit2
     rw [za Hp0]
     have h2 : ((W1.setCell ⟨w.heap.size, q, none⟩ (.int .u64 ((a : Int) + pp))).drew).iterPos w1.heap.size = pos + 1 := by
      apply iterPos_of (s := dec x)
      show (W1.setCell ⟨w.heap.size, q, none⟩ _).heap[w1.heap.size]? = _
      rw [Below.heap_setCell _ _ _ _ (by show w1.heap.size ≠ w.heap.size; omega)]
      exact h1
     rw [h2]; omega
  ·have hpn : pos = n := by omega
   subst hpn
   have hlt2 : ¬ pos < (dec x).size := by rw [za Hn]; omega
   have hnx := fun ty => Lib.run_next_end_at (P := Tryd.prog) wr w1.heap.size (dec x) pos ty hit hlt2
   have hfin : ofd 1000000000 xs = x := by
    have h1 := za hval
    have h2 := vH x
    rw [za Hn] at h2
    rw [h1, h2]; simp
   have hall : ∀ d ∈ xs, d < 1000000000 := by
    intro d hd
    obtain ⟨g, hg, rfl⟩ := List.getElem_of_mem hd
    exact (za hlaid g hg).1
   have Hfin := hide hfin
   have Hall := hide hall
   clear hfin hall hval hlaid hpos0 hit
   go_wp2_with fail
   refine (qg xs w.heap.size _ _ (by omega) (za Hall) (by rw [hxl]; exact hown)).mono ?_
   rintro e w2 ⟨⟨v', rfl, hv'⟩, rfl⟩
   rw [za Hfin] at hv'
   go_wp2
   go_ret
   exact ⟨⟨v', rfl, hv'⟩, hb⟩
theorem jB (x : Nat) (w : World) (hs : (dec x).size ≤ 100000) (hT : Tens w) :
  Calls Tryd.prog 49 #[.string (dec x)] w fun e w' => (∃ v', e = .returned v' ∧ isNat w' v' x) ∧ Below w.heap.size w w' :=
 (jH x w hs hT).mono fun _ _ h => ⟨⟨h.1.choose, h.1.choose_spec.1, h.1.choose_spec.2.nat⟩, h.2⟩
theorem y0 (x k : Nat) (h : k / 9 < (gr x).length) : (gr x)[k / 9] / 10 ^ (k % 9) % 10 = x / 10 ^ k % 10 := by
 have hr : k % 9 < 9 := Nat.mod_lt _ (by omega)
 have hg := ZM (b := 1000000000) (by omega) (k / 9) x
 have hg' : (gr x)[k / 9] = x / 1000000000 ^ (k / 9) % 1000000000 := by
  rw [← hg, show dg 1000000000 x = gr x from rfl, List.getD_eq_getElem?_getD, List.getElem?_eq_getElem h]; rfl
 rw [hg']
 have e : (1000000000 : Nat) = 10 ^ (k % 9) * 10 ^ (9 - k % 9) := by
  rw [← Nat.pow_add, show k % 9 + (9 - k % 9) = 9 from by omega]
 generalize hq : x / 1000000000 ^ (k / 9) = q
 conv => lhs; rw [e]
 rw [Nat.mod_mul_right_div_self, Nat.mod_mod_of_dvd _ (by
  have : 10 ^ 1 ∣ 10 ^ (9 - k % 9) := Nat.pow_dvd_pow 10 (by omega)
  simpa using this), ← hq, Nat.div_div_eq_div_mul, yi]
def lenV : Value → Nat
 | .slice _ n _ => n
 | _ => 0
def digs (x k : Nat) : List Nat := (List.range k).map fun j => x / 10 ^ j % 10
theorem vY (x k : Nat) : digs x (k + 1) = digs x k ++ [x / 10 ^ k % 10] := by simp [digs, List.range_succ]
theorem j6 (x k : Nat) : (digs x k).length = k := by simp [digs]
theorem xj (x k : Nat) : ∀ d ∈ digs x k, d < 10 := by
 intro d hd
 obtain ⟨j, _, rfl⟩ := List.mem_map.1 hd
 exact Nat.mod_lt _ (by omega)
theorem ZO (x : Nat) : ∀ k, ofd 10 (digs x k) = x % 10 ^ k := by
 intro k
 induction k with
 | zero => simp [digs, ofd, Nat.mod_one]
 | succ k ih => rw [vY, zG, ih, j6, zS]
theorem QY (x : Nat) : x < 10 ^ (9 * (gr x).length) := by
 have h := qE (b := 1000000000) (by omega) x
 rw [show (1000000000 : Nat) = 10 ^ 9 from by decide, ← Nat.pow_mul] at h
 unfold gr
 rw [show (1000000000 : Nat) = 10 ^ 9 from by decide]
 exact h
theorem zR (x : Nat) (v : Value) (w : World) (hx : isNat w v x) (hs : (gr x).length ≤ 100000) (hT : Tens w) :
  Calls Tryd.prog 56 #[v] w fun e w' => e = .returned (.string (dec x)) ∧ Below w.heap.size w w' := by
 obtain ⟨i0, hi, hz0, hz1, hz2⟩ := info_parts Tryd.infoByte
 obtain ⟨p, cap, hv⟩ := zd hx
 subst hv
 by_cases hz : x = 0
 ·subst hz
  rw [vf, ZK]
  clear hx hs hT
  go_enter Tryd.func56, Tryd.ntmps56
  go_wp2
  go_ret
  exact ⟨rfl, Below.refl _ _⟩
 ·obtain ⟨n, hn⟩ : ∃ n, (gr x).length = n := ⟨_, rfl⟩
  have hn0 : 0 < n := by
   rcases Nat.eq_zero_or_pos n with h | h
   ·rw [h] at hn; exact absurd (jY.1 (List.eq_nil_of_length_eq_zero hn)) hz
   ·exact h
  have hnI : ((n : Int) == 0) = false := by rw [beq_eq_false_iff_ne]; omega
  have hgd := y0 x
  have hgl := gr_lt x
  have hgp := QY x
  have hx' := hx
  unfold isNat at hx'
  rw [hn] at hx' hs hgp
  rw [hn]
  generalize gr x = xs at *
  have Hgd := hide hgd
  have Hgl := hide hgl
  have Hgp := hide hgp
  have Hx := hide hx'
  have Hn := hide hn
  have HT := hide hT
  have Hz := hide hz
  clear hgd hgl hgp hx' hn hT hz hx
  go_enter Tryd.func56, Tryd.ntmps56
  go_wp2
  go_loopw [3, 13] (fun v i wr => ∃ (k : Nat), k ≤ n * 9 ∧ i = .int .i64 k ∧ wr.ownsRow w.heap.size 5 1 v k (((digs x k).map sg).map u8v) ∧ Below w.heap.size w wr)
   (fun _ i _ => n * 9 - (intOf i).toNat)
  case atStart =>
   exact ⟨0, Nat.zero_le _, rfl, World.ownsRow_made w #[] 0 (Nat.le_refl _) (by decide) (by simp), (Below.refl _ _).alloc (Nat.le_refl _) _⟩
  case round =>
   obtain ⟨k, hk, rfl, hown, hb⟩ := hrel
   by_cases hlt : k < n * 9
   ·have hkl : k / 9 < xs.length := by rw [za Hn]; omega
    obtain ⟨g, cap', hvv, _⟩ := zU (za Hx) (by omega)
    simp only [Value.slice.injEq, true_and] at hvv
    obtain ⟨rfl, rfl⟩ := hvv
    have hcx := (zl (za Hx) hb).cellAt (k / 9) (by rw [za Hn] at hkl; omega)
    rw [zh _ _ hkl] at hcx
    have hT2 := ((za HT).below hb) (k % 9) (Nat.mod_lt _ (by omega))
    have hd := za Hgd k hkl
    have ha9 : xs[k / 9]'hkl < 1000000000 := za Hgl _ (List.getElem_mem _)
    have hdl : x / 10 ^ k % 10 < 10 := Nat.mod_lt _ (by omega)
    have hsuc := vY x k
    have hpow : 0 < 10 ^ (k % 9) := Nat.pow_pos (by omega)
    have hpow2 : 10 ^ (k % 9) ≤ 100000000 := by
     have : (10 : Nat) ^ (k % 9) ≤ 10 ^ 8 := Nat.pow_le_pow_right (by omega) (by have := Nat.mod_lt k (show 9 > 0 by omega); omega)
     exact this
    generalize xs[k / 9]'hkl = a at *
    generalize x / 10 ^ k % 10 = d at *
    obtain ⟨t, ht⟩ : ∃ t, 10 ^ (k % 9) = t := ⟨_, rfl⟩
    rw [ht] at hT2 hd hpow hpow2
    obtain ⟨q, hq⟩ : ∃ q, k / 9 = q := ⟨_, rfl⟩
    obtain ⟨r, hr⟩ : ∃ r, k % 9 = r := ⟨_, rfl⟩
    rw [hq] at hcx hkl
    rw [hr] at hT2
    obtain ⟨at_, hat⟩ : ∃ z, a / t = z := ⟨_, rfl⟩
    rw [hat] at hd
    have hatl : at_ ≤ a := by rw [← hat]; exact Nat.div_le_self _ _
    have e1 : (k : Int).tdiv 9 = q := by rw [Int.tdiv_eq_ediv_of_nonneg (by omega)]; omega
    have e2 : (k : Int).tmod 9 = r := by rw [Int.tmod_eq_emod_of_nonneg (by omega)]; omega
    have e3 := wi64 (q : Int) (by omega) (by omega)
    have e4 : (a : Int).tdiv t = at_ := by rw [Int.tdiv_eq_ediv_of_nonneg (by omega), ← hat]; rfl
    have e5 := wu64 (at_ : Int) (by omega) (by omega)
    have e6 : (at_ : Int).tmod 10 = d := by rw [Int.tmod_eq_emod_of_nonneg (by omega)]; omega
    have htN : ¬ (t : Int) = 0 := by omega
    have hqn : (q : Int) < n := by omega
    have hqn2 : q < n := by omega
    have hr9 : (r : Int) < 9 := by omega
    have hrn : r < 9 := by omega
    have hki : (k : Int) < n * 9 := by omega
    have Hsuc := hide hsuc
    clear hsuc hd ht hq hr hat
    go_wp2
    go_quiet (fail)
    have hown2 := yf hown nq
    have hb2 := below_drewN hb nq
    have hw := hb.size
    go_wp2_with (at_builtin; refine wpList_append_own _ rfl (.tmp 27) (.tmp 31) 22 rfl w.heap.size 5 i0 (.int .u8 0) 1 1 Tryd.underlying22 hi hz0 hz1 hz2 rfl (by decide) _ _ _ rfl (hown2.alloc _) ⟨wr.heap.size, 0, none⟩ 1 1 [.int .u8 (48 + (d : Int))] rfl rfl (cell_one_new _ _ _) (by intro u hu; simp at hu; subst hu; rfl) (by unfold maxLen; omega) (by omega) (by show w.heap.size ≤ ((wr.drewN nq).alloc _).heap.size; rw [World.size_alloc]; show w.heap.size ≤ wr.heap.size + 1; omega) ?_; intro v2 w2 hown3 hg3 _)
    have hbX := zV (hb2.alloc hw _) (hown2.alloc _) hg3 (by rw [World.size_alloc]; show w.heap.size ≤ wr.heap.size + 1; omega)
    go_roundw
    case rel =>
     refine ⟨k + 1, by omega, by go_num, ?_, hbX⟩
     rw [za Hsuc, List.map_append, List.map_append]
     simp only [List.map_cons, List.map_nil, yR hdl]
     exact hown3
    case measure => simp [intOf]; omega
   ·have hkn : k = n * 9 := by omega
    subst hkn
    have hpre : strip (digs x (n * 9)) = dg 10 x := by
     rw [j7 (by omega) (xj x _), ZO, Nat.mod_eq_of_lt (by rw [Nat.mul_comm]; exact za Hgp)]
    obtain ⟨g, cap', hvv, hcc, hbg, hgw⟩ := zU hown (by omega)
    subst hvv
    have Hpre := hide hpre
    have hdl := xj x (n * 9)
    have hlen := j6 x (n * 9)
    generalize digs x (n * 9) = D at *
    have Hdl := hide hdl
    clear hpre hdl
    go_wp2
    go_loopw [3] (fun v wr2 => ∃ (E : List Nat), v = .slice (some ⟨g, 0, none⟩) E.length cap' ∧ E.length ≤ n * 9 ∧ wr2 = wr ∧ wr.ownsRow w.heap.size 5 1 (.slice (some ⟨g, 0, none⟩) E.length cap') E.length ((E.map sg).map u8v) ∧ Hid (strip E = dg 10 x) ∧ Hid (∀ d ∈ E, d < 10))
     (fun v _ => lenV v)
    case atStart => exact ⟨D, by rw [hlen], by omega, rfl, by rw [hlen]; exact hown, Hpre, Hdl⟩
    case round =>
     obtain ⟨E, rfl, hEl, rfl, hownE, hst, hEd⟩ := hrel
     have hE0 : 0 < E.length := by
      rcases Nat.eq_zero_or_pos E.length with h | h
      ·exfalso
       have : E = [] := List.eq_nil_of_length_eq_zero h
       rw [this] at hst
       exact za Hz ((jW (by omega)).1 (za hst).symm)
      ·exact h
     have hc := hownE.cellAt (E.length - 1) (by omega)
     rw [vM _ _ (by simp; omega), List.getElem_map] at hc
     have hsp : E = E.take (E.length - 1) ++ [E[E.length - 1]'(by omega)] := by
      rw [← List.take_succ_eq_append_getElem (by omega), show E.length - 1 + 1 = E.length from by omega, List.take_length]
     have hlast : E[E.length - 1]'(by omega) < 10 := za hEd _ (List.getElem_mem _)
     have htk := kf hownE (E.length - 1) (by omega)
     generalize E[E.length - 1]'(by omega) = d at *
     rw [zY (by omega), if_pos hlast] at hc
     by_cases hd0 : d = 0
     ·have hst2 : strip (E.take (E.length - 1)) = dg 10 x := by
       rw [← za hst]
       conv => rhs; rw [hsp, hd0]
       rw [jn]
      have hEd2 : ∀ e ∈ E.take (E.length - 1), e < 10 := fun e he => za hEd e (List.mem_of_mem_take he)
      have hq : (((48 + d : Nat) : Int) == 48) = true := by rw [beq_iff_eq]; omega
      have e1 : ((E.map sg).map u8v).take (E.length - 1) = ((E.take (E.length - 1)).map sg).map u8v := by simp [List.map_take]
      rw [e1] at htk
      have hl1 : (E.take (E.length - 1)).length = E.length - 1 := by simp
      generalize E.take (E.length - 1) = F at *
      have hzl : F.length + 1 = E.length := by omega
      have Htk := hide htk
      have Hst2 := hide hst2
      have Hd2 := hide hEd2
      clear hst2 htk hsp hd0 e1 hEd2
      go_wp2
      go_roundw
      case rel => exact ⟨F, by rw [hl1], by omega, trivial, by rw [hl1]; exact za Htk, Hst2, Hd2⟩
      case measure => show E.length - 1 < E.length; omega
     ·have hq : (((48 + d : Nat) : Int) == 48) = false := by rw [beq_eq_false_iff_ne]; omega
      have hfin : E = dg 10 x := by rw [← za hst, hsp, jx _ _ hd0]
      have Hfin := hide hfin
      clear hfin hsp htk hd0
      have hrv := Zi (E.map sg) g cap' w.heap.size wr (by rw [List.length_map]; omega) (by rw [List.length_map]; exact hownE)
      rw [List.length_map] at hrv
      have Hrv := hide hrv
      clear hrv hownE hown
      go_wp2_with fail
      refine (za Hrv).mono ?_
      rintro e w3 ⟨rfl, hown3, hg3⟩
      have hbX := hb.grown hg3 hb.size (fun k hk => by cases hk; omega)
      have hconv := qB (dst := 9) Tryd.underlying22 Tryd.underlying5 Tryd.underlying9 hown3
      have hfin2 : B (E.map sg).reverse = dec x := by unfold dec txt; rw [qo (za Hz), ← za Hfin]
      rw [hfin2] at hconv
      clear hfin2 hown3 hg3 Hrv
      go_wp2
      go_ret
      exact ⟨rfl, hbX⟩
theorem z7 {w w3 : World} {b : Nat} (h : Below b w w3) (g : Nat) (hg : b ≤ g) (x y z : Value) : Below b w (((w3.setCell ⟨g, 0, none⟩ x).setCell ⟨g, 1, none⟩ y).setCell ⟨g, 2, none⟩ z) :=
 ((h.setCell hg _).setCell hg _).setCell hg _
theorem jL : dec 1 = ⟨#[49]⟩ := by unfold dec txt; rw [qR 10 (by omega) 1 (by omega)]; rfl
def okM (neg : Bool) (u d : List UInt8) : Bool :=
 decide (u.length ≤ 60) && decide (d.length ≤ 60) && isDec u && isDec d && decide (zz d ≠ 0) && !(neg && decide (zz u = 0)) && decide (Nat.gcd (zz u) (zz d) = 1)
def numB (neg : Bool) (u d : List UInt8) : Value := .agg #[.bool neg, .string (B u), .string (B d)]
theorem Qu (n : Nat) : ((dec n).toList == [49]) = decide (n = 1) := by
 have := vb n 1
 rwa [show (dec 1).toList = [49] from by rw [jL]; exact B_tl [49]] at this
theorem qM (neg : Bool) (u d : List UInt8) (w : World) (hsu : u.length ≤ 1000000000) (hsd : d.length ≤ 1000000000) :
  Calls Tryd.prog 21 #[numB neg u d] w fun e w' => e = .returned (.bool (okM neg u d)) ∧ Below w.heap.size w w' := by
 unfold numB
 have hzu : (B u).size = u.length := zy u
 have hzd : (B d).size = d.length := zy d
 by_cases h1 : u.length ≤ 60
 ·by_cases h2 : d.length ≤ 60
  ·by_cases h3 : isDec u = true
   ·by_cases h4 : isDec d = true
    ·have eu := qf h3
     have ed := qf h4
     have Hok : Hid (okM neg u d = (decide (zz d ≠ 0) && !(neg && decide (zz u = 0)) && decide (Nat.gcd (zz u) (zz d) = 1))) := by
      show _ = _; unfold okM; rw [decide_eq_true h1, decide_eq_true h2, h3, h4]; simp
     have Bu : B u = dec (zz u) := by unfold dec txt; rw [← eu]
     have Bd : B d = dec (zz d) := by unfold dec txt; rw [← ed]
     have h3d := @qw u
     have h4d := @qw d
     rw [h3] at h3d
     rw [h4] at h4d
     rw [Bu] at h3d hzu
     rw [Bd] at h4d hzd
     rw [Bu, Bd]
     have H3 := hide h3d
     have H4 := hide h4d
     generalize zz u = a at *
     generalize zz d = b at *
     have hau : (dec a).size ≤ 60 := by omega
     have hbd : (dec b).size ≤ 60 := by omega
     have ha0 := jA a
     have hb0 := jA b
     clear h3d h4d eu ed Bu Bd h3 h4
     by_cases hb : b = 0
     ·rw [decide_eq_true hb] at hb0
      have Hok : Hid (okM neg u d = false) := by show _ = _; rw [za Hok]; simp [hb]
      clear hb
      go_enter Tryd.func21, Tryd.ntmps21
      go_wp2_with fail
      refine (za H3 _ (by omega)).mono ?_
      rintro e w1 ⟨rfl, rfl⟩
      go_wp2_with fail
      refine (za H4 _ (by omega)).mono ?_
      rintro e w1 ⟨rfl, rfl⟩
      go_wp2
      go_ret
      exact ⟨zx (za Hok).symm, (Below.refl _ _).alloc (Nat.le_refl _) _⟩
     ·rw [decide_eq_false hb] at hb0
      by_cases hn : neg = true ∧ a = 0
      ·obtain ⟨hn1, ha⟩ := hn
       rw [decide_eq_true ha] at ha0
       subst hn1
       have Hok : Hid (okM true u d = false) := by show _ = _; rw [za Hok]; simp [ha]
       clear hb ha
       go_enter Tryd.func21, Tryd.ntmps21
       go_wp2_with fail
       refine (za H3 _ (by omega)).mono ?_
       rintro e w1 ⟨rfl, rfl⟩
       go_wp2_with fail
       refine (za H4 _ (by omega)).mono ?_
       rintro e w1 ⟨rfl, rfl⟩
       go_wp2
       go_ret
       exact ⟨zx (za Hok).symm, (Below.refl _ _).alloc (Nat.le_refl _) _⟩
      ·have Hok : Hid (okM neg u d = decide (Nat.gcd a b = 1)) := by
        show _ = _; rw [za Hok]
        cases neg
        ·simp [hb]
        ·simp at hn; simp [hb, hn]
       have hg1 := Qu (Nat.gcd a b)
       have hcase : neg = false ∨ (neg = true ∧ a ≠ 0) := by cases neg <;> simp_all
       rcases hcase with rfl | ⟨rfl, ha⟩
       ·clear hn hb
        go_enter Tryd.func21, Tryd.ntmps21
        go_wp2_with fail
        refine (za H3 _ (by omega)).mono ?_
        rintro e w1 ⟨rfl, rfl⟩
        go_wp2_with fail
        refine (za H4 _ (by omega)).mono ?_
        rintro e w1 ⟨rfl, rfl⟩
        go_wp2_with fail
        refine (yF a b _ (by omega) (by omega)).mono ?_
        rintro e w2 ⟨rfl, hb2⟩
        go_wp2
        go_ret
        exact ⟨zx (za Hok).symm, zA (zu hb2)⟩
       ·rw [decide_eq_false ha] at ha0
        clear hn hb ha
        go_enter Tryd.func21, Tryd.ntmps21
        go_wp2_with fail
        refine (za H3 _ (by omega)).mono ?_
        rintro e w1 ⟨rfl, rfl⟩
        go_wp2_with fail
        refine (za H4 _ (by omega)).mono ?_
        rintro e w1 ⟨rfl, rfl⟩
        go_wp2_with fail
        refine (yF a b _ (by omega) (by omega)).mono ?_
        rintro e w2 ⟨rfl, hb2⟩
        go_wp2
        go_ret
        exact ⟨zx (za Hok).symm, zA (zu hb2)⟩
    ·have h4' : isDec d = false := by simpa using h4
     have Hok : Hid (okM neg u d = false) := by show _ = _; unfold okM; rw [h4']; simp
     have h3d := @qw u
     have h4d := @qw d
     rw [h3] at h3d
     rw [h4'] at h4d
     have H3 := hide h3d
     have H4 := hide h4d
     clear h3d h4d h3 h4 h4'
     go_enter Tryd.func21, Tryd.ntmps21
     go_wp2_with fail
     refine (za H3 _ (by omega)).mono ?_
     rintro e w1 ⟨rfl, rfl⟩
     go_wp2_with fail
     refine (za H4 _ (by omega)).mono ?_
     rintro e w1 ⟨rfl, rfl⟩
     go_wp2
     go_ret
     exact ⟨zx (za Hok).symm, (Below.refl _ _).alloc (Nat.le_refl _) _⟩
   ·have h3' : isDec u = false := by simpa using h3
    have Hok : Hid (okM neg u d = false) := by show _ = _; unfold okM; rw [h3']; simp
    have h3d := @qw u
    rw [h3'] at h3d
    have H3 := hide h3d
    clear h3d h3 h3'
    go_enter Tryd.func21, Tryd.ntmps21
    go_wp2_with fail
    refine (za H3 _ (by omega)).mono ?_
    rintro e w1 ⟨rfl, rfl⟩
    go_wp2
    go_ret
    exact ⟨zx (za Hok).symm, (Below.refl _ _).alloc (Nat.le_refl _) _⟩
  ·have Hok : Hid (okM neg u d = false) := by show _ = _; unfold okM; simp [h2]
   go_enter Tryd.func21, Tryd.ntmps21
   go_wp2
   go_ret
   exact ⟨zx (za Hok).symm, (Below.refl _ _).alloc (Nat.le_refl _) _⟩
 ·have Hok : Hid (okM neg u d = false) := by show _ = _; unfold okM; simp [h1]
  go_enter Tryd.func21, Tryd.ntmps21
  go_wp2
  go_ret
  exact ⟨zx (za Hok).symm, (Below.refl _ _).alloc (Nat.le_refl _) _⟩
theorem zH {neg : Bool} {u d : List UInt8} (h : okM neg u d = true) : isDec u = true ∧ isDec d = true ∧ u.length ≤ 60 ∧ d.length ≤ 60 ∧ zz d ≠ 0 ∧ (neg = true → zz u ≠ 0) ∧ Nat.gcd (zz u) (zz d) = 1 := by
 unfold okM at h
 simp only [Bool.and_eq_true, decide_eq_true_eq, Bool.not_eq_true', Bool.and_eq_false_iff, decide_eq_false_iff_not] at h
 obtain ⟨⟨⟨⟨⟨⟨h1, h2⟩, h3⟩, h4⟩, h5⟩, h6⟩, h7⟩ := h
 exact ⟨h3, h4, h1, h2, h5, fun hn => by rcases h6 with h6 | h6; rw [hn] at h6; cases h6; exact h6, h7⟩
def intV (i : Int) : Value := numV (decide (i < 0)) (dec i.natAbs) (dec 1)
theorem xu {x : Nat} : (gr x).length = 0 ↔ x = 0 := by
 rw [List.length_eq_zero_iff]; exact jY
theorem qZ {x y n : Nat} (h : x ≤ y) (hy : (gr y).length ≤ n) : (gr x).length ≤ n := Nat.le_trans (qs h) hy
theorem zo {w w3 : World} {b : Nat} (h : Below b w w3) (hs : b ≤ w3.heap.size) (g : Nat) (hg : b ≤ g) (x y z : Value) (o : Obj) : Below b w ((((w3.setCell ⟨g, 0, none⟩ x).setCell ⟨g, 1, none⟩ y).setCell ⟨g, 2, none⟩ z).alloc o) :=
 (z7 h g hg x y z).alloc (by simpa using hs) o
theorem kI {neg : Bool} {u d : Nat} (hd : 0 < d) : zm neg u d = if 60 < (dec (u / Nat.gcd u d)).size ∨ 60 < (dec (d / Nat.gcd u d)).size then none else some (neg && u / Nat.gcd u d != 0, u / Nat.gcd u d, d / Nat.gcd u d) := by
 unfold zm
 by_cases h : 60 < (dec (u / Nat.gcd u d)).size ∨ 60 < (dec (d / Nat.gcd u d)).size
 ·rw [if_pos (.inr h), if_pos h]
 ·rw [if_neg (by rintro (h1 | h1); omega; exact h h1), if_neg h]
theorem js (neg : Bool) (u d : Nat) (vu vd : Value) (w : World) (hu : isNat w vu u) (hdn : isNat w vd d) (hd : 0 < d) (hsu : (gr u).length ≤ 100000) (hsd : (gr d).length ≤ 100000) (hT : Tens w) :
  Calls Tryd.prog 41 #[.bool neg, vu, vd] w fun e w' => e = .returned (zk (zm neg u d)) ∧ Below w.heap.size w w' := by
 have Hu := hide hu
 have Hd := hide hdn
 have HT := hide hT
 have hg : 0 < Nat.gcd u d := Nat.gcd_pos_of_pos_right _ hd
 have hgl := qZ (Nat.gcd_le_right u hd) hsd
 have hql := qZ (Nat.div_le_self u (Nat.gcd u d)) hsu
 have hdl := qZ (Nat.div_le_self d (Nat.gcd u d)) hsd
 have Hlow := hide (kI (neg := neg) (u := u) hd)
 clear hu hdn hT
 go_enter Tryd.func41, Tryd.ntmps41
 go_wp2_with fail
 have hbA : ∀ o : Obj, Below w.heap.size w (w.alloc o) := fun o => (Below.refl _ _).alloc (Nat.le_refl _) _
 refine (gcd_c u d _ _ _ (zb (za Hu) (hbA _)) (zb (za Hd) (hbA _)) (by omega) (by omega)).mono ?_
 rintro e w1 ⟨⟨vg, rfl, hvg⟩, hb1⟩
 have hb0 := zu hb1
 have hz0 : w.heap.size + 1 ≤ w1.heap.size := by have := hb1.size; simpa using this
 have hbu1 := zA hb0
 have Hvg := hide hvg
 have Hn1 := hide (And.intro hb0 hz0)
 clear hvg hb1 hb0 hz0
 go_wp2_with fail
 refine (kQ u _ _ _ _ (zb (za Hu) hbu1) (za Hvg) (by omega) (by omega) hg).mono ?_
 rintro e w2 ⟨⟨v1, v1r, rfl, hv1, _⟩, hb2⟩
 have hn2 := zf (za Hn1).1 (za Hn1).2 hb2
 have hbu2 := zA hn2.1
 have Hv1 := hide hv1
 have Hvg2 := hide (zb (za Hvg) hb2)
 have Hn2 := hide hn2
 clear hv1 hb2 hn2 hbu1
 go_wp2_with fail
 refine (kQ d _ _ _ _ (zb (za Hd) hbu2) (za Hvg2) (by omega) (by omega) hg).mono ?_
 rintro e w3 ⟨⟨v2, v2r, rfl, hv2, _⟩, hb3⟩
 have hn3 := zf (za Hn2).1 (za Hn2).2 hb3
 have HV1 := hide (zb (za Hv1) hb3)
 have HV2 := hide hv2
 have HT3 := hide ((za HT).below (zA hn3.1))
 have Hn3 := hide hn3
 clear hv2 hb3 hn3 hbu2 Hv1 Hvg2 Hn2 Hn1 Hvg hbA
 generalize hqu : u / Nat.gcd u d = qu at *
 generalize hqd : d / Nat.gcd u d = qd at *
 clear hqu hqd
 obtain ⟨p1, cp1, hv1s⟩ := zd (za HV1)
 subst hv1s
 by_cases hq0 : qu = 0
 ·have hl0 : decide (0 < (gr qu).length) = false := by have := xu.2 hq0; rw [decide_eq_false_iff_not]; omega
  have Hsg : Hid ((neg && qu != 0) = false) := by show _ = _; rw [hq0]; simp
  clear hq0
  cases neg with
  | false =>
   go_wp2_with fail
   refine (zR qu _ _ (za HV1) (by omega) (za HT3)).mono ?_
   rintro e w4 ⟨rfl, hb4⟩
   have hn4 := zf (za Hn3).1 (za Hn3).2 hb4
   have hv2 := zb (za HV2) hb4
   have hT4 := (za HT3).below hb4
   have HV2' := hide hv2
   have HT4 := hide hT4
   have Hn4 := hide hn4
   clear hv2 hT4 hn4 hb4
   go_wp2_with fail
   refine (zR qd _ _ (za HV2') (by omega) (za HT4)).mono ?_
   rintro e w5 ⟨rfl, hb5⟩
   have hn5 := zf (za Hn4).1 (za Hn4).2 hb5
   have c0 := zi hn5.1 0
   have c1 := zi hn5.1 1
   have c2 := zi hn5.1 2
   have f0 := zF hn5.1 0
   have f1 := zF hn5.1 1
   have f2 := zF hn5.1 2
   have hbX := zA hn5.1
   simp at c0 c1 c2
   have hbb : w.heap.size < w5.heap.size := hn5.2
   clear hb5 hn5
   by_cases h1 : 60 < (dec qu).size
   ·rw [if_pos (.inl h1)] at Hlow
    go_wp2
    refine bodyPost_ret (v := zk none) (by simp [results, Tryd.results41, go_sem, zk, numO, noNum, numV, c0, c1, c2, hbb]) rfl ⟨by rw [za Hlow], ?_⟩
    exact zo hbX hbX.size _ (Nat.le_refl _) _ _ _ _
   ·by_cases h2 : 60 < (dec qd).size
    ·rw [if_pos (.inr h2)] at Hlow
     go_wp2
     refine bodyPost_ret (v := zk none) (by simp [results, Tryd.results41, go_sem, zk, numO, noNum, numV, c0, c1, c2, hbb]) rfl ⟨by rw [za Hlow], ?_⟩
     exact zo hbX hbX.size _ (Nat.le_refl _) _ _ _ _
    ·rw [if_neg (by rintro (h | h); exact h1 h; exact h2 h)] at Hlow
     go_wp2
     refine bodyPost_ret (v := zk (some (false, qu, qd))) (by simp [results, Tryd.results41, go_sem, zk, numO, numV, c0, c1, c2, hbb]) rfl ⟨by rw [za Hlow, za Hsg], ?_⟩
     exact zo hbX hbX.size _ (Nat.le_refl _) _ _ _ _
  | true =>
   go_wp2_with fail
   refine (zR qu _ _ (za HV1) (by omega) (za HT3)).mono ?_
   rintro e w4 ⟨rfl, hb4⟩
   have hn4 := zf (za Hn3).1 (za Hn3).2 hb4
   have hv2 := zb (za HV2) hb4
   have hT4 := (za HT3).below hb4
   have HV2' := hide hv2
   have HT4 := hide hT4
   have Hn4 := hide hn4
   clear hv2 hT4 hn4 hb4
   go_wp2_with fail
   refine (zR qd _ _ (za HV2') (by omega) (za HT4)).mono ?_
   rintro e w5 ⟨rfl, hb5⟩
   have hn5 := zf (za Hn4).1 (za Hn4).2 hb5
   have c0 := zi hn5.1 0
   have c1 := zi hn5.1 1
   have c2 := zi hn5.1 2
   have f0 := zF hn5.1 0
   have f1 := zF hn5.1 1
   have f2 := zF hn5.1 2
   have hbX := zA hn5.1
   simp at c0 c1 c2
   have hbb : w.heap.size < w5.heap.size := hn5.2
   clear hb5 hn5
   by_cases h1 : 60 < (dec qu).size
   ·rw [if_pos (.inl h1)] at Hlow
    go_wp2
    refine bodyPost_ret (v := zk none) (by simp [results, Tryd.results41, go_sem, zk, numO, noNum, numV, c0, c1, c2, hbb]) rfl ⟨by rw [za Hlow], ?_⟩
    exact zo hbX hbX.size _ (Nat.le_refl _) _ _ _ _
   ·by_cases h2 : 60 < (dec qd).size
    ·rw [if_pos (.inr h2)] at Hlow
     go_wp2
     refine bodyPost_ret (v := zk none) (by simp [results, Tryd.results41, go_sem, zk, numO, noNum, numV, c0, c1, c2, hbb]) rfl ⟨by rw [za Hlow], ?_⟩
     exact zo hbX hbX.size _ (Nat.le_refl _) _ _ _ _
    ·rw [if_neg (by rintro (h | h); exact h1 h; exact h2 h)] at Hlow
     go_wp2
     refine bodyPost_ret (v := zk (some (false, qu, qd))) (by simp [results, Tryd.results41, go_sem, zk, numO, numV, c0, c1, c2, hbb]) rfl ⟨by rw [za Hlow, za Hsg], ?_⟩
     exact zo hbX hbX.size _ (Nat.le_refl _) _ _ _ _
 ·have hl0 : decide (0 < (gr qu).length) = true := by have := mt xu.1 hq0; rw [decide_eq_true_eq]; omega
  cases neg with
  | false =>
   have Hsg : Hid ((false && qu != 0) = false) := rfl
   clear hq0
   go_wp2_with fail
   refine (zR qu _ _ (za HV1) (by omega) (za HT3)).mono ?_
   rintro e w4 ⟨rfl, hb4⟩
   have hn4 := zf (za Hn3).1 (za Hn3).2 hb4
   have hv2 := zb (za HV2) hb4
   have hT4 := (za HT3).below hb4
   have HV2' := hide hv2
   have HT4 := hide hT4
   have Hn4 := hide hn4
   clear hv2 hT4 hn4 hb4
   go_wp2_with fail
   refine (zR qd _ _ (za HV2') (by omega) (za HT4)).mono ?_
   rintro e w5 ⟨rfl, hb5⟩
   have hn5 := zf (za Hn4).1 (za Hn4).2 hb5
   have c0 := zi hn5.1 0
   have c1 := zi hn5.1 1
   have c2 := zi hn5.1 2
   have f0 := zF hn5.1 0
   have f1 := zF hn5.1 1
   have f2 := zF hn5.1 2
   have hbX := zA hn5.1
   simp at c0 c1 c2
   have hbb : w.heap.size < w5.heap.size := hn5.2
   clear hb5 hn5
   by_cases h1 : 60 < (dec qu).size
   ·rw [if_pos (.inl h1)] at Hlow
    go_wp2
    refine bodyPost_ret (v := zk none) (by simp [results, Tryd.results41, go_sem, zk, numO, noNum, numV, c0, c1, c2, hbb]) rfl ⟨by rw [za Hlow], ?_⟩
    exact zo hbX hbX.size _ (Nat.le_refl _) _ _ _ _
   ·by_cases h2 : 60 < (dec qd).size
    ·rw [if_pos (.inr h2)] at Hlow
     go_wp2
     refine bodyPost_ret (v := zk none) (by simp [results, Tryd.results41, go_sem, zk, numO, noNum, numV, c0, c1, c2, hbb]) rfl ⟨by rw [za Hlow], ?_⟩
     exact zo hbX hbX.size _ (Nat.le_refl _) _ _ _ _
    ·rw [if_neg (by rintro (h | h); exact h1 h; exact h2 h)] at Hlow
     go_wp2
     refine bodyPost_ret (v := zk (some (false, qu, qd))) (by simp [results, Tryd.results41, go_sem, zk, numO, numV, c0, c1, c2, hbb]) rfl ⟨by rw [za Hlow, za Hsg], ?_⟩
     exact zo hbX hbX.size _ (Nat.le_refl _) _ _ _ _
  | true =>
   have Hsg : Hid ((true && qu != 0) = true) := by show _ = _; rw [bne_iff_ne.2 hq0]; rfl
   clear hq0
   go_wp2_with fail
   refine (zR qu _ _ (za HV1) (by omega) (za HT3)).mono ?_
   rintro e w4 ⟨rfl, hb4⟩
   have hn4 := zf (za Hn3).1 (za Hn3).2 hb4
   have hv2 := zb (za HV2) hb4
   have hT4 := (za HT3).below hb4
   have HV2' := hide hv2
   have HT4 := hide hT4
   have Hn4 := hide hn4
   clear hv2 hT4 hn4 hb4
   go_wp2_with fail
   refine (zR qd _ _ (za HV2') (by omega) (za HT4)).mono ?_
   rintro e w5 ⟨rfl, hb5⟩
   have hn5 := zf (za Hn4).1 (za Hn4).2 hb5
   have c0 := zi hn5.1 0
   have c1 := zi hn5.1 1
   have c2 := zi hn5.1 2
   have f0 := zF hn5.1 0
   have f1 := zF hn5.1 1
   have f2 := zF hn5.1 2
   have hbX := zA hn5.1
   simp at c0 c1 c2
   have hbb : w.heap.size < w5.heap.size := hn5.2
   clear hb5 hn5
   by_cases h1 : 60 < (dec qu).size
   ·rw [if_pos (.inl h1)] at Hlow
    go_wp2
    refine bodyPost_ret (v := zk none) (by simp [results, Tryd.results41, go_sem, zk, numO, noNum, numV, c0, c1, c2, hbb]) rfl ⟨by rw [za Hlow], ?_⟩
    exact zo hbX hbX.size _ (Nat.le_refl _) _ _ _ _
   ·by_cases h2 : 60 < (dec qd).size
    ·rw [if_pos (.inr h2)] at Hlow
     go_wp2
     refine bodyPost_ret (v := zk none) (by simp [results, Tryd.results41, go_sem, zk, numO, noNum, numV, c0, c1, c2, hbb]) rfl ⟨by rw [za Hlow], ?_⟩
     exact zo hbX hbX.size _ (Nat.le_refl _) _ _ _ _
    ·rw [if_neg (by rintro (h | h); exact h1 h; exact h2 h)] at Hlow
     go_wp2
     refine bodyPost_ret (v := zk (some (true, qu, qd))) (by simp [results, Tryd.results41, go_sem, zk, numO, numV, c0, c1, c2, hbb]) rfl ⟨by rw [za Hlow, za Hsg], ?_⟩
     exact zo hbX hbX.size _ (Nat.le_refl _) _ _ _ _
theorem yc (neg : Bool) (u d : List UInt8) : okM neg u d = (plain u && plain d && decide (zz d ≠ 0) && !(neg && decide (zz u = 0)) && decide (Nat.gcd (zz u) (zz d) = 1)) := by
 unfold okM plain
 cases decide (u.length ≤ 60) <;> cases decide (d.length ≤ 60) <;> cases isDec u <;> cases isDec d <;> simp
theorem qq {x n : Nat} (h : (dec x).size ≤ n) : (gr x).length ≤ n := by
 have h1 := z8 x
 apply qr (by omega)
 have h2 : (10 : Nat) ^ (dec x).size ≤ 1000000000 ^ n := Nat.le_trans (Nat.pow_le_pow_left (by omega) _) (Nat.pow_le_pow_right (by omega) h)
 omega
theorem yD (neg : Bool) (u d : List UInt8) (w : World) (hsu : u.length ≤ 1000000000) (hsd : d.length ≤ 1000000000) (h : (plain u && plain d) = false) :
  Calls Tryd.prog 9 #[numB neg u d] w fun e w' => e = .returned (.bool (okM neg u d)) ∧ Below w.heap.size w w' := by
 have Hok : Hid (okM neg u d = false) := by show _ = _; rw [yc, h]; simp
 unfold numB
 have h1 := fun w => ji u w hsu
 have h2 := fun w => ji d w hsd
 have H2 := hide h2
 cases hu : plain u with
 | false =>
  rw [hu] at h1
  have H1 := hide h1
  clear h hu h1 h2
  go_enter Tryd.func9, Tryd.ntmps9
  go_wp2_with fail
  refine (za H1 _).mono ?_
  rintro e w1 ⟨rfl, hb1⟩
  have hb0 := zu hb1
  have hz0 : w.heap.size + 1 ≤ w1.heap.size := by have := hb1.size; simpa using this
  clear hb1
  go_wp2
  go_ret
  exact ⟨zx (za Hok).symm, zA hb0⟩
 | true =>
  rw [hu] at h1 h
  have hd : plain d = false := by simpa using h
  rw [hd] at H2
  have H1 := hide h1
  clear h hu hd h1 h2
  go_enter Tryd.func9, Tryd.ntmps9
  go_wp2_with fail
  refine (za H1 _).mono ?_
  rintro e w1 ⟨rfl, hb1⟩
  have hb0 := zu hb1
  have hz0 : w.heap.size + 1 ≤ w1.heap.size := by have := hb1.size; simpa using this
  clear hb1
  have c0 := zi hb0 0
  have c1 := zi hb0 1
  have c2 := zi hb0 2
  simp at c0 c1 c2
  go_wp2_with fail
  refine (za H2 _).mono ?_
  rintro e w2 ⟨rfl, hb2⟩
  have hn2 := zf hb0 hz0 hb2
  go_wp2
  go_ret
  exact ⟨zx (za Hok).symm, zA hn2.1⟩
theorem vQ (neg : Bool) (u d : List UInt8) (w : World) (hu : plain u = true) (hd : plain d = true) (hT : Tens w) :
  Calls Tryd.prog 9 #[numB neg u d] w fun e w' => e = .returned (.bool (okM neg u d)) ∧ Below w.heap.size w w' := by
 have hu' := hu
 have hd' := hd
 unfold plain at hu' hd'
 simp only [Bool.and_eq_true, decide_eq_true_eq] at hu' hd'
 have Hok : Hid (okM neg u d = (decide (zz d ≠ 0) && !(neg && decide (zz u = 0)) && decide (Nat.gcd (zz u) (zz d) = 1))) := by
  show _ = _; rw [yc, hu, hd]; simp
 have h1 := fun w => ji u w (by omega)
 have h2 := fun w => ji d w (by omega)
 rw [hu] at h1
 rw [hd] at h2
 have Bu : B u = dec (zz u) := by unfold dec txt; rw [← qf hu'.1]
 have Bd : B d = dec (zz d) := by unfold dec txt; rw [← qf hd'.1]
 have hau := zy u
 have had := zy d
 unfold numB
 rw [Bu] at h1 hau
 rw [Bd] at h2 had
 rw [Bu, Bd]
 have HT := hide hT
 have H1 := hide h1
 have H2 := hide h2
 generalize zz u = a at *
 generalize zz d = q at *
 have hsa : (dec a).size ≤ 60 := by omega
 have hsq : (dec q).size ≤ 60 := by omega
 have hga := qq hsa
 have hgq := qq hsq
 have ha0 := jA a
 have hq0 := jA q
 clear h1 h2 Bu Bd hu hd hu' hd' hau had hT
 by_cases hq : q = 0
 ·rw [decide_eq_true hq] at hq0
  have Hok : Hid (okM neg u d = false) := by show _ = _; rw [za Hok]; simp [hq]
  clear hq
  go_enter Tryd.func9, Tryd.ntmps9
  go_wp2_with fail
  refine (za H1 _).mono ?_
  rintro e w1 ⟨rfl, hb1⟩
  have hb0 := zu hb1
  have hz0 : w.heap.size + 1 ≤ w1.heap.size := by have := hb1.size; simpa using this
  clear hb1
  have c0 := zi hb0 0
  have c1 := zi hb0 1
  have c2 := zi hb0 2
  simp at c0 c1 c2
  go_wp2_with fail
  refine (za H2 _).mono ?_
  rintro e w2 ⟨rfl, hb2⟩
  have hn2 := zf hb0 hz0 hb2
  clear c0 c1 c2 hb2 hb0 hz0
  have c0 := zi hn2.1 0
  have c1 := zi hn2.1 1
  have c2 := zi hn2.1 2
  simp at c0 c1 c2
  go_wp2
  go_ret
  exact ⟨zx (za Hok).symm, zA hn2.1⟩
 ·rw [decide_eq_false hq] at hq0
  have hgg : (gr (Nat.gcd a q)).length ≤ 60 := qZ (Nat.gcd_le_right a (by omega)) hgq
  cases neg with
  | false =>
   have Hok : Hid (okM false u d = decide (Nat.gcd a q = 1)) := by show _ = _; rw [za Hok]; simp [hq]
   clear hq
   go_enter Tryd.func9, Tryd.ntmps9
   go_wp2_with fail
   refine (za H1 _).mono ?_
   rintro e w1 ⟨rfl, hb1⟩
   have hb0 := zu hb1
   have hz0 : w.heap.size + 1 ≤ w1.heap.size := by have := hb1.size; simpa using this
   clear hb1
   have c0 := zi hb0 0
   have c1 := zi hb0 1
   have c2 := zi hb0 2
   simp at c0 c1 c2
   go_wp2_with fail
   refine (za H2 _).mono ?_
   rintro e w2 ⟨rfl, hb2⟩
   have hn2 := zf hb0 hz0 hb2
   clear c0 c1 c2 hb2 hb0 hz0
   have c0 := zi hn2.1 0
   have c1 := zi hn2.1 1
   have c2 := zi hn2.1 2
   simp at c0 c1 c2
   have HT2 := hide ((za HT).below (zA hn2.1))
   have HW : Hid (Below (w.heap.size + 1) (w.alloc (.cells #[.bool false, .string (dec a), .string (dec q)] 26)) w2.drew ∧ w.heap.size + 1 ≤ w2.drew.heap.size) := hide ⟨hn2.1.drew, hn2.2⟩
   have HC : Hid (∀ wx : World, Below w2.drew.heap.size w2.drew wx → wx.cell? ⟨w.heap.size, 1, none⟩ = some (.string (dec a)) ∧ wx.cell? ⟨w.heap.size, 2, none⟩ = some (.string (dec q))) := by
    intro wx hx
    have hlt : w.heap.size < w2.drew.heap.size := hn2.2
    exact ⟨by rw [hx.cell (p := ⟨w.heap.size, 1, none⟩) hlt]; exact c1, by rw [hx.cell (p := ⟨w.heap.size, 2, none⟩) hlt]; exact c2⟩
   go_wp2
   go_region_with (first | (go_at_call_of 49 (dec a); refine (jB a _ (by omega) (by first | exact (za HT2) | exact Tens.below (w := w2.drew) (za HT2) (by assumption))).mono ?_; rintro e wa ⟨⟨va, rfl, hva⟩, hba⟩; have Hva := hide hva; have Hba := hide hba; clear hva; have ca1 : wa.cell? ⟨w.heap.size, 1, none⟩ = some (.string (dec a)) := (by first | exact (za HC _ hba).1 | exact (za HC _ ((za Hbq).trans (hba.mono (za Hbq).size))).1); have ca2 : wa.cell? ⟨w.heap.size, 2, none⟩ = some (.string (dec q)) := (by first | exact (za HC _ hba).2 | exact (za HC _ ((za Hbq).trans (hba.mono (za Hbq).size))).2)) | (go_at_call_of 49 (dec q); refine (jB q _ (by omega) (by first | exact (za HT2) | exact Tens.below (w := w2.drew) (za HT2) (by assumption))).mono ?_; rintro e wq ⟨⟨vq, rfl, hvq⟩, hbq⟩; have Hvq := hide hvq; have Hbq := hide hbq; clear hvq; have cq1 : wq.cell? ⟨w.heap.size, 1, none⟩ = some (.string (dec a)) := (by first | exact (za HC _ hbq).1 | exact (za HC _ ((za Hba).trans (hbq.mono (za Hba).size))).1); have cq2 : wq.cell? ⟨w.heap.size, 2, none⟩ = some (.string (dec q)) := (by first | exact (za HC _ hbq).2 | exact (za HC _ ((za Hba).trans (hbq.mono (za Hba).size))).2)) | (go_at_call 50; refine (gcd_c a q va vq _ (by first | exact za Hva | exact zb (za Hva) (za Hbq)) (by first | exact za Hvq | exact zb (za Hvq) (za Hba)) (by omega) (by omega)).mono ?_; rintro e wg ⟨⟨vg, rfl, hvg⟩, hbg⟩; have Hvg := hide hvg; have Hbg := hide hbg; clear hvg) | (go_at_call 51; refine (xw (Nat.gcd a q) vg _ (za Hvg) (by omega)).mono ?_; rintro e wi ⟨rfl, rfl⟩))
   all_goals
    go_wp2
    go_ret
    refine ⟨zx (za Hok).symm, zA (o := .cells #[.bool false, .string (dec a), .string (dec q)] 26) ?_⟩
    first
     | exact (zf (zf (zf (za HW).1 (za HW).2 (za Hba)).1 (zf (za HW).1 (za HW).2 (za Hba)).2 (za Hbq)).1 (zf (zf (za HW).1 (za HW).2 (za Hba)).1 (zf (za HW).1 (za HW).2 (za Hba)).2 (za Hbq)).2 (za Hbg)).1
     | exact (zf (zf (zf (za HW).1 (za HW).2 (za Hbq)).1 (zf (za HW).1 (za HW).2 (za Hbq)).2 (za Hba)).1 (zf (zf (za HW).1 (za HW).2 (za Hbq)).1 (zf (za HW).1 (za HW).2 (za Hbq)).2 (za Hba)).2 (za Hbg)).1
  | true =>
   by_cases ha : a = 0
   ·rw [decide_eq_true ha] at ha0
    have Hok : Hid (okM true u d = false) := by show _ = _; rw [za Hok]; simp [ha]
    clear hq ha
    go_enter Tryd.func9, Tryd.ntmps9
    go_wp2_with fail
    refine (za H1 _).mono ?_
    rintro e w1 ⟨rfl, hb1⟩
    have hb0 := zu hb1
    have hz0 : w.heap.size + 1 ≤ w1.heap.size := by have := hb1.size; simpa using this
    clear hb1
    have c0 := zi hb0 0
    have c1 := zi hb0 1
    have c2 := zi hb0 2
    simp at c0 c1 c2
    go_wp2_with fail
    refine (za H2 _).mono ?_
    rintro e w2 ⟨rfl, hb2⟩
    have hn2 := zf hb0 hz0 hb2
    clear c0 c1 c2 hb2 hb0 hz0
    have c0 := zi hn2.1 0
    have c1 := zi hn2.1 1
    have c2 := zi hn2.1 2
    simp at c0 c1 c2
    go_wp2
    go_ret
    exact ⟨zx (za Hok).symm, zA hn2.1⟩
   ·rw [decide_eq_false ha] at ha0
    have Hok : Hid (okM true u d = decide (Nat.gcd a q = 1)) := by show _ = _; rw [za Hok]; simp [hq, ha]
    clear hq ha
    go_enter Tryd.func9, Tryd.ntmps9
    go_wp2_with fail
    refine (za H1 _).mono ?_
    rintro e w1 ⟨rfl, hb1⟩
    have hb0 := zu hb1
    have hz0 : w.heap.size + 1 ≤ w1.heap.size := by have := hb1.size; simpa using this
    clear hb1
    have c0 := zi hb0 0
    have c1 := zi hb0 1
    have c2 := zi hb0 2
    simp at c0 c1 c2
    go_wp2_with fail
    refine (za H2 _).mono ?_
    rintro e w2 ⟨rfl, hb2⟩
    have hn2 := zf hb0 hz0 hb2
    clear c0 c1 c2 hb2 hb0 hz0
    have c0 := zi hn2.1 0
    have c1 := zi hn2.1 1
    have c2 := zi hn2.1 2
    simp at c0 c1 c2
    have HT2 := hide ((za HT).below (zA hn2.1))
    have HW : Hid (Below (w.heap.size + 1) (w.alloc (.cells #[.bool true, .string (dec a), .string (dec q)] 26)) w2.drew ∧ w.heap.size + 1 ≤ w2.drew.heap.size) := hide ⟨hn2.1.drew, hn2.2⟩
    have HC : Hid (∀ wx : World, Below w2.drew.heap.size w2.drew wx → wx.cell? ⟨w.heap.size, 1, none⟩ = some (.string (dec a)) ∧ wx.cell? ⟨w.heap.size, 2, none⟩ = some (.string (dec q))) := by
     intro wx hx
     have hlt : w.heap.size < w2.drew.heap.size := hn2.2
     exact ⟨by rw [hx.cell (p := ⟨w.heap.size, 1, none⟩) hlt]; exact c1, by rw [hx.cell (p := ⟨w.heap.size, 2, none⟩) hlt]; exact c2⟩
    go_wp2
    go_region_with (first | (go_at_call_of 49 (dec a); refine (jB a _ (by omega) (by first | exact (za HT2) | exact Tens.below (w := w2.drew) (za HT2) (by assumption))).mono ?_; rintro e wa ⟨⟨va, rfl, hva⟩, hba⟩; have Hva := hide hva; have Hba := hide hba; clear hva; have ca1 : wa.cell? ⟨w.heap.size, 1, none⟩ = some (.string (dec a)) := (by first | exact (za HC _ hba).1 | exact (za HC _ ((za Hbq).trans (hba.mono (za Hbq).size))).1); have ca2 : wa.cell? ⟨w.heap.size, 2, none⟩ = some (.string (dec q)) := (by first | exact (za HC _ hba).2 | exact (za HC _ ((za Hbq).trans (hba.mono (za Hbq).size))).2)) | (go_at_call_of 49 (dec q); refine (jB q _ (by omega) (by first | exact (za HT2) | exact Tens.below (w := w2.drew) (za HT2) (by assumption))).mono ?_; rintro e wq ⟨⟨vq, rfl, hvq⟩, hbq⟩; have Hvq := hide hvq; have Hbq := hide hbq; clear hvq; have cq1 : wq.cell? ⟨w.heap.size, 1, none⟩ = some (.string (dec a)) := (by first | exact (za HC _ hbq).1 | exact (za HC _ ((za Hba).trans (hbq.mono (za Hba).size))).1); have cq2 : wq.cell? ⟨w.heap.size, 2, none⟩ = some (.string (dec q)) := (by first | exact (za HC _ hbq).2 | exact (za HC _ ((za Hba).trans (hbq.mono (za Hba).size))).2)) | (go_at_call 50; refine (gcd_c a q va vq _ (by first | exact za Hva | exact zb (za Hva) (za Hbq)) (by first | exact za Hvq | exact zb (za Hvq) (za Hba)) (by omega) (by omega)).mono ?_; rintro e wg ⟨⟨vg, rfl, hvg⟩, hbg⟩; have Hvg := hide hvg; have Hbg := hide hbg; clear hvg) | (go_at_call 51; refine (xw (Nat.gcd a q) vg _ (za Hvg) (by omega)).mono ?_; rintro e wi ⟨rfl, rfl⟩))
    all_goals
     go_wp2
     go_ret
     refine ⟨zx (za Hok).symm, zA (o := .cells #[.bool true, .string (dec a), .string (dec q)] 26) ?_⟩
     first
      | exact (zf (zf (zf (za HW).1 (za HW).2 (za Hba)).1 (zf (za HW).1 (za HW).2 (za Hba)).2 (za Hbq)).1 (zf (zf (za HW).1 (za HW).2 (za Hba)).1 (zf (za HW).1 (za HW).2 (za Hba)).2 (za Hbq)).2 (za Hbg)).1
      | exact (zf (zf (zf (za HW).1 (za HW).2 (za Hbq)).1 (zf (za HW).1 (za HW).2 (za Hbq)).2 (za Hba)).1 (zf (zf (za HW).1 (za HW).2 (za Hbq)).1 (zf (za HW).1 (za HW).2 (za Hbq)).2 (za Hba)).2 (za Hbg)).1
theorem zN (neg : Bool) (u d : List UInt8) (w : World) (hsu : u.length ≤ 1000000000) (hsd : d.length ≤ 1000000000) (hT : Tens w) :
  Calls Tryd.prog 9 #[numB neg u d] w fun e w' => e = .returned (.bool (okM neg u d)) ∧ Below w.heap.size w w' := by
 cases h : plain u && plain d with
 | false => exact yD neg u d w hsu hsd h
 | true =>
  simp only [Bool.and_eq_true] at h
  exact vQ neg u d w h.1 h.2 hT
theorem zK {w : World} {base b : Nat} {v u0 u1 u2 u3 : Value} {x : Nat} (h : isNatB w base v x) (hb : b < base) : isNatB ((((w.setCell ⟨b, 0, none⟩ u0).setCell ⟨b, 1, none⟩ u1).setCell ⟨b, 2, none⟩ u2).setCell ⟨b, 3, none⟩ u3) base v x :=
 zB (zB (zB (zB h hb) hb) hb) hb
theorem far4 {w : World} {b : Nat} {u0 u1 u2 u3 : Value} {a : Addr} (h : b ≠ a.block) : ((((w.setCell ⟨b, 0, none⟩ u0).setCell ⟨b, 1, none⟩ u1).setCell ⟨b, 2, none⟩ u2).setCell ⟨b, 3, none⟩ u3).cell? a = w.cell? a := by
 rw [World.cell?_setCell_far _ _ _ _ h, World.cell?_setCell_far _ _ _ _ h, World.cell?_setCell_far _ _ _ _ h, World.cell?_setCell_far _ _ _ _ h]
theorem kt (n1 n2 : Bool) (v1 u1 v2 u2 : Value) (x1 y1 x2 y2 : Nat) (w : World) (hx1 : isNat w v1 x1) (hy1 : isNat w u1 y1) (hx2 : isNat w v2 x2) (hy2 : isNat w u2 y2) (hs1 : (gr x1).length ≤ 1000000) (hs2 : (gr x2).length ≤ 1000000) (ht1 : (gr y1).length ≤ 1000000) (ht2 : (gr y2).length ≤ 1000000)
  (hp1 : (gr (x1 * y2)).length ≤ 1000000) (hp2 : (gr (x2 * y1)).length ≤ 1000000) :
  Calls Tryd.prog 61 #[fracV n1 false v1 u1, fracV n2 false v2 u2] w fun e w' => (∃ z, e = .returned z ∧ qi w' w.heap.size z (plusW (n1, x1 * y2) (n2, x2 * y1))) ∧ Below w.heap.size w w' := by
 have h := ks n1 false n2 false v1 u1 v2 u2 x1 y1 x2 y2 w hx1 hy1 hx2 hy2 hs1 hs2 ht1 ht2 hp1 hp2
 rw [show (n1 != false) = n1 from by cases n1 <;> rfl, show (n2 != false) = n2 from by cases n2 <;> rfl] at h
 exact h
theorem yT (n1 n2 : Bool) (v1 u1 v2 u2 : Value) (x1 y1 x2 y2 : Nat) (w : World) (hx1 : isNat w v1 x1) (hy1 : isNat w u1 y1) (hx2 : isNat w v2 x2) (hy2 : isNat w u2 y2) (hs1 : (gr x1).length ≤ 1000000) (hs2 : (gr x2).length ≤ 1000000) (ht1 : (gr y1).length ≤ 1000000) (ht2 : (gr y2).length ≤ 1000000)
  (hp1 : (gr (x1 * y2)).length ≤ 1000000) (hp2 : (gr (x2 * y1)).length ≤ 1000000) :
  Calls Tryd.prog 66 #[fracV n1 false v1 u1, fracV n2 false v2 u2] w fun e w' => (∃ z, e = .returned z ∧ qi w' w.heap.size z (plusW (n1, x1 * y2) (!n2, x2 * y1))) ∧ Below w.heap.size w w' := by
 have h := yS n1 false n2 false v1 u1 v2 u2 x1 y1 x2 y2 w hx1 hy1 hx2 hy2 hs1 hs2 ht1 ht2 hp1 hp2
 rw [show (n1 != false) = n1 from by cases n1 <;> rfl, show (n2 != false) = n2 from by cases n2 <;> rfl] at h
 exact h
theorem qe (neg : Bool) (a q : Nat) (w : World) (ha : (dec a).size ≤ 60) (hq : (dec q).size ≤ 60) (hT : Tens w) :
  Calls Tryd.prog 106 #[.agg #[.bool neg, .string (dec a), .string (dec q)]] w fun e w' => (∃ v u, e = .returned (fracV neg false v u) ∧ isNatB w' w.heap.size v a ∧ isNatB w' w.heap.size u q) ∧ Below w.heap.size w w' := by
 have HW := hide (((Below.refl w.heap.size w).alloc (Nat.le_refl _) (.cells #[.bool neg, .string (dec a), .string (dec q)] 26)).alloc (by simp) (.cells #[.bool false, .slice none 0 0, .bool false, .slice none 0 0] 128))
 have HA := hide ((AtC.new w #[.bool neg, .string (dec a), .string (dec q)] 26).alloc (.cells #[.bool false, .slice none 0 0, .bool false, .slice none 0 0] 128))
 have HC := hide (AtC.new (w.alloc (.cells #[.bool neg, .string (dec a), .string (dec q)] 26)) #[.bool false, .slice none 0 0, .bool false, .slice none 0 0] 128)
 rw [World.size_alloc] at HC
 have HT := hide hT
 clear hT
 go_enter Tryd.func106, Tryd.ntmps106
 go_wp2
 go_region_held3 (fun w' => w'.cell? ⟨w.heap.size, 0, none⟩ = some (.bool neg) ∧ w'.cell? ⟨w.heap.size, 1, none⟩ = some (.string (dec a)) ∧ w'.cell? ⟨w.heap.size, 2, none⟩ = some (.string (dec q))) (((try dsimp only); (repeat' apply And.intro) <;> (first | with_reducible assumption | (rw [far4 (by first | (simp; done) | (simp; omega))]; with_reducible assumption) | exact (za HA).drew.c _))) (first | (go_at_call_of 49 (dec a); refine (jH a _ (by omega) (by exact (za HT).below (za HW).drew)).mono ?_; rintro e w1 ⟨⟨v, rfl, hv⟩, hb1⟩; obtain ⟨vp, vc, rfl⟩ := zd hv; have hA := (za HA).drew.below hb1; have hC := (za HC).drew.below hb1; have a10 : w1.cell? ⟨w.heap.size, 0, none⟩ = some (.bool neg) := hA.c 0; have a11 : w1.cell? ⟨w.heap.size, 1, none⟩ = some (.string (dec a)) := hA.c 1; have a12 : w1.cell? ⟨w.heap.size, 2, none⟩ = some (.string (dec q)) := hA.c 2; have HA1 := hide hA; have HC1 := hide hC; have Hv := hide hv; have HW1 := hide ((za HW).drew.trans (hb1.mono (za HW).drew.size)); clear hA hC hv hb1) | (go_at_call_of 49 (dec q); refine (jH q _ (by omega) (by exact (za HT).below (za HW1))).mono ?_; rintro e w2 ⟨⟨u, rfl, hu⟩, hb2⟩; obtain ⟨up, uc, rfl⟩ := zd hu; have hA := (za HA1).below hb2; have hC := (za HC1).below hb2; have a20 : w2.cell? ⟨w.heap.size, 0, none⟩ = some (.bool neg) := hA.c 0; have a21 : w2.cell? ⟨w.heap.size, 1, none⟩ = some (.string (dec a)) := hA.c 1; have a22 : w2.cell? ⟨w.heap.size, 2, none⟩ = some (.string (dec q)) := hA.c 2; have c20 : w2.cell? ⟨w.heap.size + 1, 0, none⟩ = some (.bool false) := hC.c 0; have c21 : w2.cell? ⟨w.heap.size + 1, 1, none⟩ = some (.slice none 0 0) := hC.c 1; have c22 : w2.cell? ⟨w.heap.size + 1, 2, none⟩ = some (.bool false) := hC.c 2; have c23 : w2.cell? ⟨w.heap.size + 1, 3, none⟩ = some (.slice none 0 0) := hC.c 3; have cf := hC.f; have hs := hC.lt; have Hu := hide hu; have Hv2 := hide (zl (za Hv) hb2); have hs1 := (za HC1).lt; have HW2 := hide ((za HW1).trans (hb2.mono (za HW1).size)); clear hA hC hu hb2))
 go_wp2
 have hcc := And.intro c20 (And.intro c21 (And.intro c22 c23))
 refine bodyPost_ret (v := .agg #[.bool neg, .slice vp (gr a).length vc, .bool false, .slice up (gr q).length uc]) (by simp [results, Tryd.results106, go_sem, hcc]) rfl ⟨⟨_, _, rfl, ?_, ?_⟩, ?_⟩
 ·have h0 := zK (b := w.heap.size + 1) (u0 := .bool neg) (u1 := .slice vp (gr a).length vc) (u2 := .bool false) (u3 := .slice up (gr q).length uc) (za Hv2) (by simp)
  exact zE h0 (by simp; omega)
 ·have h0 := zK (b := w.heap.size + 1) (u0 := .bool neg) (u1 := .slice vp (gr a).length vc) (u2 := .bool false) (u3 := .slice up (gr q).length uc) (za Hu) (by omega)
  exact zE h0 (by have := (za HW1).size; omega)
 ·exact ((((za HW2).setCell (by show w.heap.size ≤ w.heap.size + 1; omega) _).setCell (by show w.heap.size ≤ w.heap.size + 1; omega) _).setCell (by show w.heap.size ≤ w.heap.size + 1; omega) _).setCell (by show w.heap.size ≤ w.heap.size + 1; omega) _
end Go.Proofs.YtcnnicbaeicboaaDoor
