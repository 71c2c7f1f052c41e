/- A part of the proof, put together out of smaller texts. -/
import Derived.Test.YtpbnmhnbkfnaeaaGreatDoorM1
import Derived.Deep.RegionWith
set_option maxRecDepth 100000
set_option maxHeartbeats 32000000
namespace Go.Proofs.YtpbnmhnbkfnaeaaGreatDoor
open Go.RowKit Nt
theorem B_tl (l : List UInt8) : (B l).toList = l := by rw [ByteArray.toList_eq, x9]
theorem Vq : ∀ (l m : List Nat), l.length = m.length → (∀ d ∈ l, d < 10) → (∀ d ∈ m, d < 10) →
  Op.bytesLess (l.map sg) (m.map sg) = decide (ofd 10 l.reverse < ofd 10 m.reverse) := by
 intro l
 induction l with
 | nil => intro m h _ _; have : m = [] := List.eq_nil_of_length_eq_zero (by simpa using h.symm)
          subst this; simp [Op.bytesLess]
 | cons d r ih =>
  intro m h hl hm
  match m, h with
  | [], h => simp at h
  | c :: s, h =>
   have hrs : r.length = s.length := by simpa using h
   have hd := hl d (by simp)
   have hc := hm c (by simp)
   have hr := fun x hx => hl x (List.mem_cons_of_mem d hx)
   have hs := fun x hx => hm x (List.mem_cons_of_mem c hx)
   simp only [List.map_cons, Op.bytesLess, List.reverse_cons, ih s hrs hr hs]
   rw [zZ, zZ, List.length_reverse, List.length_reverse, ← hrs]
   have h1 := yi (b := 10) r.reverse (fun x hx => hr x (by simpa using hx))
   have h2 := yi (b := 10) s.reverse (fun x hx => hs x (by simpa using hx))
   rw [List.length_reverse] at h1 h2
   rw [← hrs] at h2
   generalize 10 ^ r.length = p at *
   have e1 : decide (sg d < sg c) = decide (d < c) := by
    simp only [UInt8.lt_iff_toNat_lt, qA (show d < 16 by omega), qA (show c < 16 by omega), if_pos hd, if_pos hc]; simp
   have e2 : (sg d == sg c) = decide (d = c) := by
    by_cases hdc : d = c
    ·subst hdc; simp
    ·have : sg d ≠ sg c := fun hh => hdc (zbG (by omega) (by omega) hh)
     simp [this, hdc]
   rw [e1, e2]
   rcases Nat.lt_trichotomy d c with hlt | heq | hgt
   ·have : p * (d + 1) ≤ p * c := Nat.mul_le_mul_left p hlt
    rw [Nat.mul_add] at this
    simp only [hlt, decide_true, Bool.true_or]
    symm; rw [decide_eq_true_iff]; omega
   ·subst heq; simp
   ·have : p * (c + 1) ≤ p * d := Nat.mul_le_mul_left p hgt
    rw [Nat.mul_add] at this
    have hn : ¬ d < c := by omega
    have hne : d ≠ c := by omega
    simp only [hn, hne, decide_false, Bool.false_and, Bool.or_false]
    symm; rw [decide_eq_false_iff_not]; omega
def hi10 (n : Nat) : List Nat := if n = 0 then [0] else (dg 10 n).reverse
theorem Zb (n : Nat) : txl 10 n = (hi10 n).map sg := by
 unfold txl hi10; split
 ·simp [sg]
 ·rw [List.map_reverse]
theorem Jg (n : Nat) : ∀ d ∈ hi10 n, d < 10 := by
 intro d hd; unfold hi10 at hd; split at hd
 ·simp at hd; omega
 ·exact dg_lt (by omega) n d (by simpa using hd)
theorem zad (n : Nat) : ofd 10 (hi10 n).reverse = n := by
 unfold hi10; split
 ·subst n; simp [ofd]
 ·rw [List.reverse_reverse, yB (by omega)]
theorem X9 {a b : Nat} (h : (dec a).size = (dec b).size) : Op.bytesLess (dec a).toList (dec b).toList = decide (a < b) := by
 unfold dec txt
 rw [B_tl, B_tl, Zb, Zb, Vq _ _ _ (Jg a) (Jg b), zad, zad]
 rw [zH, zH, Zb, Zb] at h
 simpa using h
theorem xZ (a b : Nat) : ((dec a).toList == (dec b).toList) = decide (a = b) := by
 by_cases h : a = b
 ·subst h; simp
 ·have : (dec a).toList ≠ (dec b).toList := by
   intro hh
   unfold dec txt at hh
   rw [B_tl, B_tl] at hh
   exact h (YC (by omega) (by omega) hh)
  simp [this, h]
theorem xw {a b : Nat} (h : (dec a).size < (dec b).size) : a < b := by
 rcases Nat.lt_or_ge a b with h1 | h1
 ·exact h1
 ·have := qk (b := 10) (by omega) (qW a) (Nat.lt_of_le_of_lt h1 (qH a))
  rw [← zH] at this; omega
def cmpN (a b : Nat) : Int := if a < b then -1 else if b < a then 1 else 0
theorem QY (a b : Nat) (w : World) (_hsa : (dec a).size ≤ 1000000000) (_hsb : (dec b).size ≤ 1000000000) :
  Calls Tryz.prog 152 #[.string (dec a), .string (dec b)] w fun e w' => e = .returned (.int .i64 (cmpN a b)) ∧ w' = w := by
 by_cases he : (dec a).size = (dec b).size
 ·have h1 := X9 he
  have h2 := xZ a b
  have h0 : ((dec a).size != (dec b).size) = false := by simp [he]
  have hI : (((dec a).size : Int) != ((dec b).size : Int)) = false := by simp [he]
  rcases Nat.lt_trichotomy a b with hlt | heq | hgt
  ·have hr : cmpN a b = -1 := by simp [cmpN, hlt]
   rw [decide_eq_true hlt] at h1
   rw [hr]
   clear he h2 h0 hr
   go_enter Tryz.func152, Tryz.ntmps152
   go_wp2
   go_ret
   exact ⟨rfl, rfl⟩
  ·subst heq
   have hr : cmpN a a = 0 := by simp [cmpN]
   rw [decide_eq_false (by omega)] at h1
   rw [hr]
   clear he h0 hr
   go_enter Tryz.func152, Tryz.ntmps152
   go_wp2
   go_ret
   exact ⟨rfl, rfl⟩
  ·have hr : cmpN a b = 1 := by unfold cmpN; rw [if_neg (by omega), if_pos hgt]
   rw [decide_eq_false (by omega)] at h1 h2
   rw [hr]
   clear he h0 hr
   go_enter Tryz.func152, Tryz.ntmps152
   go_wp2
   go_ret
   exact ⟨rfl, rfl⟩
 ·have hI : (((dec a).size : Int) != ((dec b).size : Int)) = true := by rw [bne_iff_ne]; omega
  by_cases hlt : (dec a).size < (dec b).size
  ·have hr : cmpN a b = -1 := by simp [cmpN, xw hlt]
   rw [hr]
   clear he hr
   go_enter Tryz.func152, Tryz.ntmps152
   go_wp2
   go_ret
   exact ⟨rfl, rfl⟩
  ·have hgt := xw (a := b) (b := a) (by omega)
   have hr : cmpN a b = 1 := by unfold cmpN; rw [if_neg (by omega), if_pos hgt]
   rw [hr]
   clear he hr hgt
   go_enter Tryz.func152, Tryz.ntmps152
   go_wp2
   go_ret
   exact ⟨rfl, rfl⟩
def isDec (l : List UInt8) : Bool := l != [] && l.all (fun c => 48 ≤ c && c ≤ 57) && (l.length ≤ 1 || l.head? != some 48)
theorem yL (n : Nat) : isDec (txl 10 n) = true := by
 have hall : (txl 10 n).all (fun c => 48 ≤ c && c ≤ 57) = true := by
  rw [List.all_eq_true]
  intro c hc
  rw [Zb] at hc
  obtain ⟨d, hd, rfl⟩ := List.mem_map.1 hc
  have := Jg n d hd
  simp only [Bool.and_eq_true, decide_eq_true_eq, UInt8.le_iff_toNat_le, qA (show d < 16 by omega), if_pos this]
  simp; omega
 have hne : txl 10 n ≠ [] := fun h => by have := yu (b := 10) (by omega) n; rw [h] at this; simp at this
 have hlead : (txl 10 n).length ≤ 1 ∨ (txl 10 n).head? ≠ some 48 := by
  have ht := Vb n
  cases hl : txl 10 n with
  | nil => left; simp
  | cons c r =>
   by_cases hr : r = []
   ·left; subst hr; simp
   ·right
    intro hc
    simp at hc
    subst hc
    rw [hl] at ht
    simp only [trim] at ht
    rw [if_pos ⟨trivial, hr⟩] at ht
    have := vv r
    have := congrArg List.length ht
    simp at this; omega
 unfold isDec
 simp only [bne_iff_ne, Bool.and_eq_true, Bool.or_eq_true, decide_eq_true_eq]
 exact ⟨⟨by simpa using hne, hall⟩, hlead⟩
def zy (l : List UInt8) : Nat := ofd 10 ((l.map fun c => c.toNat - 48).reverse)
theorem qj {l : List UInt8} (h : isDec l = true) : l = txl 10 (zy l) := by
 unfold isDec at h
 simp only [bne_iff_ne, Bool.and_eq_true, Bool.or_eq_true, decide_eq_true_eq] at h
 obtain ⟨⟨hne, hall⟩, hlead⟩ := h
 rw [List.all_eq_true] at hall
 have hc : ∀ c ∈ l, 48 ≤ c.toNat ∧ c.toNat ≤ 57 := by
  intro c hc; have := hall c hc
  simp only [Bool.and_eq_true, decide_eq_true_eq, UInt8.le_iff_toNat_le] at this
  simpa using this
 have hm : (l.map fun c => c.toNat - 48).map sg = l := by
  rw [List.map_map]
  have : ∀ c ∈ l, (sg ∘ fun c : UInt8 => c.toNat - 48) c = id c := by
   intro c hcl
   have := hc c hcl
   apply UInt8.toNat_inj.1
   simp only [Function.comp, id]
   rw [qA (by omega), if_pos (by omega)]; omega
  rw [List.map_congr_left this, List.map_id]
 have hd : ∀ d ∈ (l.map fun c => c.toNat - 48).reverse, d < 10 := by
  intro d hd
  rw [List.mem_reverse] at hd
  obtain ⟨c, hcl, rfl⟩ := List.mem_map.1 hd
  have := hc c hcl
  show c.toNat - 48 < 10
  omega
 have ht := vl _ hd (by simpa using hne)
 rw [List.map_reverse, List.reverse_reverse, hm] at ht
 unfold zy
 rw [← ht]
 symm
 apply Qf
 rcases hlead with h1 | h1
 ·exact .inl h1
 ·right
  cases l with
  | nil => exact absurd rfl hne
  | cons c r => exact ⟨c, r, rfl, fun h => h1 (by simp [h])⟩
def isDig (c : UInt8) : Bool := 48 ≤ c && c ≤ 57
theorem Qq (c : UInt8) : isDig c = true ↔ 48 ≤ c.toNat ∧ c.toNat ≤ 57 := by
 simp [isDig, UInt8.le_iff_toNat_le]
theorem jY {l : List UInt8} (k : Nat) (h : k < l.length) (hb : ¬ (48 ≤ l[k].toNat ∧ l[k].toNat ≤ 57)) : isDec l = false := by
 cases hd : isDec l with
 | false => rfl
 | true =>
  unfold isDec at hd
  simp only [bne_iff_ne, Bool.and_eq_true, Bool.or_eq_true, decide_eq_true_eq] at hd
  have := List.all_eq_true.1 hd.1.2 l[k] (List.getElem_mem h)
  exact absurd ((Qq _).1 this) hb
theorem vR {l : List UInt8} (h0 : 0 < l.length) (hl : l.length ≤ 1 ∨ l.head? ≠ some 48) (h : ∀ k (hk : k < l.length), 48 ≤ l[k].toNat ∧ l[k].toNat ≤ 57) : isDec l = true := by
 unfold isDec
 simp only [bne_iff_ne, Bool.and_eq_true, Bool.or_eq_true, decide_eq_true_eq]
 refine ⟨⟨fun hh => by rw [hh] at h0; simp at h0, ?_⟩, hl⟩
 rw [List.all_eq_true]
 intro c hc
 obtain ⟨k, hk, rfl⟩ := List.getElem_of_mem hc
 exact (Qq _).2 (h k hk)
theorem jr (l : List UInt8) (w : World) (hs : l.length ≤ 1000000000) :
  Calls Tryz.prog 121 #[.string (B l)] w fun e w' => e = .returned (.bool (isDec l)) ∧ w' = w := by
 have hsz : (B l).size ≤ 1000000000 := by rw [zi]; exact hs
 have hI : ((B l).size : Int) = (l.length : Int) := by rw [zi]
 by_cases hz : l.length = 0
 ·have : l = [] := List.eq_nil_of_length_eq_zero hz
  subst this
  have h0 : (((B []).size : Int) == 0) = true := by simp [zi]
  clear hI hs hsz hz
  go_enter Tryz.func121, Tryz.ntmps121
  go_wp2
  go_ret
  exact ⟨rfl, rfl⟩
 ·have h0 : 0 < l.length := by omega
  have h0I : (((B l).size : Int) == 0) = false := by rw [beq_eq_false_iff_ne]; omega
  by_cases h1 : 1 < l.length
  ·have h1I : (1 : Int) < ((B l).size : Int) := by omega
   have hg0 : 0 < (B l).size := by omega
   have hg : ((B l)[0]'hg0).toNat = (l[0]'h0).toNat := by rw [B_get]
   by_cases hc : l[0]'h0 = 48
   ·have hq : ((((B l)[0]'hg0).toNat : Int) == 48) = true := by rw [hg, hc]; rfl
    have hf : isDec l = false := by
     cases hd : isDec l with
     | false => rfl
     | true =>
      unfold isDec at hd
      simp only [bne_iff_ne, Bool.and_eq_true, Bool.or_eq_true, decide_eq_true_eq] at hd
      rcases hd.2 with h2 | h2
      ·omega
      ·exact absurd (by rw [List.head?_eq_getElem?, List.getElem?_eq_getElem h0, hc]) h2
    rw [hf]
    clear hI hc hg hf hz
    go_enter Tryz.func121, Tryz.ntmps121
    go_wp2
    go_ret
    exact ⟨rfl, rfl⟩
   ·have hq : ((((B l)[0]'hg0).toNat : Int) == 48) = false := by
     rw [hg, beq_eq_false_iff_ne]
     intro hh
     apply hc
     apply UInt8.toNat_inj.1
     simp only [UInt8.toNat_ofNat]; omega
    have hl0 : Hid (l.length ≤ 1 ∨ l.head? ≠ some 48) := .inr (by
     rw [List.head?_eq_getElem?, List.getElem?_eq_getElem h0]
     intro hh; exact hc (by simpa using hh))
    clear hI hc hg hz
    go_enter Tryz.func121, Tryz.ntmps121
    go_wp2
    go_loop [3] (fun i => ∃ k : Nat, k ≤ l.length ∧ i = .int .i64 k ∧ Hid (∀ j (hj : j < l.length), j < k → 48 ≤ l[j].toNat ∧ l[j].toNat ≤ 57)) (fun i => l.length - (intOf i).toNat)
    case atStart => exact ⟨0, Nat.zero_le _, rfl, hide (fun j _ h => by omega)⟩
    case round =>
     clear hq
     obtain ⟨k, hk, rfl, hv⟩ := hrel
     by_cases hlt : k < l.length
     ·have hlt2 : k < (B l).size := by rw [zi]; exact hlt
      have hgk : ((B l)[k]'hlt2).toNat = (l[k]'hlt).toNat := by rw [B_get]
      by_cases h1 : ((l[k]'hlt).toNat : Int) < 48
      ·go_wp2
       go_ret
       exact ⟨zD (by rw [jY k hlt (by omega)]), rfl⟩
      ·by_cases h2 : 57 < ((l[k]'hlt).toNat : Int)
       ·go_wp2
        go_ret
        exact ⟨zD (by rw [jY k hlt (by omega)]), rfl⟩
       ·have h3 : 48 ≤ (l[k]'hlt).toNat ∧ (l[k]'hlt).toNat ≤ 57 := by omega
        have hv2 : Hid (∀ j (hj : j < l.length), j < k + 1 → 48 ≤ l[j].toNat ∧ l[j].toNat ≤ 57) := by
         intro j hj hjk
         by_cases hjk2 : j < k
         ·exact za hv j hj hjk2
         ·have : j = k := by omega
          subst this; exact h3
        go_wp2
        go_round
        case rel => exact ⟨k + 1, by omega, by go_num, hv2⟩
        case measure => simp [intOf]; omega
     ·have hlt2 : ¬ k < (B l).size := by rw [zi]; exact hlt
      have fin : isDec l = true := vR h0 (za hl0) (fun j hj => za hv j hj (by omega))
      have Fin := hide fin
      clear fin
      go_wp2
      go_ret
      exact ⟨zD (za Fin).symm, rfl⟩
  ·have h1I : ¬ (1 : Int) < ((B l).size : Int) := by omega
   have hl0 : Hid (l.length ≤ 1 ∨ l.head? ≠ some 48) := .inl (by omega)
   clear hI hz
   go_enter Tryz.func121, Tryz.ntmps121
   go_wp2
   go_loop [3] (fun i => ∃ k : Nat, k ≤ l.length ∧ i = .int .i64 k ∧ Hid (∀ j (hj : j < l.length), j < k → 48 ≤ l[j].toNat ∧ l[j].toNat ≤ 57)) (fun i => l.length - (intOf i).toNat)
   case atStart => exact ⟨0, Nat.zero_le _, rfl, hide (fun j _ h => by omega)⟩
   case round =>
    obtain ⟨k, hk, rfl, hv⟩ := hrel
    by_cases hlt : k < l.length
    ·have hlt2 : k < (B l).size := by rw [zi]; exact hlt
     have hgk : ((B l)[k]'hlt2).toNat = (l[k]'hlt).toNat := by rw [B_get]
     by_cases h1 : ((l[k]'hlt).toNat : Int) < 48
     ·go_wp2
      go_ret
      exact ⟨zD (by rw [jY k hlt (by omega)]), rfl⟩
     ·by_cases h2 : 57 < ((l[k]'hlt).toNat : Int)
      ·go_wp2
       go_ret
       exact ⟨zD (by rw [jY k hlt (by omega)]), rfl⟩
      ·have h3 : 48 ≤ (l[k]'hlt).toNat ∧ (l[k]'hlt).toNat ≤ 57 := by omega
       have hv2 : Hid (∀ j (hj : j < l.length), j < k + 1 → 48 ≤ l[j].toNat ∧ l[j].toNat ≤ 57) := by
        intro j hj hjk
        by_cases hjk2 : j < k
        ·exact za hv j hj hjk2
        ·have : j = k := by omega
         subst this; exact h3
       go_wp2
       go_round
       case rel => exact ⟨k + 1, by omega, by go_num, hv2⟩
       case measure => simp [intOf]; omega
    ·have hlt2 : ¬ k < (B l).size := by rw [zi]; exact hlt
     have fin : isDec l = true := vR h0 (za hl0) (fun j hj => za hv j hj (by omega))
     have Fin := hide fin
     clear fin
     go_wp2
     go_ret
     exact ⟨zD (za Fin).symm, rfl⟩
def digN (c : UInt8) : Nat := if 48 ≤ c.toNat ∧ c.toNat ≤ 57 then c.toNat - 48 else if 97 ≤ c.toNat ∧ c.toNat ≤ 102 then c.toNat - 87 else 99
theorem Xc (c : UInt8) (w : World) :
  Calls Tryz.prog 131 #[.int .u8 c.toNat] w fun e w' => e = .returned (.int .i64 (digN c : Nat)) ∧ w' = w := by
 have hc : c.toNat < 256 := c.toNat_lt
 have hd : digN c = if 48 ≤ c.toNat ∧ c.toNat ≤ 57 then c.toNat - 48 else if 97 ≤ c.toNat ∧ c.toNat ≤ 102 then c.toNat - 87 else 99 := rfl
 generalize c.toNat = n at *
 generalize digN c = d at *
 by_cases h1 : 48 ≤ n ∧ n ≤ 57
 ·rw [if_pos h1] at hd
  have e : (n : Int) - 48 = (d : Int) := by omega
  obtain ⟨ha, hb⟩ := h1
  clear hd
  go_enter Tryz.func131, Tryz.ntmps131
  go_wp2
  go_ret
  exact ⟨zF (by omega), rfl⟩
 ·rw [if_neg h1] at hd
  by_cases h2 : 97 ≤ n ∧ n ≤ 102
  ·rw [if_pos h2] at hd
   obtain ⟨ha, hb⟩ := h2
   have e : (n : Int) - 97 + 10 = (d : Int) := by omega
   have hh : ¬ (n : Int) ≤ 57 := by omega
   clear hd h1
   go_enter Tryz.func131, Tryz.ntmps131
   go_wp2
   go_ret
   exact ⟨zF (by omega), rfl⟩
  ·rw [if_neg h2] at hd
   subst hd
   by_cases h3 : 48 ≤ n
   ·have h4 : ¬ (n : Int) ≤ 57 := by omega
    by_cases h5 : 97 ≤ n
    ·have h6 : ¬ (n : Int) ≤ 102 := by omega
     clear h1 h2
     go_enter Tryz.func131, Tryz.ntmps131
     go_wp2
     go_ret
     exact ⟨rfl, rfl⟩
    ·clear h1 h2
     go_enter Tryz.func131, Tryz.ntmps131
     go_wp2
     go_ret
     exact ⟨rfl, rfl⟩
   ·clear h1 h2
    go_enter Tryz.func131, Tryz.ntmps131
    go_wp2
    go_ret
    exact ⟨rfl, rfl⟩
theorem vZ {P : Program} {src dst e : TypeId} (hs : P.underlying src = some (.slice e)) (he : P.underlying e = some (.int .u8)) (hd : P.underlying dst = some .string) (W w1 : World) (d : Nat) (hd10 : d < 10)
  (hb : Below (W.heap.size + 1) (W.alloc (.cells #[.int .u8 (48 + (d : Int))] e)) w1) :
  (convert src dst (.slice (some ⟨W.heap.size, 0, none⟩) 1 1)).run P w1 = .ok (.string (B [sg d])) w1 := by
 have h0 := World.ownsRow_lit (base := 0) (e := e) (size := 1) W #[.int .u8 (48 + (d : Int))] 1 (Nat.zero_le _) (by decide) (by simp)
 have h1 := zr h0 (by simpa using hb)
 have e1 : (#[Value.int .u8 (48 + (d : Int))] : Array Value).toList = [sg d].map u8v := by simp [QZ hd10]
 rw [e1] at h1
 exact qx hs he hd h1
theorem ky (b : Nat) (hb : 2 ≤ b) (n : Nat) (h : b ≤ n) : txl b n = txl b (n / b) ++ [sg (n % b)] := by
 have h0 : n ≠ 0 := by omega
 have hq : n / b ≠ 0 := by
  intro hh
  rcases Nat.div_eq_zero_iff.1 hh with h1 | h1 <;> omega
 rw [ja h0, jQ hb (by omega), ja hq]; simp
theorem jG (b : Nat) (hb : 2 ≤ b) (n : Nat) (h : n < b) : txl b n = [sg n] := by
 by_cases h0 : n = 0
 ·subst h0; simp [qh, sg]
 ·rw [ja h0, jQ hb (by omega), Nat.mod_eq_of_lt h, Nat.div_eq_of_lt h, qJ]; simp
theorem jV (n : Nat) (hn : n ≤ 9223372036854775807) (w : World) :
  Calls Tryz.prog 124 #[.int .i64 n] w fun e w' => e = .returned (.string (dec n)) ∧ Below w.heap.size w w' := by
 induction n using Nat.strongRecOn generalizing w with
 | _ n ih =>
  by_cases h : n < 10
  ·have hfin : B [sg n] = dec n := by rw [dec, txt, jG 10 (by omega) n h]
   have Fin := hide hfin
   have hconv := vZ (dst := 9) Tryz.underlying22 Tryz.underlying5 Tryz.underlying9 w _ n h (Below.refl _ _)
   clear ih hfin
   go_enter Tryz.func124, Tryz.ntmps124
   go_wp2
   go_ret
   exact ⟨zT (za Fin), (Below.refl _ _).alloc (Nat.le_refl _) _⟩
  ·have hlt : n / 10 < n := Nat.div_lt_self (by omega) (by omega)
   have hq := ih (n / 10) hlt (by omega)
   have hfin : dec (n / 10) ++ B [sg (n % 10)] = dec n := by
    unfold dec txt; rw [zN, ← ky 10 (by omega) n (by omega)]
   have Fin := hide hfin
   have Hq := hide hq
   have hm : n % 10 < 10 := Nat.mod_lt _ (by omega)
   have hconv := fun (W : World) => vZ (P := Tryz.prog) (src := 22) (dst := 9) Tryz.underlying22 Tryz.underlying5 Tryz.underlying9 W _ (n % 10) hm (Below.refl _ _)
   have hconv2 := fun (W w1 : World) => vZ (P := Tryz.prog) (src := 22) (dst := 9) Tryz.underlying22 Tryz.underlying5 Tryz.underlying9 W w1 (n % 10) hm
   clear ih hfin hq
   obtain ⟨q, hqd⟩ : ∃ q : Nat, n / 10 = q := ⟨_, rfl⟩
   obtain ⟨r, hrd⟩ : ∃ r : Nat, n % 10 = r := ⟨_, rfl⟩
   rw [hrd] at hconv hconv2 hm Fin
   rw [hqd] at Fin Hq hlt
   have e1 : (n : Int) / 10 = (q : Int) := by omega
   have e2 : (n : Int).tmod 10 = (r : Int) := by rw [Int.tmod_eq_emod_of_nonneg (by omega)]; omega
   have e3 := wi64 (q : Int) (by omega) (by omega)
   have e4 := wi64 (48 + (r : Int)) (by omega) (by omega)
   have e5 := wu8 (48 + (r : Int)) (by omega) (by omega)
   have hqs : (dec q).size ≤ 19 := by
    rw [zH]; exact qk (by omega) (by omega) (by omega)
   have hrs : (B [sg r]).size ≤ 1 := by rw [zi]; simp
   have hns : ¬ 9223372036854775807 < (dec q).size + (B [sg r]).size := by omega
   have hns2 : ¬ (9223372036854775807 < ((dec q).size : Int) + ((B [sg r]).size : Int)) := by omega
   clear hqd hrd
   go_enter Tryz.func124, Tryz.ntmps124
   go_wp2
   have hcv0 := hconv2 w (w.alloc (.cells #[.int .u8 (48 + (r : Int))] 5)).drew ((Below.refl _ _).drew)
   go_region_with (go_at_call 124; refine (za Hq _).mono ?_; rintro e w1 ⟨rfl, hb1⟩; try have hcv := hconv2 w w1 (jF (by simpa using hb1)))
   all_goals
    go_wp2
    go_ret
    refine ⟨zT (za Fin), ?_⟩
    first
     | exact (jF hb1).alloc hb1.size _
     | exact ((Below.refl _ _).alloc (Nat.le_refl _) _).trans ((jF hb1).mono (by simp))
theorem ZE (l : List Nat) (j : Nat) (h : j < l.length) : (ints l)[j]? = some (.int .i64 (l[j] : Nat)) := by simp [ints, h]
theorem Vv (l : List Nat) (j d : Nat) : (ints l).set j (.int .i64 (d : Int)) = ints (l.set j d) := by simp [ints, List.map_set]
theorem Xe (n : Nat) : List.replicate n (Value.int .i64 0) = ints (List.replicate n 0) := by simp [ints]
theorem Qy (l : List Nat) (j d : Nat) (v : Int) (h : v = (d : Int)) : (ints l).set j (.int .i64 v) = ints (l.set j d) := by rw [h, Vv]
theorem X5 {xs : List Nat} {L j X : Nat} (hl : xs.length = L) (hj : j + 1 = L) (h : ∀ t (ht : t < xs.length), t < j → xs[t] < 10) (hX : ofd 10 xs = X) (hlt : X < 10 ^ L) : ∀ d ∈ xs, d < 10 := by
 intro d hd
 obtain ⟨t, ht, rfl⟩ := List.getElem_of_mem hd
 by_cases htj : t < j
 ·exact h t ht htj
 ·have htj2 : t = j := by omega
  subst htj2
  have h1 := V9 10 xs t ht
  rw [hX] at h1
  rw [← hj, Nat.pow_succ] at hlt
  have h2 : 10 ^ t * xs[t] < 10 ^ t * 10 := by omega
  exact Nat.lt_of_mul_lt_mul_left h2
theorem VX {a b i la lb L : Nat} (hla : (dec a).size = la) (hlb : (dec b).size = lb) (hL : la + lb = L) : a % 10 ^ (i + 1) * b < 10 ^ L := by
 have h1 := qH a
 have h2 := qH b
 rw [hla] at h1
 rw [hlb] at h2
 rw [← hL, Nat.pow_add 10 la lb]
 exact Nat.mul_lt_mul'' (Nat.lt_of_le_of_lt (Nat.mod_le _ _) h1) h2
theorem KS {xs : List Nat} {j x y q r X : Nat} (hj : j + 1 < xs.length) (hx : xs[j]'(by omega) = x) (hy : xs[j + 1] = y) (hq : x / 10 = q) (hr : x % 10 = r) (hX : ofd 10 xs = X) :
  ofd 10 ((xs.set (j + 1) (y + q)).set j r) = X := by
 have h1 := jH 10 xs (j + 1) (y + q) hj
 have h2 := jH 10 (xs.set (j + 1) (y + q)) j r (by rw [List.length_set]; omega)
 rw [List.getElem_set_ne (by omega), hx] at h2
 rw [hy, hX, ← hq] at h1
 rw [← hr, ← hq] at h2
 have := Yd h1 h2
 rw [← hq, ← hr]; exact this
abbrev rowOf (w : World) (L : Nat) : Value := .slice (some ⟨w.heap.size, 0, none⟩) L L
theorem Q4 (a b : Nat) (w : World) (hsa : (dec a).size ≤ 100000) (hsb : (dec b).size ≤ 100000) :
  Calls Tryz.prog 133 #[.string (dec a), .string (dec b)] w fun e w' => e = .returned (.string (dec (a * b))) ∧ Below w.heap.size w w' := by
 obtain ⟨i0, hi, hz0, hz1, hz2⟩ := info_parts Tryz.infoInt
 obtain ⟨la, hla⟩ : ∃ la, (dec a).size = la := ⟨_, rfl⟩
 obtain ⟨lb, hlb⟩ : ∃ lb, (dec b).size = lb := ⟨_, rfl⟩
 have Hla := hide hla
 have Hlb := hide hlb
 obtain ⟨L, hL⟩ : ∃ L, la + lb = L := ⟨_, rfl⟩
 have hLI : (la : Int) + lb = L := by omega
 have HL := hide hL
 have hlaI : ((dec a).size : Int) = la := by omega
 have hlbI : ((dec b).size : Int) = lb := by omega
 rw [hla] at hsa
 rw [hlb] at hsb
 have hLs : L ≤ 200000 := by omega
 have hlaL : la ≤ L := by omega
 clear hL
 go_enter Tryz.func133, Tryz.ntmps133
 go_wp2_with (refine wpList_make_full _ rfl (.tmp 13) (.tmp 13) 24 rfl w.heap.size 3 i0 (.int .i64 0) 1 Tryz.underlying24 hi hz0 hz1 .i64 .i64 L L L rfl rfl rfl rfl (by rw [hz2]; omega) (by unfold maxLen; omega) (Nat.le_refl _) ?_; intro w1 hown1 hg1)
 go_loopw [6, 7, 8] (fun i k j wr => ∃ (i' : Nat) (xs : List Nat), i' ≤ la ∧ i = .int .i64 i' ∧ xs.length = L ∧ wr.ownsRow w.heap.size 3 1 (rowOf w L) L (ints xs) ∧ Below w.heap.size w wr ∧
   Hid (∀ d ∈ xs, d < 10) ∧ Hid (ofd 10 xs = a % 10 ^ i' * b))
  (fun i _ _ _ => la - (intOf i).toNat)
 case atStart =>
  refine ⟨0, List.replicate L 0, Nat.zero_le _, rfl, by simp, ?_, (Below.refl _ _).grown hg1 (Nat.le_refl _) (fun _ h => by cases h), ?_, ?_⟩
  ·simpa [Value.cells, toList_madeCells_one, Xe] using hown1
  ·intro d hd; simp at hd; omega
  ·show _ = _; rw [z6]; simp [Nat.mod_one]
 case round =>
  clear hown1 hg1
  obtain ⟨i', xs, hi', rfl, hxl, hown, hb, hdg, hval⟩ := hrel
  by_cases hlt : i' < la
  ·have hai : a / 10 ^ i' % 10 < 10 := Nat.mod_lt _ (by omega)
   generalize hga : a / 10 ^ i' % 10 = ai at *
   have Ha := hide hga
   clear hga
   go_wp2
   go_loopw [7] (fun k wr => ∃ (k' : Nat) (xs : List Nat), k' ≤ lb ∧ k = .int .i64 k' ∧ xs.length = L ∧ wr.ownsRow w.heap.size 3 1 (rowOf w L) L (ints xs) ∧ Below w.heap.size w wr ∧
     Hid (∀ d ∈ xs, d ≤ 90) ∧ Hid (∀ j (h : j < xs.length), i' + k' ≤ j → xs[j] < 10) ∧ Hid (ofd 10 xs = a % 10 ^ i' * b + 10 ^ i' * (ai * (b % 10 ^ k'))))
    (fun k _ => lb - (intOf k).toNat)
   case atStart =>
    exact ⟨0, xs, Nat.zero_le _, rfl, hxl, hown, hb, hide (fun d hd => by have := za hdg d hd; omega), hide (fun j h _ => za hdg _ (List.getElem_mem h)), hide (by rw [za hval]; simp [Nat.mod_one])⟩
   case round =>
    clear hown hb hdg hval hxl
    clear xs
    obtain ⟨k', xs, hk', rfl, hxl, hown, hb, hdg, hup, hval⟩ := hrel
    by_cases hlt2 : k' < lb
    ·have hbk : b / 10 ^ k' % 10 < 10 := Nat.mod_lt _ (by omega)
     generalize hgb : b / 10 ^ k' % 10 = bk at *
     have Hb := hide hgb
     clear hgb
     have hjL : i' + k' < L := by omega
     have hx10 : xs[i' + k']'(by omega) < 10 := za hup _ (by omega) (Nat.le_refl _)
     have hcell := hown.cellAt (i' + k') (by omega)
     rw [ZE _ _ (by omega)] at hcell
     have hfr := hown.frozenAt (i' + k')
     generalize hx : xs[i' + k']'(by omega) = x at *
     have Hx := hide hx
     have hmul : ai * bk ≤ 9 * 9 := Nat.mul_le_mul (by omega) (by omega)
     generalize hpp : ai * bk = pp at *
     have hppI : (ai : Int) * bk = pp := by rw [← hpp]; simp
     have Hpp := hide hpp
     clear hx hpp
     have hst := hown.stored (i' + k') (.int .i64 ((x : Int) + pp))
     rw [Qy _ _ (x + pp) _ (by simp)] at hst
     have Hst := hide hst
     clear hst
     have e1 := wi64 ((i' : Int) + k') (by omega) (by omega)
     have e2 := wi64 (pp : Int) (by omega) (by omega)
     have e3 := wi64 ((x : Int) + pp) (by omega) (by omega)
     have e4 : ((i' : Int) + k').toNat = i' + k' := by omega
     have hix : (i' : Int) + k' < L := by omega
     go_wp2
     go_region_with (first | (go_at_call_of 163 (dec a); refine (vH a i' ai _ (za Ha) (by omega) (by omega)).mono ?_; rintro e w1 ⟨rfl, rfl⟩) | (go_at_call_of 163 (dec b); refine (vH b k' bk _ (za Hb) (by omega) (by omega)).mono ?_; rintro e w1 ⟨rfl, rfl⟩))
     all_goals
      go_wp2
      go_roundw
      case rel =>
       refine ⟨k' + 1, xs.set (i' + k') (x + pp), by omega, by go_num, by simpa using hxl, (za Hst).1, ?_, hide (qy (za hdg) (by omega)), ?_, ?_⟩
       ·first
        | exact (hb.setCell (by simp) _).drew
        | exact hb.setCell (by simp) _
       ·intro j hj hij
        rw [List.getElem_set_ne (by omega)]
        exact za hup j (by simpa using hj) (by omega)
       ·have hs := jH 10 xs (i' + k') (x + pp) (by omega)
        rw [za Hx, ← za Hpp] at hs
        have := XY (za Ha) (za Hb) (za hval) hs
        rw [za Hpp] at this
        exact this
      case measure => simp [intOf]; omega
    ·have hkl : k' = lb := by omega
     subst hkl
     have hlen := Nat.lt_of_le_of_lt (Nat.zero_le _) hlt
     go_wp2
     go_loopw [8] (fun j wr => ∃ (j' : Nat) (xs : List Nat), j' + 1 ≤ L ∧ j = .int .i64 j' ∧ xs.length = L ∧ wr.ownsRow w.heap.size 3 1 (rowOf w L) L (ints xs) ∧ Below w.heap.size w wr ∧
       Hid (∀ d ∈ xs, d ≤ 99) ∧ Hid (∀ t (h : t < xs.length), t < j' → xs[t] < 10) ∧ Hid (∀ t (h : t < xs.length), j' < t → xs[t] ≤ 90) ∧ Hid (ofd 10 xs = a % 10 ^ (i' + 1) * b))
      (fun j _ => L - (intOf j).toNat)
     case atStart =>
      refine ⟨0, xs, by omega, rfl, hxl, hown, hb, hide (fun d hd => by have := za hdg d hd; omega), hide (fun j h _ => by omega), hide (fun t ht _ => za hdg _ (List.getElem_mem ht)), ?_⟩
      show _ = _
      rw [za hval, ← zbi (za Ha)]
      have hbl := qH b
      rw [za Hlb] at hbl
      rw [Nat.mod_eq_of_lt hbl]
     case round =>
      clear hown hb hdg hval hxl hup
      clear xs
      obtain ⟨j', xs, hj', rfl, hxl, hown, hb, hdg, hlow, hhi, hval⟩ := hrel
      by_cases hlt3 : j' + 1 < L
      ·have hc0 := hown.cellAt j' (by omega)
       rw [ZE _ _ (by omega)] at hc0
       have hc1 := hown.cellAt (j' + 1) (by omega)
       rw [ZE _ _ (by omega)] at hc1
       have hf0 := hown.frozenAt j'
       have hf1 := hown.frozenAt (j' + 1)
       have hx99 : xs[j']'(by omega) ≤ 99 := za hdg _ (List.getElem_mem _)
       have hy90 : xs[j' + 1]'(by omega) ≤ 90 := za hhi _ (by omega) (by omega)
       generalize hx : xs[j']'(by omega) = x at *
       generalize hy : xs[j' + 1]'(by omega) = y at *
       have Hx := hide hx
       have Hy := hide hy
       clear hx hy
       obtain ⟨q, hq⟩ : ∃ q : Nat, (x : Int) / 10 = q := ⟨x / 10, by omega⟩
       obtain ⟨r, hr⟩ : ∃ r : Nat, (x : Int) % 10 = r := ⟨x % 10, by omega⟩
       have hqN : x / 10 = q := by omega
       have hrN : x % 10 = r := by omega
       have HqN := hide hqN
       have HrN := hide hrN
       clear hqN hrN
       have hq9 : q ≤ 9 := by omega
       have hr9 : r ≤ 9 := by omega
       have hq' : (x : Int).tdiv 10 = q := by rw [Int.tdiv_eq_ediv_of_nonneg (by omega)]; exact hq
       have hr' : (x : Int).tmod 10 = r := by rw [Int.tmod_eq_emod_of_nonneg (by omega)]; exact hr
       have hst := hown.stored (j' + 1) (.int .i64 ((y : Int) + q))
       rw [Qy _ _ (y + q) _ (by simp)] at hst
       have hst2 := hst.1.stored j' (.int .i64 (r : Int))
       rw [Vv] at hst2
       have Hst := hide hst2
       have e1 := wi64 ((j' : Int) + 1) (by omega) (by omega)
       have e2 := wi64 ((y : Int) + q) (by omega) (by omega)
       have e3 := wi64 (q : Int) (by omega) (by omega)
       have e4 : ((j' : Int) + 1).toNat = j' + 1 := by omega
       have hix : (j' : Int) + 1 < L := by omega
       clear hst hst2
       go_wp2
       go_region
       all_goals
        go_wp2
        go_roundw
        case rel =>
         refine ⟨j' + 1, (xs.set (j' + 1) (y + q)).set j' r, by omega, by go_num, by simpa using hxl, (za Hst).1, ((hb.setCell (by simp) _).setCell (by simp) _).drew, hide (qy (qy (za hdg) (by omega)) (by omega)), ?_, ?_, hide (KS (by omega) (za Hx) (za Hy) (za HqN) (za HrN) (za hval))⟩
         ·intro t ht htj
          by_cases hh : t = j'
          ·subst hh; rw [List.getElem_set_self]; omega
          ·rw [List.getElem_set_ne (by omega), List.getElem_set_ne (by omega)]
           exact za hlow t (by simpa using ht) (by omega)
         ·intro t ht htj
          rw [List.getElem_set_ne (by omega), List.getElem_set_ne (by omega)]
          exact za hhi t (by simpa using ht) (by omega)
        case measure => simp [intOf]; omega
      ·go_wp2
       go_roundw
       case rel =>
        have hjl : j' + 1 = L := by omega
        exact ⟨i' + 1, xs, by omega, by go_num, hxl, hown, hb, hide (X5 hxl hjl (za hlow) (za hval) (VX (za Hla) (za Hlb) (za HL))), hval⟩
       case measure => simp [intOf]; omega
  ·have hil : i' = la := by omega
   subst hil
   go_wp2_with fail
   refine (ZH xs _ _ (za hdg) (by omega) (by rw [hxl]; exact zK hown (Nat.zero_le _))).mono ?_
   rintro e w1 ⟨rfl, hb1⟩
   go_wp2
   go_ret
   have hal := qH a
   rw [za Hla] at hal
   have hv := za hval
   rw [Nat.mod_eq_of_lt hal] at hv
   exact ⟨zT (by rw [hv]), hb.trans (hb1.mono hb.size)⟩
theorem Vf (l : List UInt8) (n : Nat) (w : World) (hs : l.length ≤ 1000000000) (h : trim l = txl 10 n) :
  Calls Tryz.prog 125 #[.string (B l)] w fun e w' => e = .returned (.string (dec n)) ∧ w' = w := by
 have := yx l w hs
 rw [h] at this
 exact this
theorem KH (R c : Nat) (hc : c < 10) : trim (txl 10 R ++ [sg c]) = txl 10 (10 * R + c) := by
 by_cases h : R = 0
 ·subst h
  rw [qh, Nat.mul_zero, Nat.zero_add, jG 10 (by omega) c hc]
  simp [trim]
 ·have := ky 10 (by omega) (10 * R + c) (by omega)
  rw [show (10 * R + c) / 10 = R from by omega, show (10 * R + c) % 10 = c from by omega] at this
  rw [← this, Vb]
def pref (a i : Nat) : Nat := a / 10 ^ ((dec a).size - i)
theorem yP (a : Nat) : pref a 0 = 0 := Nat.div_eq_of_lt (qH a)
theorem kr (a : Nat) : pref a (dec a).size = a := by simp [pref]
theorem xp (a i : Nat) (h : i < (dec a).size) : pref a (i + 1) = 10 * pref a i + a / 10 ^ ((dec a).size - 1 - i) % 10 := by
 unfold pref
 rw [show (dec a).size - i = ((dec a).size - 1 - i) + 1 from by omega, show (dec a).size - (i + 1) = (dec a).size - 1 - i from by omega, Nat.pow_succ, ← Nat.div_div_eq_div_mul]
 omega
theorem za6 (a i : Nat) (h : i < (dec a).size) : (dec a).extract i (i + 1) = B [sg (a / 10 ^ ((dec a).size - 1 - i) % 10)] := by
 have h1 : i < (txl 10 a).length := by rw [← zH]; exact h
 have e := Yv a ((txl 10 a).length - 1 - i) (by omega)
 rw [List.getElem_reverse] at e
 have e2 : (txl 10 a).length - 1 - ((txl 10 a).length - 1 - i) = i := by omega
 simp only [e2] at e
 rw [zH, ← e]
 unfold dec txt
 rw [zW, List.take_succ_eq_append_getElem h1, List.drop_append_of_le_length (by simp; omega)]
 simp
theorem XD {A b q R c m : Nat} (hq : A / b = q) (hR : A % b = R) (hm : (10 * R + c) / b = m) (hb : 0 < b) : (10 * A + c) / b = m + 10 * q ∧ (10 * A + c) % b = (10 * R + c) % b := by
 have hA := Nat.div_add_mod A b
 rw [hq, hR] at hA
 have e : 10 * A + c = 10 * R + c + b * (10 * q) := by
  rw [← hA, Nat.mul_add, Nat.mul_left_comm]; omega
 rw [e, Nat.add_mul_div_left _ _ hb, Nat.add_mul_mod_self_left, hm]
 exact ⟨rfl, rfl⟩
theorem zah {ρ m b X : Nat} (h : ρ + m * b = X) (hlt : ρ < b) : X / b = m ∧ X % b = ρ := by
 have hb : 0 < b := by omega
 rw [← h, Nat.mul_comm m b, Nat.add_mul_div_left _ _ hb, Nat.add_mul_mod_self_left, Nat.div_eq_of_lt hlt, Nat.mod_eq_of_lt hlt]
 exact ⟨by omega, rfl⟩
theorem Ys {m b X ρ : Nat} (h : ρ + m * b = X) (hX : X < 10 * b) (hge : b ≤ ρ) : m + 1 ≤ 9 := by
 have h1 : (m + 1) * b < 10 * b := by rw [Nat.add_mul]; omega
 have := Nat.lt_of_mul_lt_mul_right h1
 omega
theorem vz {m n : Nat} (h : m ≤ n) : (dec m).size ≤ (dec n).size := by
 have := qk (b := 10) (by omega) (qW n) (Nat.lt_of_le_of_lt h (qH n))
 rw [zH m]; exact this
theorem QT {ρ b : Nat} (h : ρ < 10 * b) : (dec ρ).size ≤ (dec b).size + 1 := by
 rw [zH ρ]
 apply qk (by omega) (by omega)
 have := qH b
 rw [Nat.pow_succ]; omega
theorem zbv {a b : Nat} (h : b ≤ a) : 0 ≤ cmpN a b := by unfold cmpN; rw [if_neg (by omega)]; split <;> omega
theorem zbH {a b : Nat} (h : a < b) : cmpN a b < 0 := by unfold cmpN; rw [if_pos h]; omega
theorem xV (a b : Nat) (w : World) (hb0 : 0 < b) (hsa : (dec a).size ≤ 50000) (hsb : (dec b).size ≤ 50000) :
  Calls Tryz.prog 123 #[.string (dec a), .string (dec b)] w fun e w' => e = .returned (.tuple #[.string (dec (a / b)), .string (dec (a % b))]) ∧ Below w.heap.size w w' := by
 obtain ⟨i0, hi, hz0, hz1, hz2⟩ := info_parts Tryz.infoByte
 go_enter Tryz.func123, Tryz.ntmps123
 go_wp2
 go_loopw [6, 7, 8, 9] (fun q r i _ wr => ∃ (i' R : Nat) (Q : List Nat), i' ≤ (dec a).size ∧ i = .int .i64 i' ∧ r = .string (dec R) ∧ R < b ∧ Q.length = i' ∧ wr.ownsRow w.heap.size 5 1 q i' ((Q.map sg).map u8v) ∧ Below w.heap.size w wr ∧
   Hid (∀ d ∈ Q, d < 10) ∧ Hid (pref a i' / b = ofd 10 Q.reverse) ∧ Hid (pref a i' % b = R))
  (fun _ _ i _ _ => (dec a).size - (intOf i).toNat)
 case atStart =>
  refine ⟨0, 0, [], Nat.zero_le _, rfl, rfl, hb0, rfl, World.ownsRow_made w #[] 0 (Nat.le_refl _) (by decide) (by simp), (Below.refl _ _).alloc (Nat.le_refl _) _, hide (by simp), ?_, ?_⟩
  ·show _ = _; rw [yP]; simp [ofd]
  ·show _ = _; rw [yP]; simp
 case round =>
  obtain ⟨i', R, Q, hi', rfl, rfl, hR, hQl, hown, hb, hdg, hqv, hrv⟩ := hrel
  by_cases hlt : i' < (dec a).size
  ·have hc : a / 10 ^ ((dec a).size - 1 - i') % 10 < 10 := Nat.mod_lt _ (by omega)
   have hcut := za6 a i' hlt
   have hps := xp a i' hlt
   generalize a / 10 ^ ((dec a).size - 1 - i') % 10 = c at *
   have Hps := hide hps
   clear hps
   have hRs : (dec R).size ≤ (dec b).size := vz (by omega)
   have hcs : (B [sg c]).size ≤ 1 := by rw [zi]; simp
   have hcat : dec R ++ B [sg c] = B (txl 10 R ++ [sg c]) := by unfold dec txt; rw [zN]
   have hlen : (txl 10 R ++ [sg c]).length ≤ 1000000000 := by rw [List.length_append, ← zH]; simp; omega
   have hns : ¬ 9223372036854775807 < (dec R).size + (B [sg c]).size := by omega
   have Htp := hide (KH R c hc)
   go_wp2_with fail
   refine (Vf _ (10 * R + c) _ hlen (za Htp)).mono ?_
   rintro e w1 ⟨rfl, rfl⟩
   go_wp2_with fail
   have hX : 10 * R + c < 10 * b := by omega
   generalize hXd : 10 * R + c = X at *
   have HXd := hide hXd
   clear hXd hcut hcat hns Htp hlen
   go_loopw [7, 9] (fun r n wr => ∃ (ρ m : Nat), r = .string (dec ρ) ∧ n = .int .u8 (48 + (m : Int)) ∧ m ≤ 9 ∧ ρ < 10 * b ∧ wr.ownsRow w.heap.size 5 1 u6 i' ((Q.map sg).map u8v) ∧ Below w.heap.size w wr ∧ Hid (ρ + m * b = X))
    (fun _ n _ => 60 - (intOf n).toNat)
   case atStart => exact ⟨X, 0, rfl, rfl, by omega, hX, hown, hb, hide (by simp)⟩
   case round =>
    clear hown hb
    obtain ⟨ρ, m, rfl, rfl, hm9, hρ, hown, hb, hinv⟩ := hrel
    have hρs := QT hρ
    by_cases hge : b ≤ ρ
    ·have hcg := zbv hge
     have hm1 := Ys (za hinv) hX hge
     go_wp2_with fail
     refine (QY ρ b _ (by omega) (by omega)).mono ?_
     rintro e w1 ⟨rfl, rfl⟩
     go_wp2_with fail
     refine (zaS ρ b _ hge (by omega)).mono ?_
     rintro e w2 ⟨rfl, hb2⟩
     go_wp2_with fail
     go_roundw
     case rel =>
      exact ⟨ρ - b, m + 1, rfl, by go_num, by omega, by omega, zr hown hb2, hb.trans (hb2.mono hb.size), hide (by have := za hinv; rw [Nat.add_mul]; omega)⟩
     case measure => simp [intOf]; omega
    ·have hρb : ρ < b := by omega
     have hcl := zbH hρb
     go_wp2_with fail
     refine (QY ρ b _ (by omega) (by omega)).mono ?_
     rintro e w1 ⟨rfl, rfl⟩
     have hw := hb.size
     go_wp2_with (at_builtin; refine wpList_append_own _ rfl (.tmp 34) (.tmp 36) 22 rfl w.heap.size 5 i0 (.int .u8 0) 1 1 Tryz.underlying22 hi hz0 hz1 hz2 rfl (by decide) _ _ _ rfl (hown.alloc _) ⟨w1.heap.size, 0, none⟩ 1 1 [.int .u8 (48 + (m : Int))] rfl rfl (cell_one_new _ _ _) (by intro u hu; simp at hu; subst hu; rfl) (by unfold maxLen; omega) (by omega) (by simp; omega) ?_; intro v2 w2 hown2 hg2 _)
     have hbX := zw (hb.alloc hw _) (hown.alloc _) hg2 (by simp <;> omega)
     have hds := zah (za hinv) hρb
     have hpush := XD (c := c) (m := m) (za hqv) (za hrv) (by rw [za HXd]; exact hds.1) hb0
     go_roundw
     case rel =>
      refine ⟨i' + 1, ρ, Q ++ [m], by omega, by go_num, rfl, hρb, by simp [hQl], ?_, hbX, vK hdg (by omega), ?_, ?_⟩
      ·rw [List.map_append, List.map_append]
       simp only [List.map_cons, List.map_nil, QZ (show m < 10 by omega)]
       exact hown2
      ·show _ = _
       rw [za Hps, hpush.1, List.reverse_append]; simp [ofd]
      ·show _ = _
       rw [za Hps, hpush.2, za HXd]; exact hds.2
     case measure => simp [intOf]; omega
  ·have hil : i' = (dec a).size := by omega
   subst hil
   have hQ0 : Q ≠ [] := fun h => by have := qW a; rw [h] at hQl; simp at hQl; omega
   have hconv := qx (dst := 9) Tryz.underlying22 Tryz.underlying5 Tryz.underlying9 hown
   have htr : trim (Q.map sg) = txl 10 (a / b) := by
    have h1 := vl Q.reverse (fun d hd => za hdg d (by simpa using hd)) (by simpa using hQ0)
    rw [List.map_reverse, List.reverse_reverse] at h1
    rw [h1, ← za hqv, kr]
   have Htr := hide htr
   have hrv2 := za hrv
   rw [kr] at hrv2
   have Hrv2 := hide hrv2
   clear hrv2 htr
   go_wp2_with fail
   refine (Vf _ (a / b) _ (by simp; omega) (za Htr)).mono ?_
   rintro e w1 ⟨rfl, rfl⟩
   go_wp2
   go_ret2
   exact ⟨by rw [za Hrv2]; rfl, hb⟩
theorem qs (n : Nat) : zy (txl 10 n) = n := by
 have := qj (yL n)
 exact (YC (by omega) (by omega) this).symm
theorem Jw (a b : Nat) (w : World) (hsa : (dec a).size ≤ 50000) (hsb : (dec b).size ≤ 50000) :
  Calls Tryz.prog 122 #[.string (dec a), .string (dec b)] w fun e w' => e = .returned (.string (dec (Nat.gcd a b))) ∧ Below w.heap.size w w' := by
 go_enter Tryz.func122, Tryz.ntmps122
 go_wp2
 go_loopw [0, 1] (fun x y wr => ∃ (a' b' : Nat), x = .string (dec a') ∧ y = .string (dec b') ∧ (dec a').size ≤ 50000 ∧ (dec b').size ≤ 50000 ∧ Below w.heap.size w wr ∧ Hid (Nat.gcd a' b' = Nat.gcd a b))
  (fun _ y _ => zy (match y with | .string s => s.data.toList | _ => []))
 case atStart => exact ⟨a, b, rfl, rfl, hsa, hsb, Below.refl _ _, hide rfl⟩
 case round =>
  obtain ⟨a', b', rfl, rfl, ha', hb', hb, hg⟩ := hrel
  by_cases hz : b' = 0
  ·subst hz
   have h0 : ((dec 0).toList == [48]) = true := by unfold dec txt; rw [B_tl, qh]; rfl
   go_wp2
   go_ret
   have := za hg
   rw [Nat.gcd_zero_right] at this
   exact ⟨zT (by rw [this]), hb⟩
  ·have h0 : ((dec b').toList == [48]) = false := by
    have := xZ b' 0
    rw [decide_eq_false hz] at this
    rw [show (dec 0).toList = [48] from by unfold dec txt; rw [B_tl, qh]] at this
    exact this
   go_wp2_with fail
   refine (xV a' b' _ (by omega) ha' hb').mono ?_
   rintro e w1 ⟨rfl, hb1⟩
   go_wp2_with fail
   go_roundw
   case rel =>
    refine ⟨b', a' % b', rfl, rfl, hb', ?_, hb.trans (hb1.mono hb.size), hide ?_⟩
    ·have := vz (Nat.le_of_lt (Nat.mod_lt a' (show 0 < b' by omega))); omega
    ·rw [Nat.gcd_comm b', ← Nat.gcd_rec b' a', Nat.gcd_comm, za hg]
   case measure =>
    show zy (txl 10 (a' % b')) < zy (txl 10 b')
    rw [qs, qs]
    exact Nat.mod_lt _ (by omega)
def rdN (b : Nat) (l : List UInt8) : Nat := l.foldl (fun n c => n * b + digN c) 0
def okN (b : Nat) (l : List UInt8) : Bool := !l.isEmpty && l.all (fun c => digN c < b)
theorem Zs (b : Nat) (l : List UInt8) (c : UInt8) : rdN b (l ++ [c]) = rdN b l * b + digN c := by simp [rdN]
theorem Yl (b : Nat) (l : List UInt8) (h : ∀ c ∈ l, digN c < b) : rdN b l < b ^ l.length := by
 have key : ∀ (n : Nat) (l : List UInt8), l.length = n → (∀ c ∈ l, digN c < b) → rdN b l < b ^ n := by
  intro n
  induction n with
  | zero => intro l hl _; have : l = [] := List.eq_nil_of_length_eq_zero hl
            subst this; simp [rdN]
  | succ n ih =>
   intro l hl hc
   have hne : l ≠ [] := fun hh => by rw [hh] at hl; simp at hl
   have e := List.dropLast_concat_getLast hne
   rw [← e, Zs]
   have h1 := ih l.dropLast (by simp [hl]) (fun c hc' => hc c (List.dropLast_subset l hc'))
   have h2 := hc (l.getLast hne) (List.getLast_mem hne)
   rw [Nat.pow_succ]
   have h3 : (rdN b l.dropLast + 1) * b ≤ b ^ n * b := Nat.mul_le_mul_right b h1
   rw [Nat.add_mul] at h3
   omega
 exact key l.length l rfl h
theorem yd {n b k : Nat} (hb : b ≤ 16) (h : n < b ^ k) : (dec n).size ≤ 2 * k + 1 := by
 rw [zH]
 apply qk (by omega) (by omega)
 have h1 : b ^ k ≤ 100 ^ k := Nat.pow_le_pow_left (by omega) k
 have h2 : (100 : Nat) ^ k = 10 ^ (2 * k) := by rw [Nat.pow_mul]
 have h3 : (10 : Nat) ^ (2 * k) ≤ 10 ^ (2 * k + 1) := Nat.pow_le_pow_right (by omega) (by omega)
 omega
theorem qm {n : Nat} (h : n < 1000) : (dec n).size ≤ 3 := by rw [zH]; exact qk (by omega) (by omega) (by omega)
theorem Za (l : List UInt8) (k : Nat) (h : k < l.length) : l.take (k + 1) = l.take k ++ [l[k]] := List.take_succ_eq_append_getElem h
theorem QX {b : Nat} {l : List UInt8} (k : Nat) (h : k < l.length) (hb : b ≤ digN l[k]) : okN b l = false := by
 cases hh : okN b l with
 | false => rfl
 | true =>
  unfold okN at hh
  simp only [Bool.and_eq_true] at hh
  have := List.all_eq_true.1 hh.2 l[k] (List.getElem_mem h)
  simp at this; omega
theorem Zk {b : Nat} {l : List UInt8} (h0 : 0 < l.length) (h : ∀ c ∈ l, digN c < b) : okN b l = true := by
 unfold okN
 simp only [Bool.and_eq_true]
 refine ⟨?_, List.all_eq_true.2 (fun c hc => by simpa using h c hc)⟩
 cases l with
 | nil => simp at h0
 | cons _ _ => rfl
def natV (b : Nat) (l : List UInt8) : Nat := if okN b l then rdN b l else 0
def jk (b : Nat) (l : List UInt8) : Value := .tuple #[.string (dec (natV b l)), .bool (okN b l)]
theorem jq (l : List UInt8) (b : Nat) (w : World) (hb2 : 2 ≤ b) (hb16 : b ≤ 16) (hs : l.length ≤ 10000) :
  Calls Tryz.prog 107 #[.string (B l), .int .i64 b] w fun e w' => e = .returned (jk b l) ∧ Below w.heap.size w w' := by
 have hsz : (B l).size ≤ 10000 := by rw [zi]; exact hs
 have hd0 : dec 0 = ⟨#[48]⟩ := by unfold dec txt; rw [qh]; rfl
 have Hd0 := hide hd0
 clear hd0
 by_cases hz : l.length = 0
 ·have : l = [] := List.eq_nil_of_length_eq_zero hz
  subst this
  clear hs hsz hz
  have h0 : ((B []).toList == []) = true := by rw [B_tl]; rfl
  have h1 : (B []).toList.isEmpty = true := by rw [B_tl]; rfl
  go_enter Tryz.func107, Tryz.ntmps107
  go_wp2
  go_ret2
  refine ⟨?_, Below.refl _ _⟩
  unfold jk natV
  simp [okN, za Hd0]
 ·have hne : l ≠ [] := fun hh => by rw [hh] at hz; simp at hz
  have h1 : (B l).toList.isEmpty = false := by rw [B_tl]; simpa using hne
  go_enter Tryz.func107, Tryz.ntmps107
  go_wp2
  go_loopw [6, 7] (fun n i wr => ∃ k : Nat, k ≤ l.length ∧ i = .int .i64 k ∧ n = .string (dec (rdN b (l.take k))) ∧ Below w.heap.size w wr ∧ Hid (∀ c ∈ l.take k, digN c < b))
   (fun _ i _ => l.length - (intOf i).toNat)
  case atStart =>
   exact ⟨0, Nat.zero_le _, rfl, by rw [List.take_zero]; simp [rdN, za Hd0], Below.refl _ _, hide (by simp)⟩
  case round =>
   obtain ⟨k, hk, rfl, rfl, hb, hdg⟩ := hrel
   by_cases hlt : k < l.length
   ·have hlt2 : k < (B l).size := by rw [zi]; exact hlt
    have hgk : ((B l)[k]'hlt2).toNat = (l[k]'hlt).toNat := by rw [B_get]
    have hbad := @QX b l k hlt
    have hsn := Za l k hlt
    have hlk := Yl b (l.take k) (za hdg)
    rw [List.length_take, Nat.min_eq_left hk] at hlk
    have hsk := yd hb16 hlk
    generalize hn : rdN b (l.take k) = n at *
    have Hn := hide hn
    generalize hcc : l[k]'hlt = c at *
    have Hbad := hide hbad
    have Hsn := hide hsn
    clear hbad hsn hlk hn hcc
    go_wp2_with fail
    refine (Xc c _).mono ?_
    rintro e w1 ⟨rfl, rfl⟩
    have hdc : digN c < 100 := by unfold digN; split <;> (try split) <;> omega
    by_cases hge : b ≤ digN c
    ·go_wp2
     go_ret2
     refine ⟨?_, hb⟩
     unfold jk natV
     rw [za Hbad hge]
     simp [za Hd0]
    ·go_wp2_with fail
     refine (jV b (by omega) _).mono ?_
     rintro e w2 ⟨rfl, hb2'⟩
     go_wp2_with fail
     have hbs := qm (n := b) (by omega)
     have hds := qm (n := digN c) (by omega)
     refine (Q4 n b _ (by omega) (by omega)).mono ?_
     rintro e w3 ⟨rfl, hb3⟩
     go_wp2_with fail
     refine (jV (digN c) (by omega) _).mono ?_
     rintro e w4 ⟨rfl, hb4⟩
     have hsm : (dec (n * b)).size ≤ 100000 := by
      have h1 : n * b < 10 ^ ((dec n).size + (dec b).size) := by
       rw [Nat.pow_add]; exact Nat.mul_lt_mul'' (qH n) (qH b)
      have := qW n
      have := qk (b := 10) (by omega) (by omega) h1
      rw [zH]; omega
     go_wp2_with fail
     refine (zaZ (n * b) (digN c) _ hsm (by omega)).mono ?_
     rintro e w5 ⟨rfl, hb5⟩
     go_wp2_with fail
     have hbX := (((hb.trans (hb2'.mono hb.size)).trans (hb3.mono (by have := hb.size; have := hb2'.size; omega))).trans (hb4.mono (by have := hb.size; have := hb2'.size; have := hb3.size; omega))).trans (hb5.mono (by have := hb.size; have := hb2'.size; have := hb3.size; have := hb4.size; omega))
     go_roundw
     case rel =>
      refine ⟨k + 1, by omega, by go_num, ?_, hbX, ?_⟩
      ·rw [za Hsn, Zs, za Hn]
      ·show ∀ x ∈ _, _
       rw [za Hsn]
       intro x hx
       rcases List.mem_append.1 hx with h | h
       ·exact za hdg x h
       ·simp at h; subst h; omega
     case measure => simp [intOf]; omega
   ·have hkl : k = l.length := by omega
    subst hkl
    have hlt2 : ¬ l.length < (B l).size := by rw [zi]; omega
    have htk : l.take l.length = l := List.take_length
    have hok := Zk (show 0 < l.length by omega) (by have := za hdg; rwa [htk] at this)
    have Hok := hide hok
    have Htk := hide htk
    clear hok htk
    go_wp2
    go_ret2
    refine ⟨?_, hb⟩
    unfold jk natV
    rw [za Hok]
    simp [List.take_length]
def zJ (r : Int) : Bool := r == 2 || r == 8 || r == 10 || r == 16
theorem jn (r : Int) (w : World) :
  Calls Tryz.prog 93 #[.int .i64 r] w fun e w' => e = .returned (.bool (zJ r)) ∧ w' = w := by
 unfold zJ
 by_cases h2 : (r == 2) = true
 ·go_enter Tryz.func93, Tryz.ntmps93
  go_wp2
  go_ret
  exact ⟨zD (by simp [h2]), rfl⟩
 ·have h2' : (r == 2) = false := by simpa using h2
  clear h2
  by_cases h8 : (r == 8) = true
  ·go_enter Tryz.func93, Tryz.ntmps93
   go_wp2
   go_ret
   exact ⟨zD (by simp [h8, h2']), rfl⟩
  ·have h8' : (r == 8) = false := by simpa using h8
   clear h8
   by_cases h10 : (r == 10) = true
   ·go_enter Tryz.func93, Tryz.ntmps93
    go_wp2
    go_ret
    exact ⟨zD (by simp [h8', h2', h10]), rfl⟩
   ·have h10' : (r == 10) = false := by simpa using h10
    clear h10
    by_cases h16 : (r == 16) = true
    ·go_enter Tryz.func93, Tryz.ntmps93
     go_wp2
     go_ret
     exact ⟨zD (by simp [h8', h2', h10', h16]), rfl⟩
    ·have h16' : (r == 16) = false := by simpa using h16
     clear h16
     go_enter Tryz.func93, Tryz.ntmps93
     go_wp2
     go_ret
     exact ⟨zD (by simp [h8', h2', h10', h16']), rfl⟩
def findB (c : UInt8) : List UInt8 → Option Nat
 | [] => none
 | d :: r => if d = c then some 0 else (findB c r).map (· + 1)
def findI (c : UInt8) (l : List UInt8) : Int := match findB c l with | some k => (k : Int) | none => -1
theorem Yo {c : UInt8} : ∀ {l : List UInt8} {k : Nat}, (h : k < l.length) → l[k] = c → (∀ j (hj : j < l.length), j < k → l[j] ≠ c) → findB c l = some k := by
 intro l
 induction l with
 | nil => intro k h; simp at h
 | cons d r ih =>
  intro k h hk hlt
  cases k with
  | zero => simp only [List.getElem_cons_zero] at hk; simp [findB, hk]
  | succ k =>
   have hd : d ≠ c := hlt 0 (by simp) (by omega)
   have := ih (k := k) (by simpa using h) (by simpa using hk) (fun j hj hjk => by have := hlt (j + 1) (by simpa using hj) (by omega); simpa using this)
   simp [findB, hd, this]
theorem VF {c : UInt8} : ∀ {l : List UInt8}, (∀ j (hj : j < l.length), l[j] ≠ c) → findB c l = none := by
 intro l
 induction l with
 | nil => intro _; rfl
 | cons d r ih =>
  intro h
  have hd : d ≠ c := h 0 (by simp)
  have := ih (fun j hj => by have := h (j + 1) (by simpa using hj); simpa using this)
  simp [findB, hd, this]
theorem XP (l : List UInt8) (c : UInt8) (w : World) (hs : l.length ≤ 1000000000) :
  Calls Tryz.prog 104 #[.string (B l), .int .u8 c.toNat] w fun e w' => e = .returned (.int .i64 (findI c l)) ∧ w' = w := by
 have hsz : (B l).size ≤ 1000000000 := by rw [zi]; exact hs
 go_enter Tryz.func104, Tryz.ntmps104
 go_wp2
 go_loop [5] (fun i => ∃ k : Nat, k ≤ l.length ∧ i = .int .i64 k ∧ Hid (∀ j (hj : j < l.length), j < k → l[j] ≠ c)) (fun i => l.length - (intOf i).toNat)
 case atStart => exact ⟨0, Nat.zero_le _, rfl, hide (fun j _ h => by omega)⟩
 case round =>
  obtain ⟨k, hk, rfl, hv⟩ := hrel
  by_cases hlt : k < l.length
  ·have hlt2 : k < (B l).size := by rw [zi]; exact hlt
   have hgk : ((B l)[k]'hlt2).toNat = (l[k]'hlt).toNat := by rw [B_get]
   by_cases heq : l[k]'hlt = c
   ·have hf : findI c l = (k : Int) := by unfold findI; rw [Yo hlt heq (za hv)]
    have Hf := hide hf
    have ht : (((l[k]'hlt).toNat : Int) == (c.toNat : Int)) = true := by rw [heq]; simp
    clear hf heq
    go_wp2
    go_ret
    exact ⟨zF (za Hf).symm, rfl⟩
   ·have ht : (((l[k]'hlt).toNat : Int) == (c.toNat : Int)) = false := by
     rw [beq_eq_false_iff_ne]; intro hh; exact heq (UInt8.toNat_inj.1 (by omega))
    have hv2 : Hid (∀ j (hj : j < l.length), j < k + 1 → l[j] ≠ c) := by
     intro j hj hjk
     by_cases hjk2 : j < k
     ·exact za hv j hj hjk2
     ·have : j = k := by omega
      subst this; exact heq
    clear heq
    go_wp2
    go_round
    case rel => exact ⟨k + 1, by omega, by go_num, hv2⟩
    case measure => simp [intOf]; omega
  ·have hlt2 : ¬ k < (B l).size := by rw [zi]; exact hlt
   have hf : findI c l = -1 := by unfold findI; rw [VF (fun j hj => za hv j hj (by omega))]
   have Hf := hide hf
   clear hf
   go_wp2
   go_ret
   exact ⟨zF (za Hf).symm, rfl⟩
def numV (neg : Bool) (u d : ByteArray) : Value := .agg #[.bool neg, .string u, .string d]
def noNum : Value := numV false ⟨#[]⟩ ⟨#[]⟩
def zE (neg : Bool) (u d : Nat) : Option (Bool × Nat × Nat) :=
 if d = 0 ∨ 60 < (dec (u / Nat.gcd u d)).size ∨ 60 < (dec (d / Nat.gcd u d)).size then none else some (neg && u / Nat.gcd u d != 0, u / Nat.gcd u d, d / Nat.gcd u d)
def numO : Option (Bool × Nat × Nat) → Value
 | none => noNum
 | some (n, u, d) => numV n (dec u) (dec d)
def zg (o : Option (Bool × Nat × Nat)) : Value := .tuple #[numO o, .bool o.isSome]
theorem zay : dec 0 = ⟨#[48]⟩ := by unfold dec txt; rw [qh]; rfl
theorem vX (n : Nat) : ((dec n).toList == [48]) = decide (n = 0) := by
 have := xZ n 0
 rwa [show (dec 0).toList = [48] from by unfold dec txt; rw [B_tl, qh]] at this
theorem qz (neg : Bool) (u d : Nat) (w : World) (hsu : (dec u).size ≤ 50000) (hsd : (dec d).size ≤ 50000) :
  Calls Tryz.prog 96 #[.bool neg, .string (dec u), .string (dec d)] w fun e w' => e = .returned (zg (zE neg u d)) ∧ Below w.heap.size w w' := by
 have hd0 := vX d
 by_cases hz : d = 0
 ·rw [decide_eq_true hz] at hd0
  have hl : zE neg u d = none := by simp [zE, hz]
  rw [hl]
  clear hl hz
  go_enter Tryz.func96, Tryz.ntmps96
  go_wp2
  refine bodyPost_ret (v := zg none) (by simp [results, Tryz.results96, go_sem, zg, numO, noNum, numV]) rfl ⟨rfl, (Below.refl _ _).alloc (Nat.le_refl _) _⟩
 ·rw [decide_eq_false hz] at hd0
  have hg : 0 < Nat.gcd u d := Nat.gcd_pos_of_pos_right _ (by omega)
  have hg1 : (dec (Nat.gcd u d)).size ≤ 50000 := by have := vz (Nat.gcd_le_right u (show 0 < d by omega)); omega
  go_enter Tryz.func96, Tryz.ntmps96
  go_wp2_with fail
  refine (Jw u d _ hsu hsd).mono ?_
  rintro e w1 ⟨rfl, hb1⟩
  go_wp2_with fail
  refine (xV u _ _ hg hsu hg1).mono ?_
  rintro e w2 ⟨rfl, hb2⟩
  go_wp2_with fail
  refine (xV d _ _ hg hsd hg1).mono ?_
  rintro e w3 ⟨rfl, hb3⟩
  have hb0 := zn hb1
  have h2 := zk hb0 (by have := hb1.size; simpa using this) hb2
  have h3 := zk h2.1 h2.2 hb3
  have c0 := zb h3.1 0
  have c1 := zb h3.1 1
  have c2 := zb h3.1 2
  have f0 := zh h3.1 0
  have f1 := zh h3.1 1
  have f2 := zh h3.1 2
  have hbX := zm h3.1
  simp at c0 c1 c2
  have hqz := vX (u / Nat.gcd u d)
  generalize hqu : u / Nat.gcd u d = qu at *
  generalize hqd : d / Nat.gcd u d = qd at *
  have Hlow : Hid (zE neg u d = if 60 < (dec qu).size ∨ 60 < (dec qd).size then none else some (neg && qu != 0, qu, qd)) := by
   show _ = _
   unfold zE; rw [hqu, hqd]
   by_cases h : 60 < (dec qu).size ∨ 60 < (dec qd).size
   ·rw [if_pos (by rcases h with h | h <;> simp [h]), if_pos h]
   ·rw [if_neg (by rintro (h1 | h1); exact hz h1; exact h h1), if_neg h]
  clear hb1 hb2 hb3 h2 h3 hb0 hqu hqd
  by_cases h1 : 60 < (dec qu).size
  ·rw [if_pos (.inl h1)] at Hlow
   go_wp2
   refine bodyPost_ret (v := zg none) (by simp [results, Tryz.results96, go_sem, zg, numO, noNum, numV, c0, c1, c2]) rfl ⟨by rw [za Hlow], ?_⟩
   exact ((hbX.setCell (by simp) _).setCell (by simp) _).setCell (by simp) _
  ·by_cases h2 : 60 < (dec qd).size
   ·rw [if_pos (.inr h2)] at Hlow
    go_wp2
    refine bodyPost_ret (v := zg none) (by simp [results, Tryz.results96, go_sem, zg, numO, noNum, numV, c0, c1, c2]) rfl ⟨by rw [za Hlow], ?_⟩
    exact ((hbX.setCell (by simp) _).setCell (by simp) _).setCell (by simp) _
   ·rw [if_neg (by rintro (h | h); exact h1 h; exact h2 h)] at Hlow
    by_cases hq0 : qu = 0
    ·rw [decide_eq_true hq0] at hqz
     have Hq0 := hide hq0
     clear hq0
     cases neg
     case false =>
      go_wp2
      refine bodyPost_ret (v := zg (some (false, qu, qd))) (by simp [results, Tryz.results96, go_sem, zg, numO, numV, c0, c1, c2]) rfl ⟨by rw [za Hlow]; rfl, ?_⟩
      exact ((hbX.setCell (by simp) _).setCell (by simp) _).setCell (by simp) _
     case true =>
      go_wp2
      refine bodyPost_ret (v := zg (some (false, qu, qd))) (by simp [results, Tryz.results96, go_sem, zg, numO, numV, c0, c1, c2]) rfl ⟨by rw [za Hlow, za Hq0]; rfl, ?_⟩
      exact ((hbX.setCell (by simp) _).setCell (by simp) _).setCell (by simp) _
    ·rw [decide_eq_false hq0] at hqz
     have Hq0 := hide hq0
     clear hq0
     cases neg
     case false =>
      go_wp2
      refine bodyPost_ret (v := zg (some (false, qu, qd))) (by simp [results, Tryz.results96, go_sem, zg, numO, numV, c0, c1, c2]) rfl ⟨by rw [za Hlow]; rfl, ?_⟩
      exact ((hbX.setCell (by simp) _).setCell (by simp) _).setCell (by simp) _
     case true =>
      go_wp2
      refine bodyPost_ret (v := zg (some (true, qu, qd))) (by simp [results, Tryz.results96, go_sem, zg, numO, numV, c0, c1, c2]) rfl ⟨by rw [za Hlow, bne_iff_ne.2 (za Hq0)]; rfl, ?_⟩
      exact ((hbX.setCell (by simp) _).setCell (by simp) _).setCell (by simp) _
theorem Z3 {P : Program} {src dst e : TypeId} (hs : P.underlying src = some (.slice e)) (he : P.underlying e = some (.int .u8)) (hd : P.underlying dst = some .string) (W w1 : World) (c : UInt8)
  (hb : Below (W.heap.size + 1) (W.alloc (.cells #[.int .u8 c.toNat] e)) w1) :
  (convert src dst (.slice (some ⟨W.heap.size, 0, none⟩) 1 1)).run P w1 = .ok (.string (B [c])) w1 := by
 have h0 := World.ownsRow_lit (base := 0) (e := e) (size := 1) W #[.int .u8 c.toNat] 1 (Nat.zero_le _) (by decide) (by simp)
 have h1 := zr h0 (by simpa using hb)
 have e1 : (#[Value.int .u8 c.toNat] : Array Value).toList = [c].map u8v := by simp [u8v]
 rw [e1] at h1
 exact qx hs he hd h1
theorem JO (n k : Nat) (h : k < (dec n).size) : ((dec n)[k]'h).toNat = 48 + n / 10 ^ ((dec n).size - 1 - k) % 10 := by
 have h1 : k < (txl 10 n).length := by rw [← zH]; exact h
 have e := Yv n ((txl 10 n).length - 1 - k) (by omega)
 rw [List.getElem_reverse] at e
 have e2 : (txl 10 n).length - 1 - ((txl 10 n).length - 1 - k) = k := by omega
 simp only [e2] at e
 have hm : n / 10 ^ ((txl 10 n).length - 1 - k) % 10 < 10 := Nat.mod_lt _ (by omega)
 rw [zH]
 have e3 : ((dec n)[k]'h) = (txl 10 n)[k]'h1 := by simp only [dec, txt, B_get]
 rw [e3, e, qA (by omega), if_pos hm]
def vT : ByteArray := ⟨#[48, 49, 50, 51, 52, 53, 54, 55, 56, 57, 97, 98, 99, 100, 101, 102]⟩
theorem Z2 (d : Nat) (h : d < 16) (h' : d < vT.size) : (vT[d]'h').toNat = (sg d).toNat := by
 have : ∀ d : Fin 16, (vT[d.val]'d.isLt).toNat = (sg d.val).toNat := by decide
 exact this ⟨d, h⟩
theorem Jq (N b : Nat) (w : World) (hb2 : 2 ≤ b) (hb16 : b ≤ 16) (hs : (dec N).size ≤ 5000) (ht : (txl b N).length ≤ 50000) :
  Calls Tryz.prog 94 #[.string (dec N), .int .i64 b] w fun e w' => e = .returned (.string (txt b N)) ∧ Below w.heap.size w w' := by
 have hbs := qm (n := b) (by omega)
 go_enter Tryz.func94, Tryz.ntmps94
 go_wp2
 go_loopw [0, 5] (fun n o wr => ∃ (m : Nat) (t : List UInt8), n = .string (dec m) ∧ o = .string (B t) ∧ m ≤ N ∧ t.length ≤ 50000 ∧ Below w.heap.size w wr ∧ Hid (txl b m ++ t = txl b N))
  (fun n _ _ => zy (match n with | .string s => s.data.toList | _ => []))
 case atStart => exact ⟨N, [], rfl, rfl, Nat.le_refl _, by simp, Below.refl _ _, hide (by simp)⟩
 case round =>
  obtain ⟨m, t, rfl, rfl, hmN, htl, hb, htx⟩ := hrel
  have hms := vz hmN
  have hmod : m % b < b := Nat.mod_lt _ (by omega)
  go_wp2_with fail
  refine (jV b (by omega) _).mono ?_
  rintro e w1 ⟨rfl, hb1⟩
  go_wp2_with fail
  refine (xV m b _ (by omega) (by omega) (by omega)).mono ?_
  rintro e w2 ⟨rfl, hb2'⟩
  have hbA := zk hb hb.size hb1
  have hbB := zk hbA.1 hbA.2 hb2'
  clear hbA hb1 hb2'
  obtain ⟨q, hq⟩ : ∃ q, m / b = q := ⟨_, rfl⟩
  obtain ⟨r, hr⟩ : ∃ r, m % b = r := ⟨_, rfl⟩
  rw [hr] at hmod
  have hrs := qm (n := r) (by omega)
  have Hq := hide hq
  have Hr := hide hr
  rw [hq, hr]
  clear hq hr
  go_wp2_with fail
  go_loopw [8, 9] (fun d i wr => ∃ k : Nat, k ≤ (dec r).size ∧ i = .int .i64 k ∧ d = .int .i64 (pref r k : Nat) ∧ Below w.heap.size w wr) (fun _ i _ => (dec r).size - (intOf i).toNat)
  case atStart => exact ⟨0, Nat.zero_le _, rfl, by rw [yP]; rfl, hbB.1⟩
  case round =>
   obtain ⟨k, hk, rfl, rfl, hbC⟩ := hrel
   by_cases hlt : k < (dec r).size
   ·have hby := JO r k hlt
    have hm10 : r / 10 ^ ((dec r).size - 1 - k) % 10 < 10 := Nat.mod_lt _ (by omega)
    have hps := xp r k hlt
    have hpl : pref r k ≤ r := Nat.div_le_self _ _
    generalize r / 10 ^ ((dec r).size - 1 - k) % 10 = c at *
    generalize pref r k = p at *
    have Hps := hide hps
    clear hps
    go_wp2
    go_roundw
    case rel => exact ⟨k + 1, by omega, by go_num, by rw [za Hps]; go_num, hbC⟩
    case measure => simp [intOf]; omega
   ·have hkl : k = (dec r).size := by omega
    subst hkl
    have hpa := kr r
    have hd16 : r < 16 := by omega
    have hg := Z2 r hd16 hd16
    unfold vT at hg
    have hconv := Z3 (P := Tryz.prog) (src := 22) (dst := 9) Tryz.underlying22 Tryz.underlying5 Tryz.underlying9 wr _ (sg r) (Below.refl _ _)
    have hcat : B [sg r] ++ B t = B (sg r :: t) := by rw [zN]; rfl
    have hs1 : (B [sg r]).size ≤ 1 := by rw [zi]; simp
    have hs2 : (B t).size ≤ 50000 := by rw [zi]; exact htl
    have hns : ¬ 9223372036854775807 < (B [sg r]).size + (B t).size := by omega
    have hbD := hbC.alloc (by have := hbC.size; exact this) (.cells #[.int .u8 (sg r).toNat] 5)
    have hq0 := vX q
    by_cases hz : q = 0
    ·rw [decide_eq_true hz] at hq0
     have hmb : m < b := by
      have := za Hq; rw [hz] at this
      rcases Nat.div_eq_zero_iff.1 this with h | h
      ·omega
      ·exact h
     have hfin : B (sg r :: t) = txt b N := by
      unfold txt
      rw [← za htx, jG b hb2 m hmb, ← za Hr, Nat.mod_eq_of_lt hmb]; rfl
     have Hfin := hide hfin
     clear hfin hz
     go_wp2
     go_ret
     exact ⟨zT (za Hfin), hbD⟩
    ·rw [decide_eq_false hz] at hq0
     have hmb : b ≤ m := by
      apply Nat.le_of_not_lt
      intro h; apply hz; rw [← za Hq]; exact Nat.div_eq_of_lt h
     have htx2 : txl b q ++ (sg r :: t) = txl b N := by
      rw [← za htx, ky b hb2 m hmb, za Hq, za Hr]; simp
     have Htx2 := hide htx2
     have hl2 : (sg r :: t).length ≤ 50000 := by
      have := congrArg List.length htx2
      rw [List.length_append] at this; omega
     have hqm : q < m := by rw [← za Hq]; exact Nat.div_lt_self (by omega) (by omega)
     clear htx2
     go_wp2
     go_roundw
     case rel => exact ⟨q, sg r :: t, rfl, rfl, by omega, hl2, hbD, Htx2⟩
     case measure =>
      show zy (txl 10 q) < zy (txl 10 m)
      rw [qs, qs]; exact hqm
def overM (neg : Bool) (b : Nat) (x y : List UInt8) : Option (Bool × Nat × Nat) :=
 if okN b x && okN b y then zE neg (rdN b x) (rdN b y) else none
theorem jL {b : Nat} {l : List UInt8} (hb16 : b ≤ 16) (h : okN b l = true) : (dec (rdN b l)).size ≤ 2 * l.length + 1 := by
 unfold okN at h
 simp only [Bool.and_eq_true] at h
 exact yd hb16 (Yl b l (fun c hc => by simpa using List.all_eq_true.1 h.2 c hc))
theorem zq {w w3 : World} {b : Nat} (h : Below b w w3) (g : Nat) (hg : b ≤ g) (x y z : Value) : Below b w (((w3.setCell ⟨g, 0, none⟩ x).setCell ⟨g, 1, none⟩ y).setCell ⟨g, 2, none⟩ z) :=
 ((h.setCell hg _).setCell hg _).setCell hg _
theorem kF (neg : Bool) (l : List UInt8) (k b : Nat) (w : World) (hk : k < l.length) (hs : l.length ≤ 5000) (hb2 : 2 ≤ b) (hb16 : b ≤ 16) :
  Calls Tryz.prog 105 #[.bool neg, .string (B l), .int .i64 k, .int .i64 b] w fun e w' => e = .returned (zg (overM neg b (l.take k) (l.drop (k + 1)))) ∧ Below w.heap.size w w' := by
 have hsz : (B l).size ≤ 5000 := by rw [zi]; exact hs
 have hkz : k < (B l).size := by rw [zi]; exact hk
 have he1 : (B l).extract 0 k = B (l.take k) := by rw [zW]; simp
 have he2 : (B l).extract (k + 1) (B l).size = B (l.drop (k + 1)) := by rw [zW, zi, List.take_length]
 generalize hx : l.take k = x at *
 generalize hy : l.drop (k + 1) = y at *
 have hxl : x.length ≤ 5000 := by rw [← hx]; simp; omega
 have hyl : y.length ≤ 5000 := by rw [← hy]; simp; omega
 clear hx hy
 go_enter Tryz.func105, Tryz.ntmps105
 go_wp2_with fail
 refine (jq x b _ hb2 hb16 (by omega)).mono ?_
 rintro e w1 ⟨rfl, hb1⟩
 unfold jk
 go_wp2_with fail
 refine (jq y b _ hb2 hb16 (by omega)).mono ?_
 rintro e w2 ⟨rfl, hb2'⟩
 unfold jk
 have hb0 := zn hb1
 have hn2 := zk hb0 (by have := hb1.size; simpa using this) hb2'
 have hsx := fun h => jL (l := x) hb16 h
 have hsy := fun h => jL (l := y) hb16 h
 have hvx : okN b x = true → natV b x = rdN b x := fun h => by unfold natV; rw [if_pos h]
 have hvy : okN b y = true → natV b y = rdN b y := fun h => by unfold natV; rw [if_pos h]
 have Hov : Hid (overM neg b x y = if okN b x && okN b y then zE neg (rdN b x) (rdN b y) else none) := hide rfl
 generalize natV b x = vx at *
 generalize natV b y = vy at *
 generalize okN b x = ox at *
 generalize okN b y = oy at *
 cases ox
 ·
  have c0 := zb hn2.1 0
  have c1 := zb hn2.1 1
  have c2 := zb hn2.1 2
  have f0 := zh hn2.1 0
  have f1 := zh hn2.1 1
  have f2 := zh hn2.1 2
  have hbX := zm hn2.1
  simp at c0 c1 c2
  clear hb1 hb2' hb0 hn2 hsx hsy he1 he2 hvx hvy
  go_wp2
  refine bodyPost_ret (v := zg none) (by simp [results, Tryz.results105, go_sem, zg, numO, noNum, numV, c0, c1, c2]) rfl ⟨by rw [za Hov]; rfl, ?_⟩
  exact zq hbX _ (Nat.le_refl _) _ _ _
 ·cases oy
  ·
   have c0 := zb hn2.1 0
   have c1 := zb hn2.1 1
   have c2 := zb hn2.1 2
   have f0 := zh hn2.1 0
   have f1 := zh hn2.1 1
   have f2 := zh hn2.1 2
   have hbX := zm hn2.1
   simp at c0 c1 c2
   clear hb1 hb2' hb0 hn2 hsx hsy he1 he2 hvx hvy
   go_wp2
   refine bodyPost_ret (v := zg none) (by simp [results, Tryz.results105, go_sem, zg, numO, noNum, numV, c0, c1, c2]) rfl ⟨by rw [za Hov]; rfl, ?_⟩
   exact zq hbX _ (Nat.le_refl _) _ _ _
  ·have h1 := hsx rfl
   have h2 := hsy rfl
   rw [← hvx rfl] at h1
   rw [← hvy rfl] at h2
   have Hov2 : Hid (overM neg b x y = zE neg vx vy) := by rw [hvx rfl, hvy rfl]; exact Hov
   clear hsx hsy he1 he2 hvx hvy Hov
   go_wp2_with fail
   refine (qz neg vx vy _ (by omega) (by omega)).mono ?_
   rintro e w3 ⟨rfl, hb3⟩
   have hn3 := zk hn2.1 hn2.2 hb3
   have c0 := zb hn3.1 0
   have c1 := zb hn3.1 1
   have c2 := zb hn3.1 2
   have f0 := zh hn3.1 0
   have f1 := zh hn3.1 1
   have f2 := zh hn3.1 2
   have hbX := zm hn3.1
   simp at c0 c1 c2
   clear hb1 hb2' hb0 hn2 hb3 hn3
   generalize zE neg vx vy = o at *
   unfold zg
   obtain ⟨n3, u3, d3, ho⟩ : ∃ n3 u3 d3, numO o = numV n3 u3 d3 := by
    cases o with
    | none => exact ⟨_, _, _, rfl⟩
    | some p => exact ⟨_, _, _, rfl⟩
   have Ho := hide ho
   rw [ho]
   unfold numV
   clear ho
   go_wp2
   refine bodyPost_ret (v := zg o) (by simp [results, Tryz.results105, go_sem, zg, za Ho, numV, c0, c1, c2]) rfl ⟨by rw [za Hov2], ?_⟩
   exact zq hbX _ (Nat.le_refl _) _ _ _
def jt (neg : Bool) (x y : List UInt8) : Option (Bool × Nat × Nat) :=
 if okN 10 (x ++ y) then zE neg (rdN 10 (x ++ y)) (10 ^ y.length) else none
theorem yS : dec 1 = ⟨#[49]⟩ := by unfold dec txt; rw [jG 10 (by omega) 1 (by omega)]; rfl
theorem Xo (j : Nat) : dec (10 ^ j) ++ ⟨#[48]⟩ = dec (10 ^ (j + 1)) := by
 have h1 : 0 < 10 ^ j := Nat.pow_pos (by omega)
 have h : 10 ≤ 10 ^ (j + 1) := by rw [Nat.pow_succ]; omega
 have e := ky 10 (by omega) (10 ^ (j + 1)) h
 rw [show 10 ^ (j + 1) / 10 = 10 ^ j from by rw [Nat.pow_succ]; omega, show 10 ^ (j + 1) % 10 = 0 from by rw [Nat.pow_succ]; omega] at e
 unfold dec txt
 rw [e, show (⟨#[48]⟩ : ByteArray) = B [sg 0] from rfl, zN]
theorem ZY (j : Nat) : (dec (10 ^ j)).size ≤ j + 1 := by
 rw [zH]
 exact qk (by omega) (by omega) (Nat.pow_lt_pow_right (by omega) (by omega))
theorem yR (neg : Bool) (l : List UInt8) (k : Nat) (w : World) (hk : k < l.length) (hs : l.length ≤ 5000) :
  Calls Tryz.prog 106 #[.bool neg, .string (B l), .int .i64 k] w fun e w' => e = .returned (zg (jt neg (l.take k) (l.drop (k + 1)))) ∧ Below w.heap.size w w' := by
 have hsz : (B l).size ≤ 5000 := by rw [zi]; exact hs
 have hszI : ((B l).size : Int) = l.length := by rw [zi]
 have hkz : k < (B l).size := by rw [zi]; exact hk
 have he1 : (B l).extract 0 k = B (l.take k) := by rw [zW]; simp
 have he2 : (B l).extract (k + 1) (B l).size = B (l.drop (k + 1)) := by rw [zW, zi, List.take_length]
 have hyl : (l.drop (k + 1)).length = l.length - (k + 1) := by simp
 have hxl : (l.take k).length = k := by simp; omega
 generalize hx : l.take k = x at *
 generalize hy : l.drop (k + 1) = y at *
 have hcat : B x ++ B y = B (x ++ y) := zN x y
 have hxs : (B x).size = x.length := zi x
 have hys : (B y).size = y.length := zi y
 have hns : ¬ 9223372036854775807 < (B x).size + (B y).size := by omega
 have hns2 : ¬ (9223372036854775807 < ((B x).size : Int) + ((B y).size : Int)) := by omega
 have hxyl : (x ++ y).length ≤ 10000 := by rw [List.length_append]; omega
 have e1 := wi64 ((k : Int) + 1) (by omega) (by omega)
 have e2 : ((k : Int) + 1).toNat = k + 1 := by omega
 clear hx hy
 have Hyl := hide hyl
 clear hyl hxl hxs hys
 go_enter Tryz.func106, Tryz.ntmps106
 go_wp2
 go_region_with (go_at_call 107; refine (jq (x ++ y) 10 _ (by omega) (by omega) hxyl).mono ?_; rintro e w1 ⟨rfl, hb1⟩; unfold jk)
 all_goals
  have hb0 : Below (w.heap.size + 1) (w.alloc (.cells #[.bool false, .string ⟨#[]⟩, .string ⟨#[]⟩] 79)) w1 := by
   have := jF hb1; simpa using this
  have hzz : w.heap.size + 1 ≤ w1.heap.size := by have := hb1.size; simpa using this
  have hsx := fun h => jL (b := 10) (l := x ++ y) (by omega) h
  have hvx : okN 10 (x ++ y) = true → natV 10 (x ++ y) = rdN 10 (x ++ y) := fun h => by unfold natV; rw [if_pos h]
  have Hov : Hid (jt neg x y = if okN 10 (x ++ y) then zE neg (rdN 10 (x ++ y)) (10 ^ y.length) else none) := hide rfl
  generalize natV 10 (x ++ y) = vx at *
  generalize okN 10 (x ++ y) = ox at *
  clear hb1 he1 he2 hcat hns hns2 e1
  cases ox
  case' false =>
   have c0 := zb hb0 0
   have c1 := zb hb0 1
   have c2 := zb hb0 2
   have f0 := zh hb0 0
   have f1 := zh hb0 1
   have f2 := zh hb0 2
   have hbX := zm hb0
   simp at c0 c1 c2
   clear hb0 hsx hvx
   go_wp2
   refine bodyPost_ret (v := zg none) (by simp [results, Tryz.results106, go_sem, zg, numO, noNum, numV, c0, c1, c2]) rfl ⟨by rw [za Hov]; rfl, ?_⟩
   exact zq hbX _ (Nat.le_refl _) _ _ _
  case' true =>
   have h1 := hsx rfl
   rw [← hvx rfl] at h1
   have Hov2 : Hid (jt neg x y = zE neg vx (10 ^ y.length)) := by rw [hvx rfl]; exact Hov
   clear hsx hvx Hov
   go_wp2
   go_loopw [10, 11] (fun dn i wr => ∃ j : Nat, k + 1 + j ≤ l.length ∧ dn = .string (dec (10 ^ j)) ∧ i = .int .i64 ((k + 1 + j : Nat) : Int) ∧ wr = w1) (fun _ i _ => l.length - (intOf i).toNat)
   case atStart => exact ⟨0, by omega, by rw [Nat.pow_zero, yS], by go_num, rfl⟩
   case round =>
    obtain ⟨j, hj, rfl, rfl, rfl⟩ := hrel
    have hds := ZY j
    by_cases hlt : k + 1 + j < l.length
    ·have htn := Xo j
     have hns : ¬ 9223372036854775807 < (dec (10 ^ j)).size + 1 := by omega
     go_wp2
     go_roundw
     case rel => exact ⟨j + 1, by omega, rfl, by go_num, trivial⟩
     case measure => simp [intOf]; omega
    ·have hjy : j = y.length := by have := za Hyl; omega
     go_wp2_with fail
     have hds2 : (dec (10 ^ y.length)).size ≤ 50000 := by rw [← hjy]; omega
     clear hjy
     refine (qz neg vx (10 ^ y.length) _ (by omega) hds2).mono ?_
     rintro e w3 ⟨rfl, hb3⟩
     have hn3 := zk hb0 hzz hb3
     have c0 := zb hn3.1 0
     have c1 := zb hn3.1 1
     have c2 := zb hn3.1 2
     have f0 := zh hn3.1 0
     have f1 := zh hn3.1 1
     have f2 := zh hn3.1 2
     have hbX := zm hn3.1
     simp at c0 c1 c2
     clear hb0 hb3 hn3
     generalize zE neg vx (10 ^ y.length) = o at *
     unfold zg
     obtain ⟨n3, u3, d3, ho⟩ : ∃ n3 u3 d3, numO o = numV n3 u3 d3 := by
      cases o with
      | none => exact ⟨_, _, _, rfl⟩
      | some p => exact ⟨_, _, _, rfl⟩
     have Ho := hide ho
     rw [ho]
     unfold numV
     clear ho
     go_wp2
     refine bodyPost_ret (v := zg o) (by simp [results, Tryz.results106, go_sem, zg, za Ho, numV, c0, c1, c2]) rfl ⟨by rw [za Hov2], ?_⟩
     exact zq hbX _ (Nat.le_refl _) _ _ _
def jw (neg : Bool) (b : Nat) (l : List UInt8) : Option (Bool × Nat × Nat) := if okN b l then zE neg (rdN b l) 1 else none
def bodyM (neg : Bool) (b : Nat) (l : List UInt8) : Option (Bool × Nat × Nat) :=
 match findB 47 l with
 | some k => overM neg b (l.take k) (l.drop (k + 1))
 | none => match findB 46 l with
  | some k => if b = 10 then jt neg (l.take k) (l.drop (k + 1)) else jw neg b l
  | none => jw neg b l
def signB (b : Nat) : List UInt8 → Option (Bool × Nat × Nat)
 | [] => bodyM false b []
 | c :: t => if c = 45 then bodyM true b t else if c = 43 then bodyM false b t else bodyM false b (c :: t)
def zu (l : List UInt8) (r : Int) : Option (Bool × Nat × Nat) := if zJ r && decide (l.length ≤ 240) then signB r.toNat l else none
theorem je {c : UInt8} : ∀ {l : List UInt8} {k : Nat}, findB c l = some k → k < l.length := by
 intro l
 induction l with
 | nil => intro k h; simp [findB] at h
 | cons d r ih =>
  intro k h
  simp only [findB] at h
  split at h
  ·simp at h; subst h; simp
  ·cases hr : findB c r with
   | none => rw [hr] at h; simp at h
   | some j => rw [hr] at h; simp at h; subst h; have := ih hr; simp; omega
theorem jo (l : List UInt8) (c : UInt8) (n : Int) (hn : (c.toNat : Int) = n) (w : World) (hs : l.length ≤ 1000000000) :
  Calls Tryz.prog 104 #[.string (B l), .int .u8 n] w fun e w' => e = .returned (.int .i64 (findI c l)) ∧ w' = w := by
 subst hn; exact XP l c w hs
theorem jN {r : Int} (h : zJ r = true) : ∃ b : Nat, r = b ∧ (b = 2 ∨ b = 8 ∨ b = 10 ∨ b = 16) := by
 unfold zJ at h
 simp only [Bool.or_eq_true, beq_iff_eq] at h
 exact ⟨r.toNat, by omega, by omega⟩
theorem Qt (l : List UInt8) (r : Int) (h : zJ r = false ∨ 240 < l.length) : zu l r = none := by
 unfold zu
 rcases h with h | h
 ·simp [h]
 ·rw [decide_eq_false (by omega)]; simp
theorem xO (l : List UInt8) (r : Int) (w : World) (hs : l.length ≤ 1000000000) (h : zJ r = false ∨ 240 < l.length) :
  Calls Tryz.prog 64 #[.string (B l), .int .i64 r] w fun e w' => e = .returned (zg (zu l r)) ∧ Below w.heap.size w w' := by
 rw [Qt l r h]
 have hsz : (B l).size ≤ 1000000000 := by rw [zi]; exact hs
 by_cases hr : zJ r = false
 ·clear h
  go_enter Tryz.func64, Tryz.ntmps64
  go_wp2_with fail
  refine (jn r _).mono ?_
  rintro e w1 ⟨rfl, rfl⟩
  rw [hr]
  go_wp2
  refine bodyPost_ret (v := zg none) (by simp [results, Tryz.results64, go_sem, zg, numO, noNum, numV]) rfl ⟨rfl, ?_⟩
  exact (Below.refl _ _).alloc (Nat.le_refl _) _
 ·have hr' : zJ r = true := by simpa using hr
  have hl : 240 < (B l).size := by rw [zi]; rcases h with h | h; exact absurd h hr; exact h
  clear h hr
  go_enter Tryz.func64, Tryz.ntmps64
  go_wp2_with fail
  refine (jn r _).mono ?_
  rintro e w1 ⟨rfl, rfl⟩
  rw [hr']
  go_wp2
  refine bodyPost_ret (v := zg none) (by simp [results, Tryz.results64, go_sem, zg, numO, noNum, numV]) rfl ⟨rfl, ?_⟩
  exact (Below.refl _ _).alloc (Nat.le_refl _) _
theorem jz (l : List UInt8) (b : Nat) (hb4 : b = 2 ∨ b = 8 ∨ b = 10 ∨ b = 16) (hl : l.length ≤ 240) : zu l (b : Int) = signB b l := by
 have hr : zJ (b : Int) = true := by rcases hb4 with rfl | rfl | rfl | rfl <;> rfl
 unfold zu
 rw [hr, decide_eq_true hl]
 simp
theorem kI (b : Nat) (w : World) (hb4 : b = 2 ∨ b = 8 ∨ b = 10 ∨ b = 16) :
  Calls Tryz.prog 64 #[.string (B []), .int .i64 b] w fun e w' => e = .returned (zg (zu [] b)) ∧ Below w.heap.size w w' := by
 obtain ⟨l, hl⟩ : ∃ l : List UInt8, l = [] := ⟨_, rfl⟩
 rw [← hl]
 have hr : zJ (b : Int) = true := by rcases hb4 with rfl | rfl | rfl | rfl <;> rfl
 have hl2 : l.length ≤ 240 := by rw [hl]; simp
 have Hm : Hid (zu l (b : Int) = bodyM false b l) := by show _ = _; rw [jz l b hb4 hl2, hl]; rfl
 have hz : (B l).size ≤ 0 := by rw [zi, hl]; simp
 clear hl
 go_enter Tryz.func64, Tryz.ntmps64
 go_wp2_with fail
 refine (jn b _).mono ?_
 rintro e w1 ⟨rfl, rfl⟩
 rw [hr]
 go_wp2_with fail
 refine (jo l 47 47 rfl _ (by omega)).mono ?_
 rintro e w1 ⟨rfl, rfl⟩
 cases hf : findB 47 l with
 | some k =>
  have hfi : findI 47 l = (k : Int) := by unfold findI; rw [hf]
  have hk := je hf
  have Hov2 : Hid (zu l (b : Int) = overM false b ((l).take k) ((l).drop (k + 1))) := by
   show _ = _
   rw [za Hm]; unfold bodyM; rw [hf]
  rw [hfi]
  clear hfi hf
  go_wp2_with fail
  refine (kF false l k b _ hk (by omega) (by omega) (by omega)).mono ?_
  rintro e w2 ⟨rfl, hb2⟩
  have hb0 := zn hb2
  have c0 := zb hb0 0
  have c1 := zb hb0 1
  have c2 := zb hb0 2
  have f0 := zh hb0 0
  have f1 := zh hb0 1
  have f2 := zh hb0 2
  have hbX := zm hb0
  simp at c0 c1 c2
  clear hb2 hb0
  generalize overM false b ((l).take k) ((l).drop (k + 1)) = o at *
  unfold zg
  obtain ⟨n3, u3, d3, ho⟩ : ∃ n3 u3 d3, numO o = numV n3 u3 d3 := by
   cases o with
   | none => exact ⟨_, _, _, rfl⟩
   | some p => exact ⟨_, _, _, rfl⟩
  have Ho := hide ho
  rw [ho]
  unfold numV
  clear ho
  go_wp2
  refine bodyPost_ret (v := zg o) (by simp [results, Tryz.results64, go_sem, zg, za Ho, numV, c0, c1, c2]) rfl ⟨by rw [za Hov2], ?_⟩
  exact zq hbX _ (Nat.le_refl _) _ _ _
 | none =>
  have hfi : findI 47 l = -1 := by unfold findI; rw [hf]
  rw [hfi]
  clear hfi
  go_wp2_with fail
  refine (jo l 46 46 rfl _ (by omega)).mono ?_
  rintro e w2 ⟨rfl, rfl⟩
  have Hf := hide hf
  clear hf
  by_cases hpt : b = 10 ∧ ∃ k, findB 46 l = some k
  ·obtain ⟨hb10, k, hfk⟩ := hpt
   have hfi : findI 46 l = (k : Int) := by unfold findI; rw [hfk]
   have hk := je hfk
   have Hov2 : Hid (zu l (b : Int) = jt false ((l).take k) ((l).drop (k + 1))) := by
    show _ = _
    rw [za Hm]; unfold bodyM; rw [za Hf]
    simp only [hfk]
    rw [if_pos hb10]
   rw [hfi]
   have hbq : ((b : Int) == 10) = true := by rw [beq_iff_eq]; omega
   clear hfi hfk hb10
   go_wp2_with fail
   refine (yR false l k _ hk (by omega)).mono ?_
   rintro e w3 ⟨rfl, hb3⟩
   have hb0 := zn hb3
   have c0 := zb hb0 0
   have c1 := zb hb0 1
   have c2 := zb hb0 2
   have f0 := zh hb0 0
   have f1 := zh hb0 1
   have f2 := zh hb0 2
   have hbX := zm hb0
   simp at c0 c1 c2
   clear hb3 hb0
   generalize jt false ((l).take k) ((l).drop (k + 1)) = o at *
   unfold zg
   obtain ⟨n3, u3, d3, ho⟩ : ∃ n3 u3 d3, numO o = numV n3 u3 d3 := by
    cases o with
    | none => exact ⟨_, _, _, rfl⟩
    | some p => exact ⟨_, _, _, rfl⟩
   have Ho := hide ho
   rw [ho]
   unfold numV
   clear ho
   go_wp2
   refine bodyPost_ret (v := zg o) (by simp [results, Tryz.results64, go_sem, zg, za Ho, numV, c0, c1, c2]) rfl ⟨by rw [za Hov2], ?_⟩
   exact zq hbX _ (Nat.le_refl _) _ _ _
  ·have Hpl : Hid (zu l (b : Int) = jw false b l) := by
    show _ = _
    rw [za Hm]; unfold bodyM; rw [za Hf]
    cases hfk : findB 46 l with
    | none => rfl
    | some k =>
     simp only
     rw [if_neg (fun h => hpt ⟨h, k, hfk⟩)]
   have hsn := fun h => jL (b := b) (l := l) (by omega) h
   have hvn : okN b l = true → natV b l = rdN b l := fun h => by unfold natV; rw [if_pos h]
   have Hpo : Hid (jw false b l = if okN b l then zE false (rdN b l) 1 else none) := hide rfl
   have d1 : dec 1 = ⟨#[49]⟩ := yS
   by_cases hfz : 0 ≤ findI 46 l
   ·have hbq : ((b : Int) == 10) = false := by
     rw [beq_eq_false_iff_ne]
     intro hh
     apply hpt
     refine ⟨by omega, ?_⟩
     unfold findI at hfz
     cases hfk : findB 46 l with
     | none => rw [hfk] at hfz; simp at hfz
     | some k => exact ⟨k, rfl⟩
    clear hpt
    go_wp2_with fail
    refine (jq l b _ (by omega) (by omega) (by omega)).mono ?_
    rintro e w3 ⟨rfl, hb3⟩
    unfold jk
    have hb0 := zn hb3
    have hzz : w.heap.size + 1 ≤ w3.heap.size := by have := hb3.size; simpa using this
    generalize natV b l = vx at *
    generalize okN b l = ox at *
    cases ox with
    | false =>
     have c0 := zb hb0 0
     have c1 := zb hb0 1
     have c2 := zb hb0 2
     have f0 := zh hb0 0
     have f1 := zh hb0 1
     have f2 := zh hb0 2
     have hbX := zm hb0
     simp at c0 c1 c2
     clear hb3 hb0 hsn hvn d1
     go_wp2
     refine bodyPost_ret (v := zg none) (by simp [results, Tryz.results64, go_sem, zg, numO, noNum, numV, c0, c1, c2]) rfl ⟨by rw [za Hpl, za Hpo]; rfl, ?_⟩
     exact zq hbX _ (Nat.le_refl _) _ _ _
    | true =>
     have h1 := hsn rfl
     rw [← hvn rfl] at h1
     have Hov2 : Hid (zu l (b : Int) = zE false vx 1) := by rw [hvn rfl]; exact (za Hpl).trans (za Hpo)
     have d1s := qm (n := 1) (by omega)
     clear hsn hvn
     go_wp2_with fail
     rw [← d1]
     clear d1
     refine (qz false vx 1 _ (by omega) (by omega)).mono ?_
     rintro e w4 ⟨rfl, hb4'⟩
     have hn4 := zk hb0 hzz hb4'
     have c0 := zb hn4.1 0
     have c1 := zb hn4.1 1
     have c2 := zb hn4.1 2
     have f0 := zh hn4.1 0
     have f1 := zh hn4.1 1
     have f2 := zh hn4.1 2
     have hbX := zm hn4.1
     simp at c0 c1 c2
     clear hb3 hb0 hb4' hn4
     generalize zE false vx 1 = o at *
     unfold zg
     obtain ⟨n3, u3, d3, ho⟩ : ∃ n3 u3 d3, numO o = numV n3 u3 d3 := by
      cases o with
      | none => exact ⟨_, _, _, rfl⟩
      | some p => exact ⟨_, _, _, rfl⟩
     have Ho := hide ho
     rw [ho]
     unfold numV
     clear ho
     go_wp2
     refine bodyPost_ret (v := zg o) (by simp [results, Tryz.results64, go_sem, zg, za Ho, numV, c0, c1, c2]) rfl ⟨by rw [za Hov2], ?_⟩
     exact zq hbX _ (Nat.le_refl _) _ _ _
   ·clear hpt
    go_wp2_with fail
    refine (jq l b _ (by omega) (by omega) (by omega)).mono ?_
    rintro e w3 ⟨rfl, hb3⟩
    unfold jk
    have hb0 := zn hb3
    have hzz : w.heap.size + 1 ≤ w3.heap.size := by have := hb3.size; simpa using this
    generalize natV b l = vx at *
    generalize okN b l = ox at *
    cases ox with
    | false =>
     have c0 := zb hb0 0
     have c1 := zb hb0 1
     have c2 := zb hb0 2
     have f0 := zh hb0 0
     have f1 := zh hb0 1
     have f2 := zh hb0 2
     have hbX := zm hb0
     simp at c0 c1 c2
     clear hb3 hb0 hsn hvn d1
     go_wp2
     refine bodyPost_ret (v := zg none) (by simp [results, Tryz.results64, go_sem, zg, numO, noNum, numV, c0, c1, c2]) rfl ⟨by rw [za Hpl, za Hpo]; rfl, ?_⟩
     exact zq hbX _ (Nat.le_refl _) _ _ _
    | true =>
     have h1 := hsn rfl
     rw [← hvn rfl] at h1
     have Hov2 : Hid (zu l (b : Int) = zE false vx 1) := by rw [hvn rfl]; exact (za Hpl).trans (za Hpo)
     have d1s := qm (n := 1) (by omega)
     clear hsn hvn
     go_wp2_with fail
     rw [← d1]
     clear d1
     refine (qz false vx 1 _ (by omega) (by omega)).mono ?_
     rintro e w4 ⟨rfl, hb4'⟩
     have hn4 := zk hb0 hzz hb4'
     have c0 := zb hn4.1 0
     have c1 := zb hn4.1 1
     have c2 := zb hn4.1 2
     have f0 := zh hn4.1 0
     have f1 := zh hn4.1 1
     have f2 := zh hn4.1 2
     have hbX := zm hn4.1
     simp at c0 c1 c2
     clear hb3 hb0 hb4' hn4
     generalize zE false vx 1 = o at *
     unfold zg
     obtain ⟨n3, u3, d3, ho⟩ : ∃ n3 u3 d3, numO o = numV n3 u3 d3 := by
      cases o with
      | none => exact ⟨_, _, _, rfl⟩
      | some p => exact ⟨_, _, _, rfl⟩
     have Ho := hide ho
     rw [ho]
     unfold numV
     clear ho
     go_wp2
     refine bodyPost_ret (v := zg o) (by simp [results, Tryz.results64, go_sem, zg, za Ho, numV, c0, c1, c2]) rfl ⟨by rw [za Hov2], ?_⟩
     exact zq hbX _ (Nat.le_refl _) _ _ _
theorem y7 (t : List UInt8) (b : Nat) (w : World) (hb4 : b = 2 ∨ b = 8 ∨ b = 10 ∨ b = 16) (c : UInt8) (hc : c = 45) (hlen : (c :: t).length ≤ 240) :
  Calls Tryz.prog 64 #[.string (B (c :: t)), .int .i64 b] w fun e w' => e = .returned (zg (zu (c :: t) b)) ∧ Below w.heap.size w w' := by
 obtain ⟨l, hl⟩ : ∃ l : List UInt8, l = c :: t := ⟨_, rfl⟩
 rw [← hl]
 have hr : zJ (b : Int) = true := by rcases hb4 with rfl | rfl | rfl | rfl <;> rfl
 have hl2 : l.length ≤ 240 := by rw [hl]; exact hlen
 have htl : t.length ≤ 240 := by simp at hlen; omega
 have hpos : 0 < (B l).size := by rw [zi, hl]; simp
 have hposI : (0 : Int) < ((B l).size : Int) := by omega
 have hsz : (B l).size ≤ 240 := by rw [zi]; exact hl2
 have hc0 : ((B l)[0]'hpos).toNat = c.toNat := by rw [B_get]; simp [hl]
 have hcut : (B l).extract 1 (B l).size = B t := by rw [zW, zi, List.take_length, hl]; rfl
 have Hm : Hid (zu l (b : Int) = bodyM true b t) := by show _ = _; rw [jz l b hb4 hl2, hl]; simp [signB, hc]
 have hq : (((B l)[0]'hpos).toNat : Int) == 45 := by rw [hc0, hc]; rfl
 clear hl hc hc0 hlen
 go_enter Tryz.func64, Tryz.ntmps64
 go_wp2_with fail
 refine (jn b _).mono ?_
 rintro e w1 ⟨rfl, rfl⟩
 rw [hr]
 go_wp2_with fail
 refine (jo t 47 47 rfl _ (by omega)).mono ?_
 rintro e w1 ⟨rfl, rfl⟩
 cases hf : findB 47 t with
 | some k =>
  have hfi : findI 47 t = (k : Int) := by unfold findI; rw [hf]
  have hk := je hf
  have Hov2 : Hid (zu l (b : Int) = overM true b ((t).take k) ((t).drop (k + 1))) := by
   show _ = _
   rw [za Hm]; unfold bodyM; rw [hf]
  rw [hfi]
  clear hfi hf
  go_wp2_with fail
  refine (kF true t k b _ hk (by omega) (by omega) (by omega)).mono ?_
  rintro e w2 ⟨rfl, hb2⟩
  have hb0 := zn hb2
  have c0 := zb hb0 0
  have c1 := zb hb0 1
  have c2 := zb hb0 2
  have f0 := zh hb0 0
  have f1 := zh hb0 1
  have f2 := zh hb0 2
  have hbX := zm hb0
  simp at c0 c1 c2
  clear hb2 hb0
  generalize overM true b ((t).take k) ((t).drop (k + 1)) = o at *
  unfold zg
  obtain ⟨n3, u3, d3, ho⟩ : ∃ n3 u3 d3, numO o = numV n3 u3 d3 := by
   cases o with
   | none => exact ⟨_, _, _, rfl⟩
   | some p => exact ⟨_, _, _, rfl⟩
  have Ho := hide ho
  rw [ho]
  unfold numV
  clear ho
  go_wp2
  refine bodyPost_ret (v := zg o) (by simp [results, Tryz.results64, go_sem, zg, za Ho, numV, c0, c1, c2]) rfl ⟨by rw [za Hov2], ?_⟩
  exact zq hbX _ (Nat.le_refl _) _ _ _
 | none =>
  have hfi : findI 47 t = -1 := by unfold findI; rw [hf]
  rw [hfi]
  clear hfi
  go_wp2_with fail
  refine (jo t 46 46 rfl _ (by omega)).mono ?_
  rintro e w2 ⟨rfl, rfl⟩
  have Hf := hide hf
  clear hf
  by_cases hpt : b = 10 ∧ ∃ k, findB 46 t = some k
  ·obtain ⟨hb10, k, hfk⟩ := hpt
   have hfi : findI 46 t = (k : Int) := by unfold findI; rw [hfk]
   have hk := je hfk
   have Hov2 : Hid (zu l (b : Int) = jt true ((t).take k) ((t).drop (k + 1))) := by
    show _ = _
    rw [za Hm]; unfold bodyM; rw [za Hf]
    simp only [hfk]
    rw [if_pos hb10]
   rw [hfi]
   have hbq : ((b : Int) == 10) = true := by rw [beq_iff_eq]; omega
   clear hfi hfk hb10
   go_wp2_with fail
   refine (yR true t k _ hk (by omega)).mono ?_
   rintro e w3 ⟨rfl, hb3⟩
   have hb0 := zn hb3
   have c0 := zb hb0 0
   have c1 := zb hb0 1
   have c2 := zb hb0 2
   have f0 := zh hb0 0
   have f1 := zh hb0 1
   have f2 := zh hb0 2
   have hbX := zm hb0
   simp at c0 c1 c2
   clear hb3 hb0
   generalize jt true ((t).take k) ((t).drop (k + 1)) = o at *
   unfold zg
   obtain ⟨n3, u3, d3, ho⟩ : ∃ n3 u3 d3, numO o = numV n3 u3 d3 := by
    cases o with
    | none => exact ⟨_, _, _, rfl⟩
    | some p => exact ⟨_, _, _, rfl⟩
   have Ho := hide ho
   rw [ho]
   unfold numV
   clear ho
   go_wp2
   refine bodyPost_ret (v := zg o) (by simp [results, Tryz.results64, go_sem, zg, za Ho, numV, c0, c1, c2]) rfl ⟨by rw [za Hov2], ?_⟩
   exact zq hbX _ (Nat.le_refl _) _ _ _
  ·have Hpl : Hid (zu l (b : Int) = jw true b t) := by
    show _ = _
    rw [za Hm]; unfold bodyM; rw [za Hf]
    cases hfk : findB 46 t with
    | none => rfl
    | some k =>
     simp only
     rw [if_neg (fun h => hpt ⟨h, k, hfk⟩)]
   have hsn := fun h => jL (b := b) (l := t) (by omega) h
   have hvn : okN b t = true → natV b t = rdN b t := fun h => by unfold natV; rw [if_pos h]
   have Hpo : Hid (jw true b t = if okN b t then zE true (rdN b t) 1 else none) := hide rfl
   have d1 : dec 1 = ⟨#[49]⟩ := yS
   by_cases hfz : 0 ≤ findI 46 t
   ·have hbq : ((b : Int) == 10) = false := by
     rw [beq_eq_false_iff_ne]
     intro hh
     apply hpt
     refine ⟨by omega, ?_⟩
     unfold findI at hfz
     cases hfk : findB 46 t with
     | none => rw [hfk] at hfz; simp at hfz
     | some k => exact ⟨k, rfl⟩
    clear hpt
    go_wp2_with fail
    refine (jq t b _ (by omega) (by omega) (by omega)).mono ?_
    rintro e w3 ⟨rfl, hb3⟩
    unfold jk
    have hb0 := zn hb3
    have hzz : w.heap.size + 1 ≤ w3.heap.size := by have := hb3.size; simpa using this
    generalize natV b t = vx at *
    generalize okN b t = ox at *
    cases ox with
    | false =>
     have c0 := zb hb0 0
     have c1 := zb hb0 1
     have c2 := zb hb0 2
     have f0 := zh hb0 0
     have f1 := zh hb0 1
     have f2 := zh hb0 2
     have hbX := zm hb0
     simp at c0 c1 c2
     clear hb3 hb0 hsn hvn d1
     go_wp2
     refine bodyPost_ret (v := zg none) (by simp [results, Tryz.results64, go_sem, zg, numO, noNum, numV, c0, c1, c2]) rfl ⟨by rw [za Hpl, za Hpo]; rfl, ?_⟩
     exact zq hbX _ (Nat.le_refl _) _ _ _
    | true =>
     have h1 := hsn rfl
     rw [← hvn rfl] at h1
     have Hov2 : Hid (zu l (b : Int) = zE true vx 1) := by rw [hvn rfl]; exact (za Hpl).trans (za Hpo)
     have d1s := qm (n := 1) (by omega)
     clear hsn hvn
     go_wp2_with fail
     rw [← d1]
     clear d1
     refine (qz true vx 1 _ (by omega) (by omega)).mono ?_
     rintro e w4 ⟨rfl, hb4'⟩
     have hn4 := zk hb0 hzz hb4'
     have c0 := zb hn4.1 0
     have c1 := zb hn4.1 1
     have c2 := zb hn4.1 2
     have f0 := zh hn4.1 0
     have f1 := zh hn4.1 1
     have f2 := zh hn4.1 2
     have hbX := zm hn4.1
     simp at c0 c1 c2
     clear hb3 hb0 hb4' hn4
     generalize zE true vx 1 = o at *
     unfold zg
     obtain ⟨n3, u3, d3, ho⟩ : ∃ n3 u3 d3, numO o = numV n3 u3 d3 := by
      cases o with
      | none => exact ⟨_, _, _, rfl⟩
      | some p => exact ⟨_, _, _, rfl⟩
     have Ho := hide ho
     rw [ho]
     unfold numV
     clear ho
     go_wp2
     refine bodyPost_ret (v := zg o) (by simp [results, Tryz.results64, go_sem, zg, za Ho, numV, c0, c1, c2]) rfl ⟨by rw [za Hov2], ?_⟩
     exact zq hbX _ (Nat.le_refl _) _ _ _
   ·clear hpt
    go_wp2_with fail
    refine (jq t b _ (by omega) (by omega) (by omega)).mono ?_
    rintro e w3 ⟨rfl, hb3⟩
    unfold jk
    have hb0 := zn hb3
    have hzz : w.heap.size + 1 ≤ w3.heap.size := by have := hb3.size; simpa using this
    generalize natV b t = vx at *
    generalize okN b t = ox at *
    cases ox with
    | false =>
     have c0 := zb hb0 0
     have c1 := zb hb0 1
     have c2 := zb hb0 2
     have f0 := zh hb0 0
     have f1 := zh hb0 1
     have f2 := zh hb0 2
     have hbX := zm hb0
     simp at c0 c1 c2
     clear hb3 hb0 hsn hvn d1
     go_wp2
     refine bodyPost_ret (v := zg none) (by simp [results, Tryz.results64, go_sem, zg, numO, noNum, numV, c0, c1, c2]) rfl ⟨by rw [za Hpl, za Hpo]; rfl, ?_⟩
     exact zq hbX _ (Nat.le_refl _) _ _ _
    | true =>
     have h1 := hsn rfl
     rw [← hvn rfl] at h1
     have Hov2 : Hid (zu l (b : Int) = zE true vx 1) := by rw [hvn rfl]; exact (za Hpl).trans (za Hpo)
     have d1s := qm (n := 1) (by omega)
     clear hsn hvn
     go_wp2_with fail
     rw [← d1]
     clear d1
     refine (qz true vx 1 _ (by omega) (by omega)).mono ?_
     rintro e w4 ⟨rfl, hb4'⟩
     have hn4 := zk hb0 hzz hb4'
     have c0 := zb hn4.1 0
     have c1 := zb hn4.1 1
     have c2 := zb hn4.1 2
     have f0 := zh hn4.1 0
     have f1 := zh hn4.1 1
     have f2 := zh hn4.1 2
     have hbX := zm hn4.1
     simp at c0 c1 c2
     clear hb3 hb0 hb4' hn4
     generalize zE true vx 1 = o at *
     unfold zg
     obtain ⟨n3, u3, d3, ho⟩ : ∃ n3 u3 d3, numO o = numV n3 u3 d3 := by
      cases o with
      | none => exact ⟨_, _, _, rfl⟩
      | some p => exact ⟨_, _, _, rfl⟩
     have Ho := hide ho
     rw [ho]
     unfold numV
     clear ho
     go_wp2
     refine bodyPost_ret (v := zg o) (by simp [results, Tryz.results64, go_sem, zg, za Ho, numV, c0, c1, c2]) rfl ⟨by rw [za Hov2], ?_⟩
     exact zq hbX _ (Nat.le_refl _) _ _ _
theorem kk (t : List UInt8) (b : Nat) (w : World) (hb4 : b = 2 ∨ b = 8 ∨ b = 10 ∨ b = 16) (c : UInt8) (hc : c = 43) (hlen : (c :: t).length ≤ 240) :
  Calls Tryz.prog 64 #[.string (B (c :: t)), .int .i64 b] w fun e w' => e = .returned (zg (zu (c :: t) b)) ∧ Below w.heap.size w w' := by
 obtain ⟨l, hl⟩ : ∃ l : List UInt8, l = c :: t := ⟨_, rfl⟩
 rw [← hl]
 have hr : zJ (b : Int) = true := by rcases hb4 with rfl | rfl | rfl | rfl <;> rfl
 have hl2 : l.length ≤ 240 := by rw [hl]; exact hlen
 have htl : t.length ≤ 240 := by simp at hlen; omega
 have hpos : 0 < (B l).size := by rw [zi, hl]; simp
 have hposI : (0 : Int) < ((B l).size : Int) := by omega
 have hsz : (B l).size ≤ 240 := by rw [zi]; exact hl2
 have hc0 : ((B l)[0]'hpos).toNat = c.toNat := by rw [B_get]; simp [hl]
 have hcut : (B l).extract 1 (B l).size = B t := by rw [zW, zi, List.take_length, hl]; rfl
 have Hm : Hid (zu l (b : Int) = bodyM false b t) := by show _ = _; rw [jz l b hb4 hl2, hl]; simp [signB, hc]
 have hq : ((((B l)[0]'hpos).toNat : Int) == 45) = false := by rw [hc0, hc]; rfl
 have hq2 : ((((B l)[0]'hpos).toNat : Int) == 43) = true := by rw [hc0, hc]; rfl
 clear hl hc hc0 hlen
 go_enter Tryz.func64, Tryz.ntmps64
 go_wp2_with fail
 refine (jn b _).mono ?_
 rintro e w1 ⟨rfl, rfl⟩
 rw [hr]
 go_wp2_with fail
 refine (jo t 47 47 rfl _ (by omega)).mono ?_
 rintro e w1 ⟨rfl, rfl⟩
 cases hf : findB 47 t with
 | some k =>
  have hfi : findI 47 t = (k : Int) := by unfold findI; rw [hf]
  have hk := je hf
  have Hov2 : Hid (zu l (b : Int) = overM false b ((t).take k) ((t).drop (k + 1))) := by
   show _ = _
   rw [za Hm]; unfold bodyM; rw [hf]
  rw [hfi]
  clear hfi hf
  go_wp2_with fail
  refine (kF false t k b _ hk (by omega) (by omega) (by omega)).mono ?_
  rintro e w2 ⟨rfl, hb2⟩
  have hb0 := zn hb2
  have c0 := zb hb0 0
  have c1 := zb hb0 1
  have c2 := zb hb0 2
  have f0 := zh hb0 0
  have f1 := zh hb0 1
  have f2 := zh hb0 2
  have hbX := zm hb0
  simp at c0 c1 c2
  clear hb2 hb0
  generalize overM false b ((t).take k) ((t).drop (k + 1)) = o at *
  unfold zg
  obtain ⟨n3, u3, d3, ho⟩ : ∃ n3 u3 d3, numO o = numV n3 u3 d3 := by
   cases o with
   | none => exact ⟨_, _, _, rfl⟩
   | some p => exact ⟨_, _, _, rfl⟩
  have Ho := hide ho
  rw [ho]
  unfold numV
  clear ho
  go_wp2
  refine bodyPost_ret (v := zg o) (by simp [results, Tryz.results64, go_sem, zg, za Ho, numV, c0, c1, c2]) rfl ⟨by rw [za Hov2], ?_⟩
  exact zq hbX _ (Nat.le_refl _) _ _ _
 | none =>
  have hfi : findI 47 t = -1 := by unfold findI; rw [hf]
  rw [hfi]
  clear hfi
  go_wp2_with fail
  refine (jo t 46 46 rfl _ (by omega)).mono ?_
  rintro e w2 ⟨rfl, rfl⟩
  have Hf := hide hf
  clear hf
  by_cases hpt : b = 10 ∧ ∃ k, findB 46 t = some k
  ·obtain ⟨hb10, k, hfk⟩ := hpt
   have hfi : findI 46 t = (k : Int) := by unfold findI; rw [hfk]
   have hk := je hfk
   have Hov2 : Hid (zu l (b : Int) = jt false ((t).take k) ((t).drop (k + 1))) := by
    show _ = _
    rw [za Hm]; unfold bodyM; rw [za Hf]
    simp only [hfk]
    rw [if_pos hb10]
   rw [hfi]
   have hbq : ((b : Int) == 10) = true := by rw [beq_iff_eq]; omega
   clear hfi hfk hb10
   go_wp2_with fail
   refine (yR false t k _ hk (by omega)).mono ?_
   rintro e w3 ⟨rfl, hb3⟩
   have hb0 := zn hb3
   have c0 := zb hb0 0
   have c1 := zb hb0 1
   have c2 := zb hb0 2
   have f0 := zh hb0 0
   have f1 := zh hb0 1
   have f2 := zh hb0 2
   have hbX := zm hb0
   simp at c0 c1 c2
   clear hb3 hb0
   generalize jt false ((t).take k) ((t).drop (k + 1)) = o at *
   unfold zg
   obtain ⟨n3, u3, d3, ho⟩ : ∃ n3 u3 d3, numO o = numV n3 u3 d3 := by
    cases o with
    | none => exact ⟨_, _, _, rfl⟩
    | some p => exact ⟨_, _, _, rfl⟩
   have Ho := hide ho
   rw [ho]
   unfold numV
   clear ho
   go_wp2
   refine bodyPost_ret (v := zg o) (by simp [results, Tryz.results64, go_sem, zg, za Ho, numV, c0, c1, c2]) rfl ⟨by rw [za Hov2], ?_⟩
   exact zq hbX _ (Nat.le_refl _) _ _ _
  ·have Hpl : Hid (zu l (b : Int) = jw false b t) := by
    show _ = _
    rw [za Hm]; unfold bodyM; rw [za Hf]
    cases hfk : findB 46 t with
    | none => rfl
    | some k =>
     simp only
     rw [if_neg (fun h => hpt ⟨h, k, hfk⟩)]
   have hsn := fun h => jL (b := b) (l := t) (by omega) h
   have hvn : okN b t = true → natV b t = rdN b t := fun h => by unfold natV; rw [if_pos h]
   have Hpo : Hid (jw false b t = if okN b t then zE false (rdN b t) 1 else none) := hide rfl
   have d1 : dec 1 = ⟨#[49]⟩ := yS
   by_cases hfz : 0 ≤ findI 46 t
   ·have hbq : ((b : Int) == 10) = false := by
     rw [beq_eq_false_iff_ne]
     intro hh
     apply hpt
     refine ⟨by omega, ?_⟩
     unfold findI at hfz
     cases hfk : findB 46 t with
     | none => rw [hfk] at hfz; simp at hfz
     | some k => exact ⟨k, rfl⟩
    clear hpt
    go_wp2_with fail
    refine (jq t b _ (by omega) (by omega) (by omega)).mono ?_
    rintro e w3 ⟨rfl, hb3⟩
    unfold jk
    have hb0 := zn hb3
    have hzz : w.heap.size + 1 ≤ w3.heap.size := by have := hb3.size; simpa using this
    generalize natV b t = vx at *
    generalize okN b t = ox at *
    cases ox with
    | false =>
     have c0 := zb hb0 0
     have c1 := zb hb0 1
     have c2 := zb hb0 2
     have f0 := zh hb0 0
     have f1 := zh hb0 1
     have f2 := zh hb0 2
     have hbX := zm hb0
     simp at c0 c1 c2
     clear hb3 hb0 hsn hvn d1
     go_wp2
     refine bodyPost_ret (v := zg none) (by simp [results, Tryz.results64, go_sem, zg, numO, noNum, numV, c0, c1, c2]) rfl ⟨by rw [za Hpl, za Hpo]; rfl, ?_⟩
     exact zq hbX _ (Nat.le_refl _) _ _ _
    | true =>
     have h1 := hsn rfl
     rw [← hvn rfl] at h1
     have Hov2 : Hid (zu l (b : Int) = zE false vx 1) := by rw [hvn rfl]; exact (za Hpl).trans (za Hpo)
     have d1s := qm (n := 1) (by omega)
     clear hsn hvn
     go_wp2_with fail
     rw [← d1]
     clear d1
     refine (qz false vx 1 _ (by omega) (by omega)).mono ?_
     rintro e w4 ⟨rfl, hb4'⟩
     have hn4 := zk hb0 hzz hb4'
     have c0 := zb hn4.1 0
     have c1 := zb hn4.1 1
     have c2 := zb hn4.1 2
     have f0 := zh hn4.1 0
     have f1 := zh hn4.1 1
     have f2 := zh hn4.1 2
     have hbX := zm hn4.1
     simp at c0 c1 c2
     clear hb3 hb0 hb4' hn4
     generalize zE false vx 1 = o at *
     unfold zg
     obtain ⟨n3, u3, d3, ho⟩ : ∃ n3 u3 d3, numO o = numV n3 u3 d3 := by
      cases o with
      | none => exact ⟨_, _, _, rfl⟩
      | some p => exact ⟨_, _, _, rfl⟩
     have Ho := hide ho
     rw [ho]
     unfold numV
     clear ho
     go_wp2
     refine bodyPost_ret (v := zg o) (by simp [results, Tryz.results64, go_sem, zg, za Ho, numV, c0, c1, c2]) rfl ⟨by rw [za Hov2], ?_⟩
     exact zq hbX _ (Nat.le_refl _) _ _ _
   ·clear hpt
    go_wp2_with fail
    refine (jq t b _ (by omega) (by omega) (by omega)).mono ?_
    rintro e w3 ⟨rfl, hb3⟩
    unfold jk
    have hb0 := zn hb3
    have hzz : w.heap.size + 1 ≤ w3.heap.size := by have := hb3.size; simpa using this
    generalize natV b t = vx at *
    generalize okN b t = ox at *
    cases ox with
    | false =>
     have c0 := zb hb0 0
     have c1 := zb hb0 1
     have c2 := zb hb0 2
     have f0 := zh hb0 0
     have f1 := zh hb0 1
     have f2 := zh hb0 2
     have hbX := zm hb0
     simp at c0 c1 c2
     clear hb3 hb0 hsn hvn d1
     go_wp2
     refine bodyPost_ret (v := zg none) (by simp [results, Tryz.results64, go_sem, zg, numO, noNum, numV, c0, c1, c2]) rfl ⟨by rw [za Hpl, za Hpo]; rfl, ?_⟩
     exact zq hbX _ (Nat.le_refl _) _ _ _
    | true =>
     have h1 := hsn rfl
     rw [← hvn rfl] at h1
     have Hov2 : Hid (zu l (b : Int) = zE false vx 1) := by rw [hvn rfl]; exact (za Hpl).trans (za Hpo)
     have d1s := qm (n := 1) (by omega)
     clear hsn hvn
     go_wp2_with fail
     rw [← d1]
     clear d1
     refine (qz false vx 1 _ (by omega) (by omega)).mono ?_
     rintro e w4 ⟨rfl, hb4'⟩
     have hn4 := zk hb0 hzz hb4'
     have c0 := zb hn4.1 0
     have c1 := zb hn4.1 1
     have c2 := zb hn4.1 2
     have f0 := zh hn4.1 0
     have f1 := zh hn4.1 1
     have f2 := zh hn4.1 2
     have hbX := zm hn4.1
     simp at c0 c1 c2
     clear hb3 hb0 hb4' hn4
     generalize zE false vx 1 = o at *
     unfold zg
     obtain ⟨n3, u3, d3, ho⟩ : ∃ n3 u3 d3, numO o = numV n3 u3 d3 := by
      cases o with
      | none => exact ⟨_, _, _, rfl⟩
      | some p => exact ⟨_, _, _, rfl⟩
     have Ho := hide ho
     rw [ho]
     unfold numV
     clear ho
     go_wp2
     refine bodyPost_ret (v := zg o) (by simp [results, Tryz.results64, go_sem, zg, za Ho, numV, c0, c1, c2]) rfl ⟨by rw [za Hov2], ?_⟩
     exact zq hbX _ (Nat.le_refl _) _ _ _
theorem km (t : List UInt8) (b : Nat) (w : World) (hb4 : b = 2 ∨ b = 8 ∨ b = 10 ∨ b = 16) (c : UInt8) (hc : c ≠ 45) (hc2 : c ≠ 43) (hlen : (c :: t).length ≤ 240) :
  Calls Tryz.prog 64 #[.string (B (c :: t)), .int .i64 b] w fun e w' => e = .returned (zg (zu (c :: t) b)) ∧ Below w.heap.size w w' := by
 obtain ⟨l, hl⟩ : ∃ l : List UInt8, l = c :: t := ⟨_, rfl⟩
 rw [← hl]
 have hr : zJ (b : Int) = true := by rcases hb4 with rfl | rfl | rfl | rfl <;> rfl
 have hl2 : l.length ≤ 240 := by rw [hl]; exact hlen
 have htl : t.length ≤ 240 := by simp at hlen; omega
 have hpos : 0 < (B l).size := by rw [zi, hl]; simp
 have hposI : (0 : Int) < ((B l).size : Int) := by omega
 have hsz : (B l).size ≤ 240 := by rw [zi]; exact hl2
 have hc0 : ((B l)[0]'hpos).toNat = c.toNat := by rw [B_get]; simp [hl]
 have hcut : (B l).extract 1 (B l).size = B t := by rw [zW, zi, List.take_length, hl]; rfl
 have Hm : Hid (zu l (b : Int) = bodyM false b l) := by show _ = _; rw [jz l b hb4 hl2, hl]; simp [signB, hc, hc2]
 have hq : ((((B l)[0]'hpos).toNat : Int) == 45) = false := by
  rw [hc0, beq_eq_false_iff_ne]; intro hh; apply hc; apply UInt8.toNat_inj.1; simp only [UInt8.toNat_ofNat]; omega
 have hq2 : ((((B l)[0]'hpos).toNat : Int) == 43) = false := by
  rw [hc0, beq_eq_false_iff_ne]; intro hh; apply hc2; apply UInt8.toNat_inj.1; simp only [UInt8.toNat_ofNat]; omega
 clear hl hc hc2 hc0 hlen hcut
 go_enter Tryz.func64, Tryz.ntmps64
 go_wp2_with fail
 refine (jn b _).mono ?_
 rintro e w1 ⟨rfl, rfl⟩
 rw [hr]
 go_wp2_with fail
 refine (jo l 47 47 rfl _ (by omega)).mono ?_
 rintro e w1 ⟨rfl, rfl⟩
 cases hf : findB 47 l with
 | some k =>
  have hfi : findI 47 l = (k : Int) := by unfold findI; rw [hf]
  have hk := je hf
  have Hov2 : Hid (zu l (b : Int) = overM false b ((l).take k) ((l).drop (k + 1))) := by
   show _ = _
   rw [za Hm]; unfold bodyM; rw [hf]
  rw [hfi]
  clear hfi hf
  go_wp2_with fail
  refine (kF false l k b _ hk (by omega) (by omega) (by omega)).mono ?_
  rintro e w2 ⟨rfl, hb2⟩
  have hb0 := zn hb2
  have c0 := zb hb0 0
  have c1 := zb hb0 1
  have c2 := zb hb0 2
  have f0 := zh hb0 0
  have f1 := zh hb0 1
  have f2 := zh hb0 2
  have hbX := zm hb0
  simp at c0 c1 c2
  clear hb2 hb0
  generalize overM false b ((l).take k) ((l).drop (k + 1)) = o at *
  unfold zg
  obtain ⟨n3, u3, d3, ho⟩ : ∃ n3 u3 d3, numO o = numV n3 u3 d3 := by
   cases o with
   | none => exact ⟨_, _, _, rfl⟩
   | some p => exact ⟨_, _, _, rfl⟩
  have Ho := hide ho
  rw [ho]
  unfold numV
  clear ho
  go_wp2
  refine bodyPost_ret (v := zg o) (by simp [results, Tryz.results64, go_sem, zg, za Ho, numV, c0, c1, c2]) rfl ⟨by rw [za Hov2], ?_⟩
  exact zq hbX _ (Nat.le_refl _) _ _ _
 | none =>
  have hfi : findI 47 l = -1 := by unfold findI; rw [hf]
  rw [hfi]
  clear hfi
  go_wp2_with fail
  refine (jo l 46 46 rfl _ (by omega)).mono ?_
  rintro e w2 ⟨rfl, rfl⟩
  have Hf := hide hf
  clear hf
  by_cases hpt : b = 10 ∧ ∃ k, findB 46 l = some k
  ·obtain ⟨hb10, k, hfk⟩ := hpt
   have hfi : findI 46 l = (k : Int) := by unfold findI; rw [hfk]
   have hk := je hfk
   have Hov2 : Hid (zu l (b : Int) = jt false ((l).take k) ((l).drop (k + 1))) := by
    show _ = _
    rw [za Hm]; unfold bodyM; rw [za Hf]
    simp only [hfk]
    rw [if_pos hb10]
   rw [hfi]
   have hbq : ((b : Int) == 10) = true := by rw [beq_iff_eq]; omega
   clear hfi hfk hb10
   go_wp2_with fail
   refine (yR false l k _ hk (by omega)).mono ?_
   rintro e w3 ⟨rfl, hb3⟩
   have hb0 := zn hb3
   have c0 := zb hb0 0
   have c1 := zb hb0 1
   have c2 := zb hb0 2
   have f0 := zh hb0 0
   have f1 := zh hb0 1
   have f2 := zh hb0 2
   have hbX := zm hb0
   simp at c0 c1 c2
   clear hb3 hb0
   generalize jt false ((l).take k) ((l).drop (k + 1)) = o at *
   unfold zg
   obtain ⟨n3, u3, d3, ho⟩ : ∃ n3 u3 d3, numO o = numV n3 u3 d3 := by
    cases o with
    | none => exact ⟨_, _, _, rfl⟩
    | some p => exact ⟨_, _, _, rfl⟩
   have Ho := hide ho
   rw [ho]
   unfold numV
   clear ho
   go_wp2
   refine bodyPost_ret (v := zg o) (by simp [results, Tryz.results64, go_sem, zg, za Ho, numV, c0, c1, c2]) rfl ⟨by rw [za Hov2], ?_⟩
   exact zq hbX _ (Nat.le_refl _) _ _ _
  ·have Hpl : Hid (zu l (b : Int) = jw false b l) := by
    show _ = _
    rw [za Hm]; unfold bodyM; rw [za Hf]
    cases hfk : findB 46 l with
    | none => rfl
    | some k =>
     simp only
     rw [if_neg (fun h => hpt ⟨h, k, hfk⟩)]
   have hsn := fun h => jL (b := b) (l := l) (by omega) h
   have hvn : okN b l = true → natV b l = rdN b l := fun h => by unfold natV; rw [if_pos h]
   have Hpo : Hid (jw false b l = if okN b l then zE false (rdN b l) 1 else none) := hide rfl
   have d1 : dec 1 = ⟨#[49]⟩ := yS
   by_cases hfz : 0 ≤ findI 46 l
   ·have hbq : ((b : Int) == 10) = false := by
     rw [beq_eq_false_iff_ne]
     intro hh
     apply hpt
     refine ⟨by omega, ?_⟩
     unfold findI at hfz
     cases hfk : findB 46 l with
     | none => rw [hfk] at hfz; simp at hfz
     | some k => exact ⟨k, rfl⟩
    clear hpt
    go_wp2_with fail
    refine (jq l b _ (by omega) (by omega) (by omega)).mono ?_
    rintro e w3 ⟨rfl, hb3⟩
    unfold jk
    have hb0 := zn hb3
    have hzz : w.heap.size + 1 ≤ w3.heap.size := by have := hb3.size; simpa using this
    generalize natV b l = vx at *
    generalize okN b l = ox at *
    cases ox with
    | false =>
     have c0 := zb hb0 0
     have c1 := zb hb0 1
     have c2 := zb hb0 2
     have f0 := zh hb0 0
     have f1 := zh hb0 1
     have f2 := zh hb0 2
     have hbX := zm hb0
     simp at c0 c1 c2
     clear hb3 hb0 hsn hvn d1
     go_wp2
     refine bodyPost_ret (v := zg none) (by simp [results, Tryz.results64, go_sem, zg, numO, noNum, numV, c0, c1, c2]) rfl ⟨by rw [za Hpl, za Hpo]; rfl, ?_⟩
     exact zq hbX _ (Nat.le_refl _) _ _ _
    | true =>
     have h1 := hsn rfl
     rw [← hvn rfl] at h1
     have Hov2 : Hid (zu l (b : Int) = zE false vx 1) := by rw [hvn rfl]; exact (za Hpl).trans (za Hpo)
     have d1s := qm (n := 1) (by omega)
     clear hsn hvn
     go_wp2_with fail
     rw [← d1]
     clear d1
     refine (qz false vx 1 _ (by omega) (by omega)).mono ?_
     rintro e w4 ⟨rfl, hb4'⟩
     have hn4 := zk hb0 hzz hb4'
     have c0 := zb hn4.1 0
     have c1 := zb hn4.1 1
     have c2 := zb hn4.1 2
     have f0 := zh hn4.1 0
     have f1 := zh hn4.1 1
     have f2 := zh hn4.1 2
     have hbX := zm hn4.1
     simp at c0 c1 c2
     clear hb3 hb0 hb4' hn4
     generalize zE false vx 1 = o at *
     unfold zg
     obtain ⟨n3, u3, d3, ho⟩ : ∃ n3 u3 d3, numO o = numV n3 u3 d3 := by
      cases o with
      | none => exact ⟨_, _, _, rfl⟩
      | some p => exact ⟨_, _, _, rfl⟩
     have Ho := hide ho
     rw [ho]
     unfold numV
     clear ho
     go_wp2
     refine bodyPost_ret (v := zg o) (by simp [results, Tryz.results64, go_sem, zg, za Ho, numV, c0, c1, c2]) rfl ⟨by rw [za Hov2], ?_⟩
     exact zq hbX _ (Nat.le_refl _) _ _ _
   ·clear hpt
    go_wp2_with fail
    refine (jq l b _ (by omega) (by omega) (by omega)).mono ?_
    rintro e w3 ⟨rfl, hb3⟩
    unfold jk
    have hb0 := zn hb3
    have hzz : w.heap.size + 1 ≤ w3.heap.size := by have := hb3.size; simpa using this
    generalize natV b l = vx at *
    generalize okN b l = ox at *
    cases ox with
    | false =>
     have c0 := zb hb0 0
     have c1 := zb hb0 1
     have c2 := zb hb0 2
     have f0 := zh hb0 0
     have f1 := zh hb0 1
     have f2 := zh hb0 2
     have hbX := zm hb0
     simp at c0 c1 c2
     clear hb3 hb0 hsn hvn d1
     go_wp2
     refine bodyPost_ret (v := zg none) (by simp [results, Tryz.results64, go_sem, zg, numO, noNum, numV, c0, c1, c2]) rfl ⟨by rw [za Hpl, za Hpo]; rfl, ?_⟩
     exact zq hbX _ (Nat.le_refl _) _ _ _
    | true =>
     have h1 := hsn rfl
     rw [← hvn rfl] at h1
     have Hov2 : Hid (zu l (b : Int) = zE false vx 1) := by rw [hvn rfl]; exact (za Hpl).trans (za Hpo)
     have d1s := qm (n := 1) (by omega)
     clear hsn hvn
     go_wp2_with fail
     rw [← d1]
     clear d1
     refine (qz false vx 1 _ (by omega) (by omega)).mono ?_
     rintro e w4 ⟨rfl, hb4'⟩
     have hn4 := zk hb0 hzz hb4'
     have c0 := zb hn4.1 0
     have c1 := zb hn4.1 1
     have c2 := zb hn4.1 2
     have f0 := zh hn4.1 0
     have f1 := zh hn4.1 1
     have f2 := zh hn4.1 2
     have hbX := zm hn4.1
     simp at c0 c1 c2
     clear hb3 hb0 hb4' hn4
     generalize zE false vx 1 = o at *
     unfold zg
     obtain ⟨n3, u3, d3, ho⟩ : ∃ n3 u3 d3, numO o = numV n3 u3 d3 := by
      cases o with
      | none => exact ⟨_, _, _, rfl⟩
      | some p => exact ⟨_, _, _, rfl⟩
     have Ho := hide ho
     rw [ho]
     unfold numV
     clear ho
     go_wp2
     refine bodyPost_ret (v := zg o) (by simp [results, Tryz.results64, go_sem, zg, za Ho, numV, c0, c1, c2]) rfl ⟨by rw [za Hov2], ?_⟩
     exact zq hbX _ (Nat.le_refl _) _ _ _
theorem qP (l : List UInt8) (r : Int) (w : World) (hs : l.length ≤ 1000000000) :
  Calls Tryz.prog 64 #[.string (B l), .int .i64 r] w fun e w' => e = .returned (zg (zu l r)) ∧ Below w.heap.size w w' := by
 by_cases h : zJ r = false ∨ 240 < l.length
 ·exact xO l r w hs h
 ·have hr : zJ r = true := by cases hh : zJ r with
   | true => rfl
   | false => exact absurd (.inl hh) h
  obtain ⟨b, rfl, hb4⟩ := jN hr
  have hl : l.length ≤ 240 := by
   rcases Nat.lt_or_ge 240 l.length with h1 | h1
   ·exact absurd (.inr h1) h
   ·exact h1
  cases l with
  | nil => exact kI b w hb4
  | cons c t =>
   by_cases h1 : c = 45
   ·exact y7 t b w hb4 c h1 hl
   ·by_cases h2 : c = 43
    ·exact kk t b w hb4 c h2 hl
    ·exact km t b w hb4 c h1 h2 hl
def okM (neg : Bool) (u d : List UInt8) : Bool :=
 decide (u.length ≤ 60) && decide (d.length ≤ 60) && isDec u && isDec d && decide (zy d ≠ 0) && !(neg && decide (zy u = 0)) && decide (Nat.gcd (zy u) (zy d) = 1)
def numB (neg : Bool) (u d : List UInt8) : Value := .agg #[.bool neg, .string (B u), .string (B d)]
theorem Jl (n : Nat) : ((dec n).toList == [49]) = decide (n = 1) := by
 have := xZ n 1
 rwa [show (dec 1).toList = [49] from by rw [yS]; exact B_tl [49]] at this
theorem vn (neg : Bool) (u d : List UInt8) (w : World) (hsu : u.length ≤ 1000000000) (hsd : d.length ≤ 1000000000) :
  Calls Tryz.prog 92 #[numB neg u d] w fun e w' => e = .returned (.bool (okM neg u d)) ∧ Below w.heap.size w w' := by
 unfold numB
 have hzu : (B u).size = u.length := zi u
 have hzd : (B d).size = d.length := zi d
 by_cases h1 : u.length ≤ 60
 ·by_cases h2 : d.length ≤ 60
  ·by_cases h3 : isDec u = true
   ·by_cases h4 : isDec d = true
    ·have eu := qj h3
     have ed := qj h4
     have Hok : Hid (okM neg u d = (decide (zy d ≠ 0) && !(neg && decide (zy u = 0)) && decide (Nat.gcd (zy u) (zy d) = 1))) := by
      show _ = _; unfold okM; rw [decide_eq_true h1, decide_eq_true h2, h3, h4]; simp
     have Bu : B u = dec (zy u) := by unfold dec txt; rw [← eu]
     have Bd : B d = dec (zy d) := by unfold dec txt; rw [← ed]
     have h3d := @jr u
     have h4d := @jr d
     rw [h3] at h3d
     rw [h4] at h4d
     rw [Bu] at h3d hzu
     rw [Bd] at h4d hzd
     rw [Bu, Bd]
     have H3 := hide h3d
     have H4 := hide h4d
     generalize zy u = a at *
     generalize zy d = b at *
     have hau : (dec a).size ≤ 60 := by omega
     have hbd : (dec b).size ≤ 60 := by omega
     have ha0 := vX a
     have hb0 := vX b
     clear h3d h4d eu ed Bu Bd h3 h4
     by_cases hb : b = 0
     ·rw [decide_eq_true hb] at hb0
      have Hok : Hid (okM neg u d = false) := by show _ = _; rw [za Hok]; simp [hb]
      clear hb
      go_enter Tryz.func92, Tryz.ntmps92
      go_wp2_with fail
      refine (za H3 _ (by omega)).mono ?_
      rintro e w1 ⟨rfl, rfl⟩
      go_wp2_with fail
      refine (za H4 _ (by omega)).mono ?_
      rintro e w1 ⟨rfl, rfl⟩
      go_wp2
      go_ret
      exact ⟨zD (za Hok).symm, (Below.refl _ _).alloc (Nat.le_refl _) _⟩
     ·rw [decide_eq_false hb] at hb0
      by_cases hn : neg = true ∧ a = 0
      ·obtain ⟨hn1, ha⟩ := hn
       rw [decide_eq_true ha] at ha0
       subst hn1
       have Hok : Hid (okM true u d = false) := by show _ = _; rw [za Hok]; simp [ha]
       clear hb ha
       go_enter Tryz.func92, Tryz.ntmps92
       go_wp2_with fail
       refine (za H3 _ (by omega)).mono ?_
       rintro e w1 ⟨rfl, rfl⟩
       go_wp2_with fail
       refine (za H4 _ (by omega)).mono ?_
       rintro e w1 ⟨rfl, rfl⟩
       go_wp2
       go_ret
       exact ⟨zD (za Hok).symm, (Below.refl _ _).alloc (Nat.le_refl _) _⟩
      ·have Hok : Hid (okM neg u d = decide (Nat.gcd a b = 1)) := by
        show _ = _; rw [za Hok]
        cases neg
        ·simp [hb]
        ·simp at hn; simp [hb, hn]
       have hg1 := Jl (Nat.gcd a b)
       have hcase : neg = false ∨ (neg = true ∧ a ≠ 0) := by cases neg <;> simp_all
       rcases hcase with rfl | ⟨rfl, ha⟩
       ·clear hn hb
        go_enter Tryz.func92, Tryz.ntmps92
        go_wp2_with fail
        refine (za H3 _ (by omega)).mono ?_
        rintro e w1 ⟨rfl, rfl⟩
        go_wp2_with fail
        refine (za H4 _ (by omega)).mono ?_
        rintro e w1 ⟨rfl, rfl⟩
        go_wp2_with fail
        refine (Jw a b _ (by omega) (by omega)).mono ?_
        rintro e w2 ⟨rfl, hb2⟩
        go_wp2
        go_ret
        exact ⟨zD (za Hok).symm, zm (zn hb2)⟩
       ·rw [decide_eq_false ha] at ha0
        clear hn hb ha
        go_enter Tryz.func92, Tryz.ntmps92
        go_wp2_with fail
        refine (za H3 _ (by omega)).mono ?_
        rintro e w1 ⟨rfl, rfl⟩
        go_wp2_with fail
        refine (za H4 _ (by omega)).mono ?_
        rintro e w1 ⟨rfl, rfl⟩
        go_wp2_with fail
        refine (Jw a b _ (by omega) (by omega)).mono ?_
        rintro e w2 ⟨rfl, hb2⟩
        go_wp2
        go_ret
        exact ⟨zD (za Hok).symm, zm (zn hb2)⟩
    ·have h4' : isDec d = false := by simpa using h4
     have Hok : Hid (okM neg u d = false) := by show _ = _; unfold okM; rw [h4']; simp
     have h3d := @jr u
     have h4d := @jr d
     rw [h3] at h3d
     rw [h4'] at h4d
     have H3 := hide h3d
     have H4 := hide h4d
     clear h3d h4d h3 h4 h4'
     go_enter Tryz.func92, Tryz.ntmps92
     go_wp2_with fail
     refine (za H3 _ (by omega)).mono ?_
     rintro e w1 ⟨rfl, rfl⟩
     go_wp2_with fail
     refine (za H4 _ (by omega)).mono ?_
     rintro e w1 ⟨rfl, rfl⟩
     go_wp2
     go_ret
     exact ⟨zD (za Hok).symm, (Below.refl _ _).alloc (Nat.le_refl _) _⟩
   ·have h3' : isDec u = false := by simpa using h3
    have Hok : Hid (okM neg u d = false) := by show _ = _; unfold okM; rw [h3']; simp
    have h3d := @jr u
    rw [h3'] at h3d
    have H3 := hide h3d
    clear h3d h3 h3'
    go_enter Tryz.func92, Tryz.ntmps92
    go_wp2_with fail
    refine (za H3 _ (by omega)).mono ?_
    rintro e w1 ⟨rfl, rfl⟩
    go_wp2
    go_ret
    exact ⟨zD (za Hok).symm, (Below.refl _ _).alloc (Nat.le_refl _) _⟩
  ·have Hok : Hid (okM neg u d = false) := by show _ = _; unfold okM; simp [h2]
   go_enter Tryz.func92, Tryz.ntmps92
   go_wp2
   go_ret
   exact ⟨zD (za Hok).symm, (Below.refl _ _).alloc (Nat.le_refl _) _⟩
 ·have Hok : Hid (okM neg u d = false) := by show _ = _; unfold okM; simp [h1]
  go_enter Tryz.func92, Tryz.ntmps92
  go_wp2
  go_ret
  exact ⟨zD (za Hok).symm, (Below.refl _ _).alloc (Nat.le_refl _) _⟩
end Go.Proofs.YtpbnmhnbkfnaeaaGreatDoor
