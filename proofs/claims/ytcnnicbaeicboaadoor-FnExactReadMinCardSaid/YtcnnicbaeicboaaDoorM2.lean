/- A part of the proof, put together out of smaller texts: each piece says what it is for. -/
import Derived.Test.YtcnnicbaeicboaaDoorM1
import Derived.Deep.RegionWith
import Derived.Deep.Cut
import Derived.Maps.AppendAt
import Derived.RangeFuncBox
namespace Go.Proofs.YtcnnicbaeicboaaDoor
open Go.RowKit Nt

theorem B_tl (l : List UInt8) : (B l).toList = l := by rw [ByteArray.toList_eq, B_data]

theorem less_digits : ∀ (l m : List Nat), l.length = m.length → (∀ d ∈ l, d < 10) → (∀ d ∈ m, d < 10) →
    Op.bytesLess (l.map sg) (m.map sg) = decide (ofd 10 l.reverse < ofd 10 m.reverse) := by
  intro l
  induction l with
  | nil => intro m h _ _; have : m = [] := List.eq_nil_of_length_eq_zero (by simpa using h.symm)
           subst this; simp [Op.bytesLess]
  | cons d r ih =>
    intro m h hl hm
    match m, h with
    | [], h => simp at h
    | c :: s, h =>
      have hrs : r.length = s.length := by simpa using h
      have hd := hl d (by simp)
      have hc := hm c (by simp)
      have hr := fun x hx => hl x (List.mem_cons_of_mem d hx)
      have hs := fun x hx => hm x (List.mem_cons_of_mem c hx)
      simp only [List.map_cons, Op.bytesLess, List.reverse_cons, ih s hrs hr hs]
      rw [ofd_snoc, ofd_snoc, List.length_reverse, List.length_reverse, ← hrs]
      have h1 := ofd_lt (b := 10) r.reverse (fun x hx => hr x (by simpa using hx))
      have h2 := ofd_lt (b := 10) s.reverse (fun x hx => hs x (by simpa using hx))
      rw [List.length_reverse] at h1 h2
      rw [← hrs] at h2
      generalize 10 ^ r.length = p at *
      have e1 : decide (sg d < sg c) = decide (d < c) := by
        simp only [UInt8.lt_iff_toNat_lt, sg_toNat (show d < 16 by omega), sg_toNat (show c < 16 by omega), if_pos hd, if_pos hc]; simp
      have e2 : (sg d == sg c) = decide (d = c) := by
        by_cases hdc : d = c
        · subst hdc; simp
        · have : sg d ≠ sg c := fun hh => hdc (sg_inj (by omega) (by omega) hh)
          simp [this, hdc]
      rw [e1, e2]
      rcases Nat.lt_trichotomy d c with hlt | heq | hgt
      · have : p * (d + 1) ≤ p * c := Nat.mul_le_mul_left p hlt
        rw [Nat.mul_add] at this
        simp only [hlt, decide_true, Bool.true_or]
        symm; rw [decide_eq_true_iff]; omega
      · subst heq; simp
      · have : p * (c + 1) ≤ p * d := Nat.mul_le_mul_left p hgt
        rw [Nat.mul_add] at this
        have hn : ¬ d < c := by omega
        have hne : d ≠ c := by omega
        simp only [hn, hne, decide_false, Bool.false_and, Bool.or_false]
        symm; rw [decide_eq_false_iff_not]; omega

/-- digits, the highest first -/
def hi10 (n : Nat) : List Nat := if n = 0 then [0] else (dg 10 n).reverse
theorem txl_hi (n : Nat) : txl 10 n = (hi10 n).map sg := by
  unfold txl hi10; split
  · simp [sg]
  · rw [List.map_reverse]
theorem hi10_lt (n : Nat) : ∀ d ∈ hi10 n, d < 10 := by
  intro d hd; unfold hi10 at hd; split at hd
  · simp at hd; omega
  · exact dg_lt (by omega) n d (by simpa using hd)
theorem ofd_hi (n : Nat) : ofd 10 (hi10 n).reverse = n := by
  unfold hi10; split
  · subst n; simp [ofd]
  · rw [List.reverse_reverse, ofd_dg (by omega)]

theorem dec_less {a b : Nat} (h : (dec a).size = (dec b).size) : Op.bytesLess (dec a).toList (dec b).toList = decide (a < b) := by
  unfold dec txt
  rw [B_tl, B_tl, txl_hi, txl_hi, less_digits _ _ _ (hi10_lt a) (hi10_lt b), ofd_hi, ofd_hi]
  rw [dec_len, dec_len, txl_hi, txl_hi] at h
  simpa using h

theorem dec_beq (a b : Nat) : ((dec a).toList == (dec b).toList) = decide (a = b) := by
  by_cases h : a = b
  · subst h; simp
  · have : (dec a).toList ≠ (dec b).toList := by
      intro hh
      unfold dec txt at hh
      rw [B_tl, B_tl] at hh
      exact h (txl_inj (by omega) (by omega) hh)
    simp [this, h]

theorem dec_size_lt {a b : Nat} (h : (dec a).size < (dec b).size) : a < b := by
  rcases Nat.lt_or_ge a b with h1 | h1
  · exact h1
  · have := txl_len_le (b := 10) (by omega) (dec_size_pos a) (Nat.lt_of_le_of_lt h1 (dec_lt a))
    rw [← dec_len] at this; omega

def cmpN (a b : Nat) : Int := if a < b then -1 else if b < a then 1 else 0

set_option maxRecDepth 100000 in
set_option maxHeartbeats 400000 in
theorem l1Cmp_c (a b : Nat) (w : World) (_hsa : (dec a).size ≤ 1000000000) (_hsb : (dec b).size ≤ 1000000000) :
    Calls Tryd.prog 108 #[.string (dec a), .string (dec b)] w fun e w' => e = .returned (.int .i64 (cmpN a b)) ∧ w' = w := by
  by_cases he : (dec a).size = (dec b).size
  · have h1 := dec_less he
    have h2 := dec_beq a b
    have h0 : ((dec a).size != (dec b).size) = false := by simp [he]
    have hI : (((dec a).size : Int) != ((dec b).size : Int)) = false := by simp [he]
    rcases Nat.lt_trichotomy a b with hlt | heq | hgt
    · have hr : cmpN a b = -1 := by simp [cmpN, hlt]
      rw [decide_eq_true hlt] at h1
      rw [hr]
      clear he h2 h0 hr
      go_enter Tryd.func108, Tryd.ntmps108
      go_wp2
      go_ret
      exact ⟨rfl, rfl⟩
    · subst heq
      have hr : cmpN a a = 0 := by simp [cmpN]
      rw [decide_eq_false (by omega)] at h1
      rw [hr]
      clear he h0 hr
      go_enter Tryd.func108, Tryd.ntmps108
      go_wp2
      go_ret
      exact ⟨rfl, rfl⟩
    · have hr : cmpN a b = 1 := by unfold cmpN; rw [if_neg (by omega), if_pos hgt]
      rw [decide_eq_false (by omega)] at h1 h2
      rw [hr]
      clear he h0 hr
      go_enter Tryd.func108, Tryd.ntmps108
      go_wp2
      go_ret
      exact ⟨rfl, rfl⟩
  · have hI : (((dec a).size : Int) != ((dec b).size : Int)) = true := by rw [bne_iff_ne]; omega
    by_cases hlt : (dec a).size < (dec b).size
    · have hr : cmpN a b = -1 := by simp [cmpN, dec_size_lt hlt]
      rw [hr]
      clear he hr
      go_enter Tryd.func108, Tryd.ntmps108
      go_wp2
      go_ret
      exact ⟨rfl, rfl⟩
    · have hgt := dec_size_lt (a := b) (b := a) (by omega)
      have hr : cmpN a b = 1 := by unfold cmpN; rw [if_neg (by omega), if_pos hgt]
      rw [hr]
      clear he hr hgt
      go_enter Tryd.func108, Tryd.ntmps108
      go_wp2
      go_ret
      exact ⟨rfl, rfl⟩

/-- a text that is a number, in decimals, with no needless nought -/
def isDec (l : List UInt8) : Bool := l != [] && l.all (fun c => 48 ≤ c && c ≤ 57) && (l.length ≤ 1 || l.head? != some 48)

theorem isDec_txl (n : Nat) : isDec (txl 10 n) = true := by
  have hall : (txl 10 n).all (fun c => 48 ≤ c && c ≤ 57) = true := by
    rw [List.all_eq_true]
    intro c hc
    rw [txl_hi] at hc
    obtain ⟨d, hd, rfl⟩ := List.mem_map.1 hc
    have := hi10_lt n d hd
    simp only [Bool.and_eq_true, decide_eq_true_eq, UInt8.le_iff_toNat_le, sg_toNat (show d < 16 by omega), if_pos this]
    simp; omega
  have hne : txl 10 n ≠ [] := fun h => by have := txl_length_pos (b := 10) (by omega) n; rw [h] at this; simp at this
  have hlead : (txl 10 n).length ≤ 1 ∨ (txl 10 n).head? ≠ some 48 := by
    have ht := trim_txl n
    cases hl : txl 10 n with
    | nil => left; simp
    | cons c r =>
      by_cases hr : r = []
      · left; subst hr; simp
      · right
        intro hc
        simp at hc
        subst hc
        rw [hl] at ht
        simp only [trim] at ht
        rw [if_pos ⟨trivial, hr⟩] at ht
        have := trim_length r
        have := congrArg List.length ht
        simp at this; omega
  unfold isDec
  simp only [bne_iff_ne, Bool.and_eq_true, Bool.or_eq_true, decide_eq_true_eq]
  exact ⟨⟨by simpa using hne, hall⟩, hlead⟩

/-- the number that decimals are -/
def valDec (l : List UInt8) : Nat := ofd 10 ((l.map fun c => c.toNat - 48).reverse)

theorem isDec_val {l : List UInt8} (h : isDec l = true) : l = txl 10 (valDec l) := by
  unfold isDec at h
  simp only [bne_iff_ne, Bool.and_eq_true, Bool.or_eq_true, decide_eq_true_eq] at h
  obtain ⟨⟨hne, hall⟩, hlead⟩ := h
  rw [List.all_eq_true] at hall
  have hc : ∀ c ∈ l, 48 ≤ c.toNat ∧ c.toNat ≤ 57 := by
    intro c hc; have := hall c hc
    simp only [Bool.and_eq_true, decide_eq_true_eq, UInt8.le_iff_toNat_le] at this
    simpa using this
  have hm : (l.map fun c => c.toNat - 48).map sg = l := by
    rw [List.map_map]
    have : ∀ c ∈ l, (sg ∘ fun c : UInt8 => c.toNat - 48) c = id c := by
      intro c hcl
      have := hc c hcl
      apply UInt8.toNat_inj.1
      simp only [Function.comp, id]
      rw [sg_toNat (by omega), if_pos (by omega)]; omega
    rw [List.map_congr_left this, List.map_id]
  have hd : ∀ d ∈ (l.map fun c => c.toNat - 48).reverse, d < 10 := by
    intro d hd
    rw [List.mem_reverse] at hd
    obtain ⟨c, hcl, rfl⟩ := List.mem_map.1 hd
    have := hc c hcl
    show c.toNat - 48 < 10
    omega
  have ht := trim_rev _ hd (by simpa using hne)
  rw [List.map_reverse, List.reverse_reverse, hm] at ht
  unfold valDec
  rw [← ht]
  symm
  apply trim_stop
  rcases hlead with h1 | h1
  · exact .inl h1
  · right
    cases l with
    | nil => exact absurd rfl hne
    | cons c r => exact ⟨c, r, rfl, fun h => h1 (by simp [h])⟩
end Go.Proofs.YtcnnicbaeicboaaDoor
namespace Go.Proofs.YtcnnicbaeicboaaDoor
open Go.RowKit Nt

def isDig (c : UInt8) : Bool := 48 ≤ c && c ≤ 57
theorem isDig_iff (c : UInt8) : isDig c = true ↔ 48 ≤ c.toNat ∧ c.toNat ≤ 57 := by
  simp [isDig, UInt8.le_iff_toNat_le]

theorem isDec_bad {l : List UInt8} (k : Nat) (h : k < l.length) (hb : ¬ (48 ≤ l[k].toNat ∧ l[k].toNat ≤ 57)) : isDec l = false := by
  cases hd : isDec l with
  | false => rfl
  | true =>
    unfold isDec at hd
    simp only [bne_iff_ne, Bool.and_eq_true, Bool.or_eq_true, decide_eq_true_eq] at hd
    have := List.all_eq_true.1 hd.1.2 l[k] (List.getElem_mem h)
    exact absurd ((isDig_iff _).1 this) hb

theorem isDec_good {l : List UInt8} (h0 : 0 < l.length) (hl : l.length ≤ 1 ∨ l.head? ≠ some 48) (h : ∀ k (hk : k < l.length), 48 ≤ l[k].toNat ∧ l[k].toNat ≤ 57) : isDec l = true := by
  unfold isDec
  simp only [bne_iff_ne, Bool.and_eq_true, Bool.or_eq_true, decide_eq_true_eq]
  refine ⟨⟨fun hh => by rw [hh] at h0; simp at h0, ?_⟩, hl⟩
  rw [List.all_eq_true]
  intro c hc
  obtain ⟨k, hk, rfl⟩ := List.getElem_of_mem hc
  exact (isDig_iff _).2 (h k hk)


set_option maxRecDepth 100000 in
set_option maxHeartbeats 1000000 in
theorem l1DigitsOk_c (l : List UInt8) (w : World) (hs : l.length ≤ 1000000000) :
    Calls Tryd.prog 64 #[.string (B l)] w fun e w' => e = .returned (.bool (isDec l)) ∧ w' = w := by
  have hsz : (B l).size ≤ 1000000000 := by rw [B_size]; exact hs
  have hI : ((B l).size : Int) = (l.length : Int) := by rw [B_size]
  by_cases hz : l.length = 0
  · have : l = [] := List.eq_nil_of_length_eq_zero hz
    subst this
    have h0 : (((B []).size : Int) == 0) = true := by simp [B_size]
    clear hI hs hsz hz
    go_enter Tryd.func64, Tryd.ntmps64
    go_wp2
    go_ret
    exact ⟨rfl, rfl⟩
  · have h0 : 0 < l.length := by omega
    have h0I : (((B l).size : Int) == 0) = false := by rw [beq_eq_false_iff_ne]; omega
    by_cases h1 : 1 < l.length
    · have h1I : (1 : Int) < ((B l).size : Int) := by omega
      have hg0 : 0 < (B l).size := by omega
      have hg : ((B l)[0]'hg0).toNat = (l[0]'h0).toNat := by rw [B_get]
      by_cases hc : l[0]'h0 = 48
      · have hq : ((((B l)[0]'hg0).toNat : Int) == 48) = true := by rw [hg, hc]; rfl
        have hf : isDec l = false := by
          cases hd : isDec l with
          | false => rfl
          | true =>
            unfold isDec at hd
            simp only [bne_iff_ne, Bool.and_eq_true, Bool.or_eq_true, decide_eq_true_eq] at hd
            rcases hd.2 with h2 | h2
            · omega
            · exact absurd (by rw [List.head?_eq_getElem?, List.getElem?_eq_getElem h0, hc]) h2
        rw [hf]
        clear hI hc hg hf hz
        go_enter Tryd.func64, Tryd.ntmps64
        go_wp2
        go_ret
        exact ⟨rfl, rfl⟩
      · have hq : ((((B l)[0]'hg0).toNat : Int) == 48) = false := by
          rw [hg, beq_eq_false_iff_ne]
          intro hh
          apply hc
          apply UInt8.toNat_inj.1
          simp only [UInt8.toNat_ofNat]; omega
        have hl0 : Hid (l.length ≤ 1 ∨ l.head? ≠ some 48) := .inr (by
          rw [List.head?_eq_getElem?, List.getElem?_eq_getElem h0]
          intro hh; exact hc (by simpa using hh))
        clear hI hc hg hz
        go_enter Tryd.func64, Tryd.ntmps64
        go_wp2
        go_loop [3] (fun i => ∃ k : Nat, k ≤ l.length ∧ i = .int .i64 k ∧ Hid (∀ j (hj : j < l.length), j < k → 48 ≤ l[j].toNat ∧ l[j].toNat ≤ 57)) (fun i => l.length - (intOf i).toNat)
        case atStart => exact ⟨0, Nat.zero_le _, rfl, hide (fun j _ h => by omega)⟩
        case round =>
          clear hq
          obtain ⟨k, hk, rfl, hv⟩ := hrel
          by_cases hlt : k < l.length
          · have hlt2 : k < (B l).size := by rw [B_size]; exact hlt
            have hgk : ((B l)[k]'hlt2).toNat = (l[k]'hlt).toNat := by rw [B_get]
            by_cases h1 : ((l[k]'hlt).toNat : Int) < 48
            · go_wp2
              go_ret
              exact ⟨ret_bool (by rw [isDec_bad k hlt (by omega)]), rfl⟩
            · by_cases h2 : 57 < ((l[k]'hlt).toNat : Int)
              · go_wp2
                go_ret
                exact ⟨ret_bool (by rw [isDec_bad k hlt (by omega)]), rfl⟩
              · have h3 : 48 ≤ (l[k]'hlt).toNat ∧ (l[k]'hlt).toNat ≤ 57 := by omega
                have hv2 : Hid (∀ j (hj : j < l.length), j < k + 1 → 48 ≤ l[j].toNat ∧ l[j].toNat ≤ 57) := by
                  intro j hj hjk
                  by_cases hjk2 : j < k
                  · exact unhide hv j hj hjk2
                  · have : j = k := by omega
                    subst this; exact h3
                go_wp2
                go_round
                case rel => exact ⟨k + 1, by omega, by go_num, hv2⟩
                case measure => simp [intOf]; omega
          · have hlt2 : ¬ k < (B l).size := by rw [B_size]; exact hlt
            have fin : isDec l = true := isDec_good h0 (unhide hl0) (fun j hj => unhide hv j hj (by omega))
            have Fin := hide fin
            clear fin
            go_wp2
            go_ret
            exact ⟨ret_bool (unhide Fin).symm, rfl⟩
    · have h1I : ¬ (1 : Int) < ((B l).size : Int) := by omega
      have hl0 : Hid (l.length ≤ 1 ∨ l.head? ≠ some 48) := .inl (by omega)
      clear hI hz
      go_enter Tryd.func64, Tryd.ntmps64
      go_wp2
      go_loop [3] (fun i => ∃ k : Nat, k ≤ l.length ∧ i = .int .i64 k ∧ Hid (∀ j (hj : j < l.length), j < k → 48 ≤ l[j].toNat ∧ l[j].toNat ≤ 57)) (fun i => l.length - (intOf i).toNat)
      case atStart => exact ⟨0, Nat.zero_le _, rfl, hide (fun j _ h => by omega)⟩
      case round =>
        obtain ⟨k, hk, rfl, hv⟩ := hrel
        by_cases hlt : k < l.length
        · have hlt2 : k < (B l).size := by rw [B_size]; exact hlt
          have hgk : ((B l)[k]'hlt2).toNat = (l[k]'hlt).toNat := by rw [B_get]
          by_cases h1 : ((l[k]'hlt).toNat : Int) < 48
          · go_wp2
            go_ret
            exact ⟨ret_bool (by rw [isDec_bad k hlt (by omega)]), rfl⟩
          · by_cases h2 : 57 < ((l[k]'hlt).toNat : Int)
            · go_wp2
              go_ret
              exact ⟨ret_bool (by rw [isDec_bad k hlt (by omega)]), rfl⟩
            · have h3 : 48 ≤ (l[k]'hlt).toNat ∧ (l[k]'hlt).toNat ≤ 57 := by omega
              have hv2 : Hid (∀ j (hj : j < l.length), j < k + 1 → 48 ≤ l[j].toNat ∧ l[j].toNat ≤ 57) := by
                intro j hj hjk
                by_cases hjk2 : j < k
                · exact unhide hv j hj hjk2
                · have : j = k := by omega
                  subst this; exact h3
              go_wp2
              go_round
              case rel => exact ⟨k + 1, by omega, by go_num, hv2⟩
              case measure => simp [intOf]; omega
        · have hlt2 : ¬ k < (B l).size := by rw [B_size]; exact hlt
          have fin : isDec l = true := isDec_good h0 (unhide hl0) (fun j hj => unhide hv j hj (by omega))
          have Fin := hide fin
          clear fin
          go_wp2
          go_ret
          exact ⟨ret_bool (unhide Fin).symm, rfl⟩

/-- what a byte is as a digit -/
def digN (c : UInt8) : Nat := if 48 ≤ c.toNat ∧ c.toNat ≤ 57 then c.toNat - 48 else if 97 ≤ c.toNat ∧ c.toNat ≤ 102 then c.toNat - 87 else 99

set_option maxRecDepth 100000 in
set_option maxHeartbeats 1000000 in
theorem l2Digit_c (c : UInt8) (w : World) :
    Calls Tryd.prog 95 #[.int .u8 c.toNat] w fun e w' => e = .returned (.int .i64 (digN c : Nat)) ∧ w' = w := by
  have hc : c.toNat < 256 := c.toNat_lt
  have hd : digN c = if 48 ≤ c.toNat ∧ c.toNat ≤ 57 then c.toNat - 48 else if 97 ≤ c.toNat ∧ c.toNat ≤ 102 then c.toNat - 87 else 99 := rfl
  generalize c.toNat = n at *
  generalize digN c = d at *
  by_cases h1 : 48 ≤ n ∧ n ≤ 57
  · rw [if_pos h1] at hd
    have e : (n : Int) - 48 = (d : Int) := by omega
    obtain ⟨ha, hb⟩ := h1
    clear hd
    go_enter Tryd.func95, Tryd.ntmps95
    go_wp2
    go_ret
    exact ⟨ret_int (by omega), rfl⟩
  · rw [if_neg h1] at hd
    by_cases h2 : 97 ≤ n ∧ n ≤ 102
    · rw [if_pos h2] at hd
      obtain ⟨ha, hb⟩ := h2
      have e : (n : Int) - 97 + 10 = (d : Int) := by omega
      have hh : ¬ (n : Int) ≤ 57 := by omega
      clear hd h1
      go_enter Tryd.func95, Tryd.ntmps95
      go_wp2
      go_ret
      exact ⟨ret_int (by omega), rfl⟩
    · rw [if_neg h2] at hd
      subst hd
      by_cases h3 : 48 ≤ n
      · have h4 : ¬ (n : Int) ≤ 57 := by omega
        by_cases h5 : 97 ≤ n
        · have h6 : ¬ (n : Int) ≤ 102 := by omega
          clear h1 h2
          go_enter Tryd.func95, Tryd.ntmps95
          go_wp2
          go_ret
          exact ⟨rfl, rfl⟩
        · clear h1 h2
          go_enter Tryd.func95, Tryd.ntmps95
          go_wp2
          go_ret
          exact ⟨rfl, rfl⟩
      · clear h1 h2
        go_enter Tryd.func95, Tryd.ntmps95
        go_wp2
        go_ret
        exact ⟨rfl, rfl⟩
end Go.Proofs.YtcnnicbaeicboaaDoor
namespace Go.Proofs.YtcnnicbaeicboaaDoor
open Go.RowKit Nt

theorem run_conv_one {P : Program} {src dst e : TypeId} (hs : P.underlying src = some (.slice e)) (he : P.underlying e = some (.int .u8)) (hd : P.underlying dst = some .string) (W w1 : World) (d : Nat) (hd10 : d < 10)
    (hb : Below (W.heap.size + 1) (W.alloc (.cells #[.int .u8 (48 + (d : Int))] e)) w1) :
    (convert src dst (.slice (some ⟨W.heap.size, 0, none⟩) 1 1)).run P w1 = .ok (.string (B [sg d])) w1 := by
  have h0 := World.ownsRow_lit (base := 0) (e := e) (size := 1) W #[.int .u8 (48 + (d : Int))] 1 (Nat.zero_le _) (by decide) (by simp)
  have h1 := own_below h0 (by simpa using hb)
  have e1 : (#[Value.int .u8 (48 + (d : Int))] : Array Value).toList = [sg d].map u8v := by simp [u8v_sg hd10]
  rw [e1] at h1
  exact run_conv_bytes hs he hd h1

theorem txl_step (b : Nat) (hb : 2 ≤ b) (n : Nat) (h : b ≤ n) : txl b n = txl b (n / b) ++ [sg (n % b)] := by
  have h0 : n ≠ 0 := by omega
  have hq : n / b ≠ 0 := by
    intro hh
    rcases Nat.div_eq_zero_iff.1 hh with h1 | h1 <;> omega
  rw [txl_pos h0, dg_pos hb (by omega), txl_pos hq]; simp

theorem txl_one (b : Nat) (hb : 2 ≤ b) (n : Nat) (h : n < b) : txl b n = [sg n] := by
  by_cases h0 : n = 0
  · subst h0; simp [txl_zero, sg]
  · rw [txl_pos h0, dg_pos hb (by omega), Nat.mod_eq_of_lt h, Nat.div_eq_of_lt h, dg_zero]; simp

set_option maxRecDepth 100000 in
set_option maxHeartbeats 1000000 in
theorem l1Small_c (n : Nat) (hn : n ≤ 9223372036854775807) (w : World) :
    Calls Tryd.prog 57 #[.int .i64 n] w fun e w' => e = .returned (.string (dec n)) ∧ Below w.heap.size w w' := by
  induction n using Nat.strongRecOn generalizing w with
  | _ n ih =>
    by_cases h : n < 10
    · have hfin : B [sg n] = dec n := by rw [dec, txt, txl_one 10 (by omega) n h]
      have Fin := hide hfin
      have hconv := run_conv_one (dst := 9) Tryd.underlying22 Tryd.underlying5 Tryd.underlying9 w _ n h (Below.refl _ _)
      clear ih hfin
      go_enter Tryd.func57, Tryd.ntmps57
      go_wp2
      go_ret
      exact ⟨ret_str (unhide Fin), (Below.refl _ _).alloc (Nat.le_refl _) _⟩
    · have hlt : n / 10 < n := Nat.div_lt_self (by omega) (by omega)
      have hq := ih (n / 10) hlt (by omega)
      have hfin : dec (n / 10) ++ B [sg (n % 10)] = dec n := by
        unfold dec txt; rw [B_append, ← txl_step 10 (by omega) n (by omega)]
      have Fin := hide hfin
      have Hq := hide hq
      have hm : n % 10 < 10 := Nat.mod_lt _ (by omega)
      have hconv := fun (W : World) => run_conv_one (P := Tryd.prog) (src := 22) (dst := 9) Tryd.underlying22 Tryd.underlying5 Tryd.underlying9 W _ (n % 10) hm (Below.refl _ _)
      have hconv2 := fun (W w1 : World) => run_conv_one (P := Tryd.prog) (src := 22) (dst := 9) Tryd.underlying22 Tryd.underlying5 Tryd.underlying9 W w1 (n % 10) hm
      clear ih hfin hq
      obtain ⟨q, hqd⟩ : ∃ q : Nat, n / 10 = q := ⟨_, rfl⟩
      obtain ⟨r, hrd⟩ : ∃ r : Nat, n % 10 = r := ⟨_, rfl⟩
      rw [hrd] at hconv hconv2 hm Fin
      rw [hqd] at Fin Hq hlt
      have e1 : (n : Int) / 10 = (q : Int) := by omega
      have e2 : (n : Int).tmod 10 = (r : Int) := by rw [Int.tmod_eq_emod_of_nonneg (by omega)]; omega
      have e3 := wi64 (q : Int) (by omega) (by omega)
      have e4 := wi64 (48 + (r : Int)) (by omega) (by omega)
      have e5 := wu8 (48 + (r : Int)) (by omega) (by omega)
      have hqs : (dec q).size ≤ 19 := by
        rw [dec_len]; exact txl_len_le (by omega) (by omega) (by omega)
      have hrs : (B [sg r]).size ≤ 1 := by rw [B_size]; simp
      have hns : ¬ 9223372036854775807 < (dec q).size + (B [sg r]).size := by omega
      have hns2 : ¬ (9223372036854775807 < ((dec q).size : Int) + ((B [sg r]).size : Int)) := by omega
      clear hqd hrd
      go_enter Tryd.func57, Tryd.ntmps57
      go_wp2
      have hcv0 := hconv2 w (w.alloc (.cells #[.int .u8 (48 + (r : Int))] 5)).drew ((Below.refl _ _).drew)
      go_region_with (go_at_call 57; refine (unhide Hq _).mono ?_; rintro e w1 ⟨rfl, hb1⟩; try have hcv := hconv2 w w1 (below_of_drew (by simpa using hb1)))
      all_goals
        go_wp2
        go_ret
        refine ⟨ret_str (unhide Fin), ?_⟩
        first
          | exact (below_of_drew hb1).alloc hb1.size _
          | exact ((Below.refl _ _).alloc (Nat.le_refl _) _).trans ((below_of_drew hb1).mono (by simp))
end Go.Proofs.YtcnnicbaeicboaaDoor
namespace Go.Proofs.YtcnnicbaeicboaaDoor
open Go.RowKit Nt

/-- the text of a mark -/
def mtx (k : Nat) : List UInt8 := 109 :: txl 10 k
theorem mtx_len {k : Nat} (h : k ≤ 4611686018427387904) : (mtx k).length ≤ 20 := by
  have := txl_len_le (b := 10) (by omega) (k := 19) (n := k) (by omega) (Nat.lt_of_le_of_lt h (by decide))
  simp [mtx]; omega
def txl0 (q : Nat) : List UInt8 := if q = 0 then [] else txl 10 q
theorem txl0_step {q : Nat} (h : 0 < q) : txl0 q = txl0 (q / 10) ++ [sg (q % 10)] := by
  unfold txl0
  rw [if_neg (by omega)]
  by_cases h1 : q < 10
  · rw [if_pos (by omega), txl_one 10 (by omega) q h1, Nat.mod_eq_of_lt h1]; rfl
  · rw [if_neg (by omega), txl_step 10 (by omega) q (by omega)]

set_option maxRecDepth 100000 in
set_option maxHeartbeats 1600000 in
theorem markText_c (k : Nat) (w : World) (h0 : 0 < k) (h1 : k ≤ 4611686018427387904) :
    Calls Tryd.prog 129 #[.int .i64 k] w fun e w' => e = .returned (.string (B (mtx k))) ∧ Below w.heap.size w w' := by
  have hlen := mtx_len h1
  have hkt : txl0 k = txl 10 k := by unfold txl0; rw [if_neg (by omega)]
  have hll : (txl 10 k).length ≤ 19 := by unfold mtx at hlen; simp at hlen; omega
  have HKT := hide hkt
  clear hlen hkt
  have hk0 : ¬ (k : Int) ≤ 0 := by omega
  go_enter Tryd.func129, Tryd.ntmps129
  go_wp2
  go_loopw [0, 3] (fun kv out wr => ∃ (q : Nat) (l : List UInt8), kv = .int .i64 q ∧ q ≤ k ∧ out = .string (B l) ∧ Hid (txl0 q ++ l = txl 10 k) ∧ l.length ≤ 19 ∧ Below w.heap.size w wr)
    (fun kv _ _ => (intOf kv).toNat)
  case atStart => exact ⟨k, [], rfl, Nat.le_refl _, rfl, hide (by rw [List.append_nil]; exact unhide HKT), by simp, Below.refl _ _⟩
  case round =>
    obtain ⟨q, l, rfl, hq, rfl, htx, hl, hbl⟩ := hrel
    by_cases hz : 0 < q
    · have hm : q % 10 < 10 := Nat.mod_lt _ (by omega)
      have hfin : B [sg (q % 10)] ++ B l = B (sg (q % 10) :: l) := by rw [B_append]; rfl
      have hst : txl0 (q / 10) ++ (sg (q % 10) :: l) = txl 10 k := by
        have := unhide htx
        rw [txl0_step hz, List.append_assoc] at this
        exact this
      have hl2 : (sg (q % 10) :: l).length ≤ 19 := by
        have := congrArg List.length hst
        rw [List.length_append] at this
        omega
      have hconv := fun (W w1 : World) => run_conv_one (P := Tryd.prog) (src := 22) (dst := 9) Tryd.underlying22 Tryd.underlying5 Tryd.underlying9 W w1 (q % 10) hm
      obtain ⟨p, hp⟩ : ∃ p : Nat, q / 10 = p := ⟨_, rfl⟩
      obtain ⟨r, hr⟩ : ∃ r : Nat, q % 10 = r := ⟨_, rfl⟩
      have hpq : p < q := by omega
      rw [hr] at hconv hfin hst hl2 hm
      rw [hp] at hst
      have e1 : (q : Int) / 10 = (p : Int) := by omega
      have e2 : (q : Int).tmod 10 = (r : Int) := by rw [Int.tmod_eq_emod_of_nonneg (by omega)]; omega
      have e2' : (q : Int) % 10 = (r : Int) := by omega
      have e4 := wi64 (48 + (r : Int)) (by omega) (by omega)
      have e5 := wu8 (48 + (r : Int)) (by omega) (by omega)
      have hrs : (B [sg r]).size = 1 := by rw [B_size]; rfl
      have hls := B_size l
      have hns : ¬ (9223372036854775807 < 1 + (l.length : Int)) := by omega
      have hcv := hconv wr (wr.alloc (.cells #[.int .u8 (48 + (r : Int))] 5)) (Below.refl _ _)
      have Hst := hide hst
      have Hfin := hide hfin
      have hsz := hbl.size
      have HBL := hide (hbl.alloc hsz (.cells #[.int .u8 (48 + (r : Int))] 5))
      clear hp hr hst hfin hconv hbl
      go_wp2
      go_roundw
      case rel => exact ⟨p, sg r :: l, by go_num, by omega, by rw [unhide Hfin], Hst, hl2, unhide HBL⟩
      case measure => simp [intOf]; omega
    · have hq0 : q = 0 := by omega
      subst hq0
      have hle : l = txl 10 k := by have := unhide htx; simpa [txl0] using this
      have hls := B_size l
      have hms : (⟨#[109]⟩ : ByteArray).size = 1 := rfl
      have hns : ¬ (9223372036854775807 < 1 + (l.length : Int)) := by omega
      have HLE := hide hle
      clear hle htx
      go_wp2
      go_ret
      exact ⟨ret_str (by rw [unhide HLE, show (⟨#[109]⟩ : ByteArray) = B [109] from rfl, B_append]; rfl), hbl⟩
end Go.Proofs.YtcnnicbaeicboaaDoor
namespace Go.Proofs.YtcnnicbaeicboaaDoor
open Go.RowKit Nt

/-- what marks are laid: k, k + 1, .. -/
def mkI (k n : Nat) : List Int := (List.range' k n).map Int.ofNat
theorem mkI_len (k n : Nat) : (mkI k n).length = n := by simp [mkI]
theorem mkI_get {k n j : Nat} (h : j < n) : (mkI k n)[j]? = some ((k + j : Nat) : Int) := by
  simp [mkI, h]
def mkNd (k : Nat) (nd : Nd) : Nd := (k, mtx (k + 1), mkI (k + 2) nd.2.2.length)
def cnt (ns : List Nd) : Nat := (ns.map fun nd => 2 + nd.2.2.length).sum
def mkN : Nat → List Nd → List Nd
  | _, [] => []
  | k, nd :: r => mkNd k nd :: mkN (k + (2 + nd.2.2.length)) r
theorem cnt_nil : cnt [] = 0 := rfl
theorem cnt_snoc (a : List Nd) (nd : Nd) : cnt (a ++ [nd]) = cnt a + (2 + nd.2.2.length) := by simp [cnt]
theorem mkN_len (k : Nat) (ns : List Nd) : (mkN k ns).length = ns.length := by
  induction ns generalizing k with
  | nil => rfl
  | cons nd r ih => simp [mkN, ih]
theorem cnt_take {ns : List Nd} {j : Nat} {nd : Nd} (h : ns[j]? = some nd) : cnt (ns.take (j + 1)) = cnt (ns.take j) + (2 + nd.2.2.length) := by
  rw [List.take_add_one, h]; exact cnt_snoc _ _
theorem cnt_append (a b : List Nd) : cnt (a ++ b) = cnt a + cnt b := by simp [cnt]
theorem cnt_le (ns : List Nd) (j : Nat) : cnt (ns.take j) ≤ cnt ns := by
  have := cnt_append (ns.take j) (ns.drop j)
  rw [List.take_append_drop] at this; omega
theorem mkN_get {k j : Nat} {ns : List Nd} {nd : Nd} (h : ns[j]? = some nd) : (mkN k ns)[j]? = some (mkNd (k + cnt (ns.take j)) nd) := by
  induction ns generalizing k j with
  | nil => simp at h
  | cons x r ih =>
    cases j with
    | zero => simp at h; subst h; simp [mkN, cnt]
    | succ j =>
      simp at h
      have := ih (k := k + (2 + x.2.2.length)) h
      simp only [mkN, List.getElem?_cons_succ, List.take_succ_cons]
      rw [this]
      simp only [cnt, List.map_cons, List.sum_cons]
      congr 2
      omega
theorem mkN_append (k : Nat) (a b : List Nd) : mkN k (a ++ b) = mkN k a ++ mkN (k + cnt a) b := by
  induction a generalizing k with
  | nil => simp [mkN, cnt]
  | cons x r ih =>
    simp only [List.cons_append, mkN, ih, List.cons_append]
    congr 3
    simp only [cnt, List.map_cons, List.sum_cons]
    omega

set_option maxRecDepth 100000 in
set_option maxHeartbeats 1600000 in
theorem heldIntS_c (v : Value) (k n : Nat) (w : World) (h : IntsAt w v (mkI k n)) (hk : k + n ≤ 2305843009213693952) :
    Calls Tryd.prog 88 #[v, .int .i64 k] w fun e w' => e = .returned (.int .i64 ((k + n : Nat) : Int)) ∧ Below w.heap.size w w' := by
  obtain ⟨a, cap, rfl, h1, h2⟩ := h.form
  unfold maxLen at h2
  have H := hide h
  clear h
  rw [mkI_len] at *
  go_enter Tryd.func88, Tryd.ntmps88
  go_wp2
  go_loopw [1, 5] (fun kv i wr => ∃ j : Nat, j ≤ n ∧ i = .int .i64 j ∧ kv = .int .i64 ((k + j : Nat) : Int) ∧ Below w.heap.size w wr)
    (fun _ i _ => n - (intOf i).toNat)
  case atStart => exact ⟨0, by omega, rfl, rfl, Below.refl _ _⟩
  case round =>
    obtain ⟨j, hj, rfl, rfl, hbl⟩ := hrel
    by_cases hlt : j < n
    · have hx := mkI_get (k := k) hlt
      obtain ⟨b, off, rfl, hb, hc⟩ := ((unhide H).below hbl).cell hx
      go_wp2
      go_roundw
      case rel => exact ⟨j + 1, by omega, by go_num, by go_num, hbl⟩
      case measure => simp [intOf]; omega
    · go_wp2
      go_ret
      have : j = n := by omega
      subst this
      exact ⟨rfl, hbl⟩
end Go.Proofs.YtcnnicbaeicboaaDoor
namespace Go.Proofs.YtcnnicbaeicboaaDoor
open Go.RowKit Nt

set_option maxRecDepth 100000 in
set_option maxHeartbeats 3200000 in
theorem heldReadNodeS_c (v : Value) (k : Nat) (ns : List Nd) (w : World) (h : NodesAt w v (mkN k ns)) (h0 : 0 < k) (hk : k + cnt ns ≤ 2305843009213693952) :
    Calls Tryd.prog 87 #[v, .int .i64 k] w fun e w' => e = .returned (.int .i64 ((k + cnt ns : Nat) : Int)) ∧ Below w.heap.size w w' := by
  obtain ⟨a, cap, rfl, h1, h2⟩ := h.form0
  unfold maxLen at h2
  have H := hide h
  clear h
  rw [mkN_len] at *
  go_enter Tryd.func87, Tryd.ntmps87
  go_wp2
  go_loopw [1, 5] (fun kv i wr => ∃ (j q : Nat), j ≤ ns.length ∧ i = .int .i64 j ∧ Hid (q = k + cnt (ns.take j)) ∧ kv = .int .i64 q ∧ 0 < q ∧ q ≤ 2305843009213693952 ∧ Below w.heap.size w wr)
    (fun _ i _ => ns.length - (intOf i).toNat)
  case atStart => exact ⟨0, k, by omega, rfl, rfl, rfl, h0, by omega, Below.refl _ _⟩
  case round =>
    obtain ⟨j, q, hj, rfl, hq, rfl, hq0, hq1, hbl⟩ := hrel
    by_cases hlt : j < ns.length
    · obtain ⟨nd, hnd⟩ : ∃ nd, ns[j]? = some nd := ⟨_, List.getElem?_eq_getElem hlt⟩
      have hx := mkN_get (k := k) hnd
      have hct := cnt_take hnd
      have hcl := cnt_le ns (j + 1)
      rw [← unhide hq] at hx
      obtain ⟨b, off, rfl, hb⟩ := ((unhide H).below hbl).addr (by rw [mkN_len]; omega)
      obtain ⟨kv, c0, c1, c2, htl, hk1⟩ := ((unhide H).below hbl).node hx
      unfold mkNd at c0 c1 htl hk1
      simp only at c0 c1 htl hk1
      have hq2 : q + (2 + nd.2.2.length) = k + cnt (ns.take (j + 1)) := by have := unhide hq; omega
      have hq3 : q + (2 + nd.2.2.length) ≤ 2305843009213693952 := by omega
      have HQ2 := hide hq2
      have HK1 := hide hk1
      have hsz := hbl.size
      have HBL := hide hbl
      generalize nd.2.2.length = m at *
      clear hk1 hbl hct hcl hq2 htl hx hnd
      go_wp2
      go_region_held3 (fun w' => w'.cell? ⟨b, off + j * 3 + 1, none⟩ = some (.string (B (mtx (q + 1))))) (((try dsimp only); (first | with_reducible assumption | exact c1))) ((go_at_call 129; refine (markText_c (q + 1) wr.drew (by omega) (by omega)).mono ?_; rintro e w1 ⟨rfl, hb1⟩; have HB1 : Hid (Below wr.heap.size wr w1) := (Below.refl wr.heap.size wr).drew.trans hb1; have d0 := (unhide HB1).cell (p := ⟨b, off + j * 3, none⟩) hb; have d1 := (unhide HB1).cell (p := ⟨b, off + j * 3 + 1, none⟩) hb; have d2 := (unhide HB1).cell (p := ⟨b, off + j * 3 + 2, none⟩) hb; rw [c0] at d0; rw [c1] at d1; rw [c2] at d2; clear hb1))
      clear c0 c1 c2
      go_wp2_with fail
      have h := heldIntS_c kv (q + 2) m w1 ((unhide HK1).below (unhide HB1)) (by omega)
      rw [show ((q + 2 : Nat) : Int) = (q : Int) + 1 + 1 from by omega] at h
      refine h.mono ?_
      clear h
      rintro e w2 ⟨rfl, hb2⟩
      have hn : ¬ ((q + 2 + m : Nat) : Int) < 0 := by omega
      have HB2 := hide (((unhide HBL).trans ((unhide HB1).mono hsz)).trans (hb2.mono (Nat.le_trans hsz (unhide HB1).size)))
      clear hb2 d0 d1 d2
      go_wp2
      go_roundw
      case rel => exact ⟨j + 1, q + 2 + m, by omega, by go_num, hide (by have := unhide HQ2; omega), rfl, by omega, by omega, unhide HB2⟩
      case measure => simp [intOf]; omega
    · go_wp2
      go_ret
      have : j = ns.length := by omega
      subst this
      have hq' := unhide hq
      rw [List.take_of_length_le (Nat.le_refl _)] at hq'
      exact ⟨ret_int (by rw [hq']), hbl⟩

/-- data behind marks from k on -/
def mkD (k : Nat) (d : Dt) : Dt := (mkN k d.1, mkI (k + cnt d.1) d.2.length)
def cntD (d : Dt) : Nat := cnt d.1 + d.2.length

set_option maxRecDepth 100000 in
set_option maxHeartbeats 1600000 in
theorem heldReadData_c (v : Value) (k : Nat) (d : Dt) (w : World) (h : DataAt w v (mkD k d)) (h0 : 0 < k) (hk : k + cntD d ≤ 2305843009213693952) :
    Calls Tryd.prog 31 #[v, .int .i64 k] w fun e w' => e = .returned (.int .i64 ((k + cntD d : Nat) : Int)) ∧ Below w.heap.size w w' := by
  obtain ⟨ns, rs⟩ := d
  obtain ⟨nv, rv, rfl, hn, hr⟩ := h
  unfold mkD at hn hr
  unfold cntD at *
  simp only at hn hr hk
  have hbb := (Below.refl w.heap.size w).alloc (Nat.le_refl _) (.cells #[nv, rv] 47)
  have HN := hide (hn.below hbb)
  have HR := hide (hr.below hbb)
  have HA := hide (AtC2.new w nv rv 47)
  have HBB := hide hbb
  clear hn hr hbb
  simp only
  go_enter Tryd.func31, Tryd.ntmps31
  go_wp2_with fail
  have h := heldReadNodeS_c nv k ns _ (unhide HN) h0 (by omega)
  refine h.mono ?_
  clear h
  rintro e w1 ⟨rfl, hb1⟩
  have a0 := ((unhide HA).below hb1).n0
  have a1 := ((unhide HA).below hb1).n1
  have HB1 := hide hb1
  have hn1 : ¬ ((k + cnt ns : Nat) : Int) < 0 := by omega
  clear hb1
  go_wp2_with fail
  have h := heldIntS_c rv (k + cnt ns) rs.length w1 ((unhide HR).below (unhide HB1)) (by omega)
  rw [show ((k + cnt ns : Nat) : Int) = (k : Int) + (cnt ns : Int) from by omega] at h
  refine h.mono ?_
  clear h
  rintro e w2 ⟨rfl, hb2⟩
  have hn2 : ¬ ((k + cnt ns + rs.length : Nat) : Int) < 0 := by omega
  go_wp2
  go_ret
  have hb1' := (unhide HBB).trans ((unhide HB1).mono (unhide HBB).size)
  exact ⟨ret_int (by omega), hb1'.trans (hb2.mono hb1'.size)⟩
end Go.Proofs.YtcnnicbaeicboaaDoor
namespace Go.Proofs.YtcnnicbaeicboaaDoor
open Go.RowKit Nt

theorem grown_trans {w w' w'' : World} {row : Option Nat} (h : w.grownBy w' row) (k : w'.grownBy w'' row) : w.grownBy w'' row :=
  ⟨k.os.trans h.os, k.tape.trans h.tape, k.output.trans h.output, Nat.le_trans h.size k.size, fun i hi hne => (k.block i (Nat.lt_of_lt_of_le hi h.size) hne).trans (h.block i hi hne)⟩

theorem mkI_snoc (k j : Nat) : mkI k (j + 1) = mkI k j ++ [((k + j : Nat) : Int)] := by
  unfold mkI
  rw [List.range'_1_concat, List.map_append]; rfl
theorem upd_step {xs : List Int} {k j : Nat} (h : j < xs.length) : (mkI k j ++ xs.drop j).set j ((k + j : Nat) : Int) = mkI k (j + 1) ++ xs.drop (j + 1) := by
  rw [List.set_append_right _ _ (by rw [mkI_len]; omega), mkI_len, Nat.sub_self, mkI_snoc, List.append_assoc, List.drop_eq_getElem_cons h]
  rfl

set_option maxRecDepth 100000 in
set_option maxHeartbeats 1600000 in
theorem markIntS_c (v : Value) (xs : List Int) (k base : Nat) (w : World) (h : w.ownsRow base 3 1 v xs.length (iv xs)) (hk : k + xs.length ≤ 2305843009213693952) :
    Calls Tryd.prog 86 #[v, .int .i64 k] w fun e w' => e = .returned (.int .i64 ((k + xs.length : Nat) : Int)) ∧ w'.ownsRow base 3 1 v xs.length (iv (mkI k xs.length)) ∧ w.grownBy w' v.ownBlock := by
  rcases h.2 with ⟨rfl, hn0⟩ | ⟨g, cap, cur, rfl, hb, hg, h1, h2, h3, h4⟩
  · have hxs : xs = [] := List.length_eq_zero_iff.1 hn0
    subst hxs
    go_enter Tryd.func86, Tryd.ntmps86
    go_wp2
    go_loopw [1, 5] (fun kv i wr => i = .int .i64 0 ∧ kv = .int .i64 k ∧ wr = w) (fun _ _ _ => 0)
    case atStart => exact ⟨rfl, rfl, rfl⟩
    case round =>
      obtain ⟨rfl, rfl, rfl⟩ := hrel
      go_wp2
      go_ret
      exact ⟨ret_int (by simp), h, World.grownBy.refl _ _⟩
  · have H := hide h
    unfold maxLen at h2
    clear h hg h3 h4
    go_enter Tryd.func86, Tryd.ntmps86
    go_wp2
    go_loopw [1, 5] (fun kv i wr => ∃ j : Nat, j ≤ xs.length ∧ i = .int .i64 j ∧ kv = .int .i64 ((k + j : Nat) : Int) ∧ wr.ownsRow base 3 1 (.slice (some ⟨g, 0, none⟩) xs.length cap) xs.length (iv (mkI k j ++ xs.drop j)) ∧ w.grownBy wr (some g))
      (fun _ i _ => xs.length - (intOf i).toNat)
    case atStart => exact ⟨0, by omega, rfl, rfl, by simpa [mkI] using unhide H, World.grownBy.refl _ _⟩
    case round =>
      obtain ⟨j, hj, rfl, rfl, hown, hgr⟩ := hrel
      by_cases hlt : j < xs.length
      · obtain ⟨v0, hv0⟩ := own_cell_some hown j (by omega)
        have hfr := hown.frozenAt j
        have hst := hown.stored j (.int .i64 ((k + j : Nat) : Int))
        rw [iv_set, upd_step hlt] at hst
        have Hst := hide hst.1
        have HG := hide (grown_trans hgr hst.2)
        clear hst
        go_wp2
        go_roundw
        case rel => exact ⟨j + 1, by omega, by go_num, by go_num, by simpa using unhide Hst, by simpa using unhide HG⟩
        case measure => simp [intOf]; omega
      · go_wp2
        go_ret
        have hjn : j = xs.length := by omega
        subst hjn
        rw [List.drop_of_length_le (Nat.le_refl _), List.append_nil] at hown
        exact ⟨rfl, hown, hgr⟩
end Go.Proofs.YtcnnicbaeicboaaDoor
/- Marks that loops over iterators leave on a call: taken up at its end. -/
namespace Go.Proofs.YtcnnicbaeicboaaDoor
open Go.RowKit Go.Shelf Nt

def markD (D : Nat) : Deferred := { target := .collected D, args := #[] }
/-- blocks of cells lie as they lay -/
structure Still (B : Nat) (w w' : World) : Prop where
  below : Below B w w'
  cells : ∀ (k : Nat) (o : Obj), w.heap[k]? = some o → o.isCells = true → w'.heap[k]? = some o
theorem Still.refl (B : Nat) (w : World) : Still B w w := ⟨Below.refl _ _, fun _ _ h _ => h⟩
theorem Still.trans {B : Nat} {a b c : World} (h : Still B a b) (k : Still B b c) : Still B a c := ⟨h.below.trans k.below, fun i o hi ho => k.cells i o (h.cells i o hi ho) ho⟩
theorem Still.kept {B : Nat} {w w' : World} (h : Still B w w') : Kept (fun b => ∃ o : Obj, w.heap[b]? = some o ∧ o.isCells = false) w w' :=
  ⟨h.below.os, h.below.tape, h.below.output, h.below.size, fun b hb hn => by
    have e := Array.getElem?_eq_getElem hb
    cases hc : (w.heap[b]'hb).isCells with
    | true => rw [h.cells b _ e hc, e]
    | false => exact absurd ⟨_, e, hc⟩ hn⟩
theorem Still.cell {B : Nat} {w w' : World} (h : Still B w w') {a : Addr} {v : Value} (hc : w.cell? a = some v) : w'.cell? a = some v := by
  obtain ⟨o, ho, hk⟩ := cells_of_cell hc
  have := h.cells _ o ho hk
  rw [World.cell?_of_block (this.trans ho.symm)]; exact hc
theorem Still.put {B : Nat} {w : World} {D : Nat} {o o' : Obj} (hB : B ≤ D) (h : w.heap[D]? = some o) (ho : o.isCells = false) : Still B w (w.putObj D o') :=
  ⟨⟨rfl, rfl, rfl, by simp, fun k hk => World.putObj_heap_other (by omega)⟩, fun k p hk hp => by
    have hne : k ≠ D := fun e => by subst e; rw [h] at hk; cases hk; rw [ho] at hp; cases hp
    rw [World.putObj_heap_other hne]; exact hk⟩

/-- marks: each at a block of its own, from B on, without deferred calls -/
structure Marks (B : Nat) (w : World) (Ds : List Nat) : Prop where
  nodup : Ds.Nodup
  at' : ∀ D ∈ Ds, B ≤ D ∧ w.heap[D]? = some (.deferred (some []))
theorem Marks.nil (B : Nat) (w : World) : Marks B w [] := ⟨List.nodup_nil, fun D h => by simp at h⟩
theorem Marks.cons {B : Nat} {w : World} {Ds : List Nat} {D : Nat} (h : Marks B w Ds) (hB : B ≤ D) (hD : w.heap[D]? = some (.deferred (some []))) (hn : D ∉ Ds) : Marks B w (D :: Ds) :=
  ⟨List.nodup_cons.2 ⟨hn, h.nodup⟩, fun d hd => by rcases List.mem_cons.1 hd with rfl | hd; exact ⟨hB, hD⟩; exact h.at' d hd⟩
theorem Marks.keeps {B C : Nat} {w w' : World} {Ds : List Nat} (h : Marks B w Ds) (k : KeepsFrom C w w') (hC : C ≤ B) : Marks B w' Ds :=
  ⟨h.nodup, fun D hD => ⟨(h.at' D hD).1, k.same D _ (Nat.le_trans hC (h.at' D hD).1) (h.at' D hD).2 rfl⟩⟩
theorem Marks.lt {B : Nat} {w : World} {Ds : List Nat} (h : Marks B w Ds) {D : Nat} (hD : D ∈ Ds) : D < w.heap.size := (Array.getElem?_eq_some_iff.1 (h.at' D hD).2).1
theorem Marks.fresh {B : Nat} {w : World} {Ds : List Nat} (h : Marks B w Ds) {D : Nat} (hD : w.heap.size ≤ D) : D ∉ Ds := fun hm => by have := h.lt hm; omega
theorem Marks.kept {B : Nat} {S : Nat → Prop} {w w' : World} {Ds : List Nat} (h : Marks B w Ds) (k : Kept S w w') (hS : ∀ D ∈ Ds, ¬ S D) : Marks B w' Ds :=
  ⟨h.nodup, fun D hD => ⟨(h.at' D hD).1, (k.block D (h.lt hD) (hS D hD)).trans (h.at' D hD).2⟩⟩
theorem Marks.below {B : Nat} {w w' : World} {Ds : List Nat} (h : Marks B w Ds) (k : Below w.heap.size w w') : Marks B w' Ds :=
  ⟨h.nodup, fun D hD => ⟨(h.at' D hD).1, (k.block D (h.lt hD)).trans (h.at' D hD).2⟩⟩

theorem leaves_marks {F : Fence} {n : Nat} {P : Program} {fn : Func} {tmps : Array Value} {R : Ending → World → Prop} (B : Nat) :
    ∀ (Ds : List Nat) (w : World), Marks B w Ds → (∀ w', Still B w w' → LeavesInM F n P fn tmps R [] .returning w') → LeavesInM F n P fn tmps R (Ds.map markD) .returning w
  | [], w, _, h => h w (Still.refl B w)
  | D :: Ds, w, hm, h => by
    have h0 := hm.at' D (by simp)
    have hnd := List.nodup_cons.1 hm.nodup
    refine ⟨by simp, .inl ⟨D, _, rfl, run_takeDeferred h0.2, ?_⟩⟩
    have hs : Still B w (w.putObj D (.deferred none)) := Still.put h0.1 h0.2 rfl
    refine leaves_marks B Ds _ ⟨hnd.2, fun d hd => ⟨(hm.at' d (by simp [hd])).1, ?_⟩⟩ (fun w' hw => h w' (hs.trans hw))
    rw [World.putObj_heap_other (fun e => hnd.1 (by rw [← e]; exact hd))]
    exact (hm.at' d (by simp [hd])).2
theorem ownFrom_kept {β : Type} {B : Nat} {S : Nat → Prop} {w₀ : World} (hB : w₀.heap.size ≤ B) : OwnFrom B (fun (_ : β) W => Kept S w₀ W) :=
  fun _ X Y row hs hg hr => ⟨hg.os.trans hs.os, hg.tape.trans hs.tape, hg.output.trans hs.output, Nat.le_trans hs.size hg.size, fun b hb hn => by
    refine (hg.block b (Nat.lt_of_lt_of_le hb hs.size) (fun e => ?_)).trans (hs.block b hb hn)
    have := (hr b e.symm).1
    omega⟩
theorem keepsOthers_below {W W' : World} (h : Below W.heap.size W W') : KeepsOthers W W' := ⟨h.size, fun k _ hk _ => (h.block k (Array.getElem?_eq_some_iff.1 hk).1).trans hk⟩
theorem still_boxed {B b : Nat} {w w' : World} {t : TypeId} {v : Value} (h : Still B w w') (hb : Boxed w b t v) : Boxed w' b t v := h.cells b _ hb rfl
theorem boxed_kept {S : Nat → Prop} {w w' : World} {b : Nat} {t : TypeId} {v : Value} (h : Boxed w b t v) (k : Kept S w w') (hS : ¬ S b) : Boxed w' b t v := (k.block b h.lt hS).trans h
theorem boxed_below {w w' : World} {b : Nat} {t : TypeId} {v : Value} (h : Boxed w b t v) (k : Below w.heap.size w w') : Boxed w' b t v := (k.block b h.lt).trans h
end Go.Proofs.YtcnnicbaeicboaaDoor
/- Small laws on owned rows. -/
namespace Go.Proofs.YtcnnicbaeicboaaDoor
open Go.RowKit Nt

theorem own_s1 {w : World} {base g i n : Nat} {e : TypeId} {size : Nat} {kv : Value} {xs : List Value} {u : Value} (h : w.ownsRow base e size kv n xs) (hg : kv.ownBlock ≠ some g) :
    (w.setCell ⟨g, i, none⟩ u).ownsRow base e size kv n xs := by
  refine h.kept (row := some g) ⟨rfl, rfl, rfl, by simp, fun k _ hk => ?_⟩ (.inr hg)
  have hk' : k ≠ g := fun e => hk (by rw [e])
  rw [heap_setCell_other _ ⟨g, i, none⟩ k _ hk']
end Go.Proofs.YtcnnicbaeicboaaDoor
/- impl's stack: push and pop. -/
namespace Go.Proofs.YtcnnicbaeicboaaDoor
open Go.RowKit Go.Shelf Nt

theorem boxed_row {w : World} {b : Nat} {T e : TypeId} {x v : Value} {base size n : Nat} {xs : List Value} (h : Boxed w b T x) (ho : w.ownsRow base e size v n xs) (hT : T ≠ e) : v.ownBlock ≠ some b := fun e' => h.not_row hT ho e'.symm
/-- where a row that grew lies: where it lay, or in a new block -/
def Lies (w : World) (v v' : Value) : Prop := v'.ownBlock = v.ownBlock ∨ ∃ k, v'.ownBlock = some k ∧ w.heap.size ≤ k

set_option maxRecDepth 100000 in
set_option maxHeartbeats 2000000 in
theorem push_c (s base : Nat) (v : Value) (st : List Int) (x : Int) (w : World) (hs : Boxed w s 159 v) (ho : w.ownsRow base 3 1 v st.length (iv st)) (hb : base ≤ w.heap.size) (hl : st.length < 1000000000000) :
    Calls Tryd.prog 124 #[.pointer (some ⟨s, 0, none⟩), .int .i64 x] w fun e w' => (∃ u, e = .returned u) ∧ ∃ v', Boxed w' s 159 v' ∧ w'.ownsRow base 3 1 v' (st.length + 1) (iv (st ++ [x])) ∧ Lies w v v' ∧ Kept (fun b => b = s ∨ v.ownBlock = some b) w w' := by
  obtain ⟨i0, hi, hz0, hz1, hz2⟩ := info_parts Tryd.infoInt
  have hne := boxed_row hs ho (by decide)
  have HS := hide hs
  have HO := hide ho
  have c0 := hs.cell
  clear hs ho
  go_enter Tryd.func124, Tryd.ntmps124
  go_wp2_with (at_builtin; refine wpList_append_own_at _ rfl _ _ 41 rfl base 3 i0 (.int .i64 0) 1 8 Tryd.underlying41 hi hz0 hz1 hz2 rfl (by decide) _ _ _ rfl ((unhide HO).alloc _) ⟨w.heap.size, 0, none⟩ 1 1 [.int .i64 x] rfl rfl (cell_one_new _ _ _) (by intro u hu; simp at hu; subst hu; rfl) (by unfold maxLen; omega) (by omega) (by simp; omega) ?_; intro v' w1 hown' hgrow hnil hloc; obtain ⟨pa, pc, rfl⟩ := own_slice hown'; have hbx := (unhide HS).appended (n₀ := 0) (by decide) (own_base (unhide HO) (Nat.zero_le _)) (Nat.zero_le _) (Nat.zero_le _) (own_base hown' (Nat.zero_le _)) hgrow; have HBX := hide hbx; have HOW := hide hown'; have HG : Hid ((w.alloc (.cells #[.int .i64 x] 3)).grownBy w1 v.ownBlock) := hgrow; have HL : Hid ((Value.slice pa (st.length + 1) pc).ownBlock = v.ownBlock ∨ (Value.slice pa (st.length + 1) pc).ownBlock = some (w.alloc (.cells #[.int .i64 x] 3)).heap.size) := hloc; have b0 := hbx.1.cell; have b1 := hbx.1.frozen; clear hbx hown' hgrow hnil hloc)
  go_end0
  refine ⟨⟨_, rfl⟩, _, (unhide HBX).2.1, ?_, ?_, ?_⟩
  · have := (unhide HOW).kept (grownBy_setCell' w1 s (.slice pa (st.length + 1) pc)) (.inr ((unhide HBX).1.not_row (by decide) (unhide HOW)).symm)
    simpa [iv] using this
  · rcases unhide HL with h | h
    · exact .inl h
    · exact .inr ⟨_, h, by simp⟩
  · refine Kept.trans (w' := w.alloc (.cells #[.int .i64 x] 3)) (Kept.of_below ((Below.refl _ _).alloc (Nat.le_refl _) _)) ?_
    refine Kept.trans (w' := w1) (Kept.of_grown (unhide HG) (fun i e => .inr e)) (Kept.set (.inl rfl) _)

set_option maxRecDepth 100000 in
set_option maxHeartbeats 2000000 in
theorem pop_c (s base g cap : Nat) (st : List Int) (p : Int) (w : World) (hs : Boxed w s 159 (.slice (some ⟨g, 0, none⟩) (st.length + 1) cap)) (ho : w.ownsRow base 3 1 (.slice (some ⟨g, 0, none⟩) (st.length + 1) cap) (st.length + 1) (iv (st ++ [p]))) (hl : st.length < 1000000000000) :
    Calls Tryd.prog 125 #[.pointer (some ⟨s, 0, none⟩)] w fun e w' => e = .returned (.int .i64 p) ∧ Boxed w' s 159 (.slice (some ⟨g, 0, none⟩) st.length cap) ∧ w'.ownsRow base 3 1 (.slice (some ⟨g, 0, none⟩) st.length cap) st.length (iv st) ∧ Kept (· = s) w w' := by
  have hne := boxed_row hs ho (by decide)
  have HS := hide hs
  have HO := hide ho
  have c0 := hs.cell
  have f0 := hs.frozen
  have hcap : st.length + 1 ≤ cap ∧ cap ≤ maxLen := by
    rcases ho.2 with ⟨e, _⟩ | ⟨g', c', cur, e, _, _, h1, h2, _⟩
    · cases e
    · cases e; exact ⟨h1, h2⟩
  unfold maxLen at hcap
  have hc : w.cell? ⟨g, st.length, none⟩ = some (.int .i64 p) := by
    rw [ho.cellAt st.length (by omega), iv_get]
    simp
  clear hs ho hne
  go_enter Tryd.func125, Tryd.ntmps125
  go_wp2
  go_ret
  refine ⟨rfl, (unhide HS).set _, ?_, Kept.set (S := (· = s)) (a := ⟨s, 0, none⟩) rfl _⟩
  have h := own_take (unhide HO) st.length (by omega)
  rw [show (iv (st ++ [p])).take st.length = iv st by simp [iv]] at h
  exact own_s1 h (by
    have := boxed_row (unhide HS) (unhide HO) (by decide)
    simpa [Value.ownBlock] using this)
end Go.Proofs.YtcnnicbaeicboaaDoor
/- Iterators over kids, there and back, whose loops' bodies may write into blocks of a set. -/
namespace Go.Proofs.YtcnnicbaeicboaaDoor
open Go.RowKit Go.Shelf Nt
attribute [local go_sem] Oper.semAt_some

/-- a slice of ints whose cells lie in no block of a set -/
def IntsS (S : Nat → Prop) (W : World) (v : Value) (zs : List Int) : Prop :=
  ∃ a cap, v = .slice a zs.length cap ∧ zs.length ≤ cap ∧ cap ≤ maxLen ∧ (0 < zs.length → ∃ b off, a = some ⟨b, off, none⟩ ∧ ¬ S b ∧ b < W.heap.size ∧ ∀ j x, zs[j]? = some x → W.cell? ⟨b, off + j, none⟩ = some (.int .i64 x))
theorem IntsS.kept {S : Nat → Prop} {A B : World} {v : Value} {zs : List Int} (h : IntsS S A v zs) (k : Kept S A B) : IntsS S B v zs := by
  obtain ⟨a, cap, rfl, h1, h2, h3⟩ := h
  refine ⟨a, cap, rfl, h1, h2, fun h0 => ?_⟩
  obtain ⟨b, off, rfl, hs, hb, hc⟩ := h3 h0
  refine ⟨b, off, rfl, hs, Nat.lt_of_lt_of_le hb k.size, fun j x hx => ?_⟩
  rw [World.cell?_of_block (k.block b hb hs)]; exact hc j x hx
theorem IntsAt.outS {S : Nat → Prop} {W : World} {v : Value} {zs : List Int} (h : IntsAt W v zs) (hs : ∀ b, b < W.heap.size → ¬ S b) : IntsS S W v zs := by
  obtain ⟨a, cap, rfl, h1, h2, h3⟩ := h
  refine ⟨a, cap, rfl, h1, h2, fun h0 => ?_⟩
  obtain ⟨b, off, rfl, hb, hc⟩ := h3 h0
  exact ⟨b, off, rfl, hs b hb, hb, hc⟩
theorem cell_keptS {S : Nat → Prop} {w w' : World} (k : Kept S w w') {a : Addr} {v : Value} (h : w.cell? a = some v) (hs : ¬ S a.block) : w'.cell? a = some v := by
  rw [World.cell?_of_block (k.block a.block (block_lt_of_cell h) hs)]; exact h
theorem Kept.put {S : Nat → Prop} {W : World} {l : Nat} {o' : Obj} (hl : S l) : Kept S W (W.putObj l o') :=
  ⟨rfl, rfl, rfl, by simp, fun b _ hb => World.putObj_heap_other (fun e => hb (by rw [e]; exact hl))⟩

set_option maxRecDepth 100000 in
set_option maxHeartbeats 2000000 in
theorem beside1S_in (F : Fence) (n : Nat) (hF : F.fn 136) (hro : F.round = none) (hn : 1 ≤ n) (l Bs : Nat) (S : Nat → Prop) (kv : Value) (zs : List Int) (hreach : zs.length ≤ 140737488355328) (J Jx : List Int → World → Prop)
    (hY : ∀ pre x W, J pre W → pre.length < zs.length → (pre ++ [x]) <+: zs → YieldAt F (n - 1) Tryd.prog l #[.int .i64 x] W fun e W' =>
      (e = .returned (.bool true) ∧ J (pre ++ [x]) W' ∧ Kept S W W') ∨ (e = .returned (.bool false) ∧ Jx (pre ++ [x]) W'))
    (W : World) (hBs : W.cell? ⟨Bs, 2, none⟩ = some kv) (hI : IntsS S W kv zs) (h0 : J [] W) :
    CallsIn F n Tryd.prog 136 #[.func (.yield l) #[] #[], .pointer (some ⟨Bs, 0, none⟩)] W fun e W' => (∃ v, e = .returned v) ∧ (J zs W' ∨ (∃ pre, pre <+: zs ∧ Jx pre W')) := by
  have HI := hide hI
  obtain ⟨a, cap, rfl, h1, h2, _⟩ := hI
  unfold maxLen at h2
  refine callsIn_of_wp Tryd.func136 rfl hF ?_ hro
  simp only [Tryd.ntmps136, List.size_toArray, List.length_cons, List.length_nil, Nat.reduceAdd, Nat.reduceSub, Array.replicate_succ, Array.replicate_zero, List.push_toArray, List.append_toArray, List.nil_append, List.cons_append]
  gi_wp2
  gi_loopw [8] (fun i wr => ∃ k : Nat, k ≤ zs.length ∧ i = .int .i64 k ∧ J (zs.take k) wr ∧ Kept S W wr)
    (fun i _ => zs.length - (intOf i).toNat)
  case atStart => exact ⟨0, Nat.zero_le _, rfl, by simpa using h0, Kept.refl _ _⟩
  case round =>
    obtain ⟨k, hk, rfl, hJs, hnx⟩ := hrel
    by_cases hlt : k < zs.length
    · obtain ⟨x, hx⟩ : ∃ x, zs[k]? = some x := ⟨_, List.getElem?_eq_getElem hlt⟩
      obtain ⟨a', cap', e1, _, _, h3⟩ := (unhide HI).kept hnx
      injection e1 with e2 e3 e4
      obtain ⟨b, off, e5, hsb, hb, hcs⟩ := h3 (by omega)
      rw [← e2] at e5
      subst e5
      have hcx := hcs k x hx
      have HX := hide (show zs.take (k + 1) = zs.take k ++ [x] by rw [List.take_add_one, hx]; rfl)
      obtain ⟨fn, tmps, assign, body, hy, hR⟩ := hY _ x wr hJs (by simp; omega) (by rw [← unhide HX]; exact List.take_prefix (k + 1) zs)
      clear e2 e4 h3 hcs hx hBs
      gi_wp2
      refine hR.mono ?_
      rintro e W3 (⟨rfl, hJ3, hk3⟩ | ⟨rfl, hJx3⟩)
      · gi_wp2
        go_roundw
        case rel => exact ⟨k + 1, by omega, by go_num, by rw [unhide HX]; exact hJ3, hnx.trans hk3⟩
        case measure => simp [intOf]; omega
      · gi_wp2
        refine bodyPost_ret (results_none rfl _ _ _) rfl ?_
        exact ⟨⟨_, rfl⟩, .inr ⟨_, List.take_prefix (k + 1) zs, by rw [unhide HX]; exact hJx3⟩⟩
    · obtain rfl : k = zs.length := by omega
      rw [List.take_of_length_le (Nat.le_refl _)] at hJs
      gi_wp2
      go_end0
      exact ⟨⟨_, rfl⟩, .inl hJs⟩
theorem besideS_stops (F : Fence) (n : Nat) (hF : F.fn 136) (hro : F.round = none) (hn : 1 ≤ n) (Bs : Nat) (S : Nat → Prop) (kv : Value) (zs : List Int) (hreach : zs.length ≤ 140737488355328) (w : World) (hBs : Bs < w.heap.size)
    (hc : w.cell? ⟨Bs, 2, none⟩ = some kv) (hI : IntsS S w kv zs) :
    SeqStopsK F n Tryd.prog 136 #[.pointer (some ⟨Bs, 0, none⟩)] (fun x : Int => #[Value.int .i64 x]) (Kept S) (fun ys => ys = zs) (fun pre => pre <+: zs) zs.length w := fun l J Jx W hW _ _ hY h0 => by
  have hc' := (hW.cell (p := ⟨Bs, 2, none⟩) hBs).trans hc
  refine (beside1S_in F n hF hro hn l Bs S kv zs hreach J Jx (fun pre x W hJ hl _ => hY pre x W hJ hl) W hc' (hI.kept (Kept.of_below hW)) h0).mono ?_
  rintro e W' ⟨he, hj | hj⟩
  · exact ⟨he, .inl ⟨_, rfl, hj⟩⟩
  · exact ⟨he, .inr hj⟩

/-- the same, where what is told is known to be as the list's elements are -/
theorem besideS_sub (F : Fence) (n : Nat) (hF : F.fn 136) (hro : F.round = none) (hn : 1 ≤ n) (Bs : Nat) (S : Nat → Prop) (kv : Value) (zs : List Int) (P : Int → Prop) (hP : ∀ z ∈ zs, P z) (hreach : zs.length ≤ 140737488355328) (w : World) (hBs : Bs < w.heap.size)
    (hc : w.cell? ⟨Bs, 2, none⟩ = some kv) (hI : IntsS S w kv zs) :
    SeqStopsK F n Tryd.prog 136 #[.pointer (some ⟨Bs, 0, none⟩)] (fun x : {z : Int // P z} => #[Value.int .i64 x.1]) (Kept S) (fun ys => ys.map Subtype.val = zs) (fun pre => pre.map Subtype.val <+: zs) zs.length w := fun l J Jx W hW _ _ hY h0 => by
  have hc' := (hW.cell (p := ⟨Bs, 2, none⟩) hBs).trans hc
  refine (beside1S_in F n hF hro hn l Bs S kv zs hreach (fun pre W => ∃ p : List {z : Int // P z}, p.map Subtype.val = pre ∧ J p W) (fun pre W => ∃ p : List {z : Int // P z}, p.map Subtype.val = pre ∧ Jx p W) (fun pre x W hJ hl hpx => ?_) W hc' (hI.kept (Kept.of_below hW)) ⟨[], rfl, h0⟩).mono ?_
  · obtain ⟨p, rfl, hJ⟩ := hJ
    have hx : P x := hP x (List.IsPrefix.mem (by simp) hpx)
    obtain ⟨fn, tmps, assign, body, hy, hR⟩ := hY p ⟨x, hx⟩ W hJ (by simpa using hl)
    refine ⟨fn, tmps, assign, body, hy, hR.mono ?_⟩
    rintro e W3 (⟨rfl, h1, h2⟩ | ⟨rfl, h1⟩)
    · exact .inl ⟨rfl, ⟨p ++ [⟨x, hx⟩], by simp, h1⟩, h2⟩
    · exact .inr ⟨rfl, ⟨p ++ [⟨x, hx⟩], by simp, h1⟩⟩
  rintro e W' ⟨he, ⟨p, hp, hj⟩ | ⟨pre, hpr, p, hp, hj⟩⟩
  · exact ⟨he, .inl ⟨p, hp, hj⟩⟩
  · exact ⟨he, .inr ⟨p, by show p.map Subtype.val <+: zs; rw [hp]; exact hpr, hj⟩⟩

/-- what Backward tells: places and elements, from the end on -/
def backL (zs : List Int) : List (Int × Int) := ((List.range zs.length).map fun (i : Nat) => ((i : Int), zs.getD i 0)).reverse
theorem backL_len (zs : List Int) : (backL zs).length = zs.length := by simp [backL]
theorem backL_at (zs : List Int) (k : Nat) (h : k < zs.length) : (backL zs)[k]? = some (((zs.length - 1 - k : Nat) : Int), zs.getD (zs.length - 1 - k) 0) := by
  unfold backL
  rw [List.getElem?_reverse (by simpa using h)]
  simp
  have : zs.length - 1 - k < zs.length := by omega
  simp [this]
theorem backL_snd (zs : List Int) : (backL zs).map Prod.snd = zs.reverse := by
  unfold backL
  rw [List.map_reverse, List.map_map]
  congr 1
  apply List.ext_getElem (by simp)
  intro i h1 h2
  simp at h1
  simp [h1]

set_option maxRecDepth 100000 in
set_option maxHeartbeats 2000000 in
theorem back1S_in (F : Fence) (n : Nat) (hF : F.fn 142) (hro : F.round = none) (hn : 1 ≤ n) (l Bs : Nat) (S : Nat → Prop) (kv : Value) (zs : List Int) (hreach : zs.length ≤ 140737488355328) (hS : ¬ S Bs) (J Jx : List (Int × Int) → World → Prop)
    (hY : ∀ pre x W, J pre W → pre.length < zs.length → YieldAt F (n - 1) Tryd.prog l #[.int .i64 x.1, .int .i64 x.2] W fun e W' =>
      (e = .returned (.bool true) ∧ J (pre ++ [x]) W' ∧ Kept S W W') ∨ (e = .returned (.bool false) ∧ Jx (pre ++ [x]) W'))
    (W : World) (hBs : W.cell? ⟨Bs, 0, none⟩ = some kv) (hI : IntsS S W kv zs) (h0 : J [] W) :
    CallsIn F n Tryd.prog 142 #[.func (.yield l) #[] #[], .pointer (some ⟨Bs, 0, none⟩)] W fun e W' => (∃ v, e = .returned v) ∧ (J (backL zs) W' ∨ (∃ pre, pre <+: backL zs ∧ Jx pre W')) := by
  have HI := hide hI
  have HBS := hide hBs
  obtain ⟨a, cap, rfl, h1, h2, _⟩ := hI
  unfold maxLen at h2
  refine callsIn_of_wp Tryd.func142 rfl hF ?_ hro
  simp only [Tryd.ntmps142, List.size_toArray, List.length_cons, List.length_nil, Nat.reduceAdd, Nat.reduceSub, Array.replicate_succ, Array.replicate_zero, List.push_toArray, List.append_toArray, List.nil_append, List.cons_append]
  gi_wp2
  gi_loopw [3] (fun i wr => ∃ k : Nat, k ≤ zs.length ∧ i = .int .i64 ((zs.length : Int) - 1 - k) ∧ J ((backL zs).take k) wr ∧ Kept S W wr)
    (fun i _ => (intOf i + 1).toNat)
  case atStart => exact ⟨0, Nat.zero_le _, by simp, by simpa using h0, Kept.refl _ _⟩
  case round =>
    obtain ⟨k, hk, rfl, hJs, hnx⟩ := hrel
    have hbs := cell_keptS hnx (unhide HBS) hS
    clear hBs
    by_cases hlt : k < zs.length
    · obtain ⟨m, hm⟩ : ∃ m, zs.length - 1 - k = m := ⟨_, rfl⟩
      have hmz : (zs.length : Int) - 1 - k = (m : Int) := by omega
      obtain ⟨x, hx⟩ : ∃ x, zs[m]? = some x := ⟨_, List.getElem?_eq_getElem (by omega)⟩
      have hB := backL_at zs k hlt
      rw [hm, show zs.getD m 0 = x by rw [List.getD_eq_getElem?_getD, hx]; rfl] at hB
      obtain ⟨a', cap', e1, _, _, h3⟩ := (unhide HI).kept hnx
      injection e1 with e2 e3 e4
      obtain ⟨b, off, e5, hsb, hb, hcs⟩ := h3 (by omega)
      rw [← e2] at e5
      subst e5
      have hcx := hcs m x hx
      obtain ⟨fn, tmps, assign, body, hy, hR⟩ := hY _ ((m : Int), x) wr hJs (by rw [List.length_take, backL_len]; omega)
      have HX := hide (show (backL zs).take (k + 1) = (backL zs).take k ++ [((m : Int), x)] by rw [List.take_add_one, hB]; rfl)
      have HM := hide hmz
      rw [hmz]
      have hm0 : m < zs.length := by omega
      have HKM := hide (show (m : Int) - 1 = (zs.length : Int) - 1 - ((k + 1 : Nat) : Int) by omega)
      clear e2 e4 h3 hcs hx hB hm hmz
      gi_wp2
      refine hR.mono ?_
      rintro e W3 (⟨rfl, hJ3, hk3⟩ | ⟨rfl, hJx3⟩)
      · gi_wp2
        go_roundw
        case rel => exact ⟨k + 1, by omega, by rw [← unhide HKM], by rw [unhide HX]; exact hJ3, hnx.trans hk3⟩
        case measure => simp [intOf]
      · gi_wp2
        refine bodyPost_ret (results_none rfl _ _ _) rfl ?_
        exact ⟨⟨_, rfl⟩, .inr ⟨_, List.take_prefix (k + 1) (backL zs), by rw [unhide HX]; exact hJx3⟩⟩
    · obtain rfl : k = zs.length := by omega
      rw [List.take_of_length_le (Nat.le_of_eq (backL_len zs))] at hJs
      have hz : (zs.length : Int) - 1 - (zs.length : Int) = -1 := by omega
      rw [hz]
      gi_wp2
      go_end0
      exact ⟨⟨_, rfl⟩, .inl hJs⟩
theorem backS_stops (F : Fence) (n : Nat) (hF : F.fn 142) (hro : F.round = none) (hn : 1 ≤ n) (Bs : Nat) (S : Nat → Prop) (kv : Value) (zs : List Int) (hreach : zs.length ≤ 140737488355328) (w : World) (hBs : Bs < w.heap.size) (hS : ¬ S Bs)
    (hc : w.cell? ⟨Bs, 0, none⟩ = some kv) (hI : IntsS S w kv zs) :
    SeqStopsK F n Tryd.prog 142 #[.pointer (some ⟨Bs, 0, none⟩)] (fun x : Int × Int => #[Value.int .i64 x.1, Value.int .i64 x.2]) (Kept S) (fun ys => ys = backL zs) (fun pre => pre <+: backL zs) zs.length w := fun l J Jx W hW _ _ hY h0 => by
  have hc' := (hW.cell (p := ⟨Bs, 0, none⟩) hBs).trans hc
  refine (back1S_in F n hF hro hn l Bs S kv zs hreach hS J Jx hY W hc' (hI.kept (Kept.of_below hW)) h0).mono ?_
  rintro e W' ⟨he, hj | hj⟩
  · exact ⟨he, .inl ⟨_, rfl, hj⟩⟩
  · exact ⟨he, .inr hj⟩
theorem back_c (a : Option Addr) (n c : Nat) (w : World) :
    Calls Tryd.prog 126 #[.slice a n c] w fun e w' => e = .returned (.func (.func 142) #[] #[.pointer (some ⟨w.heap.size, 0, none⟩)]) ∧ w' = w.alloc (.cells #[.slice a n c] 41) := by
  go_enter Tryd.func126, Tryd.ntmps126
  go_wp2
  go_ret
  exact ⟨rfl, rfl⟩
end Go.Proofs.YtcnnicbaeicboaaDoor
namespace Go.Proofs.YtcnnicbaeicboaaDoor
open Go.RowKit Nt

theorem own_set1 {w : World} {base g i n : Nat} {e : TypeId} {size : Nat} {kv : Value} {xs : List Value} {u : Value} (h : w.ownsRow base e size kv n xs) (hg : kv.ownBlock ≠ some g) :
    (w.setCell ⟨g, i, none⟩ u).ownsRow base e size kv n xs := by
  refine h.kept (row := some g) ⟨rfl, rfl, rfl, by simp, fun k _ hk => ?_⟩ (.inr hg)
  exact heap_setCell_other _ ⟨g, i, none⟩ k _ (fun e => hk (by rw [e]))
theorem some_set1 {w : World} {p a : Addr} {u : Value} (h : ∃ x, w.cell? a = some x) : ∃ x, (w.setCell p u).cell? a = some x := by
  obtain ⟨y, hy⟩ := h
  by_cases e : p = a
  · subst e; exact ⟨u, World.cell?_setCell_same _ _ _ hy⟩
  · exact ⟨y, by rw [World.cell?_setCell_other _ _ _ _ e]; exact hy⟩
theorem ne_off {g i j : Nat} (h : i ≠ j) : (⟨g, i, none⟩ : Addr) ≠ ⟨g, j, none⟩ := fun e => h (by injection e)

/-- another sort at a place -/
theorem NodesOwn.sort {w : World} {base g n : Nat} {ns : List Nd} {kvs : List Value} (h : NodesOwn w base g n ns kvs) {j : Nat} {nd : Nd} (hj : ns[j]? = some nd) (s : Int) :
    NodesOwn (w.setCell ⟨g, j * 3, none⟩ (.int .i64 s)) base g n (ns.set j (s, nd.2)) kvs := by
  obtain ⟨⟨h1, h2, h3⟩, hf, hc, hnn, ha, hgg⟩ := h
  have hjl := (List.getElem?_eq_some_iff.1 hj).1
  refine ⟨⟨h1, by simpa using h2, by simpa using h3⟩, fun i => by simpa using hf i, fun i hi => some_set1 (hc i hi), fun i nd' kv' e1 e2 => ?_, ha, hgg⟩
  have hkg := hgg kv' (List.mem_of_getElem? e2)
  rw [List.getElem?_set] at e1
  by_cases hij : j = i
  · subst hij
    rw [if_pos rfl, if_pos hjl] at e1
    injection e1 with e1
    subst e1
    obtain ⟨c0, c1, c2, hl, ho⟩ := hnn j nd kv' hj e2
    exact ⟨World.cell?_setCell_same _ _ _ c0, by rw [World.cell?_setCell_other _ _ _ _ (ne_off (by omega))]; exact c1, by rw [World.cell?_setCell_other _ _ _ _ (ne_off (by omega))]; exact c2, hl, own_set1 ho hkg⟩
  · rw [if_neg hij] at e1
    obtain ⟨c0, c1, c2, hl, ho⟩ := hnn i nd' kv' e1 e2
    exact ⟨by rw [World.cell?_setCell_other _ _ _ _ (ne_off (by omega))]; exact c0, by rw [World.cell?_setCell_other _ _ _ _ (ne_off (by omega))]; exact c1, by rw [World.cell?_setCell_other _ _ _ _ (ne_off (by omega))]; exact c2, hl, own_set1 ho hkg⟩
/-- another text at a place -/
theorem NodesOwn.text {w : World} {base g n : Nat} {ns : List Nd} {kvs : List Value} (h : NodesOwn w base g n ns kvs) {j : Nat} {nd : Nd} (hj : ns[j]? = some nd) (l : List UInt8) (hl : l.length ≤ maxLen) :
    NodesOwn (w.setCell ⟨g, j * 3 + 1, none⟩ (.string (B l))) base g n (ns.set j (nd.1, l, nd.2.2)) kvs := by
  obtain ⟨⟨h1, h2, h3⟩, hf, hc, hnn, ha, hgg⟩ := h
  have hjl := (List.getElem?_eq_some_iff.1 hj).1
  refine ⟨⟨h1, by simpa using h2, by simpa using h3⟩, fun i => by simpa using hf i, fun i hi => some_set1 (hc i hi), fun i nd' kv' e1 e2 => ?_, ha, hgg⟩
  have hkg := hgg kv' (List.mem_of_getElem? e2)
  rw [List.getElem?_set] at e1
  by_cases hij : j = i
  · subst hij
    rw [if_pos rfl, if_pos hjl] at e1
    injection e1 with e1
    subst e1
    obtain ⟨c0, c1, c2, _, ho⟩ := hnn j nd kv' hj e2
    exact ⟨by rw [World.cell?_setCell_other _ _ _ _ (ne_off (by omega))]; exact c0, World.cell?_setCell_same _ _ _ c1, by rw [World.cell?_setCell_other _ _ _ _ (ne_off (by omega))]; exact c2, hl, own_set1 ho hkg⟩
  · rw [if_neg hij] at e1
    obtain ⟨c0, c1, c2, hl', ho⟩ := hnn i nd' kv' e1 e2
    exact ⟨by rw [World.cell?_setCell_other _ _ _ _ (ne_off (by omega))]; exact c0, by rw [World.cell?_setCell_other _ _ _ _ (ne_off (by omega))]; exact c1, by rw [World.cell?_setCell_other _ _ _ _ (ne_off (by omega))]; exact c2, hl', own_set1 ho hkg⟩
/-- the kids at a place written -/
theorem NodesOwn.kids {w w' : World} {base g n : Nat} {ns : List Nd} {kvs : List Value} (h : NodesOwn w base g n ns kvs) {j : Nat} {nd : Nd} {kv : Value} (hj : ns[j]? = some nd) (hkv : kvs[j]? = some kv) (xs : List Int)
    (hgr : w.grownBy w' kv.ownBlock) (hown : w'.ownsRow base 3 1 kv xs.length (iv xs)) :
    NodesOwn w' base g n (ns.set j (nd.1, nd.2.1, xs)) kvs := by
  obtain ⟨⟨h1, h2, h3⟩, hf, hc, hnn, ha, hgg⟩ := h
  have hjl := (List.getElem?_eq_some_iff.1 hj).1
  have hg : some g ≠ kv.ownBlock := fun e => hgg kv (List.mem_of_getElem? hkv) e.symm
  have hblk := hgr.block g h2 hg
  have hcell : ∀ i, w'.cell? ⟨g, i, none⟩ = w.cell? ⟨g, i, none⟩ := fun i => World.cell?_of_block (a := ⟨g, i, none⟩) hblk
  refine ⟨⟨h1, Nat.lt_of_lt_of_le h2 hgr.size, by simpa using h3⟩, fun i => by rw [World.frozen?_of_block (a := ⟨g, i, none⟩) hblk]; exact hf i, fun i hi => by rw [hcell]; exact hc i hi, fun i nd' kv' e1 e2 => ?_, ha, hgg⟩
  rw [List.getElem?_set] at e1
  by_cases hij : j = i
  · subst hij
    rw [if_pos rfl, if_pos hjl] at e1
    injection e1 with e1
    subst e1
    rw [hkv] at e2
    injection e2 with e2
    subst e2
    obtain ⟨c0, c1, c2, hl, ho⟩ := hnn j nd kv hj hkv
    exact ⟨by rw [hcell]; exact c0, by rw [hcell]; exact c1, by rw [hcell]; exact c2, hl, hown⟩
  · rw [if_neg hij] at e1
    obtain ⟨c0, c1, c2, hl, ho⟩ := hnn i nd' kv' e1 e2
    refine ⟨by rw [hcell]; exact c0, by rw [hcell]; exact c1, by rw [hcell]; exact c2, hl, ho.kept hgr ?_⟩
    cases hb : kv'.ownBlock with
    | none => exact .inl rfl
    | some b =>
      right
      intro e
      have hjk := (List.getElem?_eq_some_iff.1 hkv)
      have hik := (List.getElem?_eq_some_iff.1 e2)
      obtain ⟨hj1, hj2⟩ := hjk
      obtain ⟨hi1, hi2⟩ := hik
      unfold Apart at ha
      rw [List.pairwise_iff_getElem] at ha
      rcases Nat.lt_or_ge j i with hlt | hge
      · have := ha j i hj1 hi1 hlt b (by rw [hj2]; exact e.symm)
        rw [hi2] at this
        exact this hb
      · have := ha i j hi1 hj1 (by omega) b (by rw [hi2]; exact hb)
        rw [hj2] at this
        exact this e.symm

theorem setset {α : Type} (l : List α) (j : Nat) (a b : α) : (l.set j a).set j b = l.set j b := by
  apply List.ext_getElem?; intro i
  simp only [List.getElem?_set, List.length_set]
  split <;> rfl
theorem set_drop {α : Type} {a b : List α} {j : Nat} {x : α} (ha : a.length = j) (hj : j < b.length) : (a ++ b.drop j).set j x = a ++ x :: b.drop (j + 1) := by
  rw [List.set_append_right _ _ (by omega), ha, Nat.sub_self, List.drop_eq_getElem_cons hj]
  rfl
end Go.Proofs.YtcnnicbaeicboaaDoor
namespace Go.Proofs.YtcnnicbaeicboaaDoor
open Go.RowKit Nt

set_option maxRecDepth 100000 in
set_option maxHeartbeats 3200000 in
theorem markReadNodeS_c (g cap base : Nat) (ns : List Nd) (kvs : List Value) (k : Nat) (w : World) (h : NodesOwn w base g ns.length ns kvs) (hcap : ns.length ≤ cap) (hm : cap ≤ maxLen) (h0 : 0 < k) (hk : k + cnt ns ≤ 2305843009213693952) :
    Calls Tryd.prog 85 #[.slice (some ⟨g, 0, none⟩) ns.length cap, .int .i64 k] w fun e w' => e = .returned (.int .i64 ((k + cnt ns : Nat) : Int)) ∧ NodesOwn w' base g ns.length (mkN k ns) kvs ∧ Kept (fun b => b = g ∨ ∃ kv ∈ kvs, kv.ownBlock = some b) w w' := by
  have H := hide h
  unfold maxLen at hm
  clear h
  go_enter Tryd.func85, Tryd.ntmps85
  go_wp2
  go_loopw [1, 5] (fun kv i wr => ∃ (j q : Nat), j ≤ ns.length ∧ i = .int .i64 j ∧ Hid (q = k + cnt (ns.take j)) ∧ kv = .int .i64 q ∧ 0 < q ∧ q ≤ 2305843009213693952 ∧ Hid (NodesOwn wr base g ns.length (mkN k (ns.take j) ++ ns.drop j) kvs) ∧ Hid (Kept (fun b => b = g ∨ ∃ kv ∈ kvs, kv.ownBlock = some b) w wr))
    (fun _ i _ => ns.length - (intOf i).toNat)
  case atStart => exact ⟨0, k, by omega, rfl, rfl, rfl, h0, by omega, H, hide (Kept.refl _ _)⟩
  case round =>
    obtain ⟨j, q, hj, rfl, hq, rfl, hq0, hq1, hno, hkp⟩ := hrel
    by_cases hlt : j < ns.length
    · obtain ⟨nd, hnd⟩ : ∃ nd, ns[j]? = some nd := ⟨_, List.getElem?_eq_getElem hlt⟩
      have hml : (mkN k (ns.take j)).length = j := by rw [mkN_len, List.length_take]; omega
      have hL : (mkN k (ns.take j) ++ ns.drop j)[j]? = some nd := by
        rw [List.getElem?_append_right (by omega), hml, Nat.sub_self, List.getElem?_drop]; simpa using hnd
      have hct := cnt_take hnd
      have hcl := cnt_le ns (j + 1)
      have hkl := (unhide hno).1.2.2
      have hll : (mkN k (ns.take j) ++ ns.drop j).length = ns.length := by rw [List.length_append, hml, List.length_drop]; omega
      obtain ⟨kv, hkv⟩ : ∃ kv, kvs[j]? = some kv := ⟨_, List.getElem?_eq_getElem (by omega)⟩
      obtain ⟨c0, c1, c2, htl, ho⟩ := (unhide hno).2.2.2.1 j nd kv hL hkv
      have hfr := (unhide hno).2.1
      have hgl := (unhide hno).1.2.1
      -- the sort
      have n1 := (unhide hno).sort hL (q : Int)
      have K1 := hide ((unhide hkp).trans (Kept.set (a := ⟨g, j * 3, none⟩) (.inl rfl) (.int .i64 (q : Int))))
      have N1 := hide n1
      have hq2 : q + (2 + nd.2.2.length) = k + cnt (ns.take (j + 1)) := by have := unhide hq; omega
      have hq3 : q + (2 + nd.2.2.length) ≤ 2305843009213693952 := by omega
      have HQ := hide (And.intro hq2 (And.intro hL (And.intro hml (And.intro hnd (And.intro hkv (unhide hq))))))
      clear n1 hct hcl hq2 hL hkl hkv hml hll hno hkp htl ho hnd hq
      go_wp2_with fail
      have h := markText_c (q + 1) (wr.setCell ⟨g, j * 3, none⟩ (.int .i64 q)) (by omega) (by omega)
      rw [show ((q + 1 : Nat) : Int) = (q : Int) + 1 from by omega] at h
      refine h.mono ?_
      clear h
      rintro e w1 ⟨rfl, hb1⟩
      -- the text
      have n1' := (unhide N1).below hb1
      have hL1 : ((mkN k (ns.take j) ++ ns.drop j).set j ((q : Int), nd.2))[j]? = some ((q : Int), nd.2) := by
        have := (unhide HQ).2.1
        rw [List.getElem?_set, if_pos rfl, if_pos ((List.getElem?_eq_some_iff.1 this).1)]
      obtain ⟨d0, d1, d2, dtl, dho⟩ := n1'.2.2.2.1 j _ kv hL1 (unhide HQ).2.2.2.2.1
      have dfr := n1'.2.1
      have dgl := n1'.1.2.1
      have n2 := n1'.text hL1 (mtx (q + 1)) (by have := mtx_len (k := q + 1) (by omega); unfold maxLen; omega)
      rw [setset] at n2
      have K2 := hide (((unhide K1).trans (Kept.of_below hb1)).trans (Kept.set (a := ⟨g, j * 3 + 1, none⟩) (.inl rfl) (.string (B (mtx (q + 1))))))
      have N2 := hide n2
      clear n1' hL1 n2 hb1 N1 K1 c0 c1 c2 hfr hgl dho dtl
      simp only at d0 d1 d2
      go_wp2_with fail
      -- the kids
      have hL2 : ((mkN k (ns.take j) ++ ns.drop j).set j ((q : Int), mtx (q + 1), nd.2.2))[j]? = some ((q : Int), mtx (q + 1), nd.2.2) := by
        have := (unhide HQ).2.1
        rw [List.getElem?_set, if_pos rfl, if_pos ((List.getElem?_eq_some_iff.1 this).1)]
      obtain ⟨_, _, _, _, ho2⟩ := (unhide N2).2.2.2.1 j _ kv hL2 (unhide HQ).2.2.2.2.1
      have h := markIntS_c kv nd.2.2 (q + 2) base _ ho2 (by omega)
      rw [show ((q + 2 : Nat) : Int) = (q : Int) + 1 + 1 from by omega] at h
      refine h.mono ?_
      clear h
      rintro e w2 ⟨rfl, hown, hgr⟩
      have n3 := (unhide N2).kids hL2 (unhide HQ).2.2.2.2.1 (mkI (q + 2) nd.2.2.length) hgr (by rw [mkI_len]; exact hown)
      have hset : ((mkN k (ns.take j) ++ ns.drop j).set j ((q : Int), mtx (q + 1), nd.2.2)).set j ((q : Int), mtx (q + 1), mkI (q + 2) nd.2.2.length) = mkN k (ns.take (j + 1)) ++ ns.drop (j + 1) := by
        have hq := (unhide HQ).2.2.2.2.2
        rw [setset, set_drop (unhide HQ).2.2.1 hlt, List.take_add_one, (unhide HQ).2.2.2.1]
        show _ = mkN k (ns.take j ++ [nd]) ++ _
        rw [mkN_append, ← hq, List.append_assoc]
        rfl
      have n4 : NodesOwn w2 base g ns.length (mkN k (ns.take (j + 1)) ++ ns.drop (j + 1)) kvs := by rw [← hset]; exact n3
      have K3 := hide ((unhide K2).trans (Kept.of_grown hgr (fun i hi => .inr ⟨kv, List.mem_of_getElem? (unhide HQ).2.2.2.2.1, hi⟩)))
      have N4 := hide n4
      have HQ2 := hide (unhide HQ).1
      clear n3 n4 hset hL2 ho2 hown hgr N2 K2 d0 d1 d2 dfr dgl HQ
      go_wp2
      go_roundw
      case rel => exact ⟨j + 1, q + 2 + nd.2.2.length, by omega, by go_num, hide (by have := unhide HQ2; omega), rfl, by omega, by omega, N4, K3⟩
      case measure => simp [intOf]; omega
    · go_wp2
      go_ret
      have : j = ns.length := by omega
      subst this
      have hq' := unhide hq
      have hn' := unhide hno
      rw [List.take_of_length_le (Nat.le_refl _)] at hq' hn'
      rw [List.drop_of_length_le (Nat.le_refl _), List.append_nil] at hn'
      exact ⟨ret_int (by rw [hq']), hn', unhide hkp⟩

set_option maxRecDepth 100000 in
set_option maxHeartbeats 800000 in
theorem markReadNodeS_nil (k : Nat) (w : World) :
    Calls Tryd.prog 85 #[.slice none 0 0, .int .i64 k] w fun e w' => e = .returned (.int .i64 k) ∧ w' = w := by
  go_enter Tryd.func85, Tryd.ntmps85
  go_wp2
  go_loopw [1, 5] (fun kv i wr => i = .int .i64 0 ∧ kv = .int .i64 k ∧ wr = w) (fun _ _ _ => 0)
  case atStart => exact ⟨rfl, rfl, rfl⟩
  case round =>
    obtain ⟨rfl, rfl, rfl⟩ := hrel
    go_wp2
    go_ret
    exact ⟨rfl, rfl⟩
end Go.Proofs.YtcnnicbaeicboaaDoor
namespace Go.Proofs.YtcnnicbaeicboaaDoor
open Go.RowKit Nt

/-- nodes stay where only a row of another block was written -/
theorem NodesOwn.row {w w' : World} {base g n : Nat} {ns : List Nd} {kvs : List Value} (h : NodesOwn w base g n ns kvs) {rv : Value} (hgr : w.grownBy w' rv.ownBlock) (hg : rv.ownBlock ≠ some g) (hk : ∀ kv ∈ kvs, ∀ i, rv.ownBlock = some i → kv.ownBlock ≠ some i) : NodesOwn w' base g n ns kvs := by
  obtain ⟨⟨h1, h2, h3⟩, hf, hc, hnn, ha, hgg⟩ := h
  have hblk := hgr.block g h2 (fun e => hg e.symm)
  have hcell : ∀ i, w'.cell? ⟨g, i, none⟩ = w.cell? ⟨g, i, none⟩ := fun i => World.cell?_of_block (a := ⟨g, i, none⟩) hblk
  refine ⟨⟨h1, Nat.lt_of_lt_of_le h2 hgr.size, h3⟩, fun i => by rw [World.frozen?_of_block (a := ⟨g, i, none⟩) hblk]; exact hf i, fun i hi => by rw [hcell]; exact hc i hi, fun i nd kv e1 e2 => ?_, ha, hgg⟩
  obtain ⟨c0, c1, c2, hl, ho⟩ := hnn i nd kv e1 e2
  refine ⟨by rw [hcell]; exact c0, by rw [hcell]; exact c1, by rw [hcell]; exact c2, hl, ho.kept hgr ?_⟩
  cases hb : kv.ownBlock with
  | none => exact .inl rfl
  | some b => exact .inr (fun e => hk kv (List.mem_of_getElem? e2) b e.symm hb)

theorem mkI_zero (k : Nat) : mkI k 0 = [] := rfl
theorem kept_alloc {S : Nat → Prop} {w w' : World} {o : Obj} (h : Kept S (w.alloc o) w') : Kept S w w' :=
  ⟨h.os, h.tape, h.output, Nat.le_trans (by simp) h.size, fun b hb ho => (h.block b (by simp; omega) ho).trans (heap_alloc_old w o hb)⟩
theorem Kept.own {S : Nat → Prop} {w w' : World} {base n size : Nat} {e : TypeId} {v : Value} {xs : List Value} (h : Kept S w w') (ho : w.ownsRow base e size v n xs) (hs : ∀ i, v.ownBlock = some i → ¬ S i) : w'.ownsRow base e size v n xs := by
  refine ⟨ho.1, ?_⟩
  rcases ho.2 with hn | ⟨g, cap, cur, rfl, hb, hg, rest⟩
  · exact .inl hn
  · refine .inr ⟨g, cap, cur, rfl, hb, ?_, rest⟩
    rw [h.block g (Array.getElem?_eq_some_iff.1 hg).1 (hs g rfl)]
    exact hg
theorem Kept.nodes {S : Nat → Prop} {w w' : World} {base g n : Nat} {ns : List Nd} {kvs : List Value} (h : Kept S w w') (hn : NodesOwn w base g n ns kvs) (hg : ¬ S g) (hk : ∀ kv ∈ kvs, ∀ i, kv.ownBlock = some i → ¬ S i) : NodesOwn w' base g n ns kvs := by
  obtain ⟨⟨h1, h2, h3⟩, hf, hc, hnn, ha, hgg⟩ := hn
  have hblk := h.block g h2 hg
  have hcell : ∀ i, w'.cell? ⟨g, i, none⟩ = w.cell? ⟨g, i, none⟩ := fun i => World.cell?_of_block (a := ⟨g, i, none⟩) hblk
  refine ⟨⟨h1, Nat.lt_of_lt_of_le h2 h.size, h3⟩, fun i => by rw [World.frozen?_of_block (a := ⟨g, i, none⟩) hblk]; exact hf i, fun i hi => by rw [hcell]; exact hc i hi, fun i nd kv e1 e2 => ?_, ha, hgg⟩
  obtain ⟨c0, c1, c2, hl, ho⟩ := hnn i nd kv e1 e2
  exact ⟨by rw [hcell]; exact c0, by rw [hcell]; exact c1, by rw [hcell]; exact c2, hl, h.own ho (hk kv (List.mem_of_getElem? e2))⟩
/-- data stay where only blocks of others were written -/
theorem Kept.data {S : Nat → Prop} {w w' : World} {base top : Nat} {v : Value} {d : Dt} (h : Kept S w w') (hd : DataOwn w base top v d) (hs : ∀ b, base ≤ b → b < top → ¬ S b) : DataOwn w' base top v d := by
  obtain ⟨nv, rv, kvs, rfl, hn, hr, hap, hnr, htop, hts⟩ := hd
  have hkb : ∀ g cap, nv = .slice (some ⟨g, 0, none⟩) d.1.length cap → NodesOwn w base g d.1.length d.1 kvs → ∀ kv ∈ kvs, ∀ i, kv.ownBlock = some i → base ≤ i := by
    intro g cap _ hno kv hkv i hi
    obtain ⟨j, hj⟩ := List.getElem?_of_mem hkv
    have hjl := (List.getElem?_eq_some_iff.1 hj).1
    have hl := hno.1.2.2
    obtain ⟨_, _, _, _, ho⟩ := hno.2.2.2.1 j (d.1[j]'(by omega)) kv (List.getElem?_eq_getElem _) hj
    exact (ho.lt i hi).1
  refine ⟨nv, rv, kvs, rfl, ?_, h.own hr (fun i hi => hs i (hr.lt i hi).1 (htop rv (.inr (.inl rfl)) i hi)), hap, hnr, htop, Nat.le_trans hts h.size⟩
  rcases hn with hn | ⟨g, cap, e, h1, h2, hno⟩
  · exact .inl hn
  · refine .inr ⟨g, cap, e, h1, h2, h.nodes hno ?_ ?_⟩
    · exact hs g hno.1.1 (htop nv (.inl rfl) g (by rw [e]; rfl))
    · intro kv hkv i hi
      exact hs i (hkb g cap e hno kv hkv i hi) (htop kv (.inr (.inr hkv)) i hi)
/-- the blocks of data -/
def dataBlocks (base top : Nat) : Nat → Prop := fun b => base ≤ b ∧ b < top

set_option maxRecDepth 100000 in
set_option maxHeartbeats 3200000 in
theorem markReadData_c (v : Value) (d : Dt) (k base top : Nat) (w : World) (h : DataOwn w base top v d) (h0 : 0 < k) (hk : k + cntD d ≤ 2305843009213693952) :
    Calls Tryd.prog 30 #[v, .int .i64 k] w fun e w' => e = .returned (.int .i64 ((k + cntD d : Nat) : Int)) ∧ DataOwn w' base top v (mkD k d) ∧ Kept (dataBlocks base top) w w' := by
  obtain ⟨ns, rs⟩ := d
  obtain ⟨nv, rv, kvs, rfl, hn, hr, hap, hnr, htop, hts⟩ := h
  unfold mkD cntD at *
  simp only at hn hr hk
  unfold Apart at hap
  rw [List.pairwise_cons] at hap
  have hbb := (Below.refl w.heap.size w).alloc (Nat.le_refl _) (.cells #[nv, rv] 47)
  have HR := hide (own_below hr hbb)
  have HA := hide (AtC2.new w nv rv 47)
  have HAP := hide hap
  have HNR := hide hnr
  have HTOP := hide htop
  rcases hn with ⟨rfl, rfl, rfl⟩ | ⟨g, cap, rfl, hc1, hc2, hno⟩
  · -- no nodes
    have hbr : ∀ i, rv.ownBlock = some i → base ≤ i ∧ i < top := fun i hi => ⟨((unhide HR).lt i hi).1, htop rv (.inr (.inl rfl)) i hi⟩
    clear hr hbb hap hnr htop
    have hk' : k + rs.length ≤ 2305843009213693952 := by simp only [cnt_nil] at hk; omega
    clear hk
    go_enter Tryd.func30, Tryd.ntmps30
    go_wp2_with fail
    have h := markReadNodeS_nil k (w.alloc (.cells #[.slice none 0 0, rv] 47))
    refine h.mono ?_
    clear h
    rintro e w1 ⟨rfl, rfl⟩
    go_wp2_with fail
    have h := markIntS_c rv rs k base _ (unhide HR) (by omega)
    refine h.mono ?_
    clear h
    rintro e w2 ⟨rfl, hown2, hgr2⟩
    go_wp2
    go_ret
    have k2 : Kept (dataBlocks base top) w w2 := kept_alloc (Kept.of_grown hgr2 (fun i hi => hbr i hi))
    refine ⟨ret_int (by simp [cnt_nil]), ⟨_, rv, [], rfl, .inl ⟨rfl, rfl, rfl⟩, ?_, ?_, unhide HNR, unhide HTOP, Nat.le_trans hts k2.size⟩, k2⟩
    · rw [mkI_len]; simpa [cnt_nil] using hown2
    · unfold Apart; rw [List.pairwise_cons]; exact unhide HAP
  · have HN := hide (hno.below hbb)
    have hgt : g < top := htop _ (.inl rfl) g rfl
    have hkt : ∀ kv ∈ kvs, ∀ i, kv.ownBlock = some i → i < top := fun kv hkv i hi => htop kv (.inr (.inr hkv)) i hi
    have hrt : ∀ i, rv.ownBlock = some i → i < top := fun i hi => htop rv (.inr (.inl rfl)) i hi
    have HRT := hide hrt
    clear hno hr hbb hap hnr htop hrt
    go_enter Tryd.func30, Tryd.ntmps30
    go_wp2_with fail
    have hbg := (unhide HN).1.1
    have hkb : ∀ kv ∈ kvs, ∀ i, kv.ownBlock = some i → base ≤ i := by
      intro kv hkv i hi
      obtain ⟨j, hj⟩ := List.getElem?_of_mem hkv
      have hjl := (List.getElem?_eq_some_iff.1 hj).1
      have hl := (unhide HN).1.2.2
      obtain ⟨_, _, _, _, ho⟩ := (unhide HN).2.2.2.1 j (ns[j]'(by omega)) kv (List.getElem?_eq_getElem _) hj
      exact (ho.lt i hi).1
    have h := markReadNodeS_c g cap base ns kvs k _ (unhide HN) hc1 hc2 h0 (by omega)
    refine h.mono ?_
    clear h
    rintro e w1 ⟨rfl, hno1, hk1⟩
    have hA1 : AtC2 w1 w.heap.size (.slice (some ⟨g, 0, none⟩) ns.length cap) rv 47 := by
      refine (hk1.block w.heap.size (by simp) ?_).trans (unhide HA)
      rintro (e | ⟨kv, hkv, e⟩)
      · omega
      · have := hkt kv hkv _ e; omega
    have a0 := hA1.n0
    have a1 := hA1.n1
    have hr1 : w1.ownsRow base 3 1 rv rs.length (iv rs) := by
      refine hk1.own (unhide HR) (fun i hi => ?_)
      rintro (e | ⟨kv, hkv, e⟩)
      · exact (unhide HNR) g rfl (by rw [hi, e])
      · exact (unhide HAP).1 kv hkv i hi e
    have hbr : ∀ i, rv.ownBlock = some i → base ≤ i := fun i hi => (hr1.lt i hi).1
    have K1 := hide hk1
    have N1 := hide hno1
    clear hk1 hno1 hA1 hkb
    go_wp2_with fail
    have h := markIntS_c rv rs (k + cnt ns) base w1 hr1 (by omega)
    rw [show ((k + cnt ns : Nat) : Int) = (k : Int) + (cnt ns : Int) from by omega] at h
    refine h.mono ?_
    clear h
    rintro e w2 ⟨rfl, hown2, hgr2⟩
    go_wp2
    go_ret
    have n2 := (unhide N1).row hgr2 (fun e => (unhide HNR) g rfl e) (fun kv hkv i hi => (unhide HAP).1 kv hkv i hi)
    have k2 : Kept (dataBlocks base top) w w2 := by
      refine (kept_alloc ((unhide K1).mono ?_)).trans (Kept.of_grown hgr2 (fun i hi => ⟨hbr i hi, (unhide HRT) i hi⟩))
      rintro b (rfl | ⟨kv, hkv, e⟩)
      · exact ⟨hbg, hgt⟩
      · obtain ⟨j, hj⟩ := List.getElem?_of_mem hkv
        have hjl := (List.getElem?_eq_some_iff.1 hj).1
        have hl := (unhide HN).1.2.2
        obtain ⟨_, _, _, _, ho⟩ := (unhide HN).2.2.2.1 j (ns[j]'(by omega)) kv (List.getElem?_eq_getElem _) hj
        exact ⟨(ho.lt b e).1, hkt kv hkv b e⟩
    refine ⟨ret_int (by omega), ⟨_, rv, kvs, rfl, .inr ⟨g, cap, by rw [mkN_len], by rw [mkN_len]; exact hc1, hc2, by rw [mkN_len]; exact n2⟩, by rw [mkI_len]; exact hown2, ?_, unhide HNR, unhide HTOP, Nat.le_trans hts k2.size⟩, k2⟩
    unfold Apart; rw [List.pairwise_cons]; exact unhide HAP
end Go.Proofs.YtcnnicbaeicboaaDoor
/- The law of ReadMin: what holds if both sides answer alike. -/
namespace Go.Proofs.YtcnnicbaeicboaaDoor
open Go.RowKit Nt

theorem DataOwn.below {w w' : World} {base top : Nat} {v : Value} {d : Dt} (h : DataOwn w base top v d) (k : Below w.heap.size w w') : DataOwn w' base top v d :=
  (Kept.of_below (S := fun _ => False) k).data h (fun _ _ _ e => e)
theorem DataAt.form {w : World} {v : Value} {d : Dt} (h : DataAt w v d) : ∃ nv rv, v = .agg #[nv, rv] := by
  obtain ⟨nv, rv, rfl, _⟩ := h; exact ⟨nv, rv, rfl⟩
theorem DataAt.slices {w : World} {nv rv : Value} {d : Dt} (h : DataAt w (.agg #[nv, rv]) d) : ∃ a n c b m c', nv = .slice a n c ∧ rv = .slice b m c' := by
  obtain ⟨nv', rv', e, h1, h2⟩ := h
  simp only [Value.agg.injEq, Array.mk.injEq, List.cons.injEq, and_true] at e
  obtain ⟨rfl, rfl⟩ := e
  obtain ⟨a, c, rfl, _⟩ := h1
  obtain ⟨b, c', rfl, _⟩ := h2
  exact ⟨_, _, _, _, _, _, rfl, rfl⟩
theorem cntD_le {d : Dt} (h1 : d.1.length ≤ 1048576) (h2 : d.2.length ≤ 1048576) (h3 : NsSmall d.1) : cntD d ≤ 1099514773504 := by
  have key : ∀ ns : List Nd, NsSmall ns → cnt ns ≤ ns.length * 1048578 := by
    intro ns
    induction ns with
    | nil => intro _; simp [cnt]
    | cons x r ih =>
      intro h
      have hx := (h x (by simp)).2
      have := ih (fun nd hm => h nd (by simp [hm]))
      simp only [cnt, List.map_cons, List.sum_cons, List.length_cons] at this ⊢
      omega
  have := key d.1 h3
  unfold cntD
  omega

set_option maxRecDepth 100000 in
set_option maxHeartbeats 4000000 in
theorem lawMin_main (nv rv : Value) (d M : Dt) (w : World) (h : DataAt w (.agg #[nv, rv]) d)
    (hspec : ∀ u W, Below w.heap.size w W → DataAt W u d → d.1.length ≤ 1048576 ∧ d.2.length ≤ 1048576 ∧ NsSmall d.1 → Calls Tryd.prog 26 #[u] W fun e W' => (∃ mn mr, e = .returned (.agg #[mn, mr]) ∧ DataAt W' (.agg #[mn, mr]) M) ∧ Below W.heap.size W W')
    (himpl : ∀ u W, Below w.heap.size w W → DataAt W u d → d.1.length ≤ 1048576 ∧ d.2.length ≤ 1048576 ∧ NsSmall d.1 → Calls Tryd.prog 28 #[u] W fun e W' => (∃ gn gr, e = .returned (.agg #[gn, gr]) ∧ DataOwn W' W.heap.size W'.heap.size (.agg #[gn, gr]) M) ∧ Below W.heap.size W W')
    (hM : d.1.length ≤ 1048576 ∧ d.2.length ≤ 1048576 ∧ NsSmall d.1 → M.1.length ≤ 1048576 ∧ M.2.length ≤ 1048576 ∧ NsSmall M.1) :
    Calls Tryd.prog 5 #[.agg #[nv, rv]] w fun e w' => e = .returned (.bool true) ∧ Below w.heap.size w w' := by
  have HD := hide h
  have HS := hide hspec
  have HI := hide himpl
  have HM := hide hM
  have HB := hide (step_a (Below.refl w.heap.size w) (.cells #[nv, rv] 43))
  have HbA := hide (AtC2.new w nv rv 43)
  clear h hspec himpl hM
  go_enter Tryd.func5, Tryd.ntmps5
  go_wp2_with fail
  have h := szReadData_c _ d _ ((unhide HD).below (unhide HB))
  refine h.mono ?_
  clear h
  rintro e w1 ⟨⟨r, rfl, hr⟩, hb⟩
  -- behind hb : Below of the world: every box, and what is below all
  replace HB := hide (step_b (unhide HB) hb)
  replace HbA := hide ((unhide HbA).below hb)
  clear hb
  by_cases hr0 : r < 0
  · go_wp2
    go_ret
    exact ⟨rfl, unhide HB⟩
  have hsm := hr (by omega)
  clear hr
  have HSM := hide hsm
  have hMs := (unhide HM) hsm
  have hcd := cntD_le hsm.1 hsm.2.1 hsm.2.2
  have hcM := cntD_le hMs.1 hMs.2.1 hMs.2.2
  clear hsm hMs HM
  have a0 := (unhide HbA).n0
  have a1 := (unhide HbA).n1
  -- the specification's answer
  go_wp2_with fail
  have h := toReadData_c _ d w1 ((unhide HD).below (unhide HB)) (unhide HSM)
  refine h.mono ?_
  clear h
  rintro e w2 ⟨⟨u1, rfl, hu1⟩, hb⟩
  -- behind hb : Below of the world: every box, and what is below all
  replace HB := hide (step_b (unhide HB) hb)
  replace HbA := hide ((unhide HbA).below hb)
  have HU1 := hide hu1.at
  clear hb hu1 a0 a1
  go_wp2_with fail
  have h := (unhide HS) u1 w2 (unhide HB) (unhide HU1) (unhide HSM)
  refine h.mono ?_
  clear h
  rintro e w3 ⟨⟨mn, mr, rfl, hm0⟩, hb⟩
  obtain ⟨p0, p1, p2, p3, p4, p5, rfl, rfl⟩ := hm0.slices

  -- behind hb : Below of the world: every box, and what is below all
  replace HB := hide (step_b (unhide HB) hb)
  replace HbA := hide ((unhide HbA).below hb)
  have HM0 := hide hm0
  have s03 := (unhide HB).size
  clear hb hm0 HU1 HS
  have a0 := (unhide HbA).n0
  have a1 := (unhide HbA).n1
  have al := (unhide HbA).lt
  -- the copy
  go_wp2_with fail
  replace HB := hide (step_a (unhide HB) (.cells #[.slice p0 p1 p2, .slice p3 p4 p5] 47))
  have h := toReadData_c _ d (w3.alloc (.cells #[.slice p0 p1 p2, .slice p3 p4 p5] 47)) ((unhide HD).below (unhide HB)) (unhide HSM)
  refine h.mono ?_
  clear h
  rintro e w4 ⟨⟨u2, rfl, hx0⟩, hb⟩
  obtain ⟨xn, xr, rfl⟩ := hx0.at.form
  obtain ⟨q0, q1, q2, q3, q4, q5, rfl, rfl⟩ := hx0.at.slices
  replace HB := hide (step_b (unhide HB) hb)
  replace HbA := hide (((unhide HbA).alloc _).below hb)
  have HbM := hide ((AtC2.new w3 (.slice p0 p1 p2) (.slice p3 p4 p5) 47).below hb)
  have HB3 := hide (step_b (step_a (Below.refl w3.heap.size w3) (.cells #[.slice p0 p1 p2, .slice p3 p4 p5] 47)) hb)
  have HX0 := hide hx0
  have e1 : (w3.alloc (.cells #[.slice p0 p1 p2, .slice p3 p4 p5] 47)).heap.size = w3.heap.size + 1 := by simp
  have s34 := hb.size
  clear hb hx0 a0 a1 al
  -- the program's answer
  go_wp2_with fail
  replace HB := hide (step_a (unhide HB) (.cells #[.slice q0 q1 q2, .slice q3 q4 q5] 47))
  have h := (unhide HI) _ (w4.alloc (.cells #[.slice q0 q1 q2, .slice q3 q4 q5] 47)) (unhide HB) (((unhide HX0).at).below ((Below.refl _ _).alloc (Nat.le_refl _) _)) (unhide HSM)
  refine h.mono ?_
  clear h
  rintro e w5 ⟨⟨gn, gr0, rfl, hg0⟩, hb⟩
  obtain ⟨r0, r1, r2, r3, r4, r5, rfl, rfl⟩ := hg0.at.slices
  replace HB := hide (step_b (unhide HB) hb)
  replace HB3 := hide (step_b (step_a (unhide HB3) (.cells #[.slice q0 q1 q2, .slice q3 q4 q5] 47)) hb)
  replace HbA := hide (((unhide HbA).alloc _).below hb)
  replace HbM := hide (((unhide HbM).alloc _).below hb)
  have HbX := hide ((AtC2.new w4 (.slice q0 q1 q2) (.slice q3 q4 q5) 47).below hb)
  have HX1 := hide (((unhide HX0).below ((Below.refl _ _).alloc (Nat.le_refl _) (.cells #[.slice q0 q1 q2, .slice q3 q4 q5] 47))).below hb)
  have HG0 := hide hg0
  have e2 : (w4.alloc (.cells #[.slice q0 q1 q2, .slice q3 q4 q5] 47)).heap.size = w4.heap.size + 1 := by simp
  have s45 := hb.size
  clear hb hg0 HX0
  have m0 := (unhide HbM).n0
  have m1 := (unhide HbM).n1
  have ml := (unhide HbM).lt
  go_wp2_with fail
  have h := eqReadData_c _ _ M (w5.alloc (.cells #[.slice r0 r1 r2, .slice r3 r4 r5] 47)) (((unhide HG0).at).below ((Below.refl _ _).alloc (Nat.le_refl _) _)) ((unhide HM0).below (step_a (unhide HB3) _))
  refine h.mono ?_
  clear h
  rintro e w6 ⟨rfl, hb⟩
  replace HB := hide (step_b (step_a (unhide HB) (.cells #[.slice r0 r1 r2, .slice r3 r4 r5] 47)) hb)
  replace HB3 := hide (step_b (step_a (unhide HB3) (.cells #[.slice r0 r1 r2, .slice r3 r4 r5] 47)) hb)
  replace HbA := hide (((unhide HbA).alloc _).below hb)
  replace HbM := hide (((unhide HbM).alloc _).below hb)
  replace HbX := hide (((unhide HbX).alloc _).below hb)
  have HbG := hide ((AtC2.new w5 (.slice r0 r1 r2) (.slice r3 r4 r5) 47).below hb)
  replace HX1 := hide (((unhide HX1).below ((Below.refl _ _).alloc (Nat.le_refl _) (.cells #[.slice r0 r1 r2, .slice r3 r4 r5] 47))).below hb)
  replace HG0 := hide (((unhide HG0).below ((Below.refl _ _).alloc (Nat.le_refl _) (.cells #[.slice r0 r1 r2, .slice r3 r4 r5] 47))).below hb)
  clear hb m0 m1 ml
  -- what was handed in is as it was
  have x0 := (unhide HbX).n0
  have x1 := (unhide HbX).n1
  have a0 := (unhide HbA).n0
  have a1 := (unhide HbA).n1
  go_wp2_with fail
  go_region_held3 (fun w' => w'.cell? ⟨w4.heap.size, 0, none⟩ = some (.slice q0 q1 q2) ∧ w'.cell? ⟨w4.heap.size, 1, none⟩ = some (.slice q3 q4 q5) ∧ w'.cell? ⟨w.heap.size, 0, none⟩ = some nv ∧ w'.cell? ⟨w.heap.size, 1, none⟩ = some rv) (((try dsimp only); (repeat' apply And.intro) <;> (first | with_reducible assumption | exact x0 | exact x1 | exact a0 | exact a1))) (first | (go_at_call 27; refine (toReadData_c _ d w6.drew ((unhide HD).below ((unhide HB).drew)) (unhide HSM)).mono ?_; rintro e w7 ⟨⟨u4, rfl, hu4⟩, hb7⟩; have HB7 : Hid (Below w6.heap.size w6 w7) := (Below.refl w6.heap.size w6).drew.trans hb7; have HU4 := hide hu4.at; have y0 := ((unhide HbX).below (unhide HB7)).n0; have y1 := ((unhide HbX).below (unhide HB7)).n1; have b0 := ((unhide HbA).below (unhide HB7)).n0; have b1 := ((unhide HbA).below (unhide HB7)).n1; clear hu4 hb7) | (go_at_call 29; refine (eqReadData_c _ _ d w7 (((unhide HX1).below (unhide HB7)).at) (unhide HU4)).mono ?_; rintro e w8 ⟨rfl, hb8⟩; have HB8 : Hid (Below w6.heap.size w6 w8) := step_b (unhide HB7) hb8; have z0 := ((unhide HbX).below (unhide HB8)).n0; have z1 := ((unhide HbX).below (unhide HB8)).n1; have c0 := ((unhide HbA).below (unhide HB8)).n0; have c1 := ((unhide HbA).below (unhide HB8)).n1; clear hb8))
  replace HB := hide (step_b (unhide HB) (unhide HB8))
  replace HB3 := hide (step_b (unhide HB3) (unhide HB8))
  replace HbA := hide ((unhide HbA).below (unhide HB8))
  replace HbM := hide ((unhide HbM).below (unhide HB8))
  replace HbX := hide ((unhide HbX).below (unhide HB8))
  replace HbG := hide ((unhide HbG).below (unhide HB8))
  replace HX1 := hide ((unhide HX1).below (unhide HB8))
  replace HG0 := hide ((unhide HG0).below (unhide HB8))
  clear x0 x1 a0 a1 y0 y1 b0 b1 c0 c1 HB7 HU4 HB8
  -- marks into what was handed in
  go_wp2_with fail
  have h := markReadData_c _ d 1 _ _ w8 (unhide HX1) (by omega) (by omega)
  refine h.mono ?_
  clear h
  rintro e w9 ⟨rfl, _, hk⟩
  rw [e1] at hk
  have s38 := (unhide HB3).size
  have hk3 : Below w3.heap.size w8 w9 := hk.below s38 (fun b hb => by have := hb.1; omega)
  replace HB := hide ((unhide HB).trans (hk3.mono s03))
  replace HB3 := hide ((unhide HB3).trans hk3)
  replace HbA := hide ((unhide HbA).kept hk (by unfold dataBlocks; omega))
  replace HbM := hide ((unhide HbM).kept hk (by unfold dataBlocks; omega))
  replace HbG := hide ((unhide HbG).kept hk (by unfold dataBlocks; omega))
  replace HG0 := hide (hk.data (unhide HG0) (fun b h1 _ h3 => by have := h3.2; omega))
  clear hk hk3 HbX HX1 z0 z1
  have g0 := (unhide HbG).n0
  have g1 := (unhide HbG).n1
  have m0 := (unhide HbM).n0
  have m1 := (unhide HbM).n1
  have hn : ¬ ((1 + cntD d : Nat) : Int) < 0 := by omega
  go_wp2_with fail
  have h := eqReadData_c _ _ M w9 (unhide HG0).at ((unhide HM0).below (unhide HB3))
  refine h.mono ?_
  clear h
  rintro e w10 ⟨rfl, hb⟩
  clear hn g0 g1 m0 m1
  replace HB := hide (step_b (unhide HB) hb)
  replace HB3 := hide (step_b (unhide HB3) hb)
  replace HbA := hide ((unhide HbA).below hb)
  replace HbM := hide ((unhide HbM).below hb)
  replace HbG := hide ((unhide HbG).below hb)
  replace HG0 := hide ((unhide HG0).below hb)
  clear hb
  -- marks into the answer
  have g0 := (unhide HbG).n0
  have g1 := (unhide HbG).n1
  go_wp2_with fail
  have h := markReadData_c _ M 1 _ _ w10 (unhide HG0) (by omega) (by omega)
  refine h.mono ?_
  clear h
  rintro e w11 ⟨rfl, hgm, hk⟩
  rw [e2] at hk
  have s310 := (unhide HB3).size
  have hk3 : Below w3.heap.size w10 w11 := hk.below s310 (fun b hb => by have := hb.1; omega)
  replace HB := hide ((unhide HB).trans (hk3.mono s03))
  replace HB3 := hide ((unhide HB3).trans hk3)
  replace HbA := hide ((unhide HbA).kept hk (by unfold dataBlocks; omega))
  replace HbM := hide ((unhide HbM).kept hk (by unfold dataBlocks; omega))
  replace HbG := hide ((unhide HbG).kept hk (by unfold dataBlocks; omega))
  clear HG0
  have HG0 := hide hgm
  clear hk hk3 hgm g0 g1
  have g0 := (unhide HbG).n0
  have g1 := (unhide HbG).n1
  go_wp2_with fail
  have h := heldReadData_c _ 1 M w11 (unhide HG0).at (by omega) (by omega)
  refine h.mono ?_
  clear h
  rintro e w12 ⟨rfl, hb⟩
  clear g0 g1
  replace HB := hide (step_b (unhide HB) hb)
  replace HB3 := hide (step_b (unhide HB3) hb)
  replace HbA := hide ((unhide HbA).below hb)
  replace HbM := hide ((unhide HbM).below hb)
  replace HbG := hide ((unhide HbG).below hb)
  replace HG0 := hide ((unhide HG0).below hb)
  clear hb
  have hn : ¬ ((1 + cntD M : Nat) : Int) < 0 := by omega
  have a0 := (unhide HbA).n0
  have a1 := (unhide HbA).n1
  -- once more
  go_wp2_with fail
  have h := toReadData_c _ d w12 ((unhide HD).below (unhide HB)) (unhide HSM)
  refine h.mono ?_
  clear h
  rintro e w13 ⟨⟨u5, rfl, hu5⟩, hb⟩
  clear a0 a1
  replace HB := hide (step_b (unhide HB) hb)
  replace HB3 := hide (step_b (unhide HB3) hb)
  replace HbA := hide ((unhide HbA).below hb)
  replace HbM := hide ((unhide HbM).below hb)
  replace HbG := hide ((unhide HbG).below hb)
  replace HG0 := hide ((unhide HG0).below hb)
  have HU5 := hide hu5.at
  clear hb hu5
  go_wp2_with fail
  have h := (unhide HI) u5 w13 (unhide HB) (unhide HU5) (unhide HSM)
  refine h.mono ?_
  clear h
  rintro e w14 ⟨⟨hn0, hr0', rfl, hh⟩, hb⟩
  obtain ⟨t0, t1, t2, t3, t4, t5, rfl, rfl⟩ := hh.at.slices
  replace HB := hide (step_b (unhide HB) hb)
  replace HB3 := hide (step_b (unhide HB3) hb)
  replace HbA := hide ((unhide HbA).below hb)
  replace HbM := hide ((unhide HbM).below hb)
  replace HbG := hide ((unhide HbG).below hb)
  replace HG0 := hide ((unhide HG0).below hb)
  have HH := hide hh.at
  clear hb hh HU5 HI
  have m0 := (unhide HbM).n0
  have m1 := (unhide HbM).n1
  have ml := (unhide HbM).lt
  go_wp2_with fail
  have h := eqReadData_c _ _ M (w14.alloc (.cells #[.slice t0 t1 t2, .slice t3 t4 t5] 47)) ((unhide HH).below ((Below.refl _ _).alloc (Nat.le_refl _) _)) ((unhide HM0).below (step_a (unhide HB3) _))
  refine h.mono ?_
  clear h
  rintro e w15 ⟨rfl, hb⟩
  replace HB := hide (step_b (step_a (unhide HB) (.cells #[.slice t0 t1 t2, .slice t3 t4 t5] 47)) hb)
  replace HbG := hide (((unhide HbG).alloc _).below hb)
  replace HG0 := hide (((unhide HG0).below ((Below.refl _ _).alloc (Nat.le_refl _) (.cells #[.slice t0 t1 t2, .slice t3 t4 t5] 47))).below hb)
  clear hb m0 m1 ml HH HM0 HB3 HbA HbM
  have g0 := (unhide HbG).n0
  have g1 := (unhide HbG).n1
  go_wp2_with fail
  have h := heldReadData_c _ 1 M w15 (unhide HG0).at (by omega) (by omega)
  refine h.mono ?_
  clear h
  rintro e w16 ⟨rfl, hb⟩
  replace HB := hide (step_b (unhide HB) hb)
  clear hb g0 g1
  go_wp2
  go_ret
  exact ⟨rfl, unhide HB⟩
end Go.Proofs.YtcnnicbaeicboaaDoor
/- ReadMin, as the specification has it: small parts. -/
namespace Go.Proofs.YtcnnicbaeicboaaDoor
open Go.RowKit Nt

def cntOk (s : Int) (m : Nat) : Bool := if s = 7 then m == 2 else if s = 8 then decide (m ≤ 40) else m == 0
def inR (k : Int) (n : Nat) : Bool := decide (0 ≤ k) && decide (k < n)
def kidsOk (nd : Nd) (n : Nat) : Bool := cntOk nd.1 nd.2.2.length && nd.2.2.all (inR · n)
def gAt (g : List Int) (k : Int) : Int := g.getD k.toNat 0
def alikeM (a b : Nd) (g : List Int) : Bool := decide (a.1 = b.1) && decide (a.2.1 = b.2.1) && decide (a.2.2.map (gAt g) = b.2.2.map (gAt g))

set_option maxRecDepth 100000 in
set_option maxHeartbeats 400000 in
theorem l1In_c (k : Int) (n : Nat) (w : World) :
    Calls Tryd.prog 71 #[.int .i64 k, .int .i64 0, .int .i64 ((n : Int) - 1)] w fun e w' => e = .returned (.bool (inR k n)) ∧ w' = w := by
  by_cases h0 : 0 ≤ k
  · have d0 : decide (0 ≤ k) = true := decide_eq_true h0
    have hr : Hid (inR k n = decide (k ≤ (n : Int) - 1)) := by
      show _ = _; unfold inR; rw [d0, Bool.true_and]; congr 1; rw [eq_iff_iff]; omega
    go_enter Tryd.func71, Tryd.ntmps71
    go_wp2
    go_ret
    exact ⟨by rw [unhide hr]; rfl, rfl⟩
  · have d0 : decide (0 ≤ k) = false := decide_eq_false h0
    have hr : Hid (inR k n = false) := by show _ = _; unfold inR; rw [d0, Bool.false_and]
    go_enter Tryd.func71, Tryd.ntmps71
    go_wp2
    go_ret
    exact ⟨by rw [unhide hr]; rfl, rfl⟩

theorem all_take_step {xs : List Int} {p : Int → Bool} {j : Nat} {x : Int} (h : xs[j]? = some x) : (xs.take (j + 1)).all p = ((xs.take j).all p && p x) := by
  rw [List.take_add_one, h]; simp
theorem all_false {xs : List Int} {p : Int → Bool} {j : Nat} {x : Int} (h : xs[j]? = some x) (hp : p x = false) : xs.all p = false := by
  rw [List.all_eq_false]; exact ⟨x, List.mem_of_getElem? h, by simp [hp]⟩

set_option maxRecDepth 100000 in
set_option maxHeartbeats 3200000 in
theorem l12KidsOk_c (v : Value) (nd : Nd) (n : Nat) (w : World) (h : NdAt w v nd) (hn : n ≤ 1048576) :
    Calls Tryd.prog 69 #[v, .int .i64 n] w fun e w' => e = .returned (.bool (kidsOk nd n)) ∧ Below w.heap.size w w' := by
  obtain ⟨s, text, kids⟩ := nd
  obtain ⟨kv, rfl, _, hk⟩ := h
  obtain ⟨a, cap, rfl, h1, h2⟩ := hk.form
  unfold maxLen at h2
  have hbb := (Below.refl w.heap.size w).alloc (Nat.le_refl _) (.cells #[.int .i64 s, .string (B text), .slice a kids.length cap] 93)
  have HK := hide (hk.below hbb)
  have HBB := hide hbb
  clear hk hbb
  simp only at *
  by_cases h7 : s = 7
  · subst h7
    by_cases hm : kids.length = 2
    · have HC : Hid (cntOk 7 kids.length = true) := by show _ = _; unfold cntOk; rw [if_pos rfl, hm]; rfl
      have HLEN := hide hm
      rw [hm] at h1 HK HBB
      rw [show (Value.slice a kids.length cap) = Value.slice a 2 cap from by rw [hm]]
      clear hm
      go_enter Tryd.func69, Tryd.ntmps69
      go_wp2
      -- the kids one by one
      go_loopw [5] (fun i wr => ∃ j : Nat, j ≤ 2 ∧ i = .int .i64 j ∧ Hid ((kids.take j).all (inR · n) = true) ∧ wr = w.alloc (.cells #[.int .i64 7, .string (B text), .slice a 2 cap] 93))
        (fun i _ => 2 - (intOf i).toNat)
      case atStart => exact ⟨0, by omega, rfl, hide (by simp), rfl⟩
      case round =>
        obtain ⟨j, hj, rfl, hall, rfl⟩ := hrel
        by_cases hlt : j < 2
        · obtain ⟨x, hx⟩ : ∃ x, kids[j]? = some x := ⟨_, List.getElem?_eq_getElem (by have := unhide HLEN; omega)⟩
          obtain ⟨b, off, rfl, hb, hc⟩ := (unhide HK).cell hx
          have hst := all_take_step (p := (inR · n)) hx
          rw [unhide hall, Bool.true_and] at hst
          have hfa := fun h => all_false (p := (inR · n)) hx h
          have HST := hide (And.intro hst hfa)
          clear hst hfa hx
          go_wp2_with fail
          refine (l1In_c x n _).mono ?_
          rintro e w1 ⟨rfl, rfl⟩
          cases hxr : inR x n with
          | false =>
            have HXR := hide hxr
            clear hxr
            go_wp2
            go_ret
            exact ⟨by unfold kidsOk; rw [(unhide HST).2 (unhide HXR), Bool.and_false]; rfl, unhide HBB⟩
          | true =>
            have HXR := hide hxr
            clear hxr
            go_wp2
            go_roundw
            case rel => exact ⟨j + 1, by omega, by go_num, hide (by rw [(unhide HST).1]; exact unhide HXR), by first | rfl | trivial⟩
            case measure => simp [intOf]; omega
        · go_wp2
          go_ret
          have := unhide hall
          rw [List.take_of_length_le (by have := unhide HLEN; omega)] at this
          exact ⟨by unfold kidsOk; rw [this]; simp only at *; rw [unhide HC]; rfl, unhide HBB⟩
    · have HC : Hid (cntOk 7 kids.length = false) := by show _ = _; unfold cntOk; rw [if_pos rfl]; simpa using hm
      have hmI : ¬ (kids.length : Int) = 2 := by omega
      go_enter Tryd.func69, Tryd.ntmps69
      go_wp2
      go_ret
      exact ⟨by unfold kidsOk; rw [unhide HC]; rfl, unhide HBB⟩
  · by_cases h8 : s = 8
    · subst h8
      by_cases hm : kids.length ≤ 40
      · have HC : Hid (cntOk 8 kids.length = true) := by show _ = _; unfold cntOk; rw [if_neg (by decide), if_pos rfl]; simpa using hm
        have hmI : ¬ (40 < (kids.length : Int)) := by omega
        go_enter Tryd.func69, Tryd.ntmps69
        go_wp2
        have HLEN : Hid (kids.length = kids.length) := rfl
        -- the kids one by one
        go_loopw [5] (fun i wr => ∃ j : Nat, j ≤ kids.length ∧ i = .int .i64 j ∧ Hid ((kids.take j).all (inR · n) = true) ∧ wr = w.alloc (.cells #[.int .i64 8, .string (B text), .slice a kids.length cap] 93))
          (fun i _ => kids.length - (intOf i).toNat)
        case atStart => exact ⟨0, by omega, rfl, hide (by simp), rfl⟩
        case round =>
          obtain ⟨j, hj, rfl, hall, rfl⟩ := hrel
          by_cases hlt : j < kids.length
          · obtain ⟨x, hx⟩ : ∃ x, kids[j]? = some x := ⟨_, List.getElem?_eq_getElem (by have := unhide HLEN; omega)⟩
            obtain ⟨b, off, rfl, hb, hc⟩ := (unhide HK).cell hx
            have hst := all_take_step (p := (inR · n)) hx
            rw [unhide hall, Bool.true_and] at hst
            have hfa := fun h => all_false (p := (inR · n)) hx h
            have HST := hide (And.intro hst hfa)
            clear hst hfa hx
            go_wp2_with fail
            refine (l1In_c x n _).mono ?_
            rintro e w1 ⟨rfl, rfl⟩
            cases hxr : inR x n with
            | false =>
              have HXR := hide hxr
              clear hxr
              go_wp2
              go_ret
              exact ⟨by unfold kidsOk; rw [(unhide HST).2 (unhide HXR), Bool.and_false]; rfl, unhide HBB⟩
            | true =>
              have HXR := hide hxr
              clear hxr
              go_wp2
              go_roundw
              case rel => exact ⟨j + 1, by omega, by go_num, hide (by rw [(unhide HST).1]; exact unhide HXR), by first | rfl | trivial⟩
              case measure => simp [intOf]; omega
          · go_wp2
            go_ret
            have := unhide hall
            rw [List.take_of_length_le (by have := unhide HLEN; omega)] at this
            exact ⟨by unfold kidsOk; rw [this]; simp only at *; rw [unhide HC]; rfl, unhide HBB⟩
      · have HC : Hid (cntOk 8 kids.length = false) := by show _ = _; unfold cntOk; rw [if_neg (by decide), if_pos rfl]; simpa using hm
        have hmI : 40 < (kids.length : Int) := by omega
        go_enter Tryd.func69, Tryd.ntmps69
        go_wp2
        go_ret
        exact ⟨by unfold kidsOk; rw [unhide HC]; rfl, unhide HBB⟩
    · by_cases hm : kids.length = 0
      · have hk0 : kids = [] := List.length_eq_zero_iff.1 hm
        subst hk0
        have HC : Hid (kidsOk (s, text, []) n = true) := by show _ = _; unfold kidsOk cntOk; simp [h7, h8]
        go_enter Tryd.func69, Tryd.ntmps69
        go_wp2
        go_loopw [5] (fun i wr => i = .int .i64 0 ∧ wr = w.alloc (.cells #[.int .i64 s, .string (B text), .slice a 0 cap] 93)) (fun _ _ => 0)
        case atStart => exact ⟨rfl, rfl⟩
        case round =>
          obtain ⟨rfl, rfl⟩ := hrel
          go_wp2
          go_ret
          exact ⟨by rw [unhide HC]; rfl, unhide HBB⟩
      · have HC : Hid (cntOk s kids.length = false) := by show _ = _; unfold cntOk; rw [if_neg h7, if_neg h8]; simpa using hm
        have hmI : 0 < (kids.length : Int) := by omega
        go_enter Tryd.func69, Tryd.ntmps69
        go_wp2
        go_ret
        exact ⟨by unfold kidsOk; rw [unhide HC]; rfl, unhide HBB⟩

theorem map_get {g : List Int} {xs ys : List Int} {j : Nat} {x y : Int} (hx : xs[j]? = some x) (hy : ys[j]? = some y) (h : gAt g x ≠ gAt g y) : xs.map (gAt g) ≠ ys.map (gAt g) := by
  intro e
  have := congrArg (fun l => l[j]?) e
  simp [hx, hy] at this
  exact h this
theorem map_all {g : List Int} {xs ys : List Int} (hl : xs.length = ys.length) (h : ∀ (j : Nat) x y, xs[j]? = some x → ys[j]? = some y → gAt g x = gAt g y) : xs.map (gAt g) = ys.map (gAt g) := by
  apply List.ext_getElem?
  intro j
  rw [List.getElem?_map, List.getElem?_map]
  rcases Nat.lt_or_ge j xs.length with hj | hj
  · obtain ⟨x, hx⟩ : ∃ x, xs[j]? = some x := ⟨_, List.getElem?_eq_getElem hj⟩
    obtain ⟨y, hy⟩ : ∃ y, ys[j]? = some y := ⟨_, List.getElem?_eq_getElem (by omega)⟩
    rw [hx, hy]; simp [h j x y hx hy]
  · rw [List.getElem?_eq_none hj, List.getElem?_eq_none (by omega)]
theorem gAt_get {g : List Int} {x : Int} (h0 : 0 ≤ x) (h1 : x < g.length) : g[x.toNat]? = some (gAt g x) := by
  unfold gAt
  rw [List.getD_eq_getElem?_getD, List.getElem?_eq_getElem (by omega)]; rfl

set_option maxRecDepth 100000 in
set_option maxHeartbeats 3200000 in
theorem l14Alike_c (va vb vg : Value) (a b : Nd) (g : List Int) (w : World) (ha : NdAt w va a) (hb : NdAt w vb b) (hg : IntsAt w vg g) (ra : ∀ x ∈ a.2.2, 0 ≤ x ∧ x < g.length) (rb : ∀ x ∈ b.2.2, 0 ≤ x ∧ x < g.length) :
    Calls Tryd.prog 111 #[va, vb, vg] w fun e w' => e = .returned (.bool (alikeM a b g)) ∧ Below w.heap.size w w' := by
  obtain ⟨s1, t1, k1⟩ := a
  obtain ⟨s2, t2, k2⟩ := b
  obtain ⟨kv1, rfl, _, hk1⟩ := ha
  obtain ⟨kv2, rfl, _, hk2⟩ := hb
  obtain ⟨a1, c1, rfl, h11, h12⟩ := hk1.form
  obtain ⟨a2, c2, rfl, h21, h22⟩ := hk2.form
  obtain ⟨ag, cg, rfl, hg1, hg2⟩ := hg.form
  unfold maxLen at h12 h22 hg2
  have hbb := ((Below.refl w.heap.size w).alloc (Nat.le_refl _) (.cells #[.int .i64 s1, .string (B t1), .slice a1 k1.length c1] 93)).alloc (by simp) (.cells #[.int .i64 s2, .string (B t2), .slice a2 k2.length c2] 93)
  have HK1 := hide (hk1.below hbb)
  have HK2 := hide (hk2.below hbb)
  have HG := hide (hg.below hbb)
  have HBB := hide hbb
  have HP1 := hide ((AtC3.new w (.int .i64 s1) (.string (B t1)) (.slice a1 k1.length c1) 93).below ((Below.refl _ _).alloc (Nat.le_refl _) (.cells #[.int .i64 s2, .string (B t2), .slice a2 k2.length c2] 93)))
  have HP2 := hide (AtC3.new (w.alloc (.cells #[.int .i64 s1, .string (B t1), .slice a1 k1.length c1] 93)) (.int .i64 s2) (.string (B t2)) (.slice a2 k2.length c2) 93)
  rw [World.size_alloc] at HP2
  clear hk1 hk2 hg hbb
  simp only at *
  have htb : ((B t1).toList == (B t2).toList) = decide (t1 = t2) := by rw [B_tl, B_tl]; by_cases h : t1 = t2 <;> simp [h]
  by_cases hs : s1 = s2
  · subst hs
    by_cases ht : t1 = t2
    · subst ht
      by_cases hl : k1.length = k2.length
      · obtain ⟨m, hm⟩ : ∃ m, k2.length = m := ⟨_, rfl⟩
        have hm1 : k1.length = m := by omega
        have HL := hide (And.intro hm1 hm)
        have HMA := hide (fun h => map_all (g := g) hl h)
        have HMG := hide (fun (j : Nat) x y hx hy h => map_get (g := g) (xs := k1) (ys := k2) (j := j) (x := x) (y := y) hx hy h)
        rw [hm1] at h11 HK1 HK2 HG HBB HP1 HP2 ⊢
        rw [hm] at h21 HK1 HK2 HG HBB HP1 HP2 ⊢
        clear hm hm1 hl
        go_enter Tryd.func111, Tryd.ntmps111
        go_wp2
        go_loopw [7] (fun i wr => ∃ j : Nat, j ≤ m ∧ i = .int .i64 j ∧ Hid (∀ (j' : Nat) x y, j' < j → k1[j']? = some x → k2[j']? = some y → gAt g x = gAt g y) ∧ Below ((w.alloc (.cells #[.int .i64 s1, .string (B t1), .slice a1 m c1] 93)).alloc (.cells #[.int .i64 s1, .string (B t1), .slice a2 m c2] 93)).heap.size ((w.alloc (.cells #[.int .i64 s1, .string (B t1), .slice a1 m c1] 93)).alloc (.cells #[.int .i64 s1, .string (B t1), .slice a2 m c2] 93)) wr)
          (fun i _ => m - (intOf i).toNat)
        case atStart => exact ⟨0, by omega, rfl, hide (fun _ _ _ h => absurd h (by omega)), Below.refl _ _⟩
        case round =>
          obtain ⟨j, hj, rfl, hall, hbl⟩ := hrel
          have p10 := ((unhide HP1).below hbl).n2
          have p20 := ((unhide HP2).below hbl).n2
          by_cases hlt : j < m
          · have hll := unhide HL
            obtain ⟨x, hx⟩ : ∃ x, k1[j]? = some x := ⟨_, List.getElem?_eq_getElem (by omega)⟩
            obtain ⟨y, hy⟩ : ∃ y, k2[j]? = some y := ⟨_, List.getElem?_eq_getElem (by omega)⟩
            have rx := ra x (List.mem_of_getElem? hx)
            have ry := rb y (List.mem_of_getElem? hy)
            obtain ⟨b1, o1, rfl, hb1, hc1⟩ := ((unhide HK1).below hbl).cell hx
            obtain ⟨b2, o2, rfl, hb2, hc2⟩ := ((unhide HK2).below hbl).cell hy
            obtain ⟨bg, og, rfl, hbg, hgx⟩ := ((unhide HG).below hbl).cell (gAt_get rx.1 rx.2)
            obtain ⟨bg', og', e', _, hgy⟩ := ((unhide HG).below hbl).cell (gAt_get ry.1 ry.2)
            injection e' with e'
            injection e' with e1 e2
            subst e1 e2
            have HXY := hide (And.intro hx hy)
            have rx1 := rx.1
            have rx2 := rx.2
            have ry1 := ry.1
            have ry2 := ry.2
            have HBL := hide hbl
            clear hx hy hll hbl rx ry
            by_cases heq : gAt g x = gAt g y
            · have HALL := hide (fun (j' : Nat) x' y' (h : j' < j + 1) (h1 : k1[j']? = some x') (h2 : k2[j']? = some y') => by
                rcases Nat.lt_succ_iff_lt_or_eq.1 h with h3 | h3
                · exact unhide hall j' x' y' h3 h1 h2
                · subst h3
                  rw [(unhide HXY).1] at h1
                  rw [(unhide HXY).2] at h2
                  injection h1 with h1
                  injection h2 with h2
                  subst h1 h2
                  exact heq : ∀ (j' : Nat) x y, j' < j + 1 → k1[j']? = some x → k2[j']? = some y → gAt g x = gAt g y)
              clear hall
              go_wp2
              go_quiet (fail)
              go_wp2
              go_roundw
              case rel => exact ⟨j + 1, by omega, by go_num, HALL, below_drewN (unhide HBL) _⟩
              case measure => simp [intOf]; omega
            · have HC : Hid (alikeM (s1, t1, k1) (s1, t1, k2) g = false) := by
                show _ = _; unfold alikeM
                have := unhide HMG j x y (unhide HXY).1 (unhide HXY).2 heq
                simp [this]
              clear hall HMG HMA
              go_wp2
              go_quiet (fail)
              go_wp2
              go_ret
              exact ⟨by rw [unhide HC]; rfl, below_drewN ((unhide HBB).trans ((unhide HBL).mono (unhide HBB).size)) _⟩
          · have HC : Hid (alikeM (s1, t1, k1) (s1, t1, k2) g = true) := by
              show _ = _; unfold alikeM
              have := unhide HMA (fun j' x y h1 h2 => unhide hall j' x y (by have := (List.getElem?_eq_some_iff.1 h1).1; have := (unhide HL).1; omega) h1 h2)
              simp [this]
            clear hall HMG HMA
            go_wp2
            go_ret
            exact ⟨by rw [unhide HC]; rfl, (unhide HBB).trans (hbl.mono (unhide HBB).size)⟩
      · have HC : Hid (alikeM (s1, t1, k1) (s1, t1, k2) g = false) := by
          show _ = _; unfold alikeM
          have : ¬ k1.map (gAt g) = k2.map (gAt g) := fun e => hl (by simpa using congrArg List.length e)
          simp [this]
        have hlI : ¬ (k1.length : Int) = k2.length := by omega
        go_enter Tryd.func111, Tryd.ntmps111
        go_wp2
        go_ret
        exact ⟨by rw [unhide HC]; rfl, unhide HBB⟩
    · have HC : Hid (alikeM (s1, t1, k1) (s1, t2, k2) g = false) := by show _ = _; unfold alikeM; simp [ht]
      rw [decide_eq_false ht] at htb
      go_enter Tryd.func111, Tryd.ntmps111
      go_wp2
      go_ret
      exact ⟨by rw [unhide HC]; rfl, unhide HBB⟩
  · have HC : Hid (alikeM (s1, t1, k1) (s2, t2, k2) g = false) := by show _ = _; unfold alikeM; simp [hs]
    go_enter Tryd.func111, Tryd.ntmps111
    go_wp2
    go_ret
    exact ⟨by rw [unhide HC]; rfl, unhide HBB⟩
end Go.Proofs.YtcnnicbaeicboaaDoor
/- Groups of nodes that are the same, plain: as the specification splits them. -/
namespace Go.Proofs.YtcnnicbaeicboaaDoor
open Go.RowKit Nt

def seek (P : Nat → Bool) (i : Nat) : Nat → Nat
  | 0 => i
  | m + 1 => if P (i - (m + 1)) then i - (m + 1) else seek P i m
theorem seek_le (P : Nat → Bool) (i m : Nat) : seek P i m ≤ i := by
  induction m with
  | zero => exact Nat.le_refl _
  | succ m ih => unfold seek; split <;> omega
def ndAt (ns : List Nd) (i : Nat) : Nd := ns.getD i (0, [], [])
theorem ndAt_get {ns : List Nd} {i : Nat} {nd : Nd} (h : ns[i]? = some nd) : ndAt ns i = nd := by
  unfold ndAt; rw [List.getD_eq_getElem?_getD, h]; rfl
def pG (ns : List Nd) (g : List Int) (i k : Nat) : Bool := decide (gAt g i = gAt g k) && alikeM (ndAt ns i) (ndAt ns k) g
def stepG (ns : List Nd) (g : List Int) : List Int := (List.range ns.length).map fun i => ((seek (pG ns g i) i i : Nat) : Int)
def itG (ns : List Nd) : Nat → List Int
  | 0 => List.replicate ns.length 0
  | k + 1 => stepG ns (itG ns k)
def grpM (ns : List Nd) : List Int := itG ns (ns.length + 1)
theorem stepG_len (ns : List Nd) (g : List Int) : (stepG ns g).length = ns.length := by simp [stepG]
theorem stepG_get {ns : List Nd} {g : List Int} {i : Nat} (h : i < ns.length) : (stepG ns g)[i]? = some ((seek (pG ns g i) i i : Nat) : Int) := by
  simp [stepG, h]
theorem itG_len (ns : List Nd) (k : Nat) : (itG ns k).length = ns.length := by
  cases k with
  | zero => simp [itG]
  | succ k => exact stepG_len _ _
theorem itG_stable {ns : List Nd} {n : Nat} (h : itG ns (n + 1) = itG ns n) : ∀ m, itG ns (n + m) = itG ns n := by
  intro m
  induction m with
  | zero => rfl
  | succ m ih =>
    show stepG ns (itG ns (n + m)) = _
    rw [ih]; exact h
theorem grp_of_stable {ns : List Nd} {n : Nat} (hn : n ≤ ns.length) (h : itG ns (n + 1) = itG ns n) : itG ns (n + 1) = grpM ns := by
  unfold grpM
  rw [h, ← itG_stable h (ns.length + 1 - n)]
  congr 1; omega
theorem upTo_done {S : List Int} {i : Nat} {x : Int} (h : S[i]? = some x) : (upTo S i).set i x = upTo S (i + 1) := upTo_set h
theorem setset' (l : List Int) (j : Nat) (a b : Int) : (l.set j a).set j b = l.set j b := setset l j a b
/-- do two lists agree up to a place -/
def agree (a b : List Int) (j : Nat) : Bool := decide (a.take j = b.take j)
theorem agree_zero (a b : List Int) : agree a b 0 = true := by simp [agree]
theorem agree_step {a b : List Int} {j : Nat} {x y : Int} (hx : a[j]? = some x) (hy : b[j]? = some y) : agree a b (j + 1) = (agree a b j && decide (x = y)) := by
  unfold agree
  rw [List.take_add_one, List.take_add_one, hx, hy]
  have hl : (a.take j).length = (b.take j).length := by
    have h1 := (List.getElem?_eq_some_iff.1 hx).1
    have h2 := (List.getElem?_eq_some_iff.1 hy).1
    rw [List.length_take, List.length_take]; omega
  rw [Bool.eq_iff_iff]
  simp only [Bool.and_eq_true, decide_eq_true_eq]
  constructor
  · intro h
    have := List.append_inj h hl
    simpa using this
  · rintro ⟨h1, h2⟩
    rw [h1, h2]
theorem agree_all {a b : List Int} {n : Nat} (ha : a.length = n) (hb : b.length = n) : agree a b n = decide (a = b) := by
  unfold agree
  rw [List.take_of_length_le (by omega), List.take_of_length_le (by omega)]
end Go.Proofs.YtcnnicbaeicboaaDoor
