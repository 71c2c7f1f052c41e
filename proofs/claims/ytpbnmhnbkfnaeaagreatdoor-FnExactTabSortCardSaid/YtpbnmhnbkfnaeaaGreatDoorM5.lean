/- A part of the proof, put together out of smaller texts: each piece says what it is for. -/
import Derived.Test.YtpbnmhnbkfnaeaaGreatDoorM4
import Derived.Deep.RegionWith
namespace Go.Proofs.YtpbnmhnbkfnaeaaGreatDoor
open Go.RowKit Nt

theorem l1Trim_t (l : List UInt8) (n : Nat) (w : World) (hs : l.length ≤ 1000000000) (h : trim l = txl 10 n) :
    Calls Tryz.prog 125 #[.string (B l)] w fun e w' => e = .returned (.string (dec n)) ∧ w' = w := by
  have := l1Trim_c l w hs
  rw [h] at this
  exact this

theorem trim_push (R c : Nat) (hc : c < 10) : trim (txl 10 R ++ [sg c]) = txl 10 (10 * R + c) := by
  by_cases h : R = 0
  · subst h
    rw [txl_zero, Nat.mul_zero, Nat.zero_add, txl_one 10 (by omega) c hc]
    simp [trim]
  · have := txl_step 10 (by omega) (10 * R + c) (by omega)
    rw [show (10 * R + c) / 10 = R from by omega, show (10 * R + c) % 10 = c from by omega] at this
    rw [← this, trim_txl]

/-- the digits that are read so far -/
def pref (a i : Nat) : Nat := a / 10 ^ ((dec a).size - i)

theorem pref_zero (a : Nat) : pref a 0 = 0 := Nat.div_eq_of_lt (dec_lt a)
theorem pref_all (a : Nat) : pref a (dec a).size = a := by simp [pref]
theorem pref_succ (a i : Nat) (h : i < (dec a).size) : pref a (i + 1) = 10 * pref a i + a / 10 ^ ((dec a).size - 1 - i) % 10 := by
  unfold pref
  rw [show (dec a).size - i = ((dec a).size - 1 - i) + 1 from by omega, show (dec a).size - (i + 1) = (dec a).size - 1 - i from by omega, Nat.pow_succ, ← Nat.div_div_eq_div_mul]
  omega

theorem dec_cut (a i : Nat) (h : i < (dec a).size) : (dec a).extract i (i + 1) = B [sg (a / 10 ^ ((dec a).size - 1 - i) % 10)] := by
  have h1 : i < (txl 10 a).length := by rw [← dec_len]; exact h
  have e := dec_at a ((txl 10 a).length - 1 - i) (by omega)
  rw [List.getElem_reverse] at e
  have e2 : (txl 10 a).length - 1 - ((txl 10 a).length - 1 - i) = i := by omega
  simp only [e2] at e
  rw [dec_len, ← e]
  unfold dec txt
  rw [B_extract, List.take_succ_eq_append_getElem h1, List.drop_append_of_le_length (by simp; omega)]
  simp

theorem div_push {A b q R c m : Nat} (hq : A / b = q) (hR : A % b = R) (hm : (10 * R + c) / b = m) (hb : 0 < b) : (10 * A + c) / b = m + 10 * q ∧ (10 * A + c) % b = (10 * R + c) % b := by
  have hA := Nat.div_add_mod A b
  rw [hq, hR] at hA
  have e : 10 * A + c = 10 * R + c + b * (10 * q) := by
    rw [← hA, Nat.mul_add, Nat.mul_left_comm]; omega
  rw [e, Nat.add_mul_div_left _ _ hb, Nat.add_mul_mod_self_left, hm]
  exact ⟨rfl, rfl⟩

theorem div_stop {ρ m b X : Nat} (h : ρ + m * b = X) (hlt : ρ < b) : X / b = m ∧ X % b = ρ := by
  have hb : 0 < b := by omega
  rw [← h, Nat.mul_comm m b, Nat.add_mul_div_left _ _ hb, Nat.add_mul_mod_self_left, Nat.div_eq_of_lt hlt, Nat.mod_eq_of_lt hlt]
  exact ⟨by omega, rfl⟩

theorem mul_lt_ten {m b X ρ : Nat} (h : ρ + m * b = X) (hX : X < 10 * b) (hge : b ≤ ρ) : m + 1 ≤ 9 := by
  have h1 : (m + 1) * b < 10 * b := by rw [Nat.add_mul]; omega
  have := Nat.lt_of_mul_lt_mul_right h1
  omega

theorem dec_size_le {m n : Nat} (h : m ≤ n) : (dec m).size ≤ (dec n).size := by
  have := txl_len_le (b := 10) (by omega) (dec_size_pos n) (Nat.lt_of_le_of_lt h (dec_lt n))
  rw [dec_len m]; exact this

theorem dec_size_ten {ρ b : Nat} (h : ρ < 10 * b) : (dec ρ).size ≤ (dec b).size + 1 := by
  rw [dec_len ρ]
  apply txl_len_le (by omega) (by omega)
  have := dec_lt b
  rw [Nat.pow_succ]; omega

theorem cmp_ge {a b : Nat} (h : b ≤ a) : 0 ≤ cmpN a b := by unfold cmpN; rw [if_neg (by omega)]; split <;> omega
theorem cmp_lt {a b : Nat} (h : a < b) : cmpN a b < 0 := by unfold cmpN; rw [if_pos h]; omega

set_option maxRecDepth 100000 in
set_option maxHeartbeats 4000000 in
theorem l1Div_c (a b : Nat) (w : World) (hb0 : 0 < b) (hsa : (dec a).size ≤ 50000) (hsb : (dec b).size ≤ 50000) :
    Calls Tryz.prog 123 #[.string (dec a), .string (dec b)] w fun e w' => e = .returned (.tuple #[.string (dec (a / b)), .string (dec (a % b))]) ∧ Below w.heap.size w w' := by
  obtain ⟨i0, hi, hz0, hz1, hz2⟩ := info_parts Tryz.infoByte
  go_enter Tryz.func123, Tryz.ntmps123
  go_wp2
  go_loopw [6, 7, 8, 9] (fun q r i _ wr => ∃ (i' R : Nat) (Q : List Nat), i' ≤ (dec a).size ∧ i = .int .i64 i' ∧ r = .string (dec R) ∧ R < b ∧ Q.length = i' ∧ wr.ownsRow w.heap.size 5 1 q i' ((Q.map sg).map u8v) ∧ Below w.heap.size w wr ∧
      Hid (∀ d ∈ Q, d < 10) ∧ Hid (pref a i' / b = ofd 10 Q.reverse) ∧ Hid (pref a i' % b = R))
    (fun _ _ i _ _ => (dec a).size - (intOf i).toNat)
  case atStart =>
    refine ⟨0, 0, [], Nat.zero_le _, rfl, rfl, hb0, rfl, World.ownsRow_made w #[] 0 (Nat.le_refl _) (by decide) (by simp), (Below.refl _ _).alloc (Nat.le_refl _) _, hide (by simp), ?_, ?_⟩
    · show _ = _; rw [pref_zero]; simp [ofd]
    · show _ = _; rw [pref_zero]; simp
  case round =>
    obtain ⟨i', R, Q, hi', rfl, rfl, hR, hQl, hown, hb, hdg, hqv, hrv⟩ := hrel
    by_cases hlt : i' < (dec a).size
    · have hc : a / 10 ^ ((dec a).size - 1 - i') % 10 < 10 := Nat.mod_lt _ (by omega)
      have hcut := dec_cut a i' hlt
      have hps := pref_succ a i' hlt
      generalize a / 10 ^ ((dec a).size - 1 - i') % 10 = c at *
      have Hps := hide hps
      clear hps
      have hRs : (dec R).size ≤ (dec b).size := dec_size_le (by omega)
      have hcs : (B [sg c]).size ≤ 1 := by rw [B_size]; simp
      have hcat : dec R ++ B [sg c] = B (txl 10 R ++ [sg c]) := by unfold dec txt; rw [B_append]
      have hlen : (txl 10 R ++ [sg c]).length ≤ 1000000000 := by rw [List.length_append, ← dec_len]; simp; omega
      have hns : ¬ 9223372036854775807 < (dec R).size + (B [sg c]).size := by omega
      have Htp := hide (trim_push R c hc)
      go_wp2_with fail
      refine (l1Trim_t _ (10 * R + c) _ hlen (unhide Htp)).mono ?_
      rintro e w1 ⟨rfl, rfl⟩
      go_wp2_with fail
      have hX : 10 * R + c < 10 * b := by omega
      generalize hXd : 10 * R + c = X at *
      have HXd := hide hXd
      clear hXd hcut hcat hns Htp hlen
      go_loopw [7, 9] (fun r n wr => ∃ (ρ m : Nat), r = .string (dec ρ) ∧ n = .int .u8 (48 + (m : Int)) ∧ m ≤ 9 ∧ ρ < 10 * b ∧ wr.ownsRow w.heap.size 5 1 u6 i' ((Q.map sg).map u8v) ∧ Below w.heap.size w wr ∧ Hid (ρ + m * b = X))
        (fun _ n _ => 60 - (intOf n).toNat)
      case atStart => exact ⟨X, 0, rfl, rfl, by omega, hX, hown, hb, hide (by simp)⟩
      case round =>
        clear hown hb
        obtain ⟨ρ, m, rfl, rfl, hm9, hρ, hown, hb, hinv⟩ := hrel
        have hρs := dec_size_ten hρ
        by_cases hge : b ≤ ρ
        · have hcg := cmp_ge hge
          have hm1 := mul_lt_ten (unhide hinv) hX hge
          go_wp2_with fail
          refine (l1Cmp_c ρ b _ (by omega) (by omega)).mono ?_
          rintro e w1 ⟨rfl, rfl⟩
          go_wp2_with fail
          refine (l1Sub_c ρ b _ hge (by omega)).mono ?_
          rintro e w2 ⟨rfl, hb2⟩
          go_wp2_with fail
          go_roundw
          case rel =>
            exact ⟨ρ - b, m + 1, rfl, by go_num, by omega, by omega, own_below hown hb2, hb.trans (hb2.mono hb.size), hide (by have := unhide hinv; rw [Nat.add_mul]; omega)⟩
          case measure => simp [intOf]; omega
        · have hρb : ρ < b := by omega
          have hcl := cmp_lt hρb
          go_wp2_with fail
          refine (l1Cmp_c ρ b _ (by omega) (by omega)).mono ?_
          rintro e w1 ⟨rfl, rfl⟩
          have hw := hb.size
          go_wp2_with (at_builtin; refine wpList_append_own _ rfl (.tmp 34) (.tmp 36) 22 rfl w.heap.size 5 i0 (.int .u8 0) 1 1 Tryz.underlying22 hi hz0 hz1 hz2 rfl (by decide) _ _ _ rfl (hown.alloc _) ⟨w1.heap.size, 0, none⟩ 1 1 [.int .u8 (48 + (m : Int))] rfl rfl (cell_one_new _ _ _) (by intro u hu; simp at hu; subst hu; rfl) (by unfold maxLen; omega) (by omega) (by simp; omega) ?_; intro v2 w2 hown2 hg2 _)
          have hbX := below_grown (hb.alloc hw _) (hown.alloc _) hg2 (by simp <;> omega)
          have hds := div_stop (unhide hinv) hρb
          have hpush := div_push (c := c) (m := m) (unhide hqv) (unhide hrv) (by rw [unhide HXd]; exact hds.1) hb0
          go_roundw
          case rel =>
            refine ⟨i' + 1, ρ, Q ++ [m], by omega, by go_num, rfl, hρb, by simp [hQl], ?_, hbX, dig_snoc hdg (by omega), ?_, ?_⟩
            · rw [List.map_append, List.map_append]
              simp only [List.map_cons, List.map_nil, u8v_sg (show m < 10 by omega)]
              exact hown2
            · show _ = _
              rw [unhide Hps, hpush.1, List.reverse_append]; simp [ofd]
            · show _ = _
              rw [unhide Hps, hpush.2, unhide HXd]; exact hds.2
          case measure => simp [intOf]; omega
    · have hil : i' = (dec a).size := by omega
      subst hil
      have hQ0 : Q ≠ [] := fun h => by have := dec_size_pos a; rw [h] at hQl; simp at hQl; omega
      have hconv := run_conv_bytes (dst := 9) Tryz.underlying22 Tryz.underlying5 Tryz.underlying9 hown
      have htr : trim (Q.map sg) = txl 10 (a / b) := by
        have h1 := trim_rev Q.reverse (fun d hd => unhide hdg d (by simpa using hd)) (by simpa using hQ0)
        rw [List.map_reverse, List.reverse_reverse] at h1
        rw [h1, ← unhide hqv, pref_all]
      have Htr := hide htr
      have hrv2 := unhide hrv
      rw [pref_all] at hrv2
      have Hrv2 := hide hrv2
      clear hrv2 htr
      go_wp2_with fail
      refine (l1Trim_t _ (a / b) _ (by simp; omega) (unhide Htr)).mono ?_
      rintro e w1 ⟨rfl, rfl⟩
      go_wp2
      go_ret2
      exact ⟨by rw [unhide Hrv2]; rfl, hb⟩

theorem valDec_txl (n : Nat) : valDec (txl 10 n) = n := by
  have := isDec_val (isDec_txl n)
  exact (txl_inj (by omega) (by omega) this).symm

set_option maxRecDepth 100000 in
set_option maxHeartbeats 4000000 in
theorem l1Gcd_c (a b : Nat) (w : World) (hsa : (dec a).size ≤ 50000) (hsb : (dec b).size ≤ 50000) :
    Calls Tryz.prog 122 #[.string (dec a), .string (dec b)] w fun e w' => e = .returned (.string (dec (Nat.gcd a b))) ∧ Below w.heap.size w w' := by
  go_enter Tryz.func122, Tryz.ntmps122
  go_wp2
  go_loopw [0, 1] (fun x y wr => ∃ (a' b' : Nat), x = .string (dec a') ∧ y = .string (dec b') ∧ (dec a').size ≤ 50000 ∧ (dec b').size ≤ 50000 ∧ Below w.heap.size w wr ∧ Hid (Nat.gcd a' b' = Nat.gcd a b))
    (fun _ y _ => valDec (match y with | .string s => s.data.toList | _ => []))
  case atStart => exact ⟨a, b, rfl, rfl, hsa, hsb, Below.refl _ _, hide rfl⟩
  case round =>
    obtain ⟨a', b', rfl, rfl, ha', hb', hb, hg⟩ := hrel
    by_cases hz : b' = 0
    · subst hz
      have h0 : ((dec 0).toList == [48]) = true := by unfold dec txt; rw [B_tl, txl_zero]; rfl
      go_wp2
      go_ret
      have := unhide hg
      rw [Nat.gcd_zero_right] at this
      exact ⟨ret_str (by rw [this]), hb⟩
    · have h0 : ((dec b').toList == [48]) = false := by
        have := dec_beq b' 0
        rw [decide_eq_false hz] at this
        rw [show (dec 0).toList = [48] from by unfold dec txt; rw [B_tl, txl_zero]] at this
        exact this
      go_wp2_with fail
      refine (l1Div_c a' b' _ (by omega) ha' hb').mono ?_
      rintro e w1 ⟨rfl, hb1⟩
      go_wp2_with fail
      go_roundw
      case rel =>
        refine ⟨b', a' % b', rfl, rfl, hb', ?_, hb.trans (hb1.mono hb.size), hide ?_⟩
        · have := dec_size_le (Nat.le_of_lt (Nat.mod_lt a' (show 0 < b' by omega))); omega
        · rw [Nat.gcd_comm b', ← Nat.gcd_rec b' a', Nat.gcd_comm, unhide hg]
      case measure =>
        show valDec (txl 10 (a' % b')) < valDec (txl 10 b')
        rw [valDec_txl, valDec_txl]
        exact Nat.mod_lt _ (by omega)
end Go.Proofs.YtpbnmhnbkfnaeaaGreatDoor
namespace Go.Proofs.YtpbnmhnbkfnaeaaGreatDoor
open Go.RowKit Nt

/-- the number that digits in a radix are; whether they are such -/
def rdN (b : Nat) (l : List UInt8) : Nat := l.foldl (fun n c => n * b + digN c) 0
def okN (b : Nat) (l : List UInt8) : Bool := !l.isEmpty && l.all (fun c => digN c < b)

theorem rdN_snoc (b : Nat) (l : List UInt8) (c : UInt8) : rdN b (l ++ [c]) = rdN b l * b + digN c := by simp [rdN]
theorem rdN_lt (b : Nat) (l : List UInt8) (h : ∀ c ∈ l, digN c < b) : rdN b l < b ^ l.length := by
  have key : ∀ (n : Nat) (l : List UInt8), l.length = n → (∀ c ∈ l, digN c < b) → rdN b l < b ^ n := by
    intro n
    induction n with
    | zero => intro l hl _; have : l = [] := List.eq_nil_of_length_eq_zero hl
              subst this; simp [rdN]
    | succ n ih =>
      intro l hl hc
      have hne : l ≠ [] := fun hh => by rw [hh] at hl; simp at hl
      have e := List.dropLast_concat_getLast hne
      rw [← e, rdN_snoc]
      have h1 := ih l.dropLast (by simp [hl]) (fun c hc' => hc c (List.dropLast_subset l hc'))
      have h2 := hc (l.getLast hne) (List.getLast_mem hne)
      rw [Nat.pow_succ]
      have h3 : (rdN b l.dropLast + 1) * b ≤ b ^ n * b := Nat.mul_le_mul_right b h1
      rw [Nat.add_mul] at h3
      omega
  exact key l.length l rfl h

theorem dec_size_pow {n b k : Nat} (hb : b ≤ 16) (h : n < b ^ k) : (dec n).size ≤ 2 * k + 1 := by
  rw [dec_len]
  apply txl_len_le (by omega) (by omega)
  have h1 : b ^ k ≤ 100 ^ k := Nat.pow_le_pow_left (by omega) k
  have h2 : (100 : Nat) ^ k = 10 ^ (2 * k) := by rw [Nat.pow_mul]
  have h3 : (10 : Nat) ^ (2 * k) ≤ 10 ^ (2 * k + 1) := Nat.pow_le_pow_right (by omega) (by omega)
  omega

theorem dec_small {n : Nat} (h : n < 1000) : (dec n).size ≤ 3 := by rw [dec_len]; exact txl_len_le (by omega) (by omega) (by omega)

theorem take_snoc' (l : List UInt8) (k : Nat) (h : k < l.length) : l.take (k + 1) = l.take k ++ [l[k]] := List.take_succ_eq_append_getElem h

theorem okN_bad {b : Nat} {l : List UInt8} (k : Nat) (h : k < l.length) (hb : b ≤ digN l[k]) : okN b l = false := by
  cases hh : okN b l with
  | false => rfl
  | true =>
    unfold okN at hh
    simp only [Bool.and_eq_true] at hh
    have := List.all_eq_true.1 hh.2 l[k] (List.getElem_mem h)
    simp at this; omega

theorem okN_good {b : Nat} {l : List UInt8} (h0 : 0 < l.length) (h : ∀ c ∈ l, digN c < b) : okN b l = true := by
  unfold okN
  simp only [Bool.and_eq_true]
  refine ⟨?_, List.all_eq_true.2 (fun c hc => by simpa using h c hc)⟩
  cases l with
  | nil => simp at h0
  | cons _ _ => rfl

def natV (b : Nat) (l : List UInt8) : Nat := if okN b l then rdN b l else 0
def natAns (b : Nat) (l : List UInt8) : Value := .tuple #[.string (dec (natV b l)), .bool (okN b l)]

set_option maxRecDepth 100000 in
set_option maxHeartbeats 4000000 in
theorem l2Nat_c (l : List UInt8) (b : Nat) (w : World) (hb2 : 2 ≤ b) (hb16 : b ≤ 16) (hs : l.length ≤ 10000) :
    Calls Tryz.prog 107 #[.string (B l), .int .i64 b] w fun e w' => e = .returned (natAns b l) ∧ Below w.heap.size w w' := by
  have hsz : (B l).size ≤ 10000 := by rw [B_size]; exact hs
  have hd0 : dec 0 = ⟨#[48]⟩ := by unfold dec txt; rw [txl_zero]; rfl
  have Hd0 := hide hd0
  clear hd0
  by_cases hz : l.length = 0
  · have : l = [] := List.eq_nil_of_length_eq_zero hz
    subst this
    clear hs hsz hz
    have h0 : ((B []).toList == []) = true := by rw [B_tl]; rfl
    have h1 : (B []).toList.isEmpty = true := by rw [B_tl]; rfl
    go_enter Tryz.func107, Tryz.ntmps107
    go_wp2
    go_ret2
    refine ⟨?_, Below.refl _ _⟩
    unfold natAns natV
    simp [okN, unhide Hd0]
  · have hne : l ≠ [] := fun hh => by rw [hh] at hz; simp at hz
    have h1 : (B l).toList.isEmpty = false := by rw [B_tl]; simpa using hne
    go_enter Tryz.func107, Tryz.ntmps107
    go_wp2
    go_loopw [6, 7] (fun n i wr => ∃ k : Nat, k ≤ l.length ∧ i = .int .i64 k ∧ n = .string (dec (rdN b (l.take k))) ∧ Below w.heap.size w wr ∧ Hid (∀ c ∈ l.take k, digN c < b))
      (fun _ i _ => l.length - (intOf i).toNat)
    case atStart =>
      exact ⟨0, Nat.zero_le _, rfl, by rw [List.take_zero]; simp [rdN, unhide Hd0], Below.refl _ _, hide (by simp)⟩
    case round =>
      obtain ⟨k, hk, rfl, rfl, hb, hdg⟩ := hrel
      by_cases hlt : k < l.length
      · have hlt2 : k < (B l).size := by rw [B_size]; exact hlt
        have hgk : ((B l)[k]'hlt2).toNat = (l[k]'hlt).toNat := by rw [B_get]
        have hbad := @okN_bad b l k hlt
        have hsn := take_snoc' l k hlt
        have hlk := rdN_lt b (l.take k) (unhide hdg)
        rw [List.length_take, Nat.min_eq_left hk] at hlk
        have hsk := dec_size_pow hb16 hlk
        generalize hn : rdN b (l.take k) = n at *
        have Hn := hide hn
        generalize hcc : l[k]'hlt = c at *
        have Hbad := hide hbad
        have Hsn := hide hsn
        clear hbad hsn hlk hn hcc
        go_wp2_with fail
        refine (l2Digit_c c _).mono ?_
        rintro e w1 ⟨rfl, rfl⟩
        have hdc : digN c < 100 := by unfold digN; split <;> (try split) <;> omega
        by_cases hge : b ≤ digN c
        · go_wp2
          go_ret2
          refine ⟨?_, hb⟩
          unfold natAns natV
          rw [unhide Hbad hge]
          simp [unhide Hd0]
        · go_wp2_with fail
          refine (l1Small_c b (by omega) _).mono ?_
          rintro e w2 ⟨rfl, hb2'⟩
          go_wp2_with fail
          have hbs := dec_small (n := b) (by omega)
          have hds := dec_small (n := digN c) (by omega)
          refine (l1Mul_c n b _ (by omega) (by omega)).mono ?_
          rintro e w3 ⟨rfl, hb3⟩
          go_wp2_with fail
          refine (l1Small_c (digN c) (by omega) _).mono ?_
          rintro e w4 ⟨rfl, hb4⟩
          have hsm : (dec (n * b)).size ≤ 100000 := by
            have h1 : n * b < 10 ^ ((dec n).size + (dec b).size) := by
              rw [Nat.pow_add]; exact Nat.mul_lt_mul'' (dec_lt n) (dec_lt b)
            have := dec_size_pos n
            have := txl_len_le (b := 10) (by omega) (by omega) h1
            rw [dec_len]; omega
          go_wp2_with fail
          refine (l1Add_c (n * b) (digN c) _ hsm (by omega)).mono ?_
          rintro e w5 ⟨rfl, hb5⟩
          go_wp2_with fail
          have hbX := (((hb.trans (hb2'.mono hb.size)).trans (hb3.mono (by have := hb.size; have := hb2'.size; omega))).trans (hb4.mono (by have := hb.size; have := hb2'.size; have := hb3.size; omega))).trans (hb5.mono (by have := hb.size; have := hb2'.size; have := hb3.size; have := hb4.size; omega))
          go_roundw
          case rel =>
            refine ⟨k + 1, by omega, by go_num, ?_, hbX, ?_⟩
            · rw [unhide Hsn, rdN_snoc, unhide Hn]
            · show ∀ x ∈ _, _
              rw [unhide Hsn]
              intro x hx
              rcases List.mem_append.1 hx with h | h
              · exact unhide hdg x h
              · simp at h; subst h; omega
          case measure => simp [intOf]; omega
      · have hkl : k = l.length := by omega
        subst hkl
        have hlt2 : ¬ l.length < (B l).size := by rw [B_size]; omega
        have htk : l.take l.length = l := List.take_length
        have hok := okN_good (show 0 < l.length by omega) (by have := unhide hdg; rwa [htk] at this)
        have Hok := hide hok
        have Htk := hide htk
        clear hok htk
        go_wp2
        go_ret2
        refine ⟨?_, hb⟩
        unfold natAns natV
        rw [unhide Hok]
        simp [List.take_length]
end Go.Proofs.YtpbnmhnbkfnaeaaGreatDoor
namespace Go.Proofs.YtpbnmhnbkfnaeaaGreatDoor
open Go.RowKit Nt

def isRadix (r : Int) : Bool := r == 2 || r == 8 || r == 10 || r == 16

set_option maxRecDepth 100000 in
set_option maxHeartbeats 4000000 in
theorem l2Radix_c (r : Int) (w : World) :
    Calls Tryz.prog 93 #[.int .i64 r] w fun e w' => e = .returned (.bool (isRadix r)) ∧ w' = w := by
  unfold isRadix
  by_cases h2 : (r == 2) = true
  · go_enter Tryz.func93, Tryz.ntmps93
    go_wp2
    go_ret
    exact ⟨ret_bool (by simp [h2]), rfl⟩
  · have h2' : (r == 2) = false := by simpa using h2
    clear h2
    by_cases h8 : (r == 8) = true
    · go_enter Tryz.func93, Tryz.ntmps93
      go_wp2
      go_ret
      exact ⟨ret_bool (by simp [h8, h2']), rfl⟩
    · have h8' : (r == 8) = false := by simpa using h8
      clear h8
      by_cases h10 : (r == 10) = true
      · go_enter Tryz.func93, Tryz.ntmps93
        go_wp2
        go_ret
        exact ⟨ret_bool (by simp [h8', h2', h10]), rfl⟩
      · have h10' : (r == 10) = false := by simpa using h10
        clear h10
        by_cases h16 : (r == 16) = true
        · go_enter Tryz.func93, Tryz.ntmps93
          go_wp2
          go_ret
          exact ⟨ret_bool (by simp [h8', h2', h10', h16]), rfl⟩
        · have h16' : (r == 16) = false := by simpa using h16
          clear h16
          go_enter Tryz.func93, Tryz.ntmps93
          go_wp2
          go_ret
          exact ⟨ret_bool (by simp [h8', h2', h10', h16']), rfl⟩

/-- the first place of a byte, -1 if it is not there -/
def findB (c : UInt8) : List UInt8 → Option Nat
  | [] => none
  | d :: r => if d = c then some 0 else (findB c r).map (· + 1)
def findI (c : UInt8) (l : List UInt8) : Int := match findB c l with | some k => (k : Int) | none => -1

theorem findB_some {c : UInt8} : ∀ {l : List UInt8} {k : Nat}, (h : k < l.length) → l[k] = c → (∀ j (hj : j < l.length), j < k → l[j] ≠ c) → findB c l = some k := by
  intro l
  induction l with
  | nil => intro k h; simp at h
  | cons d r ih =>
    intro k h hk hlt
    cases k with
    | zero => simp only [List.getElem_cons_zero] at hk; simp [findB, hk]
    | succ k =>
      have hd : d ≠ c := hlt 0 (by simp) (by omega)
      have := ih (k := k) (by simpa using h) (by simpa using hk) (fun j hj hjk => by have := hlt (j + 1) (by simpa using hj) (by omega); simpa using this)
      simp [findB, hd, this]

theorem findB_none {c : UInt8} : ∀ {l : List UInt8}, (∀ j (hj : j < l.length), l[j] ≠ c) → findB c l = none := by
  intro l
  induction l with
  | nil => intro _; rfl
  | cons d r ih =>
    intro h
    have hd : d ≠ c := h 0 (by simp)
    have := ih (fun j hj => by have := h (j + 1) (by simpa using hj); simpa using this)
    simp [findB, hd, this]

set_option maxRecDepth 100000 in
set_option maxHeartbeats 4000000 in
theorem l2Find_c (l : List UInt8) (c : UInt8) (w : World) (hs : l.length ≤ 1000000000) :
    Calls Tryz.prog 104 #[.string (B l), .int .u8 c.toNat] w fun e w' => e = .returned (.int .i64 (findI c l)) ∧ w' = w := by
  have hsz : (B l).size ≤ 1000000000 := by rw [B_size]; exact hs
  go_enter Tryz.func104, Tryz.ntmps104
  go_wp2
  go_loop [5] (fun i => ∃ k : Nat, k ≤ l.length ∧ i = .int .i64 k ∧ Hid (∀ j (hj : j < l.length), j < k → l[j] ≠ c)) (fun i => l.length - (intOf i).toNat)
  case atStart => exact ⟨0, Nat.zero_le _, rfl, hide (fun j _ h => by omega)⟩
  case round =>
    obtain ⟨k, hk, rfl, hv⟩ := hrel
    by_cases hlt : k < l.length
    · have hlt2 : k < (B l).size := by rw [B_size]; exact hlt
      have hgk : ((B l)[k]'hlt2).toNat = (l[k]'hlt).toNat := by rw [B_get]
      by_cases heq : l[k]'hlt = c
      · have hf : findI c l = (k : Int) := by unfold findI; rw [findB_some hlt heq (unhide hv)]
        have Hf := hide hf
        have ht : (((l[k]'hlt).toNat : Int) == (c.toNat : Int)) = true := by rw [heq]; simp
        clear hf heq
        go_wp2
        go_ret
        exact ⟨ret_int (unhide Hf).symm, rfl⟩
      · have ht : (((l[k]'hlt).toNat : Int) == (c.toNat : Int)) = false := by
          rw [beq_eq_false_iff_ne]; intro hh; exact heq (UInt8.toNat_inj.1 (by omega))
        have hv2 : Hid (∀ j (hj : j < l.length), j < k + 1 → l[j] ≠ c) := by
          intro j hj hjk
          by_cases hjk2 : j < k
          · exact unhide hv j hj hjk2
          · have : j = k := by omega
            subst this; exact heq
        clear heq
        go_wp2
        go_round
        case rel => exact ⟨k + 1, by omega, by go_num, hv2⟩
        case measure => simp [intOf]; omega
    · have hlt2 : ¬ k < (B l).size := by rw [B_size]; exact hlt
      have hf : findI c l = -1 := by unfold findI; rw [findB_none (fun j hj => unhide hv j hj (by omega))]
      have Hf := hide hf
      clear hf
      go_wp2
      go_ret
      exact ⟨ret_int (unhide Hf).symm, rfl⟩

/-- a number as a value; what is told of one -/
def numV (neg : Bool) (u d : ByteArray) : Value := .agg #[.bool neg, .string u, .string d]
def noNum : Value := numV false ⟨#[]⟩ ⟨#[]⟩
def lowest (neg : Bool) (u d : Nat) : Option (Bool × Nat × Nat) :=
  if d = 0 ∨ 60 < (dec (u / Nat.gcd u d)).size ∨ 60 < (dec (d / Nat.gcd u d)).size then none else some (neg && u / Nat.gcd u d != 0, u / Nat.gcd u d, d / Nat.gcd u d)
def numO : Option (Bool × Nat × Nat) → Value
  | none => noNum
  | some (n, u, d) => numV n (dec u) (dec d)
def numAns (o : Option (Bool × Nat × Nat)) : Value := .tuple #[numO o, .bool o.isSome]

theorem dec_zero : dec 0 = ⟨#[48]⟩ := by unfold dec txt; rw [txl_zero]; rfl
theorem dec_is0 (n : Nat) : ((dec n).toList == [48]) = decide (n = 0) := by
  have := dec_beq n 0
  rwa [show (dec 0).toList = [48] from by unfold dec txt; rw [B_tl, txl_zero]] at this

set_option maxRecDepth 100000 in
set_option maxHeartbeats 4000000 in
theorem l2Make_c (neg : Bool) (u d : Nat) (w : World) (hsu : (dec u).size ≤ 50000) (hsd : (dec d).size ≤ 50000) :
    Calls Tryz.prog 96 #[.bool neg, .string (dec u), .string (dec d)] w fun e w' => e = .returned (numAns (lowest neg u d)) ∧ Below w.heap.size w w' := by
  have hd0 := dec_is0 d
  by_cases hz : d = 0
  · rw [decide_eq_true hz] at hd0
    have hl : lowest neg u d = none := by simp [lowest, hz]
    rw [hl]
    clear hl hz
    go_enter Tryz.func96, Tryz.ntmps96
    go_wp2
    refine bodyPost_ret (v := numAns none) (by simp [results, Tryz.results96, go_sem, numAns, numO, noNum, numV]) rfl ⟨rfl, (Below.refl _ _).alloc (Nat.le_refl _) _⟩
  · rw [decide_eq_false hz] at hd0
    have hg : 0 < Nat.gcd u d := Nat.gcd_pos_of_pos_right _ (by omega)
    have hg1 : (dec (Nat.gcd u d)).size ≤ 50000 := by have := dec_size_le (Nat.gcd_le_right u (show 0 < d by omega)); omega
    go_enter Tryz.func96, Tryz.ntmps96
    go_wp2_with fail
    refine (l1Gcd_c u d _ hsu hsd).mono ?_
    rintro e w1 ⟨rfl, hb1⟩
    go_wp2_with fail
    refine (l1Div_c u _ _ hg hsu hg1).mono ?_
    rintro e w2 ⟨rfl, hb2⟩
    go_wp2_with fail
    refine (l1Div_c d _ _ hg hsd hg1).mono ?_
    rintro e w3 ⟨rfl, hb3⟩
    have hb0 := below_alloc_size hb1
    have h2 := below_next hb0 (by have := hb1.size; simpa using this) hb2
    have h3 := below_next h2.1 h2.2 hb3
    have c0 := newcell h3.1 0
    have c1 := newcell h3.1 1
    have c2 := newcell h3.1 2
    have f0 := newfree h3.1 0
    have f1 := newfree h3.1 1
    have f2 := newfree h3.1 2
    have hbX := below_new h3.1
    simp at c0 c1 c2
    have hqz := dec_is0 (u / Nat.gcd u d)
    generalize hqu : u / Nat.gcd u d = qu at *
    generalize hqd : d / Nat.gcd u d = qd at *
    have Hlow : Hid (lowest neg u d = if 60 < (dec qu).size ∨ 60 < (dec qd).size then none else some (neg && qu != 0, qu, qd)) := by
      show _ = _
      unfold lowest; rw [hqu, hqd]
      by_cases h : 60 < (dec qu).size ∨ 60 < (dec qd).size
      · rw [if_pos (by rcases h with h | h <;> simp [h]), if_pos h]
      · rw [if_neg (by rintro (h1 | h1); exact hz h1; exact h h1), if_neg h]
    clear hb1 hb2 hb3 h2 h3 hb0 hqu hqd
    by_cases h1 : 60 < (dec qu).size
    · rw [if_pos (.inl h1)] at Hlow
      go_wp2
      refine bodyPost_ret (v := numAns none) (by simp [results, Tryz.results96, go_sem, numAns, numO, noNum, numV, c0, c1, c2]) rfl ⟨by rw [unhide Hlow], ?_⟩
      exact ((hbX.setCell (by simp) _).setCell (by simp) _).setCell (by simp) _
    · by_cases h2 : 60 < (dec qd).size
      · rw [if_pos (.inr h2)] at Hlow
        go_wp2
        refine bodyPost_ret (v := numAns none) (by simp [results, Tryz.results96, go_sem, numAns, numO, noNum, numV, c0, c1, c2]) rfl ⟨by rw [unhide Hlow], ?_⟩
        exact ((hbX.setCell (by simp) _).setCell (by simp) _).setCell (by simp) _
      · rw [if_neg (by rintro (h | h); exact h1 h; exact h2 h)] at Hlow
        by_cases hq0 : qu = 0
        · rw [decide_eq_true hq0] at hqz
          have Hq0 := hide hq0
          clear hq0
          cases neg
          case false =>
            go_wp2
            refine bodyPost_ret (v := numAns (some (false, qu, qd))) (by simp [results, Tryz.results96, go_sem, numAns, numO, numV, c0, c1, c2]) rfl ⟨by rw [unhide Hlow]; rfl, ?_⟩
            exact ((hbX.setCell (by simp) _).setCell (by simp) _).setCell (by simp) _
          case true =>
            go_wp2
            refine bodyPost_ret (v := numAns (some (false, qu, qd))) (by simp [results, Tryz.results96, go_sem, numAns, numO, numV, c0, c1, c2]) rfl ⟨by rw [unhide Hlow, unhide Hq0]; rfl, ?_⟩
            exact ((hbX.setCell (by simp) _).setCell (by simp) _).setCell (by simp) _
        · rw [decide_eq_false hq0] at hqz
          have Hq0 := hide hq0
          clear hq0
          cases neg
          case false =>
            go_wp2
            refine bodyPost_ret (v := numAns (some (false, qu, qd))) (by simp [results, Tryz.results96, go_sem, numAns, numO, numV, c0, c1, c2]) rfl ⟨by rw [unhide Hlow]; rfl, ?_⟩
            exact ((hbX.setCell (by simp) _).setCell (by simp) _).setCell (by simp) _
          case true =>
            go_wp2
            refine bodyPost_ret (v := numAns (some (true, qu, qd))) (by simp [results, Tryz.results96, go_sem, numAns, numO, numV, c0, c1, c2]) rfl ⟨by rw [unhide Hlow, bne_iff_ne.2 (unhide Hq0)]; rfl, ?_⟩
            exact ((hbX.setCell (by simp) _).setCell (by simp) _).setCell (by simp) _
end Go.Proofs.YtpbnmhnbkfnaeaaGreatDoor
namespace Go.Proofs.YtpbnmhnbkfnaeaaGreatDoor
open Go.RowKit Nt

theorem run_conv_byte {P : Program} {src dst e : TypeId} (hs : P.underlying src = some (.slice e)) (he : P.underlying e = some (.int .u8)) (hd : P.underlying dst = some .string) (W w1 : World) (c : UInt8)
    (hb : Below (W.heap.size + 1) (W.alloc (.cells #[.int .u8 c.toNat] e)) w1) :
    (convert src dst (.slice (some ⟨W.heap.size, 0, none⟩) 1 1)).run P w1 = .ok (.string (B [c])) w1 := by
  have h0 := World.ownsRow_lit (base := 0) (e := e) (size := 1) W #[.int .u8 c.toNat] 1 (Nat.zero_le _) (by decide) (by simp)
  have h1 := own_below h0 (by simpa using hb)
  have e1 : (#[Value.int .u8 c.toNat] : Array Value).toList = [c].map u8v := by simp [u8v]
  rw [e1] at h1
  exact run_conv_bytes hs he hd h1

theorem dec_byte (n k : Nat) (h : k < (dec n).size) : ((dec n)[k]'h).toNat = 48 + n / 10 ^ ((dec n).size - 1 - k) % 10 := by
  have h1 : k < (txl 10 n).length := by rw [← dec_len]; exact h
  have e := dec_at n ((txl 10 n).length - 1 - k) (by omega)
  rw [List.getElem_reverse] at e
  have e2 : (txl 10 n).length - 1 - ((txl 10 n).length - 1 - k) = k := by omega
  simp only [e2] at e
  have hm : n / 10 ^ ((txl 10 n).length - 1 - k) % 10 < 10 := Nat.mod_lt _ (by omega)
  rw [dec_len]
  have e3 : ((dec n)[k]'h) = (txl 10 n)[k]'h1 := by simp only [dec, txt, B_get]
  rw [e3, e, sg_toNat (by omega), if_pos hm]

def digitSigns : ByteArray := ⟨#[48, 49, 50, 51, 52, 53, 54, 55, 56, 57, 97, 98, 99, 100, 101, 102]⟩
theorem digitSigns_at (d : Nat) (h : d < 16) (h' : d < digitSigns.size) : (digitSigns[d]'h').toNat = (sg d).toNat := by
  have : ∀ d : Fin 16, (digitSigns[d.val]'d.isLt).toNat = (sg d.val).toNat := by decide
  exact this ⟨d, h⟩

set_option maxRecDepth 100000 in
set_option maxHeartbeats 4000000 in
theorem l2Out_c (N b : Nat) (w : World) (hb2 : 2 ≤ b) (hb16 : b ≤ 16) (hs : (dec N).size ≤ 5000) (ht : (txl b N).length ≤ 50000) :
    Calls Tryz.prog 94 #[.string (dec N), .int .i64 b] w fun e w' => e = .returned (.string (txt b N)) ∧ Below w.heap.size w w' := by
  have hbs := dec_small (n := b) (by omega)
  go_enter Tryz.func94, Tryz.ntmps94
  go_wp2
  go_loopw [0, 5] (fun n o wr => ∃ (m : Nat) (t : List UInt8), n = .string (dec m) ∧ o = .string (B t) ∧ m ≤ N ∧ t.length ≤ 50000 ∧ Below w.heap.size w wr ∧ Hid (txl b m ++ t = txl b N))
    (fun n _ _ => valDec (match n with | .string s => s.data.toList | _ => []))
  case atStart => exact ⟨N, [], rfl, rfl, Nat.le_refl _, by simp, Below.refl _ _, hide (by simp)⟩
  case round =>
    obtain ⟨m, t, rfl, rfl, hmN, htl, hb, htx⟩ := hrel
    have hms := dec_size_le hmN
    have hmod : m % b < b := Nat.mod_lt _ (by omega)
    go_wp2_with fail
    refine (l1Small_c b (by omega) _).mono ?_
    rintro e w1 ⟨rfl, hb1⟩
    go_wp2_with fail
    refine (l1Div_c m b _ (by omega) (by omega) (by omega)).mono ?_
    rintro e w2 ⟨rfl, hb2'⟩
    have hbA := below_next hb hb.size hb1
    have hbB := below_next hbA.1 hbA.2 hb2'
    clear hbA hb1 hb2'
    obtain ⟨q, hq⟩ : ∃ q, m / b = q := ⟨_, rfl⟩
    obtain ⟨r, hr⟩ : ∃ r, m % b = r := ⟨_, rfl⟩
    rw [hr] at hmod
    have hrs := dec_small (n := r) (by omega)
    have Hq := hide hq
    have Hr := hide hr
    rw [hq, hr]
    clear hq hr
    go_wp2_with fail
    go_loopw [8, 9] (fun d i wr => ∃ k : Nat, k ≤ (dec r).size ∧ i = .int .i64 k ∧ d = .int .i64 (pref r k : Nat) ∧ Below w.heap.size w wr) (fun _ i _ => (dec r).size - (intOf i).toNat)
    case atStart => exact ⟨0, Nat.zero_le _, rfl, by rw [pref_zero]; rfl, hbB.1⟩
    case round =>
      obtain ⟨k, hk, rfl, rfl, hbC⟩ := hrel
      by_cases hlt : k < (dec r).size
      · have hby := dec_byte r k hlt
        have hm10 : r / 10 ^ ((dec r).size - 1 - k) % 10 < 10 := Nat.mod_lt _ (by omega)
        have hps := pref_succ r k hlt
        have hpl : pref r k ≤ r := Nat.div_le_self _ _
        generalize r / 10 ^ ((dec r).size - 1 - k) % 10 = c at *
        generalize pref r k = p at *
        have Hps := hide hps
        clear hps
        go_wp2
        go_roundw
        case rel => exact ⟨k + 1, by omega, by go_num, by rw [unhide Hps]; go_num, hbC⟩
        case measure => simp [intOf]; omega
      · have hkl : k = (dec r).size := by omega
        subst hkl
        have hpa := pref_all r
        have hd16 : r < 16 := by omega
        have hg := digitSigns_at r hd16 hd16
        unfold digitSigns at hg
        have hconv := run_conv_byte (P := Tryz.prog) (src := 22) (dst := 9) Tryz.underlying22 Tryz.underlying5 Tryz.underlying9 wr _ (sg r) (Below.refl _ _)
        have hcat : B [sg r] ++ B t = B (sg r :: t) := by rw [B_append]; rfl
        have hs1 : (B [sg r]).size ≤ 1 := by rw [B_size]; simp
        have hs2 : (B t).size ≤ 50000 := by rw [B_size]; exact htl
        have hns : ¬ 9223372036854775807 < (B [sg r]).size + (B t).size := by omega
        have hbD := hbC.alloc (by have := hbC.size; exact this) (.cells #[.int .u8 (sg r).toNat] 5)
        have hq0 := dec_is0 q
        by_cases hz : q = 0
        · rw [decide_eq_true hz] at hq0
          have hmb : m < b := by
            have := unhide Hq; rw [hz] at this
            rcases Nat.div_eq_zero_iff.1 this with h | h
            · omega
            · exact h
          have hfin : B (sg r :: t) = txt b N := by
            unfold txt
            rw [← unhide htx, txl_one b hb2 m hmb, ← unhide Hr, Nat.mod_eq_of_lt hmb]; rfl
          have Hfin := hide hfin
          clear hfin hz
          go_wp2
          go_ret
          exact ⟨ret_str (unhide Hfin), hbD⟩
        · rw [decide_eq_false hz] at hq0
          have hmb : b ≤ m := by
            apply Nat.le_of_not_lt
            intro h; apply hz; rw [← unhide Hq]; exact Nat.div_eq_of_lt h
          have htx2 : txl b q ++ (sg r :: t) = txl b N := by
            rw [← unhide htx, txl_step b hb2 m hmb, unhide Hq, unhide Hr]; simp
          have Htx2 := hide htx2
          have hl2 : (sg r :: t).length ≤ 50000 := by
            have := congrArg List.length htx2
            rw [List.length_append] at this; omega
          have hqm : q < m := by rw [← unhide Hq]; exact Nat.div_lt_self (by omega) (by omega)
          clear htx2
          go_wp2
          go_roundw
          case rel => exact ⟨q, sg r :: t, rfl, rfl, by omega, hl2, hbD, Htx2⟩
          case measure =>
            show valDec (txl 10 q) < valDec (txl 10 m)
            rw [valDec_txl, valDec_txl]; exact hqm
end Go.Proofs.YtpbnmhnbkfnaeaaGreatDoor
namespace Go.Proofs.YtpbnmhnbkfnaeaaGreatDoor
open Go.RowKit Nt

/-- the table of powers of ten reads as it is written -/
def Tens (w : World) : Prop := ∀ j, j < 9 → w.cell? ⟨3, j, none⟩ = some (.int .u64 ((10 ^ j : Nat) : Int))

theorem Tens.below {w w' : World} (h : Tens w) (hb : Below w.heap.size w w') : Tens w' := by
  intro j hj
  have h1 := h j hj
  rw [hb.cell (p := ⟨3, j, none⟩) (World.block_lt_of_cell? w _ h1)]
  exact h1
theorem Tens.lt {w : World} (h : Tens w) : 3 < w.heap.size := World.block_lt_of_cell? w _ (h 0 (by omega))
theorem Tens.belowB {w w' : World} {b : Nat} (h : Tens w) (hb : Below b w w') (hlt : 3 < b) : Tens w' := by
  intro j hj
  rw [hb.cell (p := ⟨3, j, none⟩) hlt]
  exact h j hj

theorem own_iterAt {w : World} {base : Nat} {e : TypeId} {size : Nat} {v : Value} {n : Nat} {xs : List Value} (h : w.ownsRow base e size v n xs) {k : Nat} (hk : v.ownBlock ≠ some k) (s : ByteArray) (p : Nat) : (w.iterAt k s p).ownsRow base e size v n xs := by
  obtain ⟨h1, h2⟩ := h
  refine ⟨h1, ?_⟩
  rcases h2 with h2 | ⟨g, cap, cur, rfl, hb, hg, rest⟩
  · exact .inl h2
  · refine .inr ⟨g, cap, cur, rfl, hb, ?_, rest⟩
    rw [Lib.iterAt_other _ _ _ _ _ (by intro hh; apply hk; simp [Value.ownBlock, hh])]
    exact hg

/-- digits that are laid from the upper end: what each group is a multiple of -/
def laidTo (xs : List Nat) (k : Nat) : Prop := ∀ g (h : g < xs.length), xs[g] < 1000000000 ∧ 10 ^ (min 9 (k - 9 * g)) ∣ xs[g]

theorem laid_room {a c r : Nat} (ha : a < 10 ^ 9) (hr : r < 9) (hd : 10 ^ (r + 1) ∣ a) (hc : c ≤ 9) : a + c * 10 ^ r < 10 ^ 9 := by
  obtain ⟨t, rfl⟩ := hd
  have e : (10 : Nat) ^ 9 = 10 ^ (r + 1) * 10 ^ (8 - r) := by rw [← Nat.pow_add]; congr 1; omega
  rw [e] at ha ⊢
  have h1 : t < 10 ^ (8 - r) := Nat.lt_of_mul_lt_mul_left ha
  have h2 : 10 ^ (r + 1) * (t + 1) ≤ 10 ^ (r + 1) * 10 ^ (8 - r) := Nat.mul_le_mul_left _ h1
  rw [Nat.mul_add, Nat.mul_one] at h2
  have h3 : c * 10 ^ r < 10 ^ (r + 1) := by
    rw [Nat.pow_succ, Nat.mul_comm]
    exact Nat.mul_lt_mul_of_pos_left (by omega) (Nat.pow_pos (by omega))
  omega

theorem laid_step {xs : List Nat} {p c : Nat} (h : laidTo xs (p + 1)) (hg : p / 9 < xs.length) (hc : c ≤ 9) :
    xs[p / 9] + c * 10 ^ (p % 9) < 1000000000 ∧ laidTo (xs.set (p / 9) (xs[p / 9] + c * 10 ^ (p % 9))) p := by
  have hr : p % 9 < 9 := Nat.mod_lt _ (by omega)
  have h0 := h (p / 9) hg
  have hmin : min 9 (p + 1 - 9 * (p / 9)) = p % 9 + 1 := by omega
  rw [hmin] at h0
  have hroom := laid_room (a := xs[p / 9]) h0.1 hr h0.2 hc
  refine ⟨hroom, ?_⟩
  intro g hgl
  by_cases hgg : g = p / 9
  · subst hgg
    rw [List.getElem_set_self]
    refine ⟨hroom, ?_⟩
    rw [show min 9 (p - 9 * (p / 9)) = p % 9 from by omega]
    exact Nat.dvd_add (Nat.dvd_trans (Nat.pow_dvd_pow 10 (by omega)) h0.2) (Nat.dvd_mul_left _ _)
  · rw [List.getElem_set_ne (by omega)]
    have h1 := h g (by simpa using hgl)
    exact ⟨h1.1, Nat.dvd_trans (Nat.pow_dvd_pow 10 (by omega)) h1.2⟩

theorem pow_group (p : Nat) : 1000000000 ^ (p / 9) * 10 ^ (p % 9) = 10 ^ p := by
  have e : (1000000000 : Nat) = 10 ^ 9 := by decide
  rw [e, ← Nat.pow_mul, ← Nat.pow_add]
  congr 1; omega

theorem laid_ofd {xs : List Nat} {p c V : Nat} (hg : p / 9 < xs.length) (hV : ofd 1000000000 xs = V) : ofd 1000000000 (xs.set (p / 9) (xs[p / 9] + c * 10 ^ (p % 9))) = V + c * 10 ^ p := by
  have h := ofd_set 1000000000 xs (p / 9) (xs[p / 9] + c * 10 ^ (p % 9)) hg
  rw [hV, Nat.mul_add, Nat.mul_left_comm, pow_group] at h
  omega

set_option maxRecDepth 100000 in
set_option maxHeartbeats 4000000 in
theorem natReadB_c (x : Nat) (w : World) (hs : (dec x).size ≤ 100000) (hT : Tens w) :
    Calls Tryz.prog 186 #[.string (dec x)] w fun e w' => (∃ v', e = .returned v' ∧ isNatB w' w.heap.size v' x) ∧ Below w.heap.size w w' := by
  obtain ⟨i0, hi, hz0, hz1, hz2⟩ := info_parts Tryz.infoU64
  obtain ⟨n, hn⟩ : ∃ n, (dec x).size = n := ⟨_, rfl⟩
  obtain ⟨G, hG⟩ : ∃ G : Nat, (n : Int) / 9 + 1 = G := ⟨n / 9 + 1, by omega⟩
  have hnI : ((dec x).size : Int) = n := by omega
  have hn0 : 0 < n := by have := dec_size_pos x; omega
  rw [hn] at hs
  have Hn := hide hn
  have HT := hide hT
  clear hn hT
  go_enter Tryz.func186, Tryz.ntmps186
  go_wp2_with (refine wpList_make_full _ rfl (.tmp 10) (.tmp 10) 178 rfl w.heap.size 173 i0 (.int .u64 0) 1 Tryz.underlying178 hi hz0 hz1 .i64 .i64 G G G rfl rfl rfl rfl (by rw [hz2]; omega) (by unfold maxLen; omega) (Nat.le_refl _) ?_; intro w1 hown1 hg1)
  have hown0 : w1.ownsRow w.heap.size 173 1 (.slice (some ⟨w.heap.size, 0, none⟩) G G) G (u64s (List.replicate G 0)) := by
    simpa [Value.cells, toList_madeCells_one, u64s_zero] using hown1
  have hb1 : Below w.heap.size w w1 := (Below.refl _ _).grown hg1 (Nat.le_refl _) (fun _ h => by cases h)
  have hlt1 : w.heap.size < w1.heap.size := (hown0.lt _ rfl).2
  clear hown1 hg1
  go_loopw [4] (fun _ wr => ∃ (pos : Nat) (xs : List Nat), pos ≤ n ∧ wr.heap[w1.heap.size]? = some (.stringIter (dec x) pos) ∧ xs.length = G ∧ wr.ownsRow w.heap.size 173 1 (.slice (some ⟨w.heap.size, 0, none⟩) G G) G (u64s xs) ∧ Below w.heap.size w wr ∧
      Hid (laidTo xs (n - pos)) ∧ Hid (ofd 1000000000 xs = pref x pos * 10 ^ (n - pos)))
    (fun _ wr => n - wr.iterPos w1.heap.size)
  case atStart =>
    refine ⟨0, List.replicate G 0, Nat.zero_le _, World.iter_heap _ _ _, by simp, hown0.alloc _, hb1.alloc hb1.size _, ?_, ?_⟩
    · intro g hg
      simp
    · show _ = _
      rw [ofd_replicate_zero, pref_zero]; simp
  case round =>
    clear hown0 hb1
    obtain ⟨pos, xs, hpl, hit, hxl, hown, hb, hlaid, hval⟩ := hrel
    have hpos0 := iterPos_of hit
    by_cases hlt : pos < n
    · have hlt2 : pos < (dec x).size := by rw [unhide Hn]; exact hlt
      obtain ⟨p, hp⟩ : ∃ p : Nat, (n : Int) - 1 - pos = p := ⟨n - 1 - pos, by omega⟩
      have hpN : n - 1 - pos = p := by omega
      have hby := dec_byte x pos hlt2
      have hps := pref_succ x pos hlt2
      rw [unhide Hn, hpN] at hby hps
      have hc9 : x / 10 ^ p % 10 < 10 := Nat.mod_lt _ (by omega)
      generalize x / 10 ^ p % 10 = c at *
      have hnx := fun ty => Lib.run_next_ascii_at (P := Tryz.prog) wr w1.heap.size (dec x) pos ty hit hlt2 (by omega)
      obtain ⟨b, hbb⟩ : ∃ b, ((dec x)[pos]'hlt2).toNat = b := ⟨_, rfl⟩
      rw [hbb] at hnx hby
      have hb48 : (b : Int) - 48 = c := by omega
      have hit2 := Lib.iterAt_heap wr w1.heap.size (dec x) pos (pos + 1) hit
      have hb2 := Lib.below_iterAt hb (k := w1.heap.size) (by omega) (dec x) (pos + 1)
      have hown2 := own_iterAt hown (k := w1.heap.size) (by simp [Value.ownBlock]; omega) (dec x) (pos + 1)
      obtain ⟨W1, hW1⟩ : ∃ W1, W1 = wr.iterAt w1.heap.size (dec x) (pos + 1) := ⟨_, rfl⟩
      rw [← hW1] at hnx hit2 hb2 hown2
      have hgp : p / 9 < xs.length := by omega
      have hT2 := ((unhide HT).belowB hb2 (unhide HT).lt) (p % 9) (Nat.mod_lt _ (by omega))
      have hlaid' : laidTo xs (p + 1) := by have := unhide hlaid; rwa [show n - pos = p + 1 from by omega] at this
      have hst := laid_step (c := c) hlaid' hgp (by omega)
      have hval' : ofd 1000000000 xs = pref x pos * 10 ^ (p + 1) := by have := unhide hval; rwa [show n - pos = p + 1 from by omega] at this
      have hof := laid_ofd (c := c) hgp hval'
      have hcx := hown2.cellAt (p / 9) (by omega)
      rw [u64s_get _ _ hgp] at hcx
      have hfr := hown2.frozenAt (p / 9)
      have hpow : 10 ^ (p % 9) ≤ 100000000 := by
        have : (10 : Nat) ^ (p % 9) ≤ 10 ^ 8 := Nat.pow_le_pow_right (by omega) (by omega)
        exact this
      generalize xs[p / 9]'hgp = a at *
      obtain ⟨t, ht⟩ : ∃ t, 10 ^ (p % 9) = t := ⟨_, rfl⟩
      rw [ht] at hT2 hst hof hpow
      obtain ⟨q, hq⟩ : ∃ q, p / 9 = q := ⟨_, rfl⟩
      obtain ⟨r, hr⟩ : ∃ r, p % 9 = r := ⟨_, rfl⟩
      rw [hq] at hgp hst hof hcx hfr
      rw [hr] at hT2
      obtain ⟨pp, hpp⟩ : ∃ pp, c * t = pp := ⟨_, rfl⟩
      have hppI : (c : Int) * t = pp := by rw [← hpp]; simp
      rw [hpp] at hst hof
      have hst2 := hown2.stored q (.int .u64 ((a : Int) + pp))
      rw [u64s_set _ _ (a + pp) _ (by simp)] at hst2
      have e1 : (p : Int).tdiv 9 = q := by rw [Int.tdiv_eq_ediv_of_nonneg (by omega)]; omega
      have e2 : (p : Int).tmod 9 = r := by rw [Int.tmod_eq_emod_of_nonneg (by omega)]; omega
      have e3 := wi64 (q : Int) (by omega) (by omega)
      have e4 := wi32 (c : Int) (by omega) (by omega)
      have e5 := wu64 (c : Int) (by omega) (by omega)
      have hrm : c * t ≤ 9 * 100000000 := Nat.mul_le_mul (by omega) hpow
      have e6 := wu64 (pp : Int) (by omega) (by omega)
      have e7 := wu64 ((a : Int) + pp) (by omega) (by omega)
      have hqG : (q : Int) < G := by omega
      have hr9 : (r : Int) < 9 := by omega
      have hqn : q < G := by omega
      have hrn : r < 9 := by omega
      have Hst := hide hst
      have Hof := hide hof
      have Hst2 := hide hst2
      have Hit2 := hide hit2
      have Hps := hide hps
      have Hp0 := hide hpos0
      clear hst hof hst2 hit hit2 hps hpos0 hown hb hval hval' hlaid hlaid' hW1 hby hbb ht hq hr hpp hpN
      go_wp2
      go_region
      all_goals
        go_wp2
        go_roundw
        case rel =>
          refine ⟨pos + 1, xs.set q (a + pp), by omega, ?_, by simpa using hxl, (unhide Hst2).1, (hb2.setCell (by simp) _).drew, ?_, ?_⟩
          · have h1 := unhide Hit2
            show (W1.setCell ⟨w.heap.size, q, none⟩ _).heap[w1.heap.size]? = _
            rw [Below.heap_setCell _ _ _ _ (by show w1.heap.size ≠ w.heap.size; omega)]
            exact h1
          · rw [show n - (pos + 1) = p from by omega]; exact (unhide Hst).2
          · show _ = _
            rw [unhide Hof, unhide Hps, show n - (pos + 1) = p from by omega, Nat.add_mul, Nat.pow_succ, Nat.mul_comm (10 ^ p) 10, ← Nat.mul_assoc, Nat.mul_comm 10 (pref x pos)]
        case measure =>
          have h1 := unhide Hit2
          rw [unhide Hp0]
          have h2 : ((W1.setCell ⟨w.heap.size, q, none⟩ (.int .u64 ((a : Int) + pp))).drew).iterPos w1.heap.size = pos + 1 := by
            apply iterPos_of (s := dec x)
            show (W1.setCell ⟨w.heap.size, q, none⟩ _).heap[w1.heap.size]? = _
            rw [Below.heap_setCell _ _ _ _ (by show w1.heap.size ≠ w.heap.size; omega)]
            exact h1
          rw [h2]; omega
    · have hpn : pos = n := by omega
      subst hpn
      have hlt2 : ¬ pos < (dec x).size := by rw [unhide Hn]; omega
      have hnx := fun ty => Lib.run_next_end_at (P := Tryz.prog) wr w1.heap.size (dec x) pos ty hit hlt2
      have hfin : ofd 1000000000 xs = x := by
        have h1 := unhide hval
        have h2 := pref_all x
        rw [unhide Hn] at h2
        rw [h1, h2]; simp
      have hall : ∀ d ∈ xs, d < 1000000000 := by
        intro d hd
        obtain ⟨g, hg, rfl⟩ := List.getElem_of_mem hd
        exact (unhide hlaid g hg).1
      have Hfin := hide hfin
      have Hall := hide hall
      clear hfin hall hval hlaid hpos0 hit
      go_wp2_with fail
      refine (trimmed_n xs w.heap.size _ _ (by omega) (unhide Hall) (by rw [hxl]; exact hown)).mono ?_
      rintro e w2 ⟨⟨v', rfl, hv'⟩, rfl⟩
      rw [unhide Hfin] at hv'
      go_wp2
      go_ret
      exact ⟨⟨v', rfl, hv'⟩, hb⟩

theorem natRead_c (x : Nat) (w : World) (hs : (dec x).size ≤ 100000) (hT : Tens w) :
    Calls Tryz.prog 186 #[.string (dec x)] w fun e w' => (∃ v', e = .returned v' ∧ isNat w' v' x) ∧ Below w.heap.size w w' :=
  (natReadB_c x w hs hT).mono fun _ _ h => ⟨⟨h.1.choose, h.1.choose_spec.1, h.1.choose_spec.2.nat⟩, h.2⟩
end Go.Proofs.YtpbnmhnbkfnaeaaGreatDoor
namespace Go.Proofs.YtpbnmhnbkfnaeaaGreatDoor
open Go.RowKit Nt

theorem group_digit (x k : Nat) (h : k / 9 < (gr x).length) : (gr x)[k / 9] / 10 ^ (k % 9) % 10 = x / 10 ^ k % 10 := by
  have hr : k % 9 < 9 := Nat.mod_lt _ (by omega)
  have hg := dg_get (b := 1000000000) (by omega) (k / 9) x
  have hg' : (gr x)[k / 9] = x / 1000000000 ^ (k / 9) % 1000000000 := by
    rw [← hg, show dg 1000000000 x = gr x from rfl, List.getD_eq_getElem?_getD, List.getElem?_eq_getElem h]; rfl
  rw [hg']
  have e : (1000000000 : Nat) = 10 ^ (k % 9) * 10 ^ (9 - k % 9) := by
    rw [← Nat.pow_add, show k % 9 + (9 - k % 9) = 9 from by omega]
  generalize hq : x / 1000000000 ^ (k / 9) = q
  conv => lhs; rw [e]
  rw [Nat.mod_mul_right_div_self, Nat.mod_mod_of_dvd _ (by
    have : 10 ^ 1 ∣ 10 ^ (9 - k % 9) := Nat.pow_dvd_pow 10 (by omega)
    simpa using this), ← hq, Nat.div_div_eq_div_mul, pow_group]

/-- a slice's length: a measure alone -/
def lenV : Value → Nat
  | .slice _ n _ => n
  | _ => 0

/-- the first k digits, the lowest first -/
def digs (x k : Nat) : List Nat := (List.range k).map fun j => x / 10 ^ j % 10
theorem digs_succ (x k : Nat) : digs x (k + 1) = digs x k ++ [x / 10 ^ k % 10] := by simp [digs, List.range_succ]
theorem digs_length (x k : Nat) : (digs x k).length = k := by simp [digs]
theorem digs_lt (x k : Nat) : ∀ d ∈ digs x k, d < 10 := by
  intro d hd
  obtain ⟨j, _, rfl⟩ := List.mem_map.1 hd
  exact Nat.mod_lt _ (by omega)
theorem digs_ofd (x : Nat) : ∀ k, ofd 10 (digs x k) = x % 10 ^ k := by
  intro k
  induction k with
  | zero => simp [digs, ofd, Nat.mod_one]
  | succ k ih => rw [digs_succ, ofd_snoc, ih, digs_length, mod_pow_succ']

theorem gr_pow (x : Nat) : x < 10 ^ (9 * (gr x).length) := by
  have h := lt_pow_dg (b := 1000000000) (by omega) x
  rw [show (1000000000 : Nat) = 10 ^ 9 from by decide, ← Nat.pow_mul] at h
  unfold gr
  rw [show (1000000000 : Nat) = 10 ^ 9 from by decide]
  exact h

set_option maxRecDepth 100000 in
set_option maxHeartbeats 4000000 in
theorem decimals_c (x : Nat) (v : Value) (w : World) (hx : isNat w v x) (hs : (gr x).length ≤ 100000) (hT : Tens w) :
    Calls Tryz.prog 184 #[v] w fun e w' => e = .returned (.string (dec x)) ∧ Below w.heap.size w w' := by
  obtain ⟨i0, hi, hz0, hz1, hz2⟩ := info_parts Tryz.infoByte
  obtain ⟨p, cap, hv⟩ := own_slice hx
  subst hv
  by_cases hz : x = 0
  · subst hz
    rw [gr_zero, dec_zero]
    clear hx hs hT
    go_enter Tryz.func184, Tryz.ntmps184
    go_wp2
    go_ret
    exact ⟨rfl, Below.refl _ _⟩
  · obtain ⟨n, hn⟩ : ∃ n, (gr x).length = n := ⟨_, rfl⟩
    have hn0 : 0 < n := by
      rcases Nat.eq_zero_or_pos n with h | h
      · rw [h] at hn; exact absurd (gr_nil.1 (List.eq_nil_of_length_eq_zero hn)) hz
      · exact h
    have hnI : ((n : Int) == 0) = false := by rw [beq_eq_false_iff_ne]; omega
    have hgd := group_digit x
    have hgl := gr_lt x
    have hgp := gr_pow x
    have hx' := hx
    unfold isNat at hx'
    rw [hn] at hx' hs hgp
    rw [hn]
    generalize gr x = xs at *
    have Hgd := hide hgd
    have Hgl := hide hgl
    have Hgp := hide hgp
    have Hx := hide hx'
    have Hn := hide hn
    have HT := hide hT
    have Hz := hide hz
    clear hgd hgl hgp hx' hn hT hz hx
    go_enter Tryz.func184, Tryz.ntmps184
    go_wp2
    go_loopw [3, 13] (fun v i wr => ∃ (k : Nat), k ≤ n * 9 ∧ i = .int .i64 k ∧ wr.ownsRow w.heap.size 5 1 v k (((digs x k).map sg).map u8v) ∧ Below w.heap.size w wr)
      (fun _ i _ => n * 9 - (intOf i).toNat)
    case atStart =>
      exact ⟨0, Nat.zero_le _, rfl, World.ownsRow_made w #[] 0 (Nat.le_refl _) (by decide) (by simp), (Below.refl _ _).alloc (Nat.le_refl _) _⟩
    case round =>
      obtain ⟨k, hk, rfl, hown, hb⟩ := hrel
      by_cases hlt : k < n * 9
      · have hkl : k / 9 < xs.length := by rw [unhide Hn]; omega
        obtain ⟨g, cap', hvv, _⟩ := own_some (unhide Hx) (by omega)
        simp only [Value.slice.injEq, true_and] at hvv
        obtain ⟨rfl, rfl⟩ := hvv
        have hcx := (own_below (unhide Hx) hb).cellAt (k / 9) (by rw [unhide Hn] at hkl; omega)
        rw [u64s_get _ _ hkl] at hcx
        have hT2 := ((unhide HT).below hb) (k % 9) (Nat.mod_lt _ (by omega))
        have hd := unhide Hgd k hkl
        have ha9 : xs[k / 9]'hkl < 1000000000 := unhide Hgl _ (List.getElem_mem _)
        have hdl : x / 10 ^ k % 10 < 10 := Nat.mod_lt _ (by omega)
        have hsuc := digs_succ x k
        have hpow : 0 < 10 ^ (k % 9) := Nat.pow_pos (by omega)
        have hpow2 : 10 ^ (k % 9) ≤ 100000000 := by
          have : (10 : Nat) ^ (k % 9) ≤ 10 ^ 8 := Nat.pow_le_pow_right (by omega) (by have := Nat.mod_lt k (show 9 > 0 by omega); omega)
          exact this
        generalize xs[k / 9]'hkl = a at *
        generalize x / 10 ^ k % 10 = d at *
        obtain ⟨t, ht⟩ : ∃ t, 10 ^ (k % 9) = t := ⟨_, rfl⟩
        rw [ht] at hT2 hd hpow hpow2
        obtain ⟨q, hq⟩ : ∃ q, k / 9 = q := ⟨_, rfl⟩
        obtain ⟨r, hr⟩ : ∃ r, k % 9 = r := ⟨_, rfl⟩
        rw [hq] at hcx hkl
        rw [hr] at hT2
        obtain ⟨at_, hat⟩ : ∃ z, a / t = z := ⟨_, rfl⟩
        rw [hat] at hd
        have hatl : at_ ≤ a := by rw [← hat]; exact Nat.div_le_self _ _
        have e1 : (k : Int).tdiv 9 = q := by rw [Int.tdiv_eq_ediv_of_nonneg (by omega)]; omega
        have e2 : (k : Int).tmod 9 = r := by rw [Int.tmod_eq_emod_of_nonneg (by omega)]; omega
        have e3 := wi64 (q : Int) (by omega) (by omega)
        have e4 : (a : Int).tdiv t = at_ := by rw [Int.tdiv_eq_ediv_of_nonneg (by omega), ← hat]; rfl
        have e5 := wu64 (at_ : Int) (by omega) (by omega)
        have e6 : (at_ : Int).tmod 10 = d := by rw [Int.tmod_eq_emod_of_nonneg (by omega)]; omega
        have htN : ¬ (t : Int) = 0 := by omega
        have hqn : (q : Int) < n := by omega
        have hqn2 : q < n := by omega
        have hr9 : (r : Int) < 9 := by omega
        have hrn : r < 9 := by omega
        have hki : (k : Int) < n * 9 := by omega
        have Hsuc := hide hsuc
        clear hsuc hd ht hq hr hat
        go_wp2
        go_quiet (fail)
        have hown2 := own_drewN hown nq
        have hb2 := below_drewN hb nq
        have hw := hb.size
        go_wp2_with (at_builtin; refine wpList_append_own _ rfl (.tmp 27) (.tmp 31) 22 rfl w.heap.size 5 i0 (.int .u8 0) 1 1 Tryz.underlying22 hi hz0 hz1 hz2 rfl (by decide) _ _ _ rfl (hown2.alloc _) ⟨wr.heap.size, 0, none⟩ 1 1 [.int .u8 (48 + (d : Int))] rfl rfl (cell_one_new _ _ _) (by intro u hu; simp at hu; subst hu; rfl) (by unfold maxLen; omega) (by omega) (by show w.heap.size ≤ ((wr.drewN nq).alloc _).heap.size; rw [World.size_alloc]; show w.heap.size ≤ wr.heap.size + 1; omega) ?_; intro v2 w2 hown3 hg3 _)
        have hbX := below_grown (hb2.alloc hw _) (hown2.alloc _) hg3 (by rw [World.size_alloc]; show w.heap.size ≤ wr.heap.size + 1; omega)
        go_roundw
        case rel =>
          refine ⟨k + 1, by omega, by go_num, ?_, hbX⟩
          rw [unhide Hsuc, List.map_append, List.map_append]
          simp only [List.map_cons, List.map_nil, u8v_sg hdl]
          exact hown3
        case measure => simp [intOf]; omega
      · have hkn : k = n * 9 := by omega
        subst hkn
        have hpre : strip (digs x (n * 9)) = dg 10 x := by
          rw [strip_eq_dg (by omega) (digs_lt x _), digs_ofd, Nat.mod_eq_of_lt (by rw [Nat.mul_comm]; exact unhide Hgp)]
        obtain ⟨g, cap', hvv, hcc, hbg, hgw⟩ := own_some hown (by omega)
        subst hvv
        have Hpre := hide hpre
        have hdl := digs_lt x (n * 9)
        have hlen := digs_length x (n * 9)
        generalize digs x (n * 9) = D at *
        have Hdl := hide hdl
        clear hpre hdl
        go_wp2
        go_loopw [3] (fun v wr2 => ∃ (E : List Nat), v = .slice (some ⟨g, 0, none⟩) E.length cap' ∧ E.length ≤ n * 9 ∧ wr2 = wr ∧ wr.ownsRow w.heap.size 5 1 (.slice (some ⟨g, 0, none⟩) E.length cap') E.length ((E.map sg).map u8v) ∧ Hid (strip E = dg 10 x) ∧ Hid (∀ d ∈ E, d < 10))
          (fun v _ => lenV v)
        case atStart => exact ⟨D, by rw [hlen], by omega, rfl, by rw [hlen]; exact hown, Hpre, Hdl⟩
        case round =>
          obtain ⟨E, rfl, hEl, rfl, hownE, hst, hEd⟩ := hrel
          have hE0 : 0 < E.length := by
            rcases Nat.eq_zero_or_pos E.length with h | h
            · exfalso
              have : E = [] := List.eq_nil_of_length_eq_zero h
              rw [this] at hst
              exact unhide Hz ((dg_eq_nil (by omega)).1 (unhide hst).symm)
            · exact h
          have hc := hownE.cellAt (E.length - 1) (by omega)
          rw [u8v_cell _ _ (by simp; omega), List.getElem_map] at hc
          have hsp : E = E.take (E.length - 1) ++ [E[E.length - 1]'(by omega)] := by
            rw [← List.take_succ_eq_append_getElem (by omega), show E.length - 1 + 1 = E.length from by omega, List.take_length]
          have hlast : E[E.length - 1]'(by omega) < 10 := unhide hEd _ (List.getElem_mem _)
          have htk := own_take hownE (E.length - 1) (by omega)
          generalize E[E.length - 1]'(by omega) = d at *
          rw [sg_toNat (by omega), if_pos hlast] at hc
          by_cases hd0 : d = 0
          · have hst2 : strip (E.take (E.length - 1)) = dg 10 x := by
              rw [← unhide hst]
              conv => rhs; rw [hsp, hd0]
              rw [strip_snoc_zero]
            have hEd2 : ∀ e ∈ E.take (E.length - 1), e < 10 := fun e he => unhide hEd e (List.mem_of_mem_take he)
            have hq : (((48 + d : Nat) : Int) == 48) = true := by rw [beq_iff_eq]; omega
            have e1 : ((E.map sg).map u8v).take (E.length - 1) = ((E.take (E.length - 1)).map sg).map u8v := by simp [List.map_take]
            rw [e1] at htk
            have hl1 : (E.take (E.length - 1)).length = E.length - 1 := by simp
            generalize E.take (E.length - 1) = F at *
            have hzl : F.length + 1 = E.length := by omega
            have Htk := hide htk
            have Hst2 := hide hst2
            have Hd2 := hide hEd2
            clear hst2 htk hsp hd0 e1 hEd2
            go_wp2
            go_roundw
            case rel => exact ⟨F, by rw [hl1], by omega, trivial, by rw [hl1]; exact unhide Htk, Hst2, Hd2⟩
            case measure => show E.length - 1 < E.length; omega
          · have hq : (((48 + d : Nat) : Int) == 48) = false := by rw [beq_eq_false_iff_ne]; omega
            have hfin : E = dg 10 x := by rw [← unhide hst, hsp, strip_snoc_pos _ _ hd0]
            have Hfin := hide hfin
            clear hfin hsp htk hd0
            have hrv := reverse_c (E.map sg) g cap' w.heap.size wr (by rw [List.length_map]; omega) (by rw [List.length_map]; exact hownE)
            rw [List.length_map] at hrv
            have Hrv := hide hrv
            clear hrv hownE hown
            go_wp2_with fail
            refine (unhide Hrv).mono ?_
            rintro e w3 ⟨rfl, hown3, hg3⟩
            have hbX := hb.grown hg3 hb.size (fun k hk => by cases hk; omega)
            have hconv := run_conv_bytes (dst := 9) Tryz.underlying22 Tryz.underlying5 Tryz.underlying9 hown3
            have hfin2 : B (E.map sg).reverse = dec x := by unfold dec txt; rw [txl_pos (unhide Hz), ← unhide Hfin]
            rw [hfin2] at hconv
            clear hfin2 hown3 hg3 Hrv
            go_wp2
            go_ret
            exact ⟨rfl, hbX⟩
end Go.Proofs.YtpbnmhnbkfnaeaaGreatDoor
namespace Go.Proofs.YtpbnmhnbkfnaeaaGreatDoor
open Go.RowKit Nt

def overM (neg : Bool) (b : Nat) (x y : List UInt8) : Option (Bool × Nat × Nat) :=
  if okN b x && okN b y then lowest neg (rdN b x) (rdN b y) else none

theorem rdN_size {b : Nat} {l : List UInt8} (hb16 : b ≤ 16) (h : okN b l = true) : (dec (rdN b l)).size ≤ 2 * l.length + 1 := by
  unfold okN at h
  simp only [Bool.and_eq_true] at h
  exact dec_size_pow hb16 (rdN_lt b l (fun c hc => by simpa using List.all_eq_true.1 h.2 c hc))

/-- what the cells of a struct of three read behind three stores -/
theorem below_three {w w3 : World} {b : Nat} (h : Below b w w3) (g : Nat) (hg : b ≤ g) (x y z : Value) : Below b w (((w3.setCell ⟨g, 0, none⟩ x).setCell ⟨g, 1, none⟩ y).setCell ⟨g, 2, none⟩ z) :=
  ((h.setCell hg _).setCell hg _).setCell hg _


set_option maxRecDepth 100000 in
set_option maxHeartbeats 4000000 in
theorem l2Over_c (neg : Bool) (l : List UInt8) (k b : Nat) (w : World) (hk : k < l.length) (hs : l.length ≤ 5000) (hb2 : 2 ≤ b) (hb16 : b ≤ 16) :
    Calls Tryz.prog 105 #[.bool neg, .string (B l), .int .i64 k, .int .i64 b] w fun e w' => e = .returned (numAns (overM neg b (l.take k) (l.drop (k + 1)))) ∧ Below w.heap.size w w' := by
  have hsz : (B l).size ≤ 5000 := by rw [B_size]; exact hs
  have hkz : k < (B l).size := by rw [B_size]; exact hk
  have he1 : (B l).extract 0 k = B (l.take k) := by rw [B_extract]; simp
  have he2 : (B l).extract (k + 1) (B l).size = B (l.drop (k + 1)) := by rw [B_extract, B_size, List.take_length]
  generalize hx : l.take k = x at *
  generalize hy : l.drop (k + 1) = y at *
  have hxl : x.length ≤ 5000 := by rw [← hx]; simp; omega
  have hyl : y.length ≤ 5000 := by rw [← hy]; simp; omega
  clear hx hy
  go_enter Tryz.func105, Tryz.ntmps105
  go_wp2_with fail
  refine (l2Nat_c x b _ hb2 hb16 (by omega)).mono ?_
  rintro e w1 ⟨rfl, hb1⟩
  unfold natAns
  go_wp2_with fail
  refine (l2Nat_c y b _ hb2 hb16 (by omega)).mono ?_
  rintro e w2 ⟨rfl, hb2'⟩
  unfold natAns
  have hb0 := below_alloc_size hb1
  have hn2 := below_next hb0 (by have := hb1.size; simpa using this) hb2'
  have hsx := fun h => rdN_size (l := x) hb16 h
  have hsy := fun h => rdN_size (l := y) hb16 h
  have hvx : okN b x = true → natV b x = rdN b x := fun h => by unfold natV; rw [if_pos h]
  have hvy : okN b y = true → natV b y = rdN b y := fun h => by unfold natV; rw [if_pos h]
  have Hov : Hid (overM neg b x y = if okN b x && okN b y then lowest neg (rdN b x) (rdN b y) else none) := hide rfl
  generalize natV b x = vx at *
  generalize natV b y = vy at *
  generalize okN b x = ox at *
  generalize okN b y = oy at *
  cases ox
  ·
    have c0 := newcell hn2.1 0
    have c1 := newcell hn2.1 1
    have c2 := newcell hn2.1 2
    have f0 := newfree hn2.1 0
    have f1 := newfree hn2.1 1
    have f2 := newfree hn2.1 2
    have hbX := below_new hn2.1
    simp at c0 c1 c2
    clear hb1 hb2' hb0 hn2 hsx hsy he1 he2 hvx hvy
    go_wp2
    refine bodyPost_ret (v := numAns none) (by simp [results, Tryz.results105, go_sem, numAns, numO, noNum, numV, c0, c1, c2]) rfl ⟨by rw [unhide Hov]; rfl, ?_⟩
    exact below_three hbX _ (Nat.le_refl _) _ _ _
  · cases oy
    ·
      have c0 := newcell hn2.1 0
      have c1 := newcell hn2.1 1
      have c2 := newcell hn2.1 2
      have f0 := newfree hn2.1 0
      have f1 := newfree hn2.1 1
      have f2 := newfree hn2.1 2
      have hbX := below_new hn2.1
      simp at c0 c1 c2
      clear hb1 hb2' hb0 hn2 hsx hsy he1 he2 hvx hvy
      go_wp2
      refine bodyPost_ret (v := numAns none) (by simp [results, Tryz.results105, go_sem, numAns, numO, noNum, numV, c0, c1, c2]) rfl ⟨by rw [unhide Hov]; rfl, ?_⟩
      exact below_three hbX _ (Nat.le_refl _) _ _ _
    · have h1 := hsx rfl
      have h2 := hsy rfl
      rw [← hvx rfl] at h1
      rw [← hvy rfl] at h2
      have Hov2 : Hid (overM neg b x y = lowest neg vx vy) := by rw [hvx rfl, hvy rfl]; exact Hov
      clear hsx hsy he1 he2 hvx hvy Hov
      go_wp2_with fail
      refine (l2Make_c neg vx vy _ (by omega) (by omega)).mono ?_
      rintro e w3 ⟨rfl, hb3⟩
      have hn3 := below_next hn2.1 hn2.2 hb3
      have c0 := newcell hn3.1 0
      have c1 := newcell hn3.1 1
      have c2 := newcell hn3.1 2
      have f0 := newfree hn3.1 0
      have f1 := newfree hn3.1 1
      have f2 := newfree hn3.1 2
      have hbX := below_new hn3.1
      simp at c0 c1 c2
      clear hb1 hb2' hb0 hn2 hb3 hn3
      generalize lowest neg vx vy = o at *
      unfold numAns
      obtain ⟨n3, u3, d3, ho⟩ : ∃ n3 u3 d3, numO o = numV n3 u3 d3 := by
        cases o with
        | none => exact ⟨_, _, _, rfl⟩
        | some p => exact ⟨_, _, _, rfl⟩
      have Ho := hide ho
      rw [ho]
      unfold numV
      clear ho
      go_wp2
      refine bodyPost_ret (v := numAns o) (by simp [results, Tryz.results105, go_sem, numAns, unhide Ho, numV, c0, c1, c2]) rfl ⟨by rw [unhide Hov2], ?_⟩
      exact below_three hbX _ (Nat.le_refl _) _ _ _
end Go.Proofs.YtpbnmhnbkfnaeaaGreatDoor
namespace Go.Proofs.YtpbnmhnbkfnaeaaGreatDoor
open Go.RowKit Nt

def pointM (neg : Bool) (x y : List UInt8) : Option (Bool × Nat × Nat) :=
  if okN 10 (x ++ y) then lowest neg (rdN 10 (x ++ y)) (10 ^ y.length) else none

theorem dec_one : dec 1 = ⟨#[49]⟩ := by unfold dec txt; rw [txl_one 10 (by omega) 1 (by omega)]; rfl
theorem dec_tens (j : Nat) : dec (10 ^ j) ++ ⟨#[48]⟩ = dec (10 ^ (j + 1)) := by
  have h1 : 0 < 10 ^ j := Nat.pow_pos (by omega)
  have h : 10 ≤ 10 ^ (j + 1) := by rw [Nat.pow_succ]; omega
  have e := txl_step 10 (by omega) (10 ^ (j + 1)) h
  rw [show 10 ^ (j + 1) / 10 = 10 ^ j from by rw [Nat.pow_succ]; omega, show 10 ^ (j + 1) % 10 = 0 from by rw [Nat.pow_succ]; omega] at e
  unfold dec txt
  rw [e, show (⟨#[48]⟩ : ByteArray) = B [sg 0] from rfl, B_append]
theorem dec_tens_size (j : Nat) : (dec (10 ^ j)).size ≤ j + 1 := by
  rw [dec_len]
  exact txl_len_le (by omega) (by omega) (Nat.pow_lt_pow_right (by omega) (by omega))

set_option maxRecDepth 100000 in
set_option maxHeartbeats 4000000 in
theorem l2Point_c (neg : Bool) (l : List UInt8) (k : Nat) (w : World) (hk : k < l.length) (hs : l.length ≤ 5000) :
    Calls Tryz.prog 106 #[.bool neg, .string (B l), .int .i64 k] w fun e w' => e = .returned (numAns (pointM neg (l.take k) (l.drop (k + 1)))) ∧ Below w.heap.size w w' := by
  have hsz : (B l).size ≤ 5000 := by rw [B_size]; exact hs
  have hszI : ((B l).size : Int) = l.length := by rw [B_size]
  have hkz : k < (B l).size := by rw [B_size]; exact hk
  have he1 : (B l).extract 0 k = B (l.take k) := by rw [B_extract]; simp
  have he2 : (B l).extract (k + 1) (B l).size = B (l.drop (k + 1)) := by rw [B_extract, B_size, List.take_length]
  have hyl : (l.drop (k + 1)).length = l.length - (k + 1) := by simp
  have hxl : (l.take k).length = k := by simp; omega
  generalize hx : l.take k = x at *
  generalize hy : l.drop (k + 1) = y at *
  have hcat : B x ++ B y = B (x ++ y) := B_append x y
  have hxs : (B x).size = x.length := B_size x
  have hys : (B y).size = y.length := B_size y
  have hns : ¬ 9223372036854775807 < (B x).size + (B y).size := by omega
  have hns2 : ¬ (9223372036854775807 < ((B x).size : Int) + ((B y).size : Int)) := by omega
  have hxyl : (x ++ y).length ≤ 10000 := by rw [List.length_append]; omega
  have e1 := wi64 ((k : Int) + 1) (by omega) (by omega)
  have e2 : ((k : Int) + 1).toNat = k + 1 := by omega
  clear hx hy
  have Hyl := hide hyl
  clear hyl hxl hxs hys
  go_enter Tryz.func106, Tryz.ntmps106
  go_wp2
  go_region_with (go_at_call 107; refine (l2Nat_c (x ++ y) 10 _ (by omega) (by omega) hxyl).mono ?_; rintro e w1 ⟨rfl, hb1⟩; unfold natAns)
  all_goals
    have hb0 : Below (w.heap.size + 1) (w.alloc (.cells #[.bool false, .string ⟨#[]⟩, .string ⟨#[]⟩] 79)) w1 := by
      have := below_of_drew hb1; simpa using this
    have hzz : w.heap.size + 1 ≤ w1.heap.size := by have := hb1.size; simpa using this
    have hsx := fun h => rdN_size (b := 10) (l := x ++ y) (by omega) h
    have hvx : okN 10 (x ++ y) = true → natV 10 (x ++ y) = rdN 10 (x ++ y) := fun h => by unfold natV; rw [if_pos h]
    have Hov : Hid (pointM neg x y = if okN 10 (x ++ y) then lowest neg (rdN 10 (x ++ y)) (10 ^ y.length) else none) := hide rfl
    generalize natV 10 (x ++ y) = vx at *
    generalize okN 10 (x ++ y) = ox at *
    clear hb1 he1 he2 hcat hns hns2 e1
    cases ox
    case' false =>
      have c0 := newcell hb0 0
      have c1 := newcell hb0 1
      have c2 := newcell hb0 2
      have f0 := newfree hb0 0
      have f1 := newfree hb0 1
      have f2 := newfree hb0 2
      have hbX := below_new hb0
      simp at c0 c1 c2
      clear hb0 hsx hvx
      go_wp2
      refine bodyPost_ret (v := numAns none) (by simp [results, Tryz.results106, go_sem, numAns, numO, noNum, numV, c0, c1, c2]) rfl ⟨by rw [unhide Hov]; rfl, ?_⟩
      exact below_three hbX _ (Nat.le_refl _) _ _ _
    case' true =>
      have h1 := hsx rfl
      rw [← hvx rfl] at h1
      have Hov2 : Hid (pointM neg x y = lowest neg vx (10 ^ y.length)) := by rw [hvx rfl]; exact Hov
      clear hsx hvx Hov
      go_wp2
      go_loopw [10, 11] (fun dn i wr => ∃ j : Nat, k + 1 + j ≤ l.length ∧ dn = .string (dec (10 ^ j)) ∧ i = .int .i64 ((k + 1 + j : Nat) : Int) ∧ wr = w1) (fun _ i _ => l.length - (intOf i).toNat)
      case atStart => exact ⟨0, by omega, by rw [Nat.pow_zero, dec_one], by go_num, rfl⟩
      case round =>
        obtain ⟨j, hj, rfl, rfl, rfl⟩ := hrel
        have hds := dec_tens_size j
        by_cases hlt : k + 1 + j < l.length
        · have htn := dec_tens j
          have hns : ¬ 9223372036854775807 < (dec (10 ^ j)).size + 1 := by omega
          go_wp2
          go_roundw
          case rel => exact ⟨j + 1, by omega, rfl, by go_num, trivial⟩
          case measure => simp [intOf]; omega
        · have hjy : j = y.length := by have := unhide Hyl; omega
          go_wp2_with fail
          have hds2 : (dec (10 ^ y.length)).size ≤ 50000 := by rw [← hjy]; omega
          clear hjy
          refine (l2Make_c neg vx (10 ^ y.length) _ (by omega) hds2).mono ?_
          rintro e w3 ⟨rfl, hb3⟩
          have hn3 := below_next hb0 hzz hb3
          have c0 := newcell hn3.1 0
          have c1 := newcell hn3.1 1
          have c2 := newcell hn3.1 2
          have f0 := newfree hn3.1 0
          have f1 := newfree hn3.1 1
          have f2 := newfree hn3.1 2
          have hbX := below_new hn3.1
          simp at c0 c1 c2
          clear hb0 hb3 hn3
          -- behind l2Make's contract: 106 the function; the struct is stored and told. Wants: Hov2 : Hid (M = lowest ..), c0 c1 c2 f0 f1 f2 hbX, the answer's option lowest neg vx (10 ^ y.length)
          generalize lowest neg vx (10 ^ y.length) = o at *
          unfold numAns
          obtain ⟨n3, u3, d3, ho⟩ : ∃ n3 u3 d3, numO o = numV n3 u3 d3 := by
            cases o with
            | none => exact ⟨_, _, _, rfl⟩
            | some p => exact ⟨_, _, _, rfl⟩
          have Ho := hide ho
          rw [ho]
          unfold numV
          clear ho
          go_wp2
          refine bodyPost_ret (v := numAns o) (by simp [results, Tryz.results106, go_sem, numAns, unhide Ho, numV, c0, c1, c2]) rfl ⟨by rw [unhide Hov2], ?_⟩
          exact below_three hbX _ (Nat.le_refl _) _ _ _
end Go.Proofs.YtpbnmhnbkfnaeaaGreatDoor
