/- A part of the proof, put together out of smaller texts: each piece says what it is for. -/
import Derived.Test.YtpbnmhnbkfnaeaaGreatDoorM1
import Derived.Deep.RegionWith
import Derived.Deep.Cut
import Derived.Lib.SmallJoins
import Derived.ChangeSlices
import Derived.Deep.Strs
import Derived.Deep.RegionHeld3
import Derived.RegionIn
import Derived.Deep.QuietTactic
import Derived.BigQuiet
namespace Go.Proofs.YtpbnmhnbkfnaeaaGreatDoor
open Go.RowKit Nt

def isDig (c : UInt8) : Bool := 48 ≤ c && c ≤ 57
theorem isDig_iff (c : UInt8) : isDig c = true ↔ 48 ≤ c.toNat ∧ c.toNat ≤ 57 := by
  simp [isDig, UInt8.le_iff_toNat_le]

theorem isDec_bad {l : List UInt8} (k : Nat) (h : k < l.length) (hb : ¬ (48 ≤ l[k].toNat ∧ l[k].toNat ≤ 57)) : isDec l = false := by
  cases hd : isDec l with
  | false => rfl
  | true =>
    unfold isDec at hd
    simp only [bne_iff_ne, Bool.and_eq_true, Bool.or_eq_true, decide_eq_true_eq] at hd
    have := List.all_eq_true.1 hd.1.2 l[k] (List.getElem_mem h)
    exact absurd ((isDig_iff _).1 this) hb

theorem isDec_good {l : List UInt8} (h0 : 0 < l.length) (hl : l.length ≤ 1 ∨ l.head? ≠ some 48) (h : ∀ k (hk : k < l.length), 48 ≤ l[k].toNat ∧ l[k].toNat ≤ 57) : isDec l = true := by
  unfold isDec
  simp only [bne_iff_ne, Bool.and_eq_true, Bool.or_eq_true, decide_eq_true_eq]
  refine ⟨⟨fun hh => by rw [hh] at h0; simp at h0, ?_⟩, hl⟩
  rw [List.all_eq_true]
  intro c hc
  obtain ⟨k, hk, rfl⟩ := List.getElem_of_mem hc
  exact (isDig_iff _).2 (h k hk)


set_option maxRecDepth 100000 in
set_option maxHeartbeats 1000000 in
theorem l1DigitsOk_c (l : List UInt8) (w : World) (hs : l.length ≤ 1000000000) :
    Calls Tryz.prog 121 #[.string (B l)] w fun e w' => e = .returned (.bool (isDec l)) ∧ w' = w := by
  have hsz : (B l).size ≤ 1000000000 := by rw [B_size]; exact hs
  have hI : ((B l).size : Int) = (l.length : Int) := by rw [B_size]
  by_cases hz : l.length = 0
  · have : l = [] := List.eq_nil_of_length_eq_zero hz
    subst this
    have h0 : (((B []).size : Int) == 0) = true := by simp [B_size]
    clear hI hs hsz hz
    go_enter Tryz.func121, Tryz.ntmps121
    go_wp2
    go_ret
    exact ⟨rfl, rfl⟩
  · have h0 : 0 < l.length := by omega
    have h0I : (((B l).size : Int) == 0) = false := by rw [beq_eq_false_iff_ne]; omega
    by_cases h1 : 1 < l.length
    · have h1I : (1 : Int) < ((B l).size : Int) := by omega
      have hg0 : 0 < (B l).size := by omega
      have hg : ((B l)[0]'hg0).toNat = (l[0]'h0).toNat := by rw [B_get]
      by_cases hc : l[0]'h0 = 48
      · have hq : ((((B l)[0]'hg0).toNat : Int) == 48) = true := by rw [hg, hc]; rfl
        have hf : isDec l = false := by
          cases hd : isDec l with
          | false => rfl
          | true =>
            unfold isDec at hd
            simp only [bne_iff_ne, Bool.and_eq_true, Bool.or_eq_true, decide_eq_true_eq] at hd
            rcases hd.2 with h2 | h2
            · omega
            · exact absurd (by rw [List.head?_eq_getElem?, List.getElem?_eq_getElem h0, hc]) h2
        rw [hf]
        clear hI hc hg hf hz
        go_enter Tryz.func121, Tryz.ntmps121
        go_wp2
        go_ret
        exact ⟨rfl, rfl⟩
      · have hq : ((((B l)[0]'hg0).toNat : Int) == 48) = false := by
          rw [hg, beq_eq_false_iff_ne]
          intro hh
          apply hc
          apply UInt8.toNat_inj.1
          simp only [UInt8.toNat_ofNat]; omega
        have hl0 : Hid (l.length ≤ 1 ∨ l.head? ≠ some 48) := .inr (by
          rw [List.head?_eq_getElem?, List.getElem?_eq_getElem h0]
          intro hh; exact hc (by simpa using hh))
        clear hI hc hg hz
        go_enter Tryz.func121, Tryz.ntmps121
        go_wp2
        go_loop [3] (fun i => ∃ k : Nat, k ≤ l.length ∧ i = .int .i64 k ∧ Hid (∀ j (hj : j < l.length), j < k → 48 ≤ l[j].toNat ∧ l[j].toNat ≤ 57)) (fun i => l.length - (intOf i).toNat)
        case atStart => exact ⟨0, Nat.zero_le _, rfl, hide (fun j _ h => by omega)⟩
        case round =>
          clear hq
          obtain ⟨k, hk, rfl, hv⟩ := hrel
          by_cases hlt : k < l.length
          · have hlt2 : k < (B l).size := by rw [B_size]; exact hlt
            have hgk : ((B l)[k]'hlt2).toNat = (l[k]'hlt).toNat := by rw [B_get]
            by_cases h1 : ((l[k]'hlt).toNat : Int) < 48
            · go_wp2
              go_ret
              exact ⟨ret_bool (by rw [isDec_bad k hlt (by omega)]), rfl⟩
            · by_cases h2 : 57 < ((l[k]'hlt).toNat : Int)
              · go_wp2
                go_ret
                exact ⟨ret_bool (by rw [isDec_bad k hlt (by omega)]), rfl⟩
              · have h3 : 48 ≤ (l[k]'hlt).toNat ∧ (l[k]'hlt).toNat ≤ 57 := by omega
                have hv2 : Hid (∀ j (hj : j < l.length), j < k + 1 → 48 ≤ l[j].toNat ∧ l[j].toNat ≤ 57) := by
                  intro j hj hjk
                  by_cases hjk2 : j < k
                  · exact unhide hv j hj hjk2
                  · have : j = k := by omega
                    subst this; exact h3
                go_wp2
                go_round
                case rel => exact ⟨k + 1, by omega, by go_num, hv2⟩
                case measure => simp [intOf]; omega
          · have hlt2 : ¬ k < (B l).size := by rw [B_size]; exact hlt
            have fin : isDec l = true := isDec_good h0 (unhide hl0) (fun j hj => unhide hv j hj (by omega))
            have Fin := hide fin
            clear fin
            go_wp2
            go_ret
            exact ⟨ret_bool (unhide Fin).symm, rfl⟩
    · have h1I : ¬ (1 : Int) < ((B l).size : Int) := by omega
      have hl0 : Hid (l.length ≤ 1 ∨ l.head? ≠ some 48) := .inl (by omega)
      clear hI hz
      go_enter Tryz.func121, Tryz.ntmps121
      go_wp2
      go_loop [3] (fun i => ∃ k : Nat, k ≤ l.length ∧ i = .int .i64 k ∧ Hid (∀ j (hj : j < l.length), j < k → 48 ≤ l[j].toNat ∧ l[j].toNat ≤ 57)) (fun i => l.length - (intOf i).toNat)
      case atStart => exact ⟨0, Nat.zero_le _, rfl, hide (fun j _ h => by omega)⟩
      case round =>
        obtain ⟨k, hk, rfl, hv⟩ := hrel
        by_cases hlt : k < l.length
        · have hlt2 : k < (B l).size := by rw [B_size]; exact hlt
          have hgk : ((B l)[k]'hlt2).toNat = (l[k]'hlt).toNat := by rw [B_get]
          by_cases h1 : ((l[k]'hlt).toNat : Int) < 48
          · go_wp2
            go_ret
            exact ⟨ret_bool (by rw [isDec_bad k hlt (by omega)]), rfl⟩
          · by_cases h2 : 57 < ((l[k]'hlt).toNat : Int)
            · go_wp2
              go_ret
              exact ⟨ret_bool (by rw [isDec_bad k hlt (by omega)]), rfl⟩
            · have h3 : 48 ≤ (l[k]'hlt).toNat ∧ (l[k]'hlt).toNat ≤ 57 := by omega
              have hv2 : Hid (∀ j (hj : j < l.length), j < k + 1 → 48 ≤ l[j].toNat ∧ l[j].toNat ≤ 57) := by
                intro j hj hjk
                by_cases hjk2 : j < k
                · exact unhide hv j hj hjk2
                · have : j = k := by omega
                  subst this; exact h3
              go_wp2
              go_round
              case rel => exact ⟨k + 1, by omega, by go_num, hv2⟩
              case measure => simp [intOf]; omega
        · have hlt2 : ¬ k < (B l).size := by rw [B_size]; exact hlt
          have fin : isDec l = true := isDec_good h0 (unhide hl0) (fun j hj => unhide hv j hj (by omega))
          have Fin := hide fin
          clear fin
          go_wp2
          go_ret
          exact ⟨ret_bool (unhide Fin).symm, rfl⟩

/-- what a byte is as a digit -/
def digN (c : UInt8) : Nat := if 48 ≤ c.toNat ∧ c.toNat ≤ 57 then c.toNat - 48 else if 97 ≤ c.toNat ∧ c.toNat ≤ 102 then c.toNat - 87 else 99

set_option maxRecDepth 100000 in
set_option maxHeartbeats 1000000 in
theorem l2Digit_c (c : UInt8) (w : World) :
    Calls Tryz.prog 131 #[.int .u8 c.toNat] w fun e w' => e = .returned (.int .i64 (digN c : Nat)) ∧ w' = w := by
  have hc : c.toNat < 256 := c.toNat_lt
  have hd : digN c = if 48 ≤ c.toNat ∧ c.toNat ≤ 57 then c.toNat - 48 else if 97 ≤ c.toNat ∧ c.toNat ≤ 102 then c.toNat - 87 else 99 := rfl
  generalize c.toNat = n at *
  generalize digN c = d at *
  by_cases h1 : 48 ≤ n ∧ n ≤ 57
  · rw [if_pos h1] at hd
    have e : (n : Int) - 48 = (d : Int) := by omega
    obtain ⟨ha, hb⟩ := h1
    clear hd
    go_enter Tryz.func131, Tryz.ntmps131
    go_wp2
    go_ret
    exact ⟨ret_int (by omega), rfl⟩
  · rw [if_neg h1] at hd
    by_cases h2 : 97 ≤ n ∧ n ≤ 102
    · rw [if_pos h2] at hd
      obtain ⟨ha, hb⟩ := h2
      have e : (n : Int) - 97 + 10 = (d : Int) := by omega
      have hh : ¬ (n : Int) ≤ 57 := by omega
      clear hd h1
      go_enter Tryz.func131, Tryz.ntmps131
      go_wp2
      go_ret
      exact ⟨ret_int (by omega), rfl⟩
    · rw [if_neg h2] at hd
      subst hd
      by_cases h3 : 48 ≤ n
      · have h4 : ¬ (n : Int) ≤ 57 := by omega
        by_cases h5 : 97 ≤ n
        · have h6 : ¬ (n : Int) ≤ 102 := by omega
          clear h1 h2
          go_enter Tryz.func131, Tryz.ntmps131
          go_wp2
          go_ret
          exact ⟨rfl, rfl⟩
        · clear h1 h2
          go_enter Tryz.func131, Tryz.ntmps131
          go_wp2
          go_ret
          exact ⟨rfl, rfl⟩
      · clear h1 h2
        go_enter Tryz.func131, Tryz.ntmps131
        go_wp2
        go_ret
        exact ⟨rfl, rfl⟩
end Go.Proofs.YtpbnmhnbkfnaeaaGreatDoor
namespace Go.Proofs.YtpbnmhnbkfnaeaaGreatDoor
open Go.RowKit Nt

theorem run_conv_one {P : Program} {src dst e : TypeId} (hs : P.underlying src = some (.slice e)) (he : P.underlying e = some (.int .u8)) (hd : P.underlying dst = some .string) (W w1 : World) (d : Nat) (hd10 : d < 10)
    (hb : Below (W.heap.size + 1) (W.alloc (.cells #[.int .u8 (48 + (d : Int))] e)) w1) :
    (convert src dst (.slice (some ⟨W.heap.size, 0, none⟩) 1 1)).run P w1 = .ok (.string (B [sg d])) w1 := by
  have h0 := World.ownsRow_lit (base := 0) (e := e) (size := 1) W #[.int .u8 (48 + (d : Int))] 1 (Nat.zero_le _) (by decide) (by simp)
  have h1 := own_below h0 (by simpa using hb)
  have e1 : (#[Value.int .u8 (48 + (d : Int))] : Array Value).toList = [sg d].map u8v := by simp [u8v_sg hd10]
  rw [e1] at h1
  exact run_conv_bytes hs he hd h1

theorem txl_step (b : Nat) (hb : 2 ≤ b) (n : Nat) (h : b ≤ n) : txl b n = txl b (n / b) ++ [sg (n % b)] := by
  have h0 : n ≠ 0 := by omega
  have hq : n / b ≠ 0 := by
    intro hh
    rcases Nat.div_eq_zero_iff.1 hh with h1 | h1 <;> omega
  rw [txl_pos h0, dg_pos hb (by omega), txl_pos hq]; simp

theorem txl_one (b : Nat) (hb : 2 ≤ b) (n : Nat) (h : n < b) : txl b n = [sg n] := by
  by_cases h0 : n = 0
  · subst h0; simp [txl_zero, sg]
  · rw [txl_pos h0, dg_pos hb (by omega), Nat.mod_eq_of_lt h, Nat.div_eq_of_lt h, dg_zero]; simp

set_option maxRecDepth 100000 in
set_option maxHeartbeats 1000000 in
theorem l1Small_c (n : Nat) (hn : n ≤ 9223372036854775807) (w : World) :
    Calls Tryz.prog 124 #[.int .i64 n] w fun e w' => e = .returned (.string (dec n)) ∧ Below w.heap.size w w' := by
  induction n using Nat.strongRecOn generalizing w with
  | _ n ih =>
    by_cases h : n < 10
    · have hfin : B [sg n] = dec n := by rw [dec, txt, txl_one 10 (by omega) n h]
      have Fin := hide hfin
      have hconv := run_conv_one (dst := 9) Tryz.underlying22 Tryz.underlying5 Tryz.underlying9 w _ n h (Below.refl _ _)
      clear ih hfin
      go_enter Tryz.func124, Tryz.ntmps124
      go_wp2
      go_ret
      exact ⟨ret_str (unhide Fin), (Below.refl _ _).alloc (Nat.le_refl _) _⟩
    · have hlt : n / 10 < n := Nat.div_lt_self (by omega) (by omega)
      have hq := ih (n / 10) hlt (by omega)
      have hfin : dec (n / 10) ++ B [sg (n % 10)] = dec n := by
        unfold dec txt; rw [B_append, ← txl_step 10 (by omega) n (by omega)]
      have Fin := hide hfin
      have Hq := hide hq
      have hm : n % 10 < 10 := Nat.mod_lt _ (by omega)
      have hconv := fun (W : World) => run_conv_one (P := Tryz.prog) (src := 22) (dst := 9) Tryz.underlying22 Tryz.underlying5 Tryz.underlying9 W _ (n % 10) hm (Below.refl _ _)
      have hconv2 := fun (W w1 : World) => run_conv_one (P := Tryz.prog) (src := 22) (dst := 9) Tryz.underlying22 Tryz.underlying5 Tryz.underlying9 W w1 (n % 10) hm
      clear ih hfin hq
      obtain ⟨q, hqd⟩ : ∃ q : Nat, n / 10 = q := ⟨_, rfl⟩
      obtain ⟨r, hrd⟩ : ∃ r : Nat, n % 10 = r := ⟨_, rfl⟩
      rw [hrd] at hconv hconv2 hm Fin
      rw [hqd] at Fin Hq hlt
      have e1 : (n : Int) / 10 = (q : Int) := by omega
      have e2 : (n : Int).tmod 10 = (r : Int) := by rw [Int.tmod_eq_emod_of_nonneg (by omega)]; omega
      have e3 := wi64 (q : Int) (by omega) (by omega)
      have e4 := wi64 (48 + (r : Int)) (by omega) (by omega)
      have e5 := wu8 (48 + (r : Int)) (by omega) (by omega)
      have hqs : (dec q).size ≤ 19 := by
        rw [dec_len]; exact txl_len_le (by omega) (by omega) (by omega)
      have hrs : (B [sg r]).size ≤ 1 := by rw [B_size]; simp
      have hns : ¬ 9223372036854775807 < (dec q).size + (B [sg r]).size := by omega
      have hns2 : ¬ (9223372036854775807 < ((dec q).size : Int) + ((B [sg r]).size : Int)) := by omega
      clear hqd hrd
      go_enter Tryz.func124, Tryz.ntmps124
      go_wp2
      have hcv0 := hconv2 w (w.alloc (.cells #[.int .u8 (48 + (r : Int))] 5)).drew ((Below.refl _ _).drew)
      go_region_with (go_at_call 124; refine (unhide Hq _).mono ?_; rintro e w1 ⟨rfl, hb1⟩; try have hcv := hconv2 w w1 (below_of_drew (by simpa using hb1)))
      all_goals
        go_wp2
        go_ret
        refine ⟨ret_str (unhide Fin), ?_⟩
        first
          | exact (below_of_drew hb1).alloc hb1.size _
          | exact ((Below.refl _ _).alloc (Nat.le_refl _) _).trans ((below_of_drew hb1).mono (by simp))
end Go.Proofs.YtpbnmhnbkfnaeaaGreatDoor
namespace Go.Proofs.YtpbnmhnbkfnaeaaGreatDoor
open Go.RowKit Nt

/-- the text of a mark -/
def mtx (k : Nat) : List UInt8 := 109 :: txl 10 k
theorem mtx_len {k : Nat} (h : k ≤ 4611686018427387904) : (mtx k).length ≤ 20 := by
  have := txl_len_le (b := 10) (by omega) (k := 19) (n := k) (by omega) (Nat.lt_of_le_of_lt h (by decide))
  simp [mtx]; omega
def txl0 (q : Nat) : List UInt8 := if q = 0 then [] else txl 10 q
theorem txl0_step {q : Nat} (h : 0 < q) : txl0 q = txl0 (q / 10) ++ [sg (q % 10)] := by
  unfold txl0
  rw [if_neg (by omega)]
  by_cases h1 : q < 10
  · rw [if_pos (by omega), txl_one 10 (by omega) q h1, Nat.mod_eq_of_lt h1]; rfl
  · rw [if_neg (by omega), txl_step 10 (by omega) q (by omega)]

set_option maxRecDepth 100000 in
set_option maxHeartbeats 1600000 in
theorem markText_c (k : Nat) (w : World) (h0 : 0 < k) (h1 : k ≤ 4611686018427387904) :
    Calls Tryz.prog 91 #[.int .i64 k] w fun e w' => e = .returned (.string (B (mtx k))) ∧ Below w.heap.size w w' := by
  have hlen := mtx_len h1
  have hkt : txl0 k = txl 10 k := by unfold txl0; rw [if_neg (by omega)]
  have hll : (txl 10 k).length ≤ 19 := by unfold mtx at hlen; simp at hlen; omega
  have HKT := hide hkt
  clear hlen hkt
  have hk0 : ¬ (k : Int) ≤ 0 := by omega
  go_enter Tryz.func91, Tryz.ntmps91
  go_wp2
  go_loopw [0, 3] (fun kv out wr => ∃ (q : Nat) (l : List UInt8), kv = .int .i64 q ∧ q ≤ k ∧ out = .string (B l) ∧ Hid (txl0 q ++ l = txl 10 k) ∧ l.length ≤ 19 ∧ Below w.heap.size w wr)
    (fun kv _ _ => (intOf kv).toNat)
  case atStart => exact ⟨k, [], rfl, Nat.le_refl _, rfl, hide (by rw [List.append_nil]; exact unhide HKT), by simp, Below.refl _ _⟩
  case round =>
    obtain ⟨q, l, rfl, hq, rfl, htx, hl, hbl⟩ := hrel
    by_cases hz : 0 < q
    · have hm : q % 10 < 10 := Nat.mod_lt _ (by omega)
      have hfin : B [sg (q % 10)] ++ B l = B (sg (q % 10) :: l) := by rw [B_append]; rfl
      have hst : txl0 (q / 10) ++ (sg (q % 10) :: l) = txl 10 k := by
        have := unhide htx
        rw [txl0_step hz, List.append_assoc] at this
        exact this
      have hl2 : (sg (q % 10) :: l).length ≤ 19 := by
        have := congrArg List.length hst
        rw [List.length_append] at this
        omega
      have hconv := fun (W w1 : World) => run_conv_one (P := Tryz.prog) (src := 22) (dst := 9) Tryz.underlying22 Tryz.underlying5 Tryz.underlying9 W w1 (q % 10) hm
      obtain ⟨p, hp⟩ : ∃ p : Nat, q / 10 = p := ⟨_, rfl⟩
      obtain ⟨r, hr⟩ : ∃ r : Nat, q % 10 = r := ⟨_, rfl⟩
      have hpq : p < q := by omega
      rw [hr] at hconv hfin hst hl2 hm
      rw [hp] at hst
      have e1 : (q : Int) / 10 = (p : Int) := by omega
      have e2 : (q : Int).tmod 10 = (r : Int) := by rw [Int.tmod_eq_emod_of_nonneg (by omega)]; omega
      have e2' : (q : Int) % 10 = (r : Int) := by omega
      have e4 := wi64 (48 + (r : Int)) (by omega) (by omega)
      have e5 := wu8 (48 + (r : Int)) (by omega) (by omega)
      have hrs : (B [sg r]).size = 1 := by rw [B_size]; rfl
      have hls := B_size l
      have hns : ¬ (9223372036854775807 < 1 + (l.length : Int)) := by omega
      have hcv := hconv wr (wr.alloc (.cells #[.int .u8 (48 + (r : Int))] 5)) (Below.refl _ _)
      have Hst := hide hst
      have Hfin := hide hfin
      have hsz := hbl.size
      have HBL := hide (hbl.alloc hsz (.cells #[.int .u8 (48 + (r : Int))] 5))
      clear hp hr hst hfin hconv hbl
      go_wp2
      go_roundw
      case rel => exact ⟨p, sg r :: l, by go_num, by omega, by rw [unhide Hfin], Hst, hl2, unhide HBL⟩
      case measure => simp [intOf]; omega
    · have hq0 : q = 0 := by omega
      subst hq0
      have hle : l = txl 10 k := by have := unhide htx; simpa [txl0] using this
      have hls := B_size l
      have hms : (⟨#[109]⟩ : ByteArray).size = 1 := rfl
      have hns : ¬ (9223372036854775807 < 1 + (l.length : Int)) := by omega
      have HLE := hide hle
      clear hle htx
      go_wp2
      go_ret
      exact ⟨ret_str (by rw [unhide HLE, show (⟨#[109]⟩ : ByteArray) = B [109] from rfl, B_append]; rfl), hbl⟩
end Go.Proofs.YtpbnmhnbkfnaeaaGreatDoor
namespace Go.Proofs.YtpbnmhnbkfnaeaaGreatDoor
open Go.RowKit Nt

/-- what marks are laid: k, k + 1, .. -/
def mkI (k n : Nat) : List Int := (List.range' k n).map Int.ofNat
theorem mkI_len (k n : Nat) : (mkI k n).length = n := by simp [mkI]
theorem mkI_get {k n j : Nat} (h : j < n) : (mkI k n)[j]? = some ((k + j : Nat) : Int) := by
  simp [mkI, h]
def mkNd (k : Nat) (nd : Nd) : Nd := (k, mtx (k + 1), mkI (k + 2) nd.2.2.length)
def cnt (ns : List Nd) : Nat := (ns.map fun nd => 2 + nd.2.2.length).sum
def mkN : Nat → List Nd → List Nd
  | _, [] => []
  | k, nd :: r => mkNd k nd :: mkN (k + (2 + nd.2.2.length)) r
theorem cnt_nil : cnt [] = 0 := rfl
theorem cnt_snoc (a : List Nd) (nd : Nd) : cnt (a ++ [nd]) = cnt a + (2 + nd.2.2.length) := by simp [cnt]
theorem mkN_len (k : Nat) (ns : List Nd) : (mkN k ns).length = ns.length := by
  induction ns generalizing k with
  | nil => rfl
  | cons nd r ih => simp [mkN, ih]
theorem cnt_take {ns : List Nd} {j : Nat} {nd : Nd} (h : ns[j]? = some nd) : cnt (ns.take (j + 1)) = cnt (ns.take j) + (2 + nd.2.2.length) := by
  rw [List.take_add_one, h]; exact cnt_snoc _ _
theorem cnt_append (a b : List Nd) : cnt (a ++ b) = cnt a + cnt b := by simp [cnt]
theorem cnt_le (ns : List Nd) (j : Nat) : cnt (ns.take j) ≤ cnt ns := by
  have := cnt_append (ns.take j) (ns.drop j)
  rw [List.take_append_drop] at this; omega
theorem mkN_get {k j : Nat} {ns : List Nd} {nd : Nd} (h : ns[j]? = some nd) : (mkN k ns)[j]? = some (mkNd (k + cnt (ns.take j)) nd) := by
  induction ns generalizing k j with
  | nil => simp at h
  | cons x r ih =>
    cases j with
    | zero => simp at h; subst h; simp [mkN, cnt]
    | succ j =>
      simp at h
      have := ih (k := k + (2 + x.2.2.length)) h
      simp only [mkN, List.getElem?_cons_succ, List.take_succ_cons]
      rw [this]
      simp only [cnt, List.map_cons, List.sum_cons]
      congr 2
      omega
theorem mkN_append (k : Nat) (a b : List Nd) : mkN k (a ++ b) = mkN k a ++ mkN (k + cnt a) b := by
  induction a generalizing k with
  | nil => simp [mkN, cnt]
  | cons x r ih =>
    simp only [List.cons_append, mkN, ih, List.cons_append]
    congr 3
    simp only [cnt, List.map_cons, List.sum_cons]
    omega

set_option maxRecDepth 100000 in
set_option maxHeartbeats 1600000 in
theorem heldIntS_c (v : Value) (k n : Nat) (w : World) (h : IntsAt w v (mkI k n)) (hk : k + n ≤ 2305843009213693952) :
    Calls Tryz.prog 56 #[v, .int .i64 k] w fun e w' => e = .returned (.int .i64 ((k + n : Nat) : Int)) ∧ Below w.heap.size w w' := by
  obtain ⟨a, cap, rfl, h1, h2⟩ := h.form
  unfold maxLen at h2
  have H := hide h
  clear h
  rw [mkI_len] at *
  go_enter Tryz.func56, Tryz.ntmps56
  go_wp2
  go_loopw [1, 5] (fun kv i wr => ∃ j : Nat, j ≤ n ∧ i = .int .i64 j ∧ kv = .int .i64 ((k + j : Nat) : Int) ∧ Below w.heap.size w wr)
    (fun _ i _ => n - (intOf i).toNat)
  case atStart => exact ⟨0, by omega, rfl, rfl, Below.refl _ _⟩
  case round =>
    obtain ⟨j, hj, rfl, rfl, hbl⟩ := hrel
    by_cases hlt : j < n
    · have hx := mkI_get (k := k) hlt
      obtain ⟨b, off, rfl, hb, hc⟩ := ((unhide H).below hbl).cell hx
      go_wp2
      go_roundw
      case rel => exact ⟨j + 1, by omega, by go_num, by go_num, hbl⟩
      case measure => simp [intOf]; omega
    · go_wp2
      go_ret
      have : j = n := by omega
      subst this
      exact ⟨rfl, hbl⟩
end Go.Proofs.YtpbnmhnbkfnaeaaGreatDoor
namespace Go.Proofs.YtpbnmhnbkfnaeaaGreatDoor
open Go.RowKit Nt

set_option maxRecDepth 100000 in
set_option maxHeartbeats 3200000 in
theorem heldReadNodeS_c (v : Value) (k : Nat) (ns : List Nd) (w : World) (h : NodesAt w v (mkN k ns)) (h0 : 0 < k) (hk : k + cnt ns ≤ 2305843009213693952) :
    Calls Tryz.prog 55 #[v, .int .i64 k] w fun e w' => e = .returned (.int .i64 ((k + cnt ns : Nat) : Int)) ∧ Below w.heap.size w w' := by
  obtain ⟨a, cap, rfl, h1, h2⟩ := h.form0
  unfold maxLen at h2
  have H := hide h
  clear h
  rw [mkN_len] at *
  go_enter Tryz.func55, Tryz.ntmps55
  go_wp2
  go_loopw [1, 5] (fun kv i wr => ∃ (j q : Nat), j ≤ ns.length ∧ i = .int .i64 j ∧ Hid (q = k + cnt (ns.take j)) ∧ kv = .int .i64 q ∧ 0 < q ∧ q ≤ 2305843009213693952 ∧ Below w.heap.size w wr)
    (fun _ i _ => ns.length - (intOf i).toNat)
  case atStart => exact ⟨0, k, by omega, rfl, rfl, rfl, h0, by omega, Below.refl _ _⟩
  case round =>
    obtain ⟨j, q, hj, rfl, hq, rfl, hq0, hq1, hbl⟩ := hrel
    by_cases hlt : j < ns.length
    · obtain ⟨nd, hnd⟩ : ∃ nd, ns[j]? = some nd := ⟨_, List.getElem?_eq_getElem hlt⟩
      have hx := mkN_get (k := k) hnd
      have hct := cnt_take hnd
      have hcl := cnt_le ns (j + 1)
      rw [← unhide hq] at hx
      obtain ⟨b, off, rfl, hb⟩ := ((unhide H).below hbl).addr (by rw [mkN_len]; omega)
      obtain ⟨kv, c0, c1, c2, htl, hk1⟩ := ((unhide H).below hbl).node hx
      unfold mkNd at c0 c1 htl hk1
      simp only at c0 c1 htl hk1
      have hq2 : q + (2 + nd.2.2.length) = k + cnt (ns.take (j + 1)) := by have := unhide hq; omega
      have hq3 : q + (2 + nd.2.2.length) ≤ 2305843009213693952 := by omega
      have HQ2 := hide hq2
      have HK1 := hide hk1
      have hsz := hbl.size
      have HBL := hide hbl
      generalize nd.2.2.length = m at *
      clear hk1 hbl hct hcl hq2 htl hx hnd
      go_wp2
      go_region_held3 (fun w' => w'.cell? ⟨b, off + j * 3 + 1, none⟩ = some (.string (B (mtx (q + 1))))) (((try dsimp only); (first | with_reducible assumption | exact c1))) ((go_at_call 91; refine (markText_c (q + 1) wr.drew (by omega) (by omega)).mono ?_; rintro e w1 ⟨rfl, hb1⟩; have HB1 : Hid (Below wr.heap.size wr w1) := (Below.refl wr.heap.size wr).drew.trans hb1; have d0 := (unhide HB1).cell (p := ⟨b, off + j * 3, none⟩) hb; have d1 := (unhide HB1).cell (p := ⟨b, off + j * 3 + 1, none⟩) hb; have d2 := (unhide HB1).cell (p := ⟨b, off + j * 3 + 2, none⟩) hb; rw [c0] at d0; rw [c1] at d1; rw [c2] at d2; clear hb1))
      clear c0 c1 c2
      go_wp2_with fail
      have h := heldIntS_c kv (q + 2) m w1 ((unhide HK1).below (unhide HB1)) (by omega)
      rw [show ((q + 2 : Nat) : Int) = (q : Int) + 1 + 1 from by omega] at h
      refine h.mono ?_
      clear h
      rintro e w2 ⟨rfl, hb2⟩
      have hn : ¬ ((q + 2 + m : Nat) : Int) < 0 := by omega
      have HB2 := hide (((unhide HBL).trans ((unhide HB1).mono hsz)).trans (hb2.mono (Nat.le_trans hsz (unhide HB1).size)))
      clear hb2 d0 d1 d2
      go_wp2
      go_roundw
      case rel => exact ⟨j + 1, q + 2 + m, by omega, by go_num, hide (by have := unhide HQ2; omega), rfl, by omega, by omega, unhide HB2⟩
      case measure => simp [intOf]; omega
    · go_wp2
      go_ret
      have : j = ns.length := by omega
      subst this
      have hq' := unhide hq
      rw [List.take_of_length_le (Nat.le_refl _)] at hq'
      exact ⟨ret_int (by rw [hq']), hbl⟩

/-- data behind marks from k on -/
def mkD (k : Nat) (d : Dt) : Dt := (mkN k d.1, mkI (k + cnt d.1) d.2.length)
def cntD (d : Dt) : Nat := cnt d.1 + d.2.length

set_option maxRecDepth 100000 in
set_option maxHeartbeats 1600000 in
theorem heldReadData_c (v : Value) (k : Nat) (d : Dt) (w : World) (h : DataAt w v (mkD k d)) (h0 : 0 < k) (hk : k + cntD d ≤ 2305843009213693952) :
    Calls Tryz.prog 25 #[v, .int .i64 k] w fun e w' => e = .returned (.int .i64 ((k + cntD d : Nat) : Int)) ∧ Below w.heap.size w w' := by
  obtain ⟨ns, rs⟩ := d
  obtain ⟨nv, rv, rfl, hn, hr⟩ := h
  unfold mkD at hn hr
  unfold cntD at *
  simp only at hn hr hk
  have hbb := (Below.refl w.heap.size w).alloc (Nat.le_refl _) (.cells #[nv, rv] 26)
  have HN := hide (hn.below hbb)
  have HR := hide (hr.below hbb)
  have HA := hide (AtC2.new w nv rv 26)
  have HBB := hide hbb
  clear hn hr hbb
  simp only
  go_enter Tryz.func25, Tryz.ntmps25
  go_wp2_with fail
  have h := heldReadNodeS_c nv k ns _ (unhide HN) h0 (by omega)
  refine h.mono ?_
  clear h
  rintro e w1 ⟨rfl, hb1⟩
  have a0 := ((unhide HA).below hb1).n0
  have a1 := ((unhide HA).below hb1).n1
  have HB1 := hide hb1
  have hn1 : ¬ ((k + cnt ns : Nat) : Int) < 0 := by omega
  clear hb1
  go_wp2_with fail
  have h := heldIntS_c rv (k + cnt ns) rs.length w1 ((unhide HR).below (unhide HB1)) (by omega)
  rw [show ((k + cnt ns : Nat) : Int) = (k : Int) + (cnt ns : Int) from by omega] at h
  refine h.mono ?_
  clear h
  rintro e w2 ⟨rfl, hb2⟩
  have hn2 : ¬ ((k + cnt ns + rs.length : Nat) : Int) < 0 := by omega
  go_wp2
  go_ret
  have hb1' := (unhide HBB).trans ((unhide HB1).mono (unhide HBB).size)
  exact ⟨ret_int (by omega), hb1'.trans (hb2.mono hb1'.size)⟩
end Go.Proofs.YtpbnmhnbkfnaeaaGreatDoor
namespace Go.Proofs.YtpbnmhnbkfnaeaaGreatDoor
open Go.RowKit Nt

theorem grown_trans {w w' w'' : World} {row : Option Nat} (h : w.grownBy w' row) (k : w'.grownBy w'' row) : w.grownBy w'' row :=
  ⟨k.os.trans h.os, k.tape.trans h.tape, k.output.trans h.output, Nat.le_trans h.size k.size, fun i hi hne => (k.block i (Nat.lt_of_lt_of_le hi h.size) hne).trans (h.block i hi hne)⟩

theorem mkI_snoc (k j : Nat) : mkI k (j + 1) = mkI k j ++ [((k + j : Nat) : Int)] := by
  unfold mkI
  rw [List.range'_1_concat, List.map_append]; rfl
theorem upd_step {xs : List Int} {k j : Nat} (h : j < xs.length) : (mkI k j ++ xs.drop j).set j ((k + j : Nat) : Int) = mkI k (j + 1) ++ xs.drop (j + 1) := by
  rw [List.set_append_right _ _ (by rw [mkI_len]; omega), mkI_len, Nat.sub_self, mkI_snoc, List.append_assoc, List.drop_eq_getElem_cons h]
  rfl

set_option maxRecDepth 100000 in
set_option maxHeartbeats 1600000 in
theorem markIntS_c (v : Value) (xs : List Int) (k base : Nat) (w : World) (h : w.ownsRow base 3 1 v xs.length (iv xs)) (hk : k + xs.length ≤ 2305843009213693952) :
    Calls Tryz.prog 54 #[v, .int .i64 k] w fun e w' => e = .returned (.int .i64 ((k + xs.length : Nat) : Int)) ∧ w'.ownsRow base 3 1 v xs.length (iv (mkI k xs.length)) ∧ w.grownBy w' v.ownBlock := by
  rcases h.2 with ⟨rfl, hn0⟩ | ⟨g, cap, cur, rfl, hb, hg, h1, h2, h3, h4⟩
  · have hxs : xs = [] := List.length_eq_zero_iff.1 hn0
    subst hxs
    go_enter Tryz.func54, Tryz.ntmps54
    go_wp2
    go_loopw [1, 5] (fun kv i wr => i = .int .i64 0 ∧ kv = .int .i64 k ∧ wr = w) (fun _ _ _ => 0)
    case atStart => exact ⟨rfl, rfl, rfl⟩
    case round =>
      obtain ⟨rfl, rfl, rfl⟩ := hrel
      go_wp2
      go_ret
      exact ⟨ret_int (by simp), h, World.grownBy.refl _ _⟩
  · have H := hide h
    unfold maxLen at h2
    clear h hg h3 h4
    go_enter Tryz.func54, Tryz.ntmps54
    go_wp2
    go_loopw [1, 5] (fun kv i wr => ∃ j : Nat, j ≤ xs.length ∧ i = .int .i64 j ∧ kv = .int .i64 ((k + j : Nat) : Int) ∧ wr.ownsRow base 3 1 (.slice (some ⟨g, 0, none⟩) xs.length cap) xs.length (iv (mkI k j ++ xs.drop j)) ∧ w.grownBy wr (some g))
      (fun _ i _ => xs.length - (intOf i).toNat)
    case atStart => exact ⟨0, by omega, rfl, rfl, by simpa [mkI] using unhide H, World.grownBy.refl _ _⟩
    case round =>
      obtain ⟨j, hj, rfl, rfl, hown, hgr⟩ := hrel
      by_cases hlt : j < xs.length
      · obtain ⟨v0, hv0⟩ := own_cell_some hown j (by omega)
        have hfr := hown.frozenAt j
        have hst := hown.stored j (.int .i64 ((k + j : Nat) : Int))
        rw [iv_set, upd_step hlt] at hst
        have Hst := hide hst.1
        have HG := hide (grown_trans hgr hst.2)
        clear hst
        go_wp2
        go_roundw
        case rel => exact ⟨j + 1, by omega, by go_num, by go_num, by simpa using unhide Hst, by simpa using unhide HG⟩
        case measure => simp [intOf]; omega
      · go_wp2
        go_ret
        have hjn : j = xs.length := by omega
        subst hjn
        rw [List.drop_of_length_le (Nat.le_refl _), List.append_nil] at hown
        exact ⟨rfl, hown, hgr⟩
end Go.Proofs.YtpbnmhnbkfnaeaaGreatDoor
namespace Go.Proofs.YtpbnmhnbkfnaeaaGreatDoor
open Go.RowKit Nt

theorem own_set1 {w : World} {base g i n : Nat} {e : TypeId} {size : Nat} {kv : Value} {xs : List Value} {u : Value} (h : w.ownsRow base e size kv n xs) (hg : kv.ownBlock ≠ some g) :
    (w.setCell ⟨g, i, none⟩ u).ownsRow base e size kv n xs := by
  refine h.kept (row := some g) ⟨rfl, rfl, rfl, by simp, fun k _ hk => ?_⟩ (.inr hg)
  exact heap_setCell_other _ ⟨g, i, none⟩ k _ (fun e => hk (by rw [e]))
theorem some_set1 {w : World} {p a : Addr} {u : Value} (h : ∃ x, w.cell? a = some x) : ∃ x, (w.setCell p u).cell? a = some x := by
  obtain ⟨y, hy⟩ := h
  by_cases e : p = a
  · subst e; exact ⟨u, World.cell?_setCell_same _ _ _ hy⟩
  · exact ⟨y, by rw [World.cell?_setCell_other _ _ _ _ e]; exact hy⟩
theorem ne_off {g i j : Nat} (h : i ≠ j) : (⟨g, i, none⟩ : Addr) ≠ ⟨g, j, none⟩ := fun e => h (by injection e)

/-- another sort at a place -/
theorem NodesOwn.sort {w : World} {base g n : Nat} {ns : List Nd} {kvs : List Value} (h : NodesOwn w base g n ns kvs) {j : Nat} {nd : Nd} (hj : ns[j]? = some nd) (s : Int) :
    NodesOwn (w.setCell ⟨g, j * 3, none⟩ (.int .i64 s)) base g n (ns.set j (s, nd.2)) kvs := by
  obtain ⟨⟨h1, h2, h3⟩, hf, hc, hnn, ha, hgg⟩ := h
  have hjl := (List.getElem?_eq_some_iff.1 hj).1
  refine ⟨⟨h1, by simpa using h2, by simpa using h3⟩, fun i => by simpa using hf i, fun i hi => some_set1 (hc i hi), fun i nd' kv' e1 e2 => ?_, ha, hgg⟩
  have hkg := hgg kv' (List.mem_of_getElem? e2)
  rw [List.getElem?_set] at e1
  by_cases hij : j = i
  · subst hij
    rw [if_pos rfl, if_pos hjl] at e1
    injection e1 with e1
    subst e1
    obtain ⟨c0, c1, c2, hl, ho⟩ := hnn j nd kv' hj e2
    exact ⟨World.cell?_setCell_same _ _ _ c0, by rw [World.cell?_setCell_other _ _ _ _ (ne_off (by omega))]; exact c1, by rw [World.cell?_setCell_other _ _ _ _ (ne_off (by omega))]; exact c2, hl, own_set1 ho hkg⟩
  · rw [if_neg hij] at e1
    obtain ⟨c0, c1, c2, hl, ho⟩ := hnn i nd' kv' e1 e2
    exact ⟨by rw [World.cell?_setCell_other _ _ _ _ (ne_off (by omega))]; exact c0, by rw [World.cell?_setCell_other _ _ _ _ (ne_off (by omega))]; exact c1, by rw [World.cell?_setCell_other _ _ _ _ (ne_off (by omega))]; exact c2, hl, own_set1 ho hkg⟩
/-- another text at a place -/
theorem NodesOwn.text {w : World} {base g n : Nat} {ns : List Nd} {kvs : List Value} (h : NodesOwn w base g n ns kvs) {j : Nat} {nd : Nd} (hj : ns[j]? = some nd) (l : List UInt8) (hl : l.length ≤ maxLen) :
    NodesOwn (w.setCell ⟨g, j * 3 + 1, none⟩ (.string (B l))) base g n (ns.set j (nd.1, l, nd.2.2)) kvs := by
  obtain ⟨⟨h1, h2, h3⟩, hf, hc, hnn, ha, hgg⟩ := h
  have hjl := (List.getElem?_eq_some_iff.1 hj).1
  refine ⟨⟨h1, by simpa using h2, by simpa using h3⟩, fun i => by simpa using hf i, fun i hi => some_set1 (hc i hi), fun i nd' kv' e1 e2 => ?_, ha, hgg⟩
  have hkg := hgg kv' (List.mem_of_getElem? e2)
  rw [List.getElem?_set] at e1
  by_cases hij : j = i
  · subst hij
    rw [if_pos rfl, if_pos hjl] at e1
    injection e1 with e1
    subst e1
    obtain ⟨c0, c1, c2, _, ho⟩ := hnn j nd kv' hj e2
    exact ⟨by rw [World.cell?_setCell_other _ _ _ _ (ne_off (by omega))]; exact c0, World.cell?_setCell_same _ _ _ c1, by rw [World.cell?_setCell_other _ _ _ _ (ne_off (by omega))]; exact c2, hl, own_set1 ho hkg⟩
  · rw [if_neg hij] at e1
    obtain ⟨c0, c1, c2, hl', ho⟩ := hnn i nd' kv' e1 e2
    exact ⟨by rw [World.cell?_setCell_other _ _ _ _ (ne_off (by omega))]; exact c0, by rw [World.cell?_setCell_other _ _ _ _ (ne_off (by omega))]; exact c1, by rw [World.cell?_setCell_other _ _ _ _ (ne_off (by omega))]; exact c2, hl', own_set1 ho hkg⟩
/-- the kids at a place written -/
theorem NodesOwn.kids {w w' : World} {base g n : Nat} {ns : List Nd} {kvs : List Value} (h : NodesOwn w base g n ns kvs) {j : Nat} {nd : Nd} {kv : Value} (hj : ns[j]? = some nd) (hkv : kvs[j]? = some kv) (xs : List Int)
    (hgr : w.grownBy w' kv.ownBlock) (hown : w'.ownsRow base 3 1 kv xs.length (iv xs)) :
    NodesOwn w' base g n (ns.set j (nd.1, nd.2.1, xs)) kvs := by
  obtain ⟨⟨h1, h2, h3⟩, hf, hc, hnn, ha, hgg⟩ := h
  have hjl := (List.getElem?_eq_some_iff.1 hj).1
  have hg : some g ≠ kv.ownBlock := fun e => hgg kv (List.mem_of_getElem? hkv) e.symm
  have hblk := hgr.block g h2 hg
  have hcell : ∀ i, w'.cell? ⟨g, i, none⟩ = w.cell? ⟨g, i, none⟩ := fun i => World.cell?_of_block (a := ⟨g, i, none⟩) hblk
  refine ⟨⟨h1, Nat.lt_of_lt_of_le h2 hgr.size, by simpa using h3⟩, fun i => by rw [World.frozen?_of_block (a := ⟨g, i, none⟩) hblk]; exact hf i, fun i hi => by rw [hcell]; exact hc i hi, fun i nd' kv' e1 e2 => ?_, ha, hgg⟩
  rw [List.getElem?_set] at e1
  by_cases hij : j = i
  · subst hij
    rw [if_pos rfl, if_pos hjl] at e1
    injection e1 with e1
    subst e1
    rw [hkv] at e2
    injection e2 with e2
    subst e2
    obtain ⟨c0, c1, c2, hl, ho⟩ := hnn j nd kv hj hkv
    exact ⟨by rw [hcell]; exact c0, by rw [hcell]; exact c1, by rw [hcell]; exact c2, hl, hown⟩
  · rw [if_neg hij] at e1
    obtain ⟨c0, c1, c2, hl, ho⟩ := hnn i nd' kv' e1 e2
    refine ⟨by rw [hcell]; exact c0, by rw [hcell]; exact c1, by rw [hcell]; exact c2, hl, ho.kept hgr ?_⟩
    cases hb : kv'.ownBlock with
    | none => exact .inl rfl
    | some b =>
      right
      intro e
      have hjk := (List.getElem?_eq_some_iff.1 hkv)
      have hik := (List.getElem?_eq_some_iff.1 e2)
      obtain ⟨hj1, hj2⟩ := hjk
      obtain ⟨hi1, hi2⟩ := hik
      unfold Apart at ha
      rw [List.pairwise_iff_getElem] at ha
      rcases Nat.lt_or_ge j i with hlt | hge
      · have := ha j i hj1 hi1 hlt b (by rw [hj2]; exact e.symm)
        rw [hi2] at this
        exact this hb
      · have := ha i j hi1 hj1 (by omega) b (by rw [hi2]; exact hb)
        rw [hj2] at this
        exact this e.symm

theorem setset {α : Type} (l : List α) (j : Nat) (a b : α) : (l.set j a).set j b = l.set j b := by
  apply List.ext_getElem?; intro i
  simp only [List.getElem?_set, List.length_set]
  split <;> rfl
theorem set_drop {α : Type} {a b : List α} {j : Nat} {x : α} (ha : a.length = j) (hj : j < b.length) : (a ++ b.drop j).set j x = a ++ x :: b.drop (j + 1) := by
  rw [List.set_append_right _ _ (by omega), ha, Nat.sub_self, List.drop_eq_getElem_cons hj]
  rfl
end Go.Proofs.YtpbnmhnbkfnaeaaGreatDoor
namespace Go.Proofs.YtpbnmhnbkfnaeaaGreatDoor
open Go.RowKit Nt

set_option maxRecDepth 100000 in
set_option maxHeartbeats 3200000 in
theorem markReadNodeS_c (g cap base : Nat) (ns : List Nd) (kvs : List Value) (k : Nat) (w : World) (h : NodesOwn w base g ns.length ns kvs) (hcap : ns.length ≤ cap) (hm : cap ≤ maxLen) (h0 : 0 < k) (hk : k + cnt ns ≤ 2305843009213693952) :
    Calls Tryz.prog 53 #[.slice (some ⟨g, 0, none⟩) ns.length cap, .int .i64 k] w fun e w' => e = .returned (.int .i64 ((k + cnt ns : Nat) : Int)) ∧ NodesOwn w' base g ns.length (mkN k ns) kvs ∧ Kept (fun b => b = g ∨ ∃ kv ∈ kvs, kv.ownBlock = some b) w w' := by
  have H := hide h
  unfold maxLen at hm
  clear h
  go_enter Tryz.func53, Tryz.ntmps53
  go_wp2
  go_loopw [1, 5] (fun kv i wr => ∃ (j q : Nat), j ≤ ns.length ∧ i = .int .i64 j ∧ Hid (q = k + cnt (ns.take j)) ∧ kv = .int .i64 q ∧ 0 < q ∧ q ≤ 2305843009213693952 ∧ Hid (NodesOwn wr base g ns.length (mkN k (ns.take j) ++ ns.drop j) kvs) ∧ Hid (Kept (fun b => b = g ∨ ∃ kv ∈ kvs, kv.ownBlock = some b) w wr))
    (fun _ i _ => ns.length - (intOf i).toNat)
  case atStart => exact ⟨0, k, by omega, rfl, rfl, rfl, h0, by omega, H, hide (Kept.refl _ _)⟩
  case round =>
    obtain ⟨j, q, hj, rfl, hq, rfl, hq0, hq1, hno, hkp⟩ := hrel
    by_cases hlt : j < ns.length
    · obtain ⟨nd, hnd⟩ : ∃ nd, ns[j]? = some nd := ⟨_, List.getElem?_eq_getElem hlt⟩
      have hml : (mkN k (ns.take j)).length = j := by rw [mkN_len, List.length_take]; omega
      have hL : (mkN k (ns.take j) ++ ns.drop j)[j]? = some nd := by
        rw [List.getElem?_append_right (by omega), hml, Nat.sub_self, List.getElem?_drop]; simpa using hnd
      have hct := cnt_take hnd
      have hcl := cnt_le ns (j + 1)
      have hkl := (unhide hno).1.2.2
      have hll : (mkN k (ns.take j) ++ ns.drop j).length = ns.length := by rw [List.length_append, hml, List.length_drop]; omega
      obtain ⟨kv, hkv⟩ : ∃ kv, kvs[j]? = some kv := ⟨_, List.getElem?_eq_getElem (by omega)⟩
      obtain ⟨c0, c1, c2, htl, ho⟩ := (unhide hno).2.2.2.1 j nd kv hL hkv
      have hfr := (unhide hno).2.1
      have hgl := (unhide hno).1.2.1
      -- the sort
      have n1 := (unhide hno).sort hL (q : Int)
      have K1 := hide ((unhide hkp).trans (Kept.set (a := ⟨g, j * 3, none⟩) (.inl rfl) (.int .i64 (q : Int))))
      have N1 := hide n1
      have hq2 : q + (2 + nd.2.2.length) = k + cnt (ns.take (j + 1)) := by have := unhide hq; omega
      have hq3 : q + (2 + nd.2.2.length) ≤ 2305843009213693952 := by omega
      have HQ := hide (And.intro hq2 (And.intro hL (And.intro hml (And.intro hnd (And.intro hkv (unhide hq))))))
      clear n1 hct hcl hq2 hL hkl hkv hml hll hno hkp htl ho hnd hq
      go_wp2_with fail
      have h := markText_c (q + 1) (wr.setCell ⟨g, j * 3, none⟩ (.int .i64 q)) (by omega) (by omega)
      rw [show ((q + 1 : Nat) : Int) = (q : Int) + 1 from by omega] at h
      refine h.mono ?_
      clear h
      rintro e w1 ⟨rfl, hb1⟩
      -- the text
      have n1' := (unhide N1).below hb1
      have hL1 : ((mkN k (ns.take j) ++ ns.drop j).set j ((q : Int), nd.2))[j]? = some ((q : Int), nd.2) := by
        have := (unhide HQ).2.1
        rw [List.getElem?_set, if_pos rfl, if_pos ((List.getElem?_eq_some_iff.1 this).1)]
      obtain ⟨d0, d1, d2, dtl, dho⟩ := n1'.2.2.2.1 j _ kv hL1 (unhide HQ).2.2.2.2.1
      have dfr := n1'.2.1
      have dgl := n1'.1.2.1
      have n2 := n1'.text hL1 (mtx (q + 1)) (by have := mtx_len (k := q + 1) (by omega); unfold maxLen; omega)
      rw [setset] at n2
      have K2 := hide (((unhide K1).trans (Kept.of_below hb1)).trans (Kept.set (a := ⟨g, j * 3 + 1, none⟩) (.inl rfl) (.string (B (mtx (q + 1))))))
      have N2 := hide n2
      clear n1' hL1 n2 hb1 N1 K1 c0 c1 c2 hfr hgl dho dtl
      simp only at d0 d1 d2
      go_wp2_with fail
      -- the kids
      have hL2 : ((mkN k (ns.take j) ++ ns.drop j).set j ((q : Int), mtx (q + 1), nd.2.2))[j]? = some ((q : Int), mtx (q + 1), nd.2.2) := by
        have := (unhide HQ).2.1
        rw [List.getElem?_set, if_pos rfl, if_pos ((List.getElem?_eq_some_iff.1 this).1)]
      obtain ⟨_, _, _, _, ho2⟩ := (unhide N2).2.2.2.1 j _ kv hL2 (unhide HQ).2.2.2.2.1
      have h := markIntS_c kv nd.2.2 (q + 2) base _ ho2 (by omega)
      rw [show ((q + 2 : Nat) : Int) = (q : Int) + 1 + 1 from by omega] at h
      refine h.mono ?_
      clear h
      rintro e w2 ⟨rfl, hown, hgr⟩
      have n3 := (unhide N2).kids hL2 (unhide HQ).2.2.2.2.1 (mkI (q + 2) nd.2.2.length) hgr (by rw [mkI_len]; exact hown)
      have hset : ((mkN k (ns.take j) ++ ns.drop j).set j ((q : Int), mtx (q + 1), nd.2.2)).set j ((q : Int), mtx (q + 1), mkI (q + 2) nd.2.2.length) = mkN k (ns.take (j + 1)) ++ ns.drop (j + 1) := by
        have hq := (unhide HQ).2.2.2.2.2
        rw [setset, set_drop (unhide HQ).2.2.1 hlt, List.take_add_one, (unhide HQ).2.2.2.1]
        show _ = mkN k (ns.take j ++ [nd]) ++ _
        rw [mkN_append, ← hq, List.append_assoc]
        rfl
      have n4 : NodesOwn w2 base g ns.length (mkN k (ns.take (j + 1)) ++ ns.drop (j + 1)) kvs := by rw [← hset]; exact n3
      have K3 := hide ((unhide K2).trans (Kept.of_grown hgr (fun i hi => .inr ⟨kv, List.mem_of_getElem? (unhide HQ).2.2.2.2.1, hi⟩)))
      have N4 := hide n4
      have HQ2 := hide (unhide HQ).1
      clear n3 n4 hset hL2 ho2 hown hgr N2 K2 d0 d1 d2 dfr dgl HQ
      go_wp2
      go_roundw
      case rel => exact ⟨j + 1, q + 2 + nd.2.2.length, by omega, by go_num, hide (by have := unhide HQ2; omega), rfl, by omega, by omega, N4, K3⟩
      case measure => simp [intOf]; omega
    · go_wp2
      go_ret
      have : j = ns.length := by omega
      subst this
      have hq' := unhide hq
      have hn' := unhide hno
      rw [List.take_of_length_le (Nat.le_refl _)] at hq' hn'
      rw [List.drop_of_length_le (Nat.le_refl _), List.append_nil] at hn'
      exact ⟨ret_int (by rw [hq']), hn', unhide hkp⟩

set_option maxRecDepth 100000 in
set_option maxHeartbeats 800000 in
theorem markReadNodeS_nil (k : Nat) (w : World) :
    Calls Tryz.prog 53 #[.slice none 0 0, .int .i64 k] w fun e w' => e = .returned (.int .i64 k) ∧ w' = w := by
  go_enter Tryz.func53, Tryz.ntmps53
  go_wp2
  go_loopw [1, 5] (fun kv i wr => i = .int .i64 0 ∧ kv = .int .i64 k ∧ wr = w) (fun _ _ _ => 0)
  case atStart => exact ⟨rfl, rfl, rfl⟩
  case round =>
    obtain ⟨rfl, rfl, rfl⟩ := hrel
    go_wp2
    go_ret
    exact ⟨rfl, rfl⟩
end Go.Proofs.YtpbnmhnbkfnaeaaGreatDoor
namespace Go.Proofs.YtpbnmhnbkfnaeaaGreatDoor
open Go.RowKit Nt

/-- nodes stay where only a row of another block was written -/
theorem NodesOwn.row {w w' : World} {base g n : Nat} {ns : List Nd} {kvs : List Value} (h : NodesOwn w base g n ns kvs) {rv : Value} (hgr : w.grownBy w' rv.ownBlock) (hg : rv.ownBlock ≠ some g) (hk : ∀ kv ∈ kvs, ∀ i, rv.ownBlock = some i → kv.ownBlock ≠ some i) : NodesOwn w' base g n ns kvs := by
  obtain ⟨⟨h1, h2, h3⟩, hf, hc, hnn, ha, hgg⟩ := h
  have hblk := hgr.block g h2 (fun e => hg e.symm)
  have hcell : ∀ i, w'.cell? ⟨g, i, none⟩ = w.cell? ⟨g, i, none⟩ := fun i => World.cell?_of_block (a := ⟨g, i, none⟩) hblk
  refine ⟨⟨h1, Nat.lt_of_lt_of_le h2 hgr.size, h3⟩, fun i => by rw [World.frozen?_of_block (a := ⟨g, i, none⟩) hblk]; exact hf i, fun i hi => by rw [hcell]; exact hc i hi, fun i nd kv e1 e2 => ?_, ha, hgg⟩
  obtain ⟨c0, c1, c2, hl, ho⟩ := hnn i nd kv e1 e2
  refine ⟨by rw [hcell]; exact c0, by rw [hcell]; exact c1, by rw [hcell]; exact c2, hl, ho.kept hgr ?_⟩
  cases hb : kv.ownBlock with
  | none => exact .inl rfl
  | some b => exact .inr (fun e => hk kv (List.mem_of_getElem? e2) b e.symm hb)

theorem mkI_zero (k : Nat) : mkI k 0 = [] := rfl
theorem kept_alloc {S : Nat → Prop} {w w' : World} {o : Obj} (h : Kept S (w.alloc o) w') : Kept S w w' :=
  ⟨h.os, h.tape, h.output, Nat.le_trans (by simp) h.size, fun b hb ho => (h.block b (by simp; omega) ho).trans (heap_alloc_old w o hb)⟩
theorem Kept.own {S : Nat → Prop} {w w' : World} {base n size : Nat} {e : TypeId} {v : Value} {xs : List Value} (h : Kept S w w') (ho : w.ownsRow base e size v n xs) (hs : ∀ i, v.ownBlock = some i → ¬ S i) : w'.ownsRow base e size v n xs := by
  refine ⟨ho.1, ?_⟩
  rcases ho.2 with hn | ⟨g, cap, cur, rfl, hb, hg, rest⟩
  · exact .inl hn
  · refine .inr ⟨g, cap, cur, rfl, hb, ?_, rest⟩
    rw [h.block g (Array.getElem?_eq_some_iff.1 hg).1 (hs g rfl)]
    exact hg
theorem Kept.nodes {S : Nat → Prop} {w w' : World} {base g n : Nat} {ns : List Nd} {kvs : List Value} (h : Kept S w w') (hn : NodesOwn w base g n ns kvs) (hg : ¬ S g) (hk : ∀ kv ∈ kvs, ∀ i, kv.ownBlock = some i → ¬ S i) : NodesOwn w' base g n ns kvs := by
  obtain ⟨⟨h1, h2, h3⟩, hf, hc, hnn, ha, hgg⟩ := hn
  have hblk := h.block g h2 hg
  have hcell : ∀ i, w'.cell? ⟨g, i, none⟩ = w.cell? ⟨g, i, none⟩ := fun i => World.cell?_of_block (a := ⟨g, i, none⟩) hblk
  refine ⟨⟨h1, Nat.lt_of_lt_of_le h2 h.size, h3⟩, fun i => by rw [World.frozen?_of_block (a := ⟨g, i, none⟩) hblk]; exact hf i, fun i hi => by rw [hcell]; exact hc i hi, fun i nd kv e1 e2 => ?_, ha, hgg⟩
  obtain ⟨c0, c1, c2, hl, ho⟩ := hnn i nd kv e1 e2
  exact ⟨by rw [hcell]; exact c0, by rw [hcell]; exact c1, by rw [hcell]; exact c2, hl, h.own ho (hk kv (List.mem_of_getElem? e2))⟩
/-- data stay where only blocks of others were written -/
theorem Kept.data {S : Nat → Prop} {w w' : World} {base top : Nat} {v : Value} {d : Dt} (h : Kept S w w') (hd : DataOwn w base top v d) (hs : ∀ b, base ≤ b → b < top → ¬ S b) : DataOwn w' base top v d := by
  obtain ⟨nv, rv, kvs, rfl, hn, hr, hap, hnr, htop, hts⟩ := hd
  have hkb : ∀ g cap, nv = .slice (some ⟨g, 0, none⟩) d.1.length cap → NodesOwn w base g d.1.length d.1 kvs → ∀ kv ∈ kvs, ∀ i, kv.ownBlock = some i → base ≤ i := by
    intro g cap _ hno kv hkv i hi
    obtain ⟨j, hj⟩ := List.getElem?_of_mem hkv
    have hjl := (List.getElem?_eq_some_iff.1 hj).1
    have hl := hno.1.2.2
    obtain ⟨_, _, _, _, ho⟩ := hno.2.2.2.1 j (d.1[j]'(by omega)) kv (List.getElem?_eq_getElem _) hj
    exact (ho.lt i hi).1
  refine ⟨nv, rv, kvs, rfl, ?_, h.own hr (fun i hi => hs i (hr.lt i hi).1 (htop rv (.inr (.inl rfl)) i hi)), hap, hnr, htop, Nat.le_trans hts h.size⟩
  rcases hn with hn | ⟨g, cap, e, h1, h2, hno⟩
  · exact .inl hn
  · refine .inr ⟨g, cap, e, h1, h2, h.nodes hno ?_ ?_⟩
    · exact hs g hno.1.1 (htop nv (.inl rfl) g (by rw [e]; rfl))
    · intro kv hkv i hi
      exact hs i (hkb g cap e hno kv hkv i hi) (htop kv (.inr (.inr hkv)) i hi)
/-- the blocks of data -/
def dataBlocks (base top : Nat) : Nat → Prop := fun b => base ≤ b ∧ b < top

set_option maxRecDepth 100000 in
set_option maxHeartbeats 3200000 in
theorem markReadData_c (v : Value) (d : Dt) (k base top : Nat) (w : World) (h : DataOwn w base top v d) (h0 : 0 < k) (hk : k + cntD d ≤ 2305843009213693952) :
    Calls Tryz.prog 24 #[v, .int .i64 k] w fun e w' => e = .returned (.int .i64 ((k + cntD d : Nat) : Int)) ∧ DataOwn w' base top v (mkD k d) ∧ Kept (dataBlocks base top) w w' := by
  obtain ⟨ns, rs⟩ := d
  obtain ⟨nv, rv, kvs, rfl, hn, hr, hap, hnr, htop, hts⟩ := h
  unfold mkD cntD at *
  simp only at hn hr hk
  unfold Apart at hap
  rw [List.pairwise_cons] at hap
  have hbb := (Below.refl w.heap.size w).alloc (Nat.le_refl _) (.cells #[nv, rv] 26)
  have HR := hide (own_below hr hbb)
  have HA := hide (AtC2.new w nv rv 26)
  have HAP := hide hap
  have HNR := hide hnr
  have HTOP := hide htop
  rcases hn with ⟨rfl, rfl, rfl⟩ | ⟨g, cap, rfl, hc1, hc2, hno⟩
  · -- no nodes
    have hbr : ∀ i, rv.ownBlock = some i → base ≤ i ∧ i < top := fun i hi => ⟨((unhide HR).lt i hi).1, htop rv (.inr (.inl rfl)) i hi⟩
    clear hr hbb hap hnr htop
    have hk' : k + rs.length ≤ 2305843009213693952 := by simp only [cnt_nil] at hk; omega
    clear hk
    go_enter Tryz.func24, Tryz.ntmps24
    go_wp2_with fail
    have h := markReadNodeS_nil k (w.alloc (.cells #[.slice none 0 0, rv] 26))
    refine h.mono ?_
    clear h
    rintro e w1 ⟨rfl, rfl⟩
    go_wp2_with fail
    have h := markIntS_c rv rs k base _ (unhide HR) (by omega)
    refine h.mono ?_
    clear h
    rintro e w2 ⟨rfl, hown2, hgr2⟩
    go_wp2
    go_ret
    have k2 : Kept (dataBlocks base top) w w2 := kept_alloc (Kept.of_grown hgr2 (fun i hi => hbr i hi))
    refine ⟨ret_int (by simp [cnt_nil]), ⟨_, rv, [], rfl, .inl ⟨rfl, rfl, rfl⟩, ?_, ?_, unhide HNR, unhide HTOP, Nat.le_trans hts k2.size⟩, k2⟩
    · rw [mkI_len]; simpa [cnt_nil] using hown2
    · unfold Apart; rw [List.pairwise_cons]; exact unhide HAP
  · have HN := hide (hno.below hbb)
    have hgt : g < top := htop _ (.inl rfl) g rfl
    have hkt : ∀ kv ∈ kvs, ∀ i, kv.ownBlock = some i → i < top := fun kv hkv i hi => htop kv (.inr (.inr hkv)) i hi
    have hrt : ∀ i, rv.ownBlock = some i → i < top := fun i hi => htop rv (.inr (.inl rfl)) i hi
    have HRT := hide hrt
    clear hno hr hbb hap hnr htop hrt
    go_enter Tryz.func24, Tryz.ntmps24
    go_wp2_with fail
    have hbg := (unhide HN).1.1
    have hkb : ∀ kv ∈ kvs, ∀ i, kv.ownBlock = some i → base ≤ i := by
      intro kv hkv i hi
      obtain ⟨j, hj⟩ := List.getElem?_of_mem hkv
      have hjl := (List.getElem?_eq_some_iff.1 hj).1
      have hl := (unhide HN).1.2.2
      obtain ⟨_, _, _, _, ho⟩ := (unhide HN).2.2.2.1 j (ns[j]'(by omega)) kv (List.getElem?_eq_getElem _) hj
      exact (ho.lt i hi).1
    have h := markReadNodeS_c g cap base ns kvs k _ (unhide HN) hc1 hc2 h0 (by omega)
    refine h.mono ?_
    clear h
    rintro e w1 ⟨rfl, hno1, hk1⟩
    have hA1 : AtC2 w1 w.heap.size (.slice (some ⟨g, 0, none⟩) ns.length cap) rv 26 := by
      refine (hk1.block w.heap.size (by simp) ?_).trans (unhide HA)
      rintro (e | ⟨kv, hkv, e⟩)
      · omega
      · have := hkt kv hkv _ e; omega
    have a0 := hA1.n0
    have a1 := hA1.n1
    have hr1 : w1.ownsRow base 3 1 rv rs.length (iv rs) := by
      refine hk1.own (unhide HR) (fun i hi => ?_)
      rintro (e | ⟨kv, hkv, e⟩)
      · exact (unhide HNR) g rfl (by rw [hi, e])
      · exact (unhide HAP).1 kv hkv i hi e
    have hbr : ∀ i, rv.ownBlock = some i → base ≤ i := fun i hi => (hr1.lt i hi).1
    have K1 := hide hk1
    have N1 := hide hno1
    clear hk1 hno1 hA1 hkb
    go_wp2_with fail
    have h := markIntS_c rv rs (k + cnt ns) base w1 hr1 (by omega)
    rw [show ((k + cnt ns : Nat) : Int) = (k : Int) + (cnt ns : Int) from by omega] at h
    refine h.mono ?_
    clear h
    rintro e w2 ⟨rfl, hown2, hgr2⟩
    go_wp2
    go_ret
    have n2 := (unhide N1).row hgr2 (fun e => (unhide HNR) g rfl e) (fun kv hkv i hi => (unhide HAP).1 kv hkv i hi)
    have k2 : Kept (dataBlocks base top) w w2 := by
      refine (kept_alloc ((unhide K1).mono ?_)).trans (Kept.of_grown hgr2 (fun i hi => ⟨hbr i hi, (unhide HRT) i hi⟩))
      rintro b (rfl | ⟨kv, hkv, e⟩)
      · exact ⟨hbg, hgt⟩
      · obtain ⟨j, hj⟩ := List.getElem?_of_mem hkv
        have hjl := (List.getElem?_eq_some_iff.1 hj).1
        have hl := (unhide HN).1.2.2
        obtain ⟨_, _, _, _, ho⟩ := (unhide HN).2.2.2.1 j (ns[j]'(by omega)) kv (List.getElem?_eq_getElem _) hj
        exact ⟨(ho.lt b e).1, hkt kv hkv b e⟩
    refine ⟨ret_int (by omega), ⟨_, rv, kvs, rfl, .inr ⟨g, cap, by rw [mkN_len], by rw [mkN_len]; exact hc1, hc2, by rw [mkN_len]; exact n2⟩, by rw [mkI_len]; exact hown2, ?_, unhide HNR, unhide HTOP, Nat.le_trans hts k2.size⟩, k2⟩
    unfold Apart; rw [List.pairwise_cons]; exact unhide HAP
end Go.Proofs.YtpbnmhnbkfnaeaaGreatDoor
/- The law of ReadMin: what holds if both sides answer alike. -/
namespace Go.Proofs.YtpbnmhnbkfnaeaaGreatDoor
open Go.RowKit Nt

theorem DataOwn.below {w w' : World} {base top : Nat} {v : Value} {d : Dt} (h : DataOwn w base top v d) (k : Below w.heap.size w w') : DataOwn w' base top v d :=
  (Kept.of_below (S := fun _ => False) k).data h (fun _ _ _ e => e)
theorem DataAt.form {w : World} {v : Value} {d : Dt} (h : DataAt w v d) : ∃ nv rv, v = .agg #[nv, rv] := by
  obtain ⟨nv, rv, rfl, _⟩ := h; exact ⟨nv, rv, rfl⟩
theorem DataAt.slices {w : World} {nv rv : Value} {d : Dt} (h : DataAt w (.agg #[nv, rv]) d) : ∃ a n c b m c', nv = .slice a n c ∧ rv = .slice b m c' := by
  obtain ⟨nv', rv', e, h1, h2⟩ := h
  simp only [Value.agg.injEq, Array.mk.injEq, List.cons.injEq, and_true] at e
  obtain ⟨rfl, rfl⟩ := e
  obtain ⟨a, c, rfl, _⟩ := h1
  obtain ⟨b, c', rfl, _⟩ := h2
  exact ⟨_, _, _, _, _, _, rfl, rfl⟩
theorem cntD_le {d : Dt} (h1 : d.1.length ≤ 1048576) (h2 : d.2.length ≤ 1048576) (h3 : NsSmall d.1) : cntD d ≤ 1099514773504 := by
  have key : ∀ ns : List Nd, NsSmall ns → cnt ns ≤ ns.length * 1048578 := by
    intro ns
    induction ns with
    | nil => intro _; simp [cnt]
    | cons x r ih =>
      intro h
      have hx := (h x (by simp)).2
      have := ih (fun nd hm => h nd (by simp [hm]))
      simp only [cnt, List.map_cons, List.sum_cons, List.length_cons] at this ⊢
      omega
  have := key d.1 h3
  unfold cntD
  omega

end Go.Proofs.YtpbnmhnbkfnaeaaGreatDoor
/- The law of TabCmp: what holds if both sides answer alike. -/
namespace Go.Proofs.YtpbnmhnbkfnaeaaGreatDoor
open Go.RowKit Nt

set_option maxRecDepth 100000 in
set_option maxHeartbeats 1600000 in
theorem szReadDataL_c (v : Value) (d : Dt) (left : Int) (w : World) (hl : 0 ≤ left ∧ left ≤ 1048576) (h : DataAt w v d) :
    Calls Tryz.prog 21 #[v, .int .i64 left] w fun e w' => (∃ r, e = .returned (.int .i64 r) ∧ r ≤ left ∧ (0 ≤ r → d.1.length ≤ 1048576 ∧ d.2.length ≤ 1048576 ∧ NsSmall d.1)) ∧ Below w.heap.size w w' := by
  obtain ⟨ns, rs⟩ := d
  obtain ⟨nv, rv, rfl, hn, hr⟩ := h
  have hbb := (Below.refl w.heap.size w).alloc (Nat.le_refl _) (.cells #[nv, rv] 42)
  have HN := hide (hn.below hbb)
  have HR := hide (hr.below hbb)
  have HBB := hide hbb
  clear hn hr hbb
  simp only at *
  go_enter Tryz.func21, Tryz.ntmps21
  go_wp2_with fail
  have h := szReadNodeS_c nv ns left _ (unhide HN) hl
  refine h.mono ?_
  clear h
  rintro e w1 ⟨⟨r, rfl, hr1, hr2⟩, hb1⟩
  by_cases hr : r < 0
  · go_wp2
    go_ret
    exact ⟨⟨-1, rfl, by omega, by omega⟩, (unhide HBB).trans (hb1.mono (unhide HBB).size)⟩
  · have hr0 : 0 ≤ r := by omega
    have hA := (AtC2.new w nv rv 42).below hb1
    have a0 := hA.n0
    have a1 := hA.n1
    go_wp2_with fail
    have h := szIntS_c rv rs r w1 ((unhide HR).below hb1) ⟨by omega, by omega⟩
    refine h.mono ?_
    clear h
    rintro e w2 ⟨rfl, rfl⟩
    by_cases h2 : r < rs.length
    · rw [show szR r rs.length = -1 from by unfold szR; rw [if_pos h2]]
      go_wp2
      go_ret
      exact ⟨⟨-1, rfl, by omega, by omega⟩, (unhide HBB).trans (hb1.mono (unhide HBB).size)⟩
    · rw [show szR r rs.length = r - rs.length from by unfold szR; rw [if_neg h2]]
      have hn2 : ¬ r - rs.length < 0 := by omega
      go_wp2
      go_ret
      exact ⟨⟨_, rfl, by omega, fun _ => ⟨by have := (hr2 hr0).1; omega, by omega, (hr2 hr0).2⟩⟩, (unhide HBB).trans (hb1.mono (unhide HBB).size)⟩

set_option maxRecDepth 100000 in
set_option maxHeartbeats 8000000 in
theorem lawCmp_main (nv rv mv sv : Value) (d d' : Dt) (R : Int) (w : World) (hd : DataAt w (.agg #[nv, rv]) d) (he : DataAt w (.agg #[mv, sv]) d')
    (hspec : ∀ u v W, Below w.heap.size w W → DataAt W u d → DataAt W v d' → d.1.length ≤ 1048576 ∧ d.2.length ≤ 1048576 ∧ NsSmall d.1 → d'.1.length ≤ 1048576 ∧ d'.2.length ≤ 1048576 ∧ NsSmall d'.1 → Calls Tryz.prog 9 #[u, v] W fun r W' => r = .returned (.int .i64 R) ∧ Below W.heap.size W W')
    (himpl : ∀ u v W, Below w.heap.size w W → DataAt W u d → DataAt W v d' → d.1.length ≤ 1048576 ∧ d.2.length ≤ 1048576 ∧ NsSmall d.1 → d'.1.length ≤ 1048576 ∧ d'.2.length ≤ 1048576 ∧ NsSmall d'.1 → Calls Tryz.prog 8 #[u, v] W fun r W' => r = .returned (.int .i64 R) ∧ Below W.heap.size W W') :
    Calls Tryz.prog 5 #[.agg #[nv, rv], .agg #[mv, sv]] w fun e w' => e = .returned (.bool true) ∧ Below w.heap.size w w' := by
  have HD := hide hd
  have HE := hide he
  have HS := hide hspec
  have HI := hide himpl
  have HB := hide (step_a (step_a (Below.refl w.heap.size w) (.cells #[nv, rv] 42)) (.cells #[mv, sv] 42))
  have HbA := hide ((AtC2.new w nv rv 42).alloc (.cells #[mv, sv] 42))
  have HbE := hide (AtC2.new (w.alloc (.cells #[nv, rv] 42)) mv sv 42)
  rw [World.size_alloc] at HbE
  clear hd he hspec himpl
  go_enter Tryz.func5, Tryz.ntmps5
  go_wp2_with fail
  obtain ⟨W0, hW0⟩ : ∃ W0, (w.alloc (.cells #[nv, rv] 42)).alloc (.cells #[mv, sv] 42) = W0 := ⟨_, rfl⟩
  rw [hW0] at HB HbA HbE ⊢
  clear hW0
  have a0 := (unhide HbA).n0
  have a1 := (unhide HbA).n1
  go_wp2_with fail
  have h := szReadDataL_c _ d 1048576 W0 (by omega) ((unhide HD).below (unhide HB))
  refine h.mono ?_
  clear h
  rintro e w1 ⟨⟨r, rfl, hrl, hr⟩, hb⟩
  replace HB := hide (step_b (unhide HB) hb)
  replace HbA := hide ((unhide HbA).below hb)
  replace HbE := hide ((unhide HbE).below hb)
  clear hb a0 a1
  by_cases hr0 : r < 0
  · go_wp2
    go_ret
    exact ⟨rfl, unhide HB⟩
  have HSD := hide (hr (by omega))
  clear hr
  have b0 := (unhide HbE).n0
  have b1 := (unhide HbE).n1
  go_wp2_with fail
  have h := szReadDataL_c _ d' r w1 ⟨by omega, hrl⟩ ((unhide HE).below (unhide HB))
  refine h.mono ?_
  clear h
  rintro e w2 ⟨⟨q, rfl, hql, hq⟩, hb⟩
  replace HB := hide (step_b (unhide HB) hb)
  replace HbA := hide ((unhide HbA).below hb)
  replace HbE := hide ((unhide HbE).below hb)
  clear hb b0 b1
  by_cases hq0 : q < 0
  · go_wp2
    go_ret
    exact ⟨rfl, unhide HB⟩
  have HSE := hide (hq (by omega))
  clear hq hrl hql hr0
  have a0 := (unhide HbA).n0
  have a1 := (unhide HbA).n1
  have b0 := (unhide HbE).n0
  have b1 := (unhide HbE).n1
  have f0 : w2.drew.cell? ⟨w.heap.size, 0, none⟩ = some nv := a0
  have f1 : w2.drew.cell? ⟨w.heap.size, 1, none⟩ = some rv := a1
  have f2 : w2.drew.cell? ⟨w.heap.size + 1, 0, none⟩ = some mv := b0
  have f3 : w2.drew.cell? ⟨w.heap.size + 1, 1, none⟩ = some sv := b1
  go_wp2_with fail
  go_region_held3 (fun w' => w'.cell? ⟨w.heap.size, 0, none⟩ = some nv ∧ w'.cell? ⟨w.heap.size, 1, none⟩ = some rv ∧ w'.cell? ⟨w.heap.size + 1, 0, none⟩ = some mv ∧ w'.cell? ⟨w.heap.size + 1, 1, none⟩ = some sv) (((try dsimp only); (repeat' apply And.intro) <;> (with_reducible assumption))) (first | (go_at_call 9; refine (unhide HS _ _ w4 (step_b (unhide HB) (unhide HB4)) (unhide HU3) (unhide HU4) (unhide HSD) (unhide HSE)).mono ?_; rintro e w5 ⟨rfl, hb5⟩; have HB5 : Hid (Below w2.heap.size w2 w5) := step_b (unhide HB4) hb5; have y0 := ((unhide HbA).below (unhide HB5)).n0; have y1 := ((unhide HbA).below (unhide HB5)).n1; have y2 := ((unhide HbE).below (unhide HB5)).n0; have y3 := ((unhide HbE).below (unhide HB5)).n1; clear hb5) | (go_at_call 22; refine (toReadData_c _ d' w3 ((unhide HE).below (step_b (unhide HB) (unhide HB3))) (unhide HSE)).mono ?_; rintro e w4 ⟨⟨u4, rfl, hu4⟩, hb4⟩; have HB4 : Hid (Below w2.heap.size w2 w4) := step_b (unhide HB3) hb4; have HU3 := hide ((unhide HU3').below hb4); have HU4 := hide hu4.at; have z0 := ((unhide HbA).below (unhide HB4)).n0; have z1 := ((unhide HbA).below (unhide HB4)).n1; have z2 := ((unhide HbE).below (unhide HB4)).n0; have z3 := ((unhide HbE).below (unhide HB4)).n1; clear hu4 hb4) | (go_at_call 22; refine (toReadData_c _ d w2.drew ((unhide HD).below (unhide HB).drew) (unhide HSD)).mono ?_; rintro e w3 ⟨⟨u3, rfl, hu3⟩, hb3⟩; have HB3 : Hid (Below w2.heap.size w2 w3) := (Below.refl w2.heap.size w2).drew.trans hb3; have HU3' := hide hu3.at; have e0 := ((unhide HbA).below (unhide HB3)).n0; have e1 := ((unhide HbA).below (unhide HB3)).n1; have e2 := ((unhide HbE).below (unhide HB3)).n0; have e3 := ((unhide HbE).below (unhide HB3)).n1; clear hu3 hb3))
  replace HB := hide (step_b (unhide HB) (unhide HB5))
  replace HbA := hide ((unhide HbA).below (unhide HB5))
  replace HbE := hide ((unhide HbE).below (unhide HB5))
  clear a0 a1 b0 b1 f0 f1 f2 f3 e0 e1 e2 e3 y0 y1 y2 y3 z0 z1 z2 z3 HB3 HB4 HB5 HU3 HU3' HU4 HS
  -- the first copy
  have a0 := (unhide HbA).n0
  have a1 := (unhide HbA).n1
  go_wp2_with fail
  have h := toReadData_c _ d w5 ((unhide HD).below (unhide HB)) (unhide HSD)
  refine h.mono ?_
  clear h
  rintro e w6 ⟨⟨u6, rfl, hu6⟩, hb⟩
  obtain ⟨xn, xr, rfl⟩ := hu6.at.form
  obtain ⟨p0, p1, p2, p3, p4, p5, rfl, rfl⟩ := hu6.at.slices
  replace HB := hide (step_a (step_b (unhide HB) hb) (.cells #[.slice p0 p1 p2, .slice p3 p4 p5] 26))
  replace HbA := hide (((unhide HbA).below hb).alloc (.cells #[.slice p0 p1 p2, .slice p3 p4 p5] 26))
  replace HbE := hide (((unhide HbE).below hb).alloc (.cells #[.slice p0 p1 p2, .slice p3 p4 p5] 26))
  have HbX := hide (AtC2.new w6 (.slice p0 p1 p2) (.slice p3 p4 p5) 26)
  have HX := hide (hu6.at.below (step_a (Below.refl w6.heap.size w6) (.cells #[.slice p0 p1 p2, .slice p3 p4 p5] 26)))
  clear hb hu6 a0 a1
  have b0 := (unhide HbE).n0
  have b1 := (unhide HbE).n1
  -- the second copy
  go_wp2_with fail
  have h := toReadData_c _ d' (w6.alloc (.cells #[.slice p0 p1 p2, .slice p3 p4 p5] 26)) ((unhide HE).below (unhide HB)) (unhide HSE)
  refine h.mono ?_
  clear h
  rintro e w7 ⟨⟨u7, rfl, hu7⟩, hb⟩
  obtain ⟨yn, yr, rfl⟩ := hu7.at.form
  obtain ⟨q0, q1, q2, q3, q4, q5, rfl, rfl⟩ := hu7.at.slices
  replace HB := hide (step_a (step_b (unhide HB) hb) (.cells #[.slice q0 q1 q2, .slice q3 q4 q5] 26))
  replace HbA := hide (((unhide HbA).below hb).alloc (.cells #[.slice q0 q1 q2, .slice q3 q4 q5] 26))
  replace HbE := hide (((unhide HbE).below hb).alloc (.cells #[.slice q0 q1 q2, .slice q3 q4 q5] 26))
  replace HbX := hide (((unhide HbX).below hb).alloc (.cells #[.slice q0 q1 q2, .slice q3 q4 q5] 26))
  have HbY := hide (AtC2.new w7 (.slice q0 q1 q2) (.slice q3 q4 q5) 26)
  replace HX := hide (((unhide HX).below hb).below (step_a (Below.refl w7.heap.size w7) (.cells #[.slice q0 q1 q2, .slice q3 q4 q5] 26)))
  have HY := hide (hu7.at.below (step_a (Below.refl w7.heap.size w7) (.cells #[.slice q0 q1 q2, .slice q3 q4 q5] 26)))
  clear hb hu7 b0 b1
  have x0 := (unhide HbX).n0
  have x1 := (unhide HbX).n1
  have y0 := (unhide HbY).n0
  have y1 := (unhide HbY).n1
  go_wp2_with fail
  refine (unhide HI _ _ (w7.alloc (.cells #[.slice q0 q1 q2, .slice q3 q4 q5] 26)) (unhide HB) (unhide HX) (unhide HY) (unhide HSD) (unhide HSE)).mono ?_
  rintro e w8 ⟨rfl, hb⟩
  replace HB := hide (step_b (unhide HB) hb)
  replace HbA := hide ((unhide HbA).below hb)
  replace HbE := hide ((unhide HbE).below hb)
  replace HbX := hide ((unhide HbX).below hb)
  replace HbY := hide ((unhide HbY).below hb)
  replace HX := hide ((unhide HX).below hb)
  replace HY := hide ((unhide HY).below hb)
  clear hb x0 x1 y0 y1 HI
  -- what was handed in is as it was
  have x0 := (unhide HbX).n0
  have x1 := (unhide HbX).n1
  have a0 := (unhide HbA).n0
  have a1 := (unhide HbA).n1
  have x0' : w8.drew.cell? ⟨w6.heap.size, 0, none⟩ = some (.slice p0 p1 p2) := x0
  have x1' : w8.drew.cell? ⟨w6.heap.size, 1, none⟩ = some (.slice p3 p4 p5) := x1
  have a0' : w8.drew.cell? ⟨w.heap.size, 0, none⟩ = some nv := a0
  have a1' : w8.drew.cell? ⟨w.heap.size, 1, none⟩ = some rv := a1
  go_wp2_with fail
  -- w8 the world; w9 w10 what comes behind; w6 the copy's box's world; p0 p1 p2 p3 p4 p5 its slices; w.heap.size the argument's box; nv rv its cells; d the datum; then HD HSD HbA HbX HX
  go_region_held3 (fun w' => w'.cell? ⟨w6.heap.size, 0, none⟩ = some (.slice p0 p1 p2) ∧ w'.cell? ⟨w6.heap.size, 1, none⟩ = some (.slice p3 p4 p5) ∧ w'.cell? ⟨w.heap.size, 0, none⟩ = some nv ∧ w'.cell? ⟨w.heap.size, 1, none⟩ = some rv) (((try dsimp only); (repeat' apply And.intro) <;> (with_reducible assumption))) (first | (go_at_call 23; refine (eqReadData_c _ _ d w9 ((unhide HX).below (unhide HB9)) (unhide HU9)).mono ?_; rintro e w10 ⟨rfl, hb10⟩; have HB10 : Hid (Below w8.heap.size w8 w10) := step_b (unhide HB9) hb10; have s0 := ((unhide HbX).below (unhide HB10)).n0; have s1 := ((unhide HbX).below (unhide HB10)).n1; have s2 := ((unhide HbA).below (unhide HB10)).n0; have s3 := ((unhide HbA).below (unhide HB10)).n1; clear hb10) | (go_at_call 22; refine (toReadData_c _ d w8.drew ((unhide HD).below (unhide HB).drew) (unhide HSD)).mono ?_; rintro e w9 ⟨⟨u9, rfl, hu9⟩, hb9⟩; have HB9 : Hid (Below w8.heap.size w8 w9) := (Below.refl w8.heap.size w8).drew.trans hb9; have HU9 := hide hu9.at; have t0 := ((unhide HbX).below (unhide HB9)).n0; have t1 := ((unhide HbX).below (unhide HB9)).n1; have t2 := ((unhide HbA).below (unhide HB9)).n0; have t3 := ((unhide HbA).below (unhide HB9)).n1; clear hu9 hb9))
  replace HB := hide (step_b (unhide HB) (unhide HB10))
  replace HbE := hide ((unhide HbE).below (unhide HB10))
  replace HbY := hide ((unhide HbY).below (unhide HB10))
  replace HY := hide ((unhide HY).below (unhide HB10))
  clear x0 x1 a0 a1 x0' x1' a0' a1' s0 s1 s2 s3 t0 t1 t2 t3 HB9 HB10 HU9 HbA HbX HX
  have x0 := (unhide HbY).n0
  have x1 := (unhide HbY).n1
  have a0 := (unhide HbE).n0
  have a1 := (unhide HbE).n1
  have x0' : w10.drew.cell? ⟨w7.heap.size, 0, none⟩ = some (.slice q0 q1 q2) := x0
  have x1' : w10.drew.cell? ⟨w7.heap.size, 1, none⟩ = some (.slice q3 q4 q5) := x1
  have a0' : w10.drew.cell? ⟨w.heap.size + 1, 0, none⟩ = some mv := a0
  have a1' : w10.drew.cell? ⟨w.heap.size + 1, 1, none⟩ = some sv := a1
  go_wp2_with fail
  -- w10 the world; w11 w12 what comes behind; w7 the copy's box's world; q0 q1 q2 q3 q4 q5 its slices; w.heap.size + 1 the argument's box; mv sv its cells; d' the datum; then HD HSD HbA HbX HX
  go_region_held3 (fun w' => w'.cell? ⟨w7.heap.size, 0, none⟩ = some (.slice q0 q1 q2) ∧ w'.cell? ⟨w7.heap.size, 1, none⟩ = some (.slice q3 q4 q5) ∧ w'.cell? ⟨w.heap.size + 1, 0, none⟩ = some mv ∧ w'.cell? ⟨w.heap.size + 1, 1, none⟩ = some sv) (((try dsimp only); (repeat' apply And.intro) <;> (with_reducible assumption))) (first | (go_at_call 23; refine (eqReadData_c _ _ d' w11 ((unhide HY).below (unhide HB9)) (unhide HU9)).mono ?_; rintro e w12 ⟨rfl, hb10⟩; have HB10 : Hid (Below w10.heap.size w10 w12) := step_b (unhide HB9) hb10; have s0 := ((unhide HbY).below (unhide HB10)).n0; have s1 := ((unhide HbY).below (unhide HB10)).n1; have s2 := ((unhide HbE).below (unhide HB10)).n0; have s3 := ((unhide HbE).below (unhide HB10)).n1; clear hb10) | (go_at_call 22; refine (toReadData_c _ d' w10.drew ((unhide HE).below (unhide HB).drew) (unhide HSE)).mono ?_; rintro e w11 ⟨⟨u9, rfl, hu9⟩, hb9⟩; have HB9 : Hid (Below w10.heap.size w10 w11) := (Below.refl w10.heap.size w10).drew.trans hb9; have HU9 := hide hu9.at; have t0 := ((unhide HbY).below (unhide HB9)).n0; have t1 := ((unhide HbY).below (unhide HB9)).n1; have t2 := ((unhide HbE).below (unhide HB9)).n0; have t3 := ((unhide HbE).below (unhide HB9)).n1; clear hu9 hb9))
  replace HB := hide (step_b (unhide HB) (unhide HB10))
  go_wp2
  go_ret
  exact ⟨rfl, unhide HB⟩
end Go.Proofs.YtpbnmhnbkfnaeaaGreatDoor
/- Data as a caller hands them in, opened. (Of Rr; not to be imported beside it.) -/
namespace Go.Proofs.YtpbnmhnbkfnaeaaGreatDoor
open Go.ChangeShapes Go.WideShapes Go.ChangeAt Go.RowKit Go.Joins Go.Deep Nt

theorem list_of {α : Type} (Q : Nat → α → Prop) : ∀ n, (∀ i, i < n → ∃ x, Q i x) → ∃ l : List α, l.length = n ∧ ∀ j x, l[j]? = some x → Q j x
  | 0, _ => ⟨[], rfl, fun j x h => by simp at h⟩
  | n + 1, h => by
    obtain ⟨l, hl, hq⟩ := list_of Q n (fun i hi => h i (by omega))
    obtain ⟨x, hx⟩ := h n (by omega)
    refine ⟨l ++ [x], by simp [hl], fun j y hj => ?_⟩
    by_cases e : j < n
    · rw [List.getElem?_append_left (by omega)] at hj
      exact hq j y hj
    · have hjl := (List.getElem?_eq_some_iff.1 hj).1
      simp at hjl
      obtain rfl : j = n := by omega
      rw [List.getElem?_append_right (by omega)] at hj
      simp [hl] at hj
      subst hj
      exact hx

theorem addr_add2 (q i j : Nat) : (⟨q, i, none⟩ : Addr).add j = ⟨q, i + j, none⟩ := by
  by_cases h : j = 0
  · subst h; simp [Addr.add]
  · simp [Addr.add, h]
section
variable {H : Type} {enc : TypeId × Value → H} {W : World} {fuel : Nat} {v : Value} {y : DataW H × List MemPlace}
theorem ints_in (h : DataW.trod enc Tryz.prog W 0 (fun _ => true) true fuel 24 [v] = some y) : ∃ xs, IntsAt W v xs := by
  rcases open_ints Tryz.underlying24 Tryz.underlying3 (by kernel_rfl) h with ⟨hcs, _⟩ | ⟨x, l, c, zs, hcs, _, hl, hm, hz, _, hcell, _⟩
  · simp only [List.cons.injEq, and_true] at hcs
    subst hcs
    exact ⟨[], none, 0, rfl, by simp, by unfold maxLen; omega, fun h => by simp at h⟩
  · simp only [List.cons.injEq, and_true] at hcs
    subst hcs
    have hzl : zs.length = c := by simpa using hz
    have hlen : (zs.take l).length = l := by simp; omega
    refine ⟨zs.take l, some x, c, by rw [hlen], by rw [hlen]; exact hl, hm, fun h0 => ?_⟩
    obtain ⟨b, off, spot⟩ := x
    have hc := hcell 0 (by omega)
    have hspot : spot = none := by simpa [Addr.add] using World.cell?_spot hc
    subst hspot
    refine ⟨b, off, rfl, World.block_lt_of_cell? W _ hc, fun j z hj => ?_⟩
    have hjl : j < l := by have := (List.getElem?_eq_some_iff.1 hj).1; omega
    have hcj := hcell j (by omega)
    rw [List.getElem?_take, if_pos hjl] at hj
    rw [addr_add2, List.getD_eq_getElem?_getD, hj] at hcj
    exact hcj
theorem cells3 {a : Addr} {cs : List Value} (h : W.cells? 0 a 3 = some cs) : ∃ c0 c1 c2, cs = [c0, c1, c2] ∧ W.cell? (a.add 0) = some c0 ∧ W.cell? (a.add 1) = some c1 ∧ W.cell? (a.add 2) = some c2 := by
  unfold World.cells? at h
  rw [if_pos (Nat.zero_le _)] at h
  simp only [List.range_succ, List.range_zero, List.nil_append, List.cons_append, List.mapM_cons, List.mapM_nil] at h
  cases h0 : W.cell? (a.add 0) with
  | none => simp [h0] at h
  | some c0 =>
    cases h1 : W.cell? (a.add 1) with
    | none => simp [h0, h1] at h
    | some c1 =>
      cases h2 : W.cell? (a.add 2) with
      | none => simp [h0, h1, h2] at h
      | some c2 =>
        simp [h0, h1, h2] at h
        exact ⟨c0, c1, c2, h.symm, rfl, rfl, rfl⟩
theorem nodes_in (h : DataW.trod enc Tryz.prog W 0 (fun _ => true) true fuel 40 [v] = some y) : ∃ ns, NodesAt W v ns ∧ ∀ nd ∈ ns, (Lit.int .i64 nd.1).wf = true := by
  rcases DataW.trod_slice Tryz.underlying40 h with ⟨hcs, _⟩ | ⟨a, len, cap, elems, rest, n, _, hcs, _, _, hl, hm, hlen, hel, _, _⟩
  · simp only [List.cons.injEq, and_true] at hcs
    subst hcs
    exact ⟨[], ⟨none, 0, rfl, by simp, by unfold maxLen; omega, fun h => by simp at h⟩, fun nd h => by simp at h⟩
  · simp only [List.cons.injEq, and_true] at hcs
    subst hcs
    have e1 : Tryz.prog.cellsOf 117 = 3 := by kernel_rfl
    have e2 : Tryz.prog.cellsOf 3 = 1 := by kernel_rfl
    have e3 : Tryz.prog.cellsOf 9 = 1 := by kernel_rfl
    have e4 : Tryz.prog.cellsOf 24 = 1 := by kernel_rfl
    have each : ∀ i, i < len → ∃ nd : Nd, (W.cell? ((a.add (i * 3)).add 0) = some (.int .i64 nd.1) ∧ W.cell? ((a.add (i * 3)).add 1) = some (.string (B nd.2.1)) ∧ nd.2.1.length ≤ maxLen ∧ ∃ kv, W.cell? ((a.add (i * 3)).add 2) = some kv ∧ IntsAt W kv nd.2.2) ∧ (Lit.int .i64 nd.1).wf = true := by
      intro i hi
      have hE := hel i hi
      rw [e1] at hE
      obtain ⟨z, hz⟩ : ∃ z, elems[i]? = some z := ⟨_, List.getElem?_eq_getElem (by omega)⟩
      rw [hz] at hE
      simp only [Option.bind_eq_some_iff] at hE
      obtain ⟨cs, hc1, hy1⟩ := hE
      obtain ⟨c0, c1, c2, rfl, k0, k1, k2⟩ := cells3 hc1
      obtain ⟨y0, y1, y2, m, _, _, t0, t1, t2⟩ := trod_struct3 Tryz.underlying117 hy1
      simp only [e2, e3, e4, List.drop_zero, List.take_succ_cons, List.take_zero, List.drop_succ_cons] at t0 t1 t2
      obtain ⟨q, f0, _, wq⟩ := DataW.trod_int Tryz.underlying3 t0
      obtain ⟨s, f1, _, hs⟩ := DataW.trod_string Tryz.underlying9 t1
      obtain ⟨ks, hk⟩ := ints_in t2
      simp only [List.cons.injEq, and_true] at f0
      simp only [List.cons.injEq, and_true] at f1
      subst f0 f1
      exact ⟨(q, s.data.toList, ks), ⟨k0, by rw [k1]; simp [B], by rw [show s.data.toList.length = s.size from rfl]; exact hs, c2, k2, hk⟩, wq⟩
    obtain ⟨ns, hnl, hns⟩ := list_of _ len each
    subst hnl
    refine ⟨ns, ⟨some a, cap, rfl, hl, hm, fun h0 => ?_⟩, fun nd hnd => ?_⟩
    · obtain ⟨nd0, hnd0⟩ : ∃ nd, ns[0]? = some nd := ⟨_, List.getElem?_eq_getElem h0⟩
      obtain ⟨b, off, spot⟩ := a
      have hc := (hns 0 nd0 hnd0).1.1
      have hspot : spot = none := by
        have := World.cell?_spot hc
        simpa [Addr.add] using this
      subst hspot
      refine ⟨b, off, rfl, ?_, fun j nd hj => ?_⟩
      · have := World.block_lt_of_cell? W _ hc
        simpa [addr_add2] using this
      · obtain ⟨⟨k0, k1, k2, kv, k3, k4⟩, _⟩ := hns j nd hj
        simp only [addr_add2, Nat.add_zero] at k0 k1 k3
        exact ⟨k0, k1, k2, kv, k3, k4⟩
    · obtain ⟨j, hj⟩ := List.getElem?_of_mem hnd
      exact (hns j nd hj).2
end
end Go.Proofs.YtpbnmhnbkfnaeaaGreatDoor
/- A region that draws its order, by what holds whichever operations have been carried out (of Ui, Ub, Ur; not to be imported beside them). -/
namespace Go.Proofs.YtpbnmhnbkfnaeaaGreatDoor
open Go.RowKit Nt

theorem count_false {l : List Bool} {i : Nat} (h : l[i]? = some false) : (l.set i true).count false + 1 = l.count false := by
  induction l generalizing i with
  | nil => simp at h
  | cons a r ih =>
    cases i with
    | zero => simp at h; subst h; simp
    | succ i => rw [List.getElem?_cons_succ] at h; have := ih h; simp only [List.set_cons_succ, List.count_cons]; omega
def LL (l : Array Bool) (i : Nat) : Prop := l[i]? = some true
theorem LL_set {l : Array Bool} {i : Nat} (h : i < l.size) (j : Nat) : LL (l.setIfInBounds i true) j ↔ j = i ∨ LL l j := by
  unfold LL
  rw [Array.getElem?_setIfInBounds]
  by_cases e : i = j
  · subst e; rw [if_pos rfl, if_pos h]; simp
  · rw [if_neg e]; constructor
    · exact .inr
    · rintro (h | h)
      · exact absurd h.symm e
      · exact h
theorem LL_of {l : Array Bool} {k : Nat} (h : l[k]?.getD false = true) : LL l k := by
  unfold LL
  cases e : l[k]? with
  | none => rw [e] at h; simp at h
  | some b => rw [e] at h; simp at h; rw [h]
theorem wpAny_inv {P : Program} {ops : Array Oper} {Q : Exit → Act → World → Prop} {md : Region.Mode} (Inv : Array Bool → Act → World → Prop)
    (hsz : ∀ l a w, Inv l a w → l.size = ops.size) (hend : ∀ l a w, Inv l a w → (∀ i, i < ops.size → l[i]? = some true) → Q .normal a w)
    (hstep : ∀ l a w i, Inv l a w → i ∈ Region.ready md ops l → wpOp P ops Q i (fun a' w' => Inv (l.setIfInBounds i true) a' w') a w)
    (hgo : ∀ l a w, Inv l a w → Region.ready md ops l = [] → ∀ i, i < ops.size → l[i]? = some true) :
    ∀ fuel l a w, Inv l a w → l.toList.count false ≤ fuel → wpAny P md ops Q fuel l a w := by
  intro fuel
  induction fuel with
  | zero =>
    intro l a w hI hc
    have hall : ∀ i, i < ops.size → l[i]? = some true := fun i hi => by
      have h1 : l[i]? = some (l[i]'(by rw [hsz l a w hI]; exact hi)) := Array.getElem?_eq_getElem _
      cases hv : l[i]'(by rw [hsz l a w hI]; exact hi) with
      | true => rw [h1, hv]
      | false =>
        have : false ∈ l.toList := by rw [← hv]; simp
        have := List.count_pos_iff.2 this
        omega
    refine ⟨?_, hend l a w hI hall⟩
    unfold Region.ready
    rw [List.filter_eq_nil_iff]
    intro i hi
    have := hall i (by simpa using hi)
    simp [Array.getD_eq_getD_getElem?, this]
  | succ fuel ih =>
    intro l a w hI hc
    refine ⟨fun hr => hend l a w hI (hgo l a w hI hr), fun i hi => ?_⟩
    have hi2 := hi
    unfold Region.ready at hi2
    rw [List.mem_filter] at hi2
    have hlt : i < ops.size := by simpa using hi2.1
    have hlf : l[i]? = some false := by
      have h1 : l[i]? = some (l[i]'(by rw [hsz l a w hI]; exact hlt)) := Array.getElem?_eq_getElem _
      have h2 := hi2.2
      simp [Array.getD_eq_getD_getElem?, h1] at h2
      rw [h1, h2.1]
    refine wpOp_mono (fun a' w' h => ih _ a' w' h ?_) (hstep l a w i hI hi)
    have h3 := count_false (l := l.toList) (i := i) (by simpa using hlf)
    simp only [Array.toList_setIfInBounds]
    omega

theorem wpAnyIn_inv {F : Fence} {n : Nat} {P : Program} {ops : Array Oper} {Q : Exit → Act → World → Prop} {md : Region.Mode} (Inv : Array Bool → Act → World → Prop)
    (hsz : ∀ l a w, Inv l a w → l.size = ops.size) (hend : ∀ l a w, Inv l a w → (∀ i, i < ops.size → l[i]? = some true) → Q .normal a w)
    (hstep : ∀ l a w i, Inv l a w → i ∈ Region.ready md ops l → wpOpIn F n P ops Q i (fun a' w' => Inv (l.setIfInBounds i true) a' w') a w)
    (hgo : ∀ l a w, Inv l a w → Region.ready md ops l = [] → ∀ i, i < ops.size → l[i]? = some true) :
    ∀ fuel l a w, Inv l a w → l.toList.count false ≤ fuel → wpAnyIn F n P md ops Q fuel l a w := by
  intro fuel
  induction fuel with
  | zero =>
    intro l a w hI hc
    have hall : ∀ i, i < ops.size → l[i]? = some true := fun i hi => by
      have h1 : l[i]? = some (l[i]'(by rw [hsz l a w hI]; exact hi)) := Array.getElem?_eq_getElem _
      cases hv : l[i]'(by rw [hsz l a w hI]; exact hi) with
      | true => rw [h1, hv]
      | false =>
        have : false ∈ l.toList := by rw [← hv]; simp
        have := List.count_pos_iff.2 this
        omega
    refine ⟨?_, hend l a w hI hall⟩
    unfold Region.ready
    rw [List.filter_eq_nil_iff]
    intro i hi
    have := hall i (by simpa using hi)
    simp [Array.getD_eq_getD_getElem?, this]
  | succ fuel ih =>
    intro l a w hI hc
    refine ⟨fun hr => hend l a w hI (hgo l a w hI hr), fun i hi => ?_⟩
    have hi2 := hi
    unfold Region.ready at hi2
    rw [List.mem_filter] at hi2
    have hlt : i < ops.size := by simpa using hi2.1
    have hlf : l[i]? = some false := by
      have h1 : l[i]? = some (l[i]'(by rw [hsz l a w hI]; exact hlt)) := Array.getElem?_eq_getElem _
      have h2 := hi2.2
      simp [Array.getD_eq_getD_getElem?, h1] at h2
      rw [h1, h2.1]
    refine wpOpIn_mono (fun a' w' h => ih _ a' w' h ?_) (hstep l a w i hI hi)
    have h3 := count_false (l := l.toList) (i := i) (by simpa using hlf)
    simp only [Array.toList_setIfInBounds]
    omega

theorem LL_ready {md : Region.Mode} {ops : Array Oper} {l : Array Bool} (hr : Region.ready md ops l = []) (i : Nat) (hi : i < ops.size) (hs : l.size = ops.size) (h : ((ops[i]?).map (·.after.all fun e => !Region.binds md e || l.getD e.on false)).getD false = true) : l[i]? = some true := by
  apply Classical.byContradiction
  intro hne
  have hf : l[i]? = some false := by
    have e : l[i]? = some (l[i]'(by omega)) := Array.getElem?_eq_getElem _
    cases hb : l[i]'(by omega) with
    | true => rw [hb] at e; exact absurd e hne
    | false => rw [hb] at e; exact e
  apply List.not_mem_nil (a := i)
  rw [← hr]
  unfold Region.ready
  rw [List.mem_filter]
  refine ⟨by simpa using hi, ?_⟩
  rw [h]
  simp [Array.getD_eq_getD_getElem?, hf]

end Go.Proofs.YtpbnmhnbkfnaeaaGreatDoor
namespace Go.Proofs.YtpbnmhnbkfnaeaaGreatDoor
open Go.RowKit Nt

theorem Tryz.infoU64 : (Tryz.prog.info? 173).map (fun i => (i.zero, i.size, i.bytes)) = some (some (.int .u64 0), 1, 8) := by kernel_rfl

set_option maxRecDepth 100000 in
set_option maxHeartbeats 400000 in
theorem trimmed_c (xs : List Nat) (base : Nat) (v : Value) (w : World) (hs : xs.length ≤ 1000000000) (h : w.ownsRow base 173 1 v xs.length (u64s xs)) :
    Calls Tryz.prog 205 #[v] w fun e w' => (∃ v', e = .returned v' ∧ w.ownsRow base 173 1 v' (strip xs).length (u64s (strip xs)) ∧ v'.ownBlock = v.ownBlock) ∧ w' = w := by
  rcases own_shape h with ⟨rfl, hn, hx⟩ | ⟨g, cap, rfl, hnc, hbg, hgw⟩
  · have : xs = [] := List.eq_nil_of_length_eq_zero hn
    subst this
    have H := hide h
    clear h hn hx hs
    go_enter Tryz.func205, Tryz.ntmps205
    go_wp2
    refine wp_loop_rounds 1 ?_; rw [rounds_succ]
    go_wp2
    go_ret
    exact ⟨⟨_, rfl, unhide H, rfl⟩, rfl⟩
  · go_enter Tryz.func205, Tryz.ntmps205
    go_wp2
    go_loop [0] (fun v' => ∃ ys : List Nat, v' = .slice (some ⟨g, 0, none⟩) ys.length cap ∧ ys.length ≤ xs.length ∧ w.ownsRow base 173 1 (.slice (some ⟨g, 0, none⟩) ys.length cap) ys.length (u64s ys) ∧ Hid (strip ys = strip xs))
      (fun v' => match v' with | .slice _ n _ => n | _ => 0)
    case atStart => exact ⟨xs, rfl, Nat.le_refl _, h, hide rfl⟩
    case round =>
      obtain ⟨ys, rfl, hyl, hown, hst⟩ := hrel
      by_cases hy0 : 0 < ys.length
      · have hc := hown.cellAt (ys.length - 1) (by omega)
        rw [u64s_get _ _ (by omega)] at hc
        have hsp : ys = ys.take (ys.length - 1) ++ [ys[ys.length - 1]'(by omega)] := by
          rw [← List.take_succ_eq_append_getElem (by omega), show ys.length - 1 + 1 = ys.length from by omega, List.take_length]
        have htk := own_take hown (ys.length - 1) (by omega)
        generalize hd : ys[ys.length - 1]'(by omega) = d at *
        by_cases hd0 : d = 0
        · have hst2 : strip (ys.take (ys.length - 1)) = strip xs := by
            rw [← unhide hst]
            conv => rhs; rw [hsp, hd0]
            rw [strip_snoc_zero]
          have hq : ((d : Int) == 0) = true := by rw [beq_iff_eq]; omega
          have e1 : u64s (ys.take (ys.length - 1)) = (u64s ys).take (ys.length - 1) := by simp [u64s, List.map_take]
          rw [← e1] at htk
          have hl1 : (ys.take (ys.length - 1)).length = ys.length - 1 := by simp
          generalize ys.take (ys.length - 1) = zs at *
          have hzl : zs.length + 1 = ys.length := by omega
          have Htk := hide htk
          have Hst2 := hide hst2
          clear hst2 htk hsp hd0 e1 hd
          go_wp2
          go_round
          case rel => exact ⟨zs, by rw [hl1], by omega, by rw [hl1]; exact unhide Htk, Hst2⟩
          case measure => show ys.length - 1 < ys.length; omega
        · have hq : ((d : Int) == 0) = false := by rw [beq_eq_false_iff_ne]; omega
          have hfin : strip xs = ys := by rw [← unhide hst, hsp, strip_snoc_pos _ _ hd0]
          have Hfin := hide hfin
          clear hfin hsp htk hd0 hd
          go_wp2
          go_ret
          refine ⟨⟨_, rfl, ?_, rfl⟩, rfl⟩
          rw [unhide Hfin]; exact hown
      · have : ys = [] := List.eq_nil_of_length_eq_zero (by omega)
        subst this
        have H := hide hown
        go_wp2
        go_ret
        refine ⟨⟨_, rfl, ?_, rfl⟩, rfl⟩
        rw [← unhide hst]; exact unhide H

/-- the groups of a number, the lowest first -/
def gr (x : Nat) : List Nat := dg 1000000000 x
theorem gr_ofd (x : Nat) : ofd 1000000000 (gr x) = x := ofd_dg (by omega) x
theorem gr_lt (x : Nat) : ∀ d ∈ gr x, d < 1000000000 := dg_lt (by omega) x
theorem gr_zero : gr 0 = [] := dg_zero _
theorem gr_nil {x : Nat} : gr x = [] ↔ x = 0 := dg_eq_nil (by omega)
theorem gr_strip {l : List Nat} (h : ∀ d ∈ l, d < 1000000000) : strip l = gr (ofd 1000000000 l) := strip_eq_dg (by omega) h
theorem gr_len_le {x y : Nat} (h : x ≤ y) : (gr x).length ≤ (gr y).length :=
  dg_len_le (by omega) (Nat.lt_of_le_of_lt h (lt_pow_dg (by omega) y))

/-- a value that holds a number as groups -/
def isNat (w : World) (v : Value) (x : Nat) : Prop := w.ownsRow 0 173 1 v (gr x).length (u64s (gr x))

/-- .. in a block from a number on -/
def isNatB (w : World) (base : Nat) (v : Value) (x : Nat) : Prop := w.ownsRow base 173 1 v (gr x).length (u64s (gr x))
theorem isNatB.nat {w : World} {base : Nat} {v : Value} {x : Nat} (h : isNatB w base v x) : isNat w v x := own_base h (Nat.zero_le _)

theorem isNat_below {w w' : World} {v : Value} {x : Nat} (h : isNat w v x) (hb : Below w.heap.size w w') : isNat w' v x := own_below h hb

/-- a slice of groups that is trimmed, whatever they are -/
theorem trimmed_n (xs : List Nat) (base : Nat) (v : Value) (w : World) (hs : xs.length ≤ 1000000000) (hd : ∀ d ∈ xs, d < 1000000000) (h : w.ownsRow base 173 1 v xs.length (u64s xs)) :
    Calls Tryz.prog 205 #[v] w fun e w' => (∃ v', e = .returned v' ∧ isNatB w base v' (ofd 1000000000 xs)) ∧ w' = w := by
  refine (trimmed_c xs base v w hs h).mono ?_
  rintro e w' ⟨⟨v', rfl, h1, _⟩, rfl⟩
  refine ⟨⟨v', rfl, ?_⟩, rfl⟩
  unfold isNatB
  rw [← gr_strip hd]
  exact h1

set_option maxRecDepth 100000 in
set_option maxHeartbeats 400000 in
theorem isOne_c (x : Nat) (v : Value) (w : World) (h : isNat w v x) (hs : (gr x).length ≤ 1000000000) :
    Calls Tryz.prog 187 #[v] w fun e w' => e = .returned (.bool (decide (x = 1))) ∧ w' = w := by
  have g1 : gr 1 = [1] := by unfold gr; rw [dg_pos (by omega) (by omega)]; simp [dg_zero]
  have hx1 : x = 1 ↔ gr x = [1] := by
    constructor
    · intro hh; rw [hh, g1]
    · intro hh; rw [← gr_ofd x, hh]; simp [ofd]
  unfold isNat at h
  generalize gr x = xs at *
  rcases own_shape h with ⟨rfl, hn, hx⟩ | ⟨g, cap, rfl, hnc, hbg, hgw⟩
  · have hf : decide (x = 1) = false := by
      rw [decide_eq_false_iff_not, hx1]; intro hh; rw [hh] at hn; simp at hn
    rw [hf]
    clear h hn hx hs hx1 hf g1
    go_enter Tryz.func187, Tryz.ntmps187
    go_wp2
    go_ret
    exact ⟨rfl, rfl⟩
  · by_cases hl : xs.length = 1
    · have hc := h.cellAt 0 (by omega)
      rw [u64s_get _ _ (by omega)] at hc
      have hxs : xs = [xs[0]'(by omega)] := by
        match xs, hl with
        | [a], _ => rfl
      generalize xs[0]'(by omega) = a at *
      have hlI : ((xs.length : Int) == 1) = true := by rw [beq_iff_eq]; omega
      have hf : decide (x = 1) = ((a : Int) == 1) := by
        rw [Bool.eq_iff_iff, decide_eq_true_iff, hx1, hxs, beq_iff_eq]
        simp
        omega
      rw [hf]
      have h0 : 0 < xs.length := by omega
      clear hf hxs hx1 h hl g1
      go_enter Tryz.func187, Tryz.ntmps187
      go_wp2
      go_ret
      exact ⟨rfl, rfl⟩
    · have hlI : ((xs.length : Int) == 1) = false := by rw [beq_eq_false_iff_ne]; omega
      have hf : decide (x = 1) = false := by
        rw [decide_eq_false_iff_not, hx1]; intro hh; rw [hh] at hl; simp at hl
      rw [hf]
      clear hf hx1 hl g1
      go_enter Tryz.func187, Tryz.ntmps187
      go_wp2
      go_ret
      exact ⟨rfl, rfl⟩

theorem ofd_split (b : Nat) (l : List Nat) (i : Nat) (h : i < l.length) : ofd b l = ofd b (l.take i) + b ^ i * (l[i] + b * ofd b (l.drop (i + 1))) := by
  have e : l = l.take i ++ (l[i] :: l.drop (i + 1)) := by rw [← List.drop_eq_getElem_cons h, List.take_append_drop]
  conv => lhs; rw [e]
  rw [ofd_append]
  simp only [ofd, List.length_take]
  rw [Nat.min_eq_left (by omega)]

theorem less_at {l m : List Nat} {b i : Nat} (hl : i < l.length) (hm : i < m.length) (hlen : l.length = m.length) (hb : ∀ d ∈ l, d < b) (hup : ∀ t (h1 : t < l.length) (h2 : t < m.length), i < t → l[t] = m[t]) (hlt : l[i] < m[i]) :
    ofd b l < ofd b m := by
  have hdr : l.drop (i + 1) = m.drop (i + 1) := by
    apply List.ext_getElem
    · simp [hlen]
    · intro t h1 h2
      simp only [List.getElem_drop]
      exact hup _ _ _ (by omega)
  rw [ofd_split b l i hl, ofd_split b m i hm, hdr]
  have h1 := ofd_lt (b := b) (l.take i) (fun d hd => hb d (List.mem_of_mem_take hd))
  rw [List.length_take, Nat.min_eq_left (by omega)] at h1
  generalize ofd b (m.drop (i + 1)) = D
  have h2 : b ^ i * (l[i] + b * D + 1) ≤ b ^ i * (m[i] + b * D) := Nat.mul_le_mul_left _ (by omega)
  rw [Nat.mul_add] at h2
  omega

set_option maxRecDepth 100000 in
set_option maxHeartbeats 1000000 in
theorem less_c (x y : Nat) (v u : Value) (w : World) (hx : isNat w v x) (hy : isNat w u y) (hsx : (gr x).length ≤ 1000000) (_hsy : (gr y).length ≤ 1000000) :
    Calls Tryz.prog 202 #[v, u] w fun e w' => e = .returned (.bool (decide (x < y))) ∧ Below w.heap.size w w' := by
  by_cases hlen : (gr x).length = (gr y).length
  · by_cases h0 : (gr x).length = 0
    · have hx0 : x = 0 := gr_nil.1 (List.eq_nil_of_length_eq_zero h0)
      have hy0 : y = 0 := gr_nil.1 (List.eq_nil_of_length_eq_zero (by omega))
      obtain ⟨p1, c1, rfl⟩ := own_slice hx
      obtain ⟨p2, c2, rfl⟩ := own_slice hy
      rw [show decide (x < y) = false from by rw [hx0, hy0]; rfl, ← hlen, h0]
      clear hx hy hlen h0 hsx hx0 hy0
      go_enter Tryz.func202, Tryz.ntmps202
      go_wp2
      refine wp_loop_rounds 1 ?_; rw [rounds_succ]
      go_wp2
      go_ret
      exact ⟨rfl, Below.refl _ _⟩
    · obtain ⟨g, cap, rfl, hnc, _, hgw⟩ := own_some hx (by omega)
      obtain ⟨g2, cap2, rfl, hnc2, _, hgw2⟩ := own_some hy (by omega)
      have hxd := gr_lt x
      have hyd := gr_lt y
      have hxo := gr_ofd x
      have hyo := gr_ofd y
      unfold isNat at hx hy
      generalize gr x = xs at *
      generalize gr y = ys at *
      have Hxd := hide hxd
      have Hyd := hide hyd
      have Hxo := hide hxo
      have Hyo := hide hyo
      have Hlen := hide hlen
      have hneI : ((xs.length : Int) != (ys.length : Int)) = false := by rw [hlen]; simp
      have hleI : (ys.length : Int) = (xs.length : Int) := by omega
      clear hxd hyd hxo hyo
      go_enter Tryz.func202, Tryz.ntmps202
      go_wp2
      go_loopw [5] (fun i wr => ∃ k : Nat, k ≤ xs.length ∧ i = .int .i64 ((k : Int) - 1) ∧ (∃ m, wr = w.drewN m) ∧ Hid (∀ t (h1 : t < xs.length) (h2 : t < ys.length), k ≤ t → xs[t] = ys[t]))
        (fun i _ => ((intOf i) + 1).toNat)
      case atStart => exact ⟨xs.length, Nat.le_refl _, by go_num, ⟨0, rfl⟩, hide (fun t h1 _ h => by omega)⟩
      case round =>
        obtain ⟨k, hk, rfl, ⟨m, rfl⟩, hup⟩ := hrel
        cases k with
        | zero =>
          have hxy : x = y := by
            rw [← unhide Hxo, ← unhide Hyo]
            congr 1
            apply List.ext_getElem (unhide Hlen)
            intro t h1 h2
            exact unhide hup t h1 h2 (Nat.zero_le _)
          rw [show (((0 : Nat) : Int) - 1) = -1 from rfl]
          have hdf : decide (x < y) = false := by rw [hxy]; simp
          have Hdf := hide hdf
          clear hxy hdf
          go_wp2
          go_ret
          exact ⟨ret_bool (unhide Hdf).symm, below_drewN (Below.refl _ _) _⟩
        | succ k =>
          rw [show (((k + 1 : Nat) : Int) - 1) = (k : Int) from by omega]
          have hc1 := hx.cellAt k (by omega)
          have hc2 := hy.cellAt k (by omega)
          rw [u64s_get _ _ (by omega)] at hc1
          rw [u64s_get _ _ (by omega)] at hc2
          have hk2 : (k : Int) < xs.length := by omega
          obtain ⟨xk, hxk⟩ : ∃ a, xs[k]'(by omega) = a := ⟨_, rfl⟩
          obtain ⟨yk, hyk⟩ : ∃ a, ys[k]'(by omega) = a := ⟨_, rfl⟩
          rw [hxk] at hc1
          rw [hyk] at hc2
          have Hxk := hide hxk
          have Hyk := hide hyk
          have hc1' : (w.drewN m).cell? ⟨g, k, none⟩ = some (.int .u64 (xk : Int)) := hc1
          have hc2' : (w.drewN m).cell? ⟨g2, k, none⟩ = some (.int .u64 (yk : Int)) := hc2
          clear hxk hyk
          by_cases heq : xk = yk
          · have hq : ((xk : Int) != (yk : Int)) = false := by rw [heq]; simp
            have Heq := hide heq
            clear heq
            go_wp2
            go_quiet (fail)
            go_wp2
            go_roundw
            case rel =>
              refine ⟨k, by omega, rfl, ⟨m + nq, rfl⟩, ?_⟩
              intro t h1 h2 ht
              by_cases htk : t = k
              · subst htk; rw [unhide Hxk, unhide Hyk]; exact unhide Heq
              · exact unhide hup t h1 h2 (by omega)
            case measure => simp [intOf]
          · have hq : ((xk : Int) != (yk : Int)) = true := by rw [bne_iff_ne]; omega
            have Heq := hide heq
            clear heq
            go_wp2
            go_quiet (fail)
            go_wp2
            go_quiet (fail)
            go_wp2
            go_ret
            refine ⟨ret_bool ?_, below_drewN (below_drewN (below_drewN (Below.refl _ _) _) _) _⟩
            have hup' := unhide hup
            have hne := unhide Heq
            rcases Nat.lt_or_ge xk yk with h1 | h1
            · have := less_at (l := xs) (m := ys) (i := k) (by omega) (by omega) hlen (unhide Hxd) (fun t a b hh => hup' t a b (by omega)) (by rw [unhide Hxk, unhide Hyk]; exact h1)
              rw [unhide Hxo, unhide Hyo] at this
              rw [decide_eq_true this, decide_eq_true h1]
            · have := less_at (l := ys) (m := xs) (i := k) (by omega) (by omega) hlen.symm (unhide Hyd) (fun t a b hh => (hup' t b a (by omega)).symm) (by rw [unhide Hxk, unhide Hyk]; omega)
              rw [unhide Hxo, unhide Hyo] at this
              rw [decide_eq_false (show ¬ x < y by omega), decide_eq_false (show ¬ xk < yk by omega)]
  · have hf : decide (x < y) = decide ((gr x).length < (gr y).length) := by
      rw [Bool.eq_iff_iff, decide_eq_true_iff, decide_eq_true_iff]
      constructor
      · intro h; have := gr_len_le (Nat.le_of_lt h); omega
      · intro h
        rcases Nat.lt_or_ge x y with h1 | h1
        · exact h1
        · have := gr_len_le h1; omega
    rw [hf]
    unfold isNat at hx hy
    have hne : (((gr x).length : Int) != ((gr y).length : Int)) = true := by rw [bne_iff_ne]; omega
    generalize gr x = xs at *
    generalize gr y = ys at *
    obtain ⟨p1, c1, rfl⟩ := own_slice hx
    obtain ⟨p2, c2, rfl⟩ := own_slice hy
    clear hf hlen hx hy
    go_enter Tryz.func202, Tryz.ntmps202
    go_wp2
    go_ret
    exact ⟨rfl, Below.refl _ _⟩
end Go.Proofs.YtpbnmhnbkfnaeaaGreatDoor
namespace Go.Proofs.YtpbnmhnbkfnaeaaGreatDoor
open Go.RowKit Nt

theorem mulstep_fit {d f c : Nat} (hd : d < 1000000000) (hf : f < 1000000000) (hc : c < 1000000000) : c + d * f < 1000000000 * 1000000000 := by
  have : d * f ≤ 999999999 * 999999999 := Nat.mul_le_mul (by omega) (by omega)
  omega

/-- one group more of a number times a word -/
theorem tp_step {xs : List Nat} {k : Nat} (hk : k < xs.length) {f c0 c c' d X : Nat} (h : X + c * 1000000000 ^ k = ofd 1000000000 (xs.take k) * f + c0) (he : d + 1000000000 * c' = c + xs[k] * f) :
    X + 1000000000 ^ k * d + c' * 1000000000 ^ (k + 1) = ofd 1000000000 (xs.take (k + 1)) * f + c0 := by
  rw [List.take_succ_eq_append_getElem hk, ofd_snoc, List.length_take, Nat.min_eq_left (by omega), Nat.pow_succ]
  generalize 1000000000 ^ k = p at *
  have h2 := congrArg (p * ·) he
  simp only [Nat.mul_add] at h2
  rw [Nat.add_mul, Nat.mul_assoc]
  have e1 : c' * (p * 1000000000) = p * (1000000000 * c') := by rw [Nat.mul_comm c', Nat.mul_assoc]
  have e2 : c * p = p * c := Nat.mul_comm _ _
  omega


set_option maxRecDepth 100000 in
set_option maxHeartbeats 1000000 in
theorem timesPlus_c (x f c : Nat) (v : Value) (w : World) (hx : isNat w v x) (hs : (gr x).length ≤ 1000000) (hf : f < 1000000000) (hc : c < 1000000000) :
    Calls Tryz.prog 201 #[v, .int .u64 f, .int .u64 c] w fun e w' => (∃ v', e = .returned v' ∧ isNatB w' w.heap.size v' (x * f + c)) ∧ Below w.heap.size w w' := by
  obtain ⟨i0, hi, hz0, hz1, hz2⟩ := info_parts Tryz.infoU64
  have hxd := gr_lt x
  have hxo := gr_ofd x
  unfold isNat at hx
  generalize gr x = xs at *
  obtain ⟨p, cap, rfl⟩ := own_slice hx
  have Hxd := hide hxd
  have Hxo := hide hxo
  have Hx := hide hx
  clear hxd hxo
  go_enter Tryz.func201, Tryz.ntmps201
  go_wp2_with (refine wpList_make_full _ rfl (.tmp 11) (.tmp 11) 178 rfl w.heap.size 173 i0 (.int .u64 0) 1 Tryz.underlying178 hi hz0 hz1 .i64 .i64 ((xs.length + 1 : Nat) : Int) ((xs.length + 1 : Nat) : Int) (xs.length + 1) rfl rfl rfl rfl (by rw [hz2]; omega) (by unfold maxLen; omega) (Nat.le_refl _) ?_; intro w1 hown1 hg1)
  go_loopw [2, 15] (fun cy i wr => ∃ (k c' : Nat) (ys : List Nat), k ≤ xs.length ∧ cy = .int .u64 c' ∧ c' < 1000000000 ∧ i = .int .i64 k ∧ ys.length = xs.length + 1 ∧
      wr.ownsRow w.heap.size 173 1 (.slice (some ⟨w.heap.size, 0, none⟩) (xs.length + 1) (xs.length + 1)) (xs.length + 1) (u64s ys) ∧ Below w.heap.size w wr ∧
      Hid (∀ d ∈ ys, d < 1000000000) ∧ Hid (ofd 1000000000 (ys.take k) + c' * 1000000000 ^ k = ofd 1000000000 (xs.take k) * f + c))
    (fun _ i _ => xs.length - (intOf i).toNat)
  case atStart =>
    refine ⟨0, c, List.replicate (xs.length + 1) 0, Nat.zero_le _, rfl, hc, rfl, by simp, ?_, (Below.refl _ _).grown hg1 (Nat.le_refl _) (fun _ h => by cases h), ?_, ?_⟩
    · simpa [Value.cells, toList_madeCells_one, u64s_zero] using hown1
    · intro d hd; simp at hd; omega
    · show _ = _; simp [ofd]
  case round =>
    clear hown1 hg1
    obtain ⟨k, c', ys, hk, rfl, hc', rfl, hyl, hown, hb, hyd, hval⟩ := hrel
    by_cases hlt : k < xs.length
    · obtain ⟨g, cap', hv, _⟩ := own_some (unhide Hx) (by omega)
      simp only [Value.slice.injEq, true_and] at hv
      obtain ⟨rfl, rfl⟩ := hv
      have hcx := (own_below (unhide Hx) hb).cellAt k (by omega)
      rw [u64s_get _ _ hlt] at hcx
      obtain ⟨v0, hv0⟩ := own_cell_some hown k (by omega)
      have hfr := hown.frozenAt k
      have hxk : xs[k]'hlt < 1000000000 := unhide Hxd _ (List.getElem_mem _)
      have hstep := fun d c2 => @tp_step xs k hlt f c c' c2 d
      generalize xs[k]'hlt = xk at *
      have Hstep := hide hstep
      have hfit := mulstep_fit hxk hf hc'
      generalize hpp : xk * f = pp at *
      have hppI : (xk : Int) * f = pp := by rw [← hpp]; simp
      clear hstep hpp
      obtain ⟨d, hd⟩ : ∃ d : Nat, ((c' : Int) + pp) % 1000000000 = d := ⟨(c' + pp) % 1000000000, by omega⟩
      obtain ⟨c2, hc2⟩ : ∃ d : Nat, ((c' : Int) + pp) / 1000000000 = d := ⟨(c' + pp) / 1000000000, by omega⟩
      have hdl : d < 1000000000 := by omega
      have hcl : c2 < 1000000000 := by omega
      have hsum : Hid (d + 1000000000 * c2 = c' + pp) := by show _ = _; omega
      have hst := hown.stored k (.int .u64 (d : Int))
      rw [u64s_set _ _ d _ rfl] at hst
      have Hst := hide hst
      have hk2 : (k : Int) < (xs.length : Int) + 1 := by omega
      clear hst
      go_wp2
      go_roundw
      case rel =>
        refine ⟨k + 1, c2, ys.set k d, by omega, by rw [hc2], hcl, by go_num, by simpa using hyl, (unhide Hst).1, hb.setCell (by simp) _, set_all (unhide hyd) hdl, ?_⟩
        have h1 := unhide Hstep d c2 (unhide hval) (unhide hsum)
        show _ = _
        rw [← h1]
        congr 1
        rw [show (ys.set k d).take (k + 1) = ys.take k ++ [d] from by
          rw [List.take_succ_eq_append_getElem (by simp; omega), List.take_set_of_le (Nat.le_refl _), List.getElem_set_self], ofd_snoc, List.length_take, Nat.min_eq_left (by omega)]
      case measure => simp [intOf]; omega
    · have hkl : k = xs.length := by omega
      subst hkl
      obtain ⟨v0, hv0⟩ := own_cell_some hown xs.length (by omega)
      have hfr := hown.frozenAt xs.length
      have hst := hown.stored xs.length (.int .u64 (c' : Int))
      rw [u64s_set _ _ c' _ rfl] at hst
      have hbX := hb.setCell (p := ⟨w.heap.size, xs.length, none⟩) (by simp) (.int .u64 (c' : Int))
      have hk2 : (xs.length : Int) < (xs.length : Int) + 1 := by omega
      have hfin : ofd 1000000000 (ys.set xs.length c') = x * f + c := by
        have h1 := unhide hval
        rw [List.take_length, unhide Hxo] at h1
        rw [← h1, show ys.set xs.length c' = ys.take xs.length ++ [c'] from by
          conv => lhs; rw [← List.take_length (l := ys.set xs.length c')]
          rw [List.length_set, hyl, List.take_succ_eq_append_getElem (by simp; omega), List.take_set_of_le (Nat.le_refl _), List.getElem_set_self], ofd_snoc, List.length_take, Nat.min_eq_left (by omega), Nat.mul_comm]
      have hall := set_all (j := xs.length) (v := c') (unhide hyd) hc'
      have hyl2 : (ys.set xs.length c').length = xs.length + 1 := by simpa using hyl
      generalize ys.set xs.length c' = zs at *
      have Hst := hide hst
      have Hfin := hide hfin
      have Hall := hide hall
      clear hst hfin hall
      go_wp2_with fail
      refine (trimmed_n zs w.heap.size _ _ (by omega) (unhide Hall) (by rw [hyl2]; exact (unhide Hst).1)).mono ?_
      rintro e w2 ⟨⟨v', rfl, hv'⟩, rfl⟩
      rw [unhide Hfin] at hv'
      go_wp2
      go_ret
      exact ⟨⟨v', rfl, hv'⟩, hbX⟩

/-- one group of a number divided by a word -/
theorem ow_step {xs : List Nat} {k : Nat} (hk : k < xs.length) {by_ r X q r' : Nat} (h : ofd 1000000000 (xs.drop (k + 1)) = by_ * X + r) (he : r * 1000000000 + xs[k] = by_ * q + r') :
    ofd 1000000000 (xs.drop k) = by_ * (q + 1000000000 * X) + r' := by
  rw [List.drop_eq_getElem_cons hk]
  simp only [ofd]
  rw [h, Nat.mul_add, Nat.mul_add, ← Nat.mul_assoc, Nat.mul_comm 1000000000 by_, Nat.mul_assoc]
  rw [Nat.mul_comm r] at he
  have e : by_ * (1000000000 * X) = 1000000000 * (by_ * X) := by rw [Nat.mul_left_comm]
  omega

theorem ow_end {x b q r : Nat} (h : x = b * q + r) (hr : r < b) : x / b = q ∧ x % b = r := by
  have hb : 0 < b := by omega
  subst h
  rw [Nat.mul_add_div hb, Nat.mul_add_mod, Nat.div_eq_of_lt hr, Nat.mod_eq_of_lt hr]
  exact ⟨by omega, rfl⟩

set_option maxRecDepth 100000 in
set_option maxHeartbeats 1000000 in
theorem overWordB_c (x b : Nat) (v : Value) (w : World) (hx : isNat w v x) (hs : (gr x).length ≤ 1000000) (hb0 : 0 < b) (hb9 : b < 1000000000) :
    Calls Tryz.prog 206 #[v, .int .u64 b] w fun e w' => (∃ v', e = .returned (.tuple #[v', .int .u64 ((x % b : Nat) : Int)]) ∧ isNatB w' w.heap.size v' (x / b)) ∧ Below w.heap.size w w' := by
  obtain ⟨i0, hi, hz0, hz1, hz2⟩ := info_parts Tryz.infoU64
  have hxd := gr_lt x
  have hxo := gr_ofd x
  unfold isNat at hx
  generalize gr x = xs at *
  obtain ⟨p, cap, rfl⟩ := own_slice hx
  have Hxd := hide hxd
  have Hxo := hide hxo
  have Hx := hide hx
  clear hxd hxo
  go_enter Tryz.func206, Tryz.ntmps206
  go_wp2_with (refine wpList_make_full _ rfl (.tmp 10) (.tmp 10) 178 rfl w.heap.size 173 i0 (.int .u64 0) 1 Tryz.underlying178 hi hz0 hz1 .i64 .i64 xs.length xs.length xs.length rfl rfl rfl rfl (by rw [hz2]; omega) (by unfold maxLen; omega) (Nat.le_refl _) ?_; intro w1 hown1 hg1)
  go_loopw [7, 8] (fun lf i wr => ∃ (k r : Nat) (ys : List Nat), k ≤ xs.length ∧ lf = .int .u64 r ∧ r < b ∧ i = .int .i64 ((k : Int) - 1) ∧ ys.length = xs.length ∧
      wr.ownsRow w.heap.size 173 1 (.slice (some ⟨w.heap.size, 0, none⟩) xs.length xs.length) xs.length (u64s ys) ∧ Below w.heap.size w wr ∧
      Hid (∀ d ∈ ys, d < 1000000000) ∧ Hid (ofd 1000000000 (xs.drop k) = b * ofd 1000000000 (ys.drop k) + r))
    (fun _ i _ => ((intOf i) + 1).toNat)
  case atStart =>
    refine ⟨xs.length, 0, List.replicate xs.length 0, Nat.le_refl _, rfl, hb0, by go_num, by simp, ?_, (Below.refl _ _).grown hg1 (Nat.le_refl _) (fun _ h => by cases h), ?_, ?_⟩
    · simpa [Value.cells, toList_madeCells_one, u64s_zero] using hown1
    · intro d hd; simp at hd; omega
    · show _ = _; simp [ofd]
  case round =>
    clear hown1 hg1
    obtain ⟨k, r, ys, hk, rfl, hr, rfl, hyl, hown, hb, hyd, hval⟩ := hrel
    cases k with
    | succ k =>
      rw [show (((k + 1 : Nat) : Int) - 1) = (k : Int) from by omega]
      have hlt : k < xs.length := by omega
      obtain ⟨g, cap', hv, _⟩ := own_some (unhide Hx) (by omega)
      simp only [Value.slice.injEq, true_and] at hv
      obtain ⟨rfl, rfl⟩ := hv
      have hcx := (own_below (unhide Hx) hb).cellAt k (by omega)
      rw [u64s_get _ _ hlt] at hcx
      obtain ⟨v0, hv0⟩ := own_cell_some hown k (by omega)
      have hfr := hown.frozenAt k
      have hxk : xs[k]'hlt < 1000000000 := unhide Hxd _ (List.getElem_mem _)
      have hstep := fun q r' => @ow_step xs k hlt b r (ofd 1000000000 (ys.drop (k + 1))) q r' (unhide hval)
      generalize xs[k]'hlt = xk at *
      have Hstep := hide hstep
      clear hstep
      have hS : r * 1000000000 + xk < b * 1000000000 := by
        have : (r + 1) * 1000000000 ≤ b * 1000000000 := Nat.mul_le_mul_right _ hr
        omega
      have hq9 : (r * 1000000000 + xk) / b < 1000000000 := by
        rw [Nat.div_lt_iff_lt_mul hb0]; omega
      have hrb : (r * 1000000000 + xk) % b < b := Nat.mod_lt _ hb0
      have hdm := Nat.div_add_mod (r * 1000000000 + xk) b
      have hSI : ((r * 1000000000 + xk : Nat) : Int) = (r : Int) * 1000000000 + xk := by simp
      have hqI : ((r : Int) * 1000000000 + xk) / (b : Int) = (((r * 1000000000 + xk) / b : Nat) : Int) := by rw [← hSI]; rfl
      have hrI : ((r : Int) * 1000000000 + xk) % (b : Int) = (((r * 1000000000 + xk) % b : Nat) : Int) := by rw [← hSI]; rfl
      generalize hq : (r * 1000000000 + xk) / b = q at *
      generalize hr' : (r * 1000000000 + xk) % b = r' at *
      have Hdm := hide hdm
      have hst := hown.stored k (.int .u64 (q : Int))
      rw [u64s_set _ _ q _ rfl] at hst
      have Hst := hide hst
      have hkI : (k : Int) < xs.length := by omega
      have hbI : (0 : Int) < b := by omega
      clear hst hdm hSI hq hr'
      go_wp2
      go_roundw
      case rel =>
        refine ⟨k, r', ys.set k q, by omega, by rw [hrI], hrb, rfl, by simpa using hyl, (unhide Hst).1, hb.setCell (by simp) _, set_all (unhide hyd) hq9, ?_⟩
        show _ = _
        rw [unhide Hstep q r' (unhide Hdm).symm, List.drop_eq_getElem_cons (l := ys.set k q) (by simp; omega), List.getElem_set_self, List.drop_set_of_lt (by omega)]
        simp only [ofd]
      case measure => simp [intOf]
    | zero =>
      rw [show (((0 : Nat) : Int) - 1) = -1 from rfl]
      have hfin := ow_end (x := x) (b := b) (q := ofd 1000000000 ys) (r := r) (by rw [← unhide Hxo]; have := unhide hval; simpa using this) hr
      have Hfin := hide hfin
      clear hfin
      go_wp2_with fail
      refine (trimmed_n ys w.heap.size _ _ (by omega) (unhide hyd) (by rw [hyl]; exact hown)).mono ?_
      rintro e w2 ⟨⟨v', rfl, hv'⟩, rfl⟩
      rw [← (unhide Hfin).1] at hv'
      go_wp2
      go_ret2
      refine ⟨⟨v', ?_, hv'⟩, hb⟩
      rw [(unhide Hfin).2]; rfl

theorem overWord_c (x b : Nat) (v : Value) (w : World) (hx : isNat w v x) (hs : (gr x).length ≤ 1000000) (hb0 : 0 < b) (hb9 : b < 1000000000) :
    Calls Tryz.prog 206 #[v, .int .u64 b] w fun e w' => (∃ v', e = .returned (.tuple #[v', .int .u64 ((x % b : Nat) : Int)]) ∧ isNat w' v' (x / b)) ∧ Below w.heap.size w w' := by
  refine (overWordB_c x b v w hx hs hb0 hb9).mono ?_
  rintro e w' ⟨⟨v', h1, h2⟩, h3⟩
  exact ⟨⟨v', h1, h2.nat⟩, h3⟩
end Go.Proofs.YtpbnmhnbkfnaeaaGreatDoor
/- Plain arithmetic of sums, differences and products in groups: no program is named here. -/
namespace Go.Proofs.YtpbnmhnbkfnaeaaGreatDoor.Nt

theorem take_step (b : Nat) (l : List Nat) (k : Nat) : ofd b (l.take (k + 1)) = ofd b (l.take k) + b ^ k * l.getD k 0 := by
  by_cases h : k < l.length
  · rw [List.take_succ_eq_append_getElem h, ofd_snoc, List.length_take, Nat.min_eq_left (by omega), List.getD_eq_getElem?_getD, List.getElem?_eq_getElem h]; rfl
  · rw [List.take_of_length_le (by omega), List.take_of_length_le (by omega), List.getD_eq_getElem?_getD, List.getElem?_eq_none (by omega)]; simp

theorem set_take {L : List Nat} {k d : Nat} (h : k < L.length) : (L.set k d).take (k + 1) = L.take k ++ [d] := by
  rw [List.take_succ_eq_append_getElem (by simpa using h), List.take_set_of_le (Nat.le_refl k)]; simp

theorem minus_step {b : Nat} {L xs ys : List Nat} {k c c' d : Nat} (h : ofd b (L.take k) + ofd b (ys.take k) = ofd b (xs.take k) + c * b ^ k) (hk : k < L.length) (he : d + (c + ys.getD k 0) = xs.getD k 0 + c' * b) :
    ofd b ((L.set k d).take (k + 1)) + ofd b (ys.take (k + 1)) = ofd b (xs.take (k + 1)) + c' * b ^ (k + 1) := by
  rw [set_take hk, ofd_snoc, take_step, take_step, List.length_take, Nat.min_eq_left (by omega), Nat.pow_succ]
  generalize ys.getD k 0 = yk at *
  generalize xs.getD k 0 = xk at *
  generalize b ^ k = p at *
  have e := congrArg (p * ·) he
  simp only [Nat.mul_add] at e
  rw [Nat.mul_comm c p] at h
  rw [show c' * (p * b) = p * (c' * b) from by rw [Nat.mul_left_comm]]
  omega

theorem minus_end {b : Nat} {L xs ys : List Nat} {c : Nat} (hl : L.length = xs.length) (hly : ys.length ≤ xs.length) (hd : ∀ d ∈ L, d < b) (h : ofd b (L.take xs.length) + ofd b (ys.take xs.length) = ofd b (xs.take xs.length) + c * b ^ xs.length)
    (hle : ofd b ys ≤ ofd b xs) : ofd b L = ofd b xs - ofd b ys := by
  rw [List.take_of_length_le (by omega), List.take_of_length_le hly, List.take_of_length_le (by omega)] at h
  have hL := ofd_lt L hd
  rw [hl] at hL
  have : c = 0 := by
    rcases Nat.eq_zero_or_pos c with h0 | h0
    · exact h0
    · have := Nat.mul_le_mul_right (b ^ xs.length) h0
      omega
  subst this; omega

/-- one group of a sum is laid: what is at k and what is carried to k + 1 -/
theorem plus_step {b : Nat} {L : List Nat} {ys : List Nat} {k a x : Nat} {V : Nat} (hk : k + 1 < L.length) (ha : L[k] + ys.getD k 0 = a) (hx : L[k + 1] = x) (h : ofd b L + b ^ k * ofd b (ys.drop k) = V) :
    ofd b (((L.set k a).set (k + 1) (x + a / b)).set k (a % b)) + b ^ (k + 1) * ofd b (ys.drop (k + 1)) = V := by
  have h1 := ofd_set b L k a (by omega)
  have h2 := ofd_set b (L.set k a) (k + 1) (x + a / b) (by simpa using hk)
  have h3 := ofd_set b ((L.set k a).set (k + 1) (x + a / b)) k (a % b) (by simp; omega)
  have e2 : (L.set k a)[k + 1]'(by simpa using hk) = x := by rw [List.getElem_set_ne (by omega)]; exact hx
  have e3 : ((L.set k a).set (k + 1) (x + a / b))[k]'(by simp; omega) = a := by rw [List.getElem_set_ne (by omega)]; simp
  rw [e2] at h2
  rw [e3] at h3
  have hdrop : ofd b (ys.drop k) = ys.getD k 0 + b * ofd b (ys.drop (k + 1)) := by
    by_cases hh : k < ys.length
    · rw [List.drop_eq_getElem_cons hh, List.getD_eq_getElem?_getD, List.getElem?_eq_getElem hh]; rfl
    · rw [List.drop_of_length_le (by omega), List.drop_of_length_le (by omega), List.getD_eq_getElem?_getD, List.getElem?_eq_none (by omega)]; simp [ofd]
  rw [hdrop] at h
  have hdm := Nat.div_add_mod a b
  generalize ofd b (ys.drop (k + 1)) = Y at *
  generalize ys.getD k 0 = yk at *
  rw [← ha] at h1
  generalize L[k] = lk at *
  rw [Nat.pow_succ] at h2 ⊢
  generalize b ^ k = p at *
  have e4 : p * a = p * b * (a / b) + p * (a % b) := by rw [Nat.mul_assoc, ← Nat.mul_add, hdm]
  rw [Nat.mul_add] at h1 h2
  rw [Nat.mul_add, ← Nat.mul_assoc] at h
  rw [← ha] at h2 h3 e4 ⊢
  rw [Nat.mul_add] at e4
  rw [Nat.mul_add] at h3
  omega

/-- .. and what is known of the groups below, at, and above it -/
theorem plus_inv {b : Nat} {L : List Nat} {k a' v u : Nat} (hk : k + 1 < L.length) (h1 : ∀ d ∈ L.take k, d < b) (h2 : ∀ d ∈ L.drop (k + 1), d < b) (ha : a' < b) (hv : v ≤ b) :
    (∀ d ∈ (((L.set k u).set (k + 1) v).set k a').take (k + 1), d < b) ∧ (∀ d ∈ (((L.set k u).set (k + 1) v).set k a').drop (k + 1 + 1), d < b) ∧ (((L.set k u).set (k + 1) v).set k a').getD (k + 1) 0 ≤ b := by
  refine ⟨?_, ?_, ?_⟩
  · rw [set_take (by simp; omega)]
    intro d hd
    rcases List.mem_append.1 hd with h | h
    · rw [List.take_set_of_le (by omega), List.take_set_of_le (Nat.le_refl k)] at h
      exact h1 d h
    · simp at h; omega
  · intro d hd
    rw [List.drop_set_of_lt (by omega), List.drop_set_of_lt (by omega), List.drop_set_of_lt (by omega)] at hd
    apply h2 d
    rw [show k + 1 + 1 = (k + 1) + 1 from rfl, ← List.drop_drop] at hd
    exact List.mem_of_mem_drop hd
  · rw [List.getD_eq_getElem?_getD, List.getElem?_set_ne (by omega), List.getElem?_set_self (by simpa using hk)]
    simpa using hv
theorem drop_at {b : Nat} {L : List Nat} {k : Nat} (hk : k + 1 < L.length) (h2 : ∀ d ∈ L.drop (k + 1), d < b) : L[k + 1] < b := by
  apply h2
  rw [show List.drop (k + 1) L = L[k + 1] :: List.drop (k + 1 + 1) L from List.drop_eq_getElem_cons hk]; exact List.mem_cons_self

theorem top_small {b : Nat} {L : List Nat} {n V : Nat} (hl : L.length = n + 1) (h : ofd b L = V) (hV : V < 2 * b ^ n) (hb : 2 ≤ b) : L[n] < b := by
  have h1 := ofd_ge b L n (by omega)
  rcases Nat.lt_or_ge L[n] b with h2 | h2
  · exact h2
  · have h3 : b ^ n * b ≤ b ^ n * L[n] := Nat.mul_le_mul_left _ h2
    have h4 : b ^ n * 2 ≤ b ^ n * b := Nat.mul_le_mul_left _ hb
    omega

/-- one group of a product is laid -/
theorem times_step {b : Nat} {L ys : List Nat} {i j c t xi yj P : Nat} (hk : i + j < L.length) (hy : ys.getD j 0 = yj) (ht : L[i + j] + xi * yj + c = t) (h : ofd b L + c * b ^ (i + j) = P + b ^ i * (xi * ofd b (ys.take j))) :
    ofd b (L.set (i + j) (t % b)) + (t / b) * b ^ (i + (j + 1)) = P + b ^ i * (xi * ofd b (ys.take (j + 1))) := by
  have h1 := ofd_set b L (i + j) (t % b) hk
  rw [take_step, hy, ← Nat.add_assoc, Nat.pow_succ]
  have hdm := Nat.div_add_mod t b
  generalize ofd b (L.set (i + j) (t % b)) = A at *
  generalize L[i + j] = lk at *
  have e1 : b ^ i * (xi * (ofd b (ys.take j) + b ^ j * yj)) = b ^ i * (xi * ofd b (ys.take j)) + b ^ (i + j) * (xi * yj) := by
    rw [Nat.mul_add, Nat.mul_add, Nat.pow_add]; congr 1
    rw [Nat.mul_left_comm xi, Nat.mul_assoc]
  rw [e1]
  generalize b ^ i * (xi * ofd b (ys.take j)) = Q at *
  generalize b ^ (i + j) = p at *
  have e2 : p * t = p * lk + p * (xi * yj) + p * c := by rw [← ht, Nat.mul_add, Nat.mul_add]
  have e3 : p * t = t / b * (p * b) + p * (t % b) := by
    have := congrArg (p * ·) hdm
    simp only [Nat.mul_add] at this
    rw [← this]; congr 1
    rw [Nat.mul_comm b (t / b), Nat.mul_left_comm]
  rw [Nat.mul_comm c p] at h
  omega

theorem times_row {b : Nat} {L xs ys : List Nat} {i m c : Nat} (hk : i + m < L.length) (hm : ys.length = m) (h0 : L[i + m] = 0) (h : ofd b L + c * b ^ (i + m) = ofd b (xs.take i) * ofd b ys + b ^ i * (xs.getD i 0 * ofd b (ys.take m))) :
    ofd b (L.set (i + m) c) = ofd b (xs.take (i + 1)) * ofd b ys := by
  have h1 := ofd_set b L (i + m) c hk
  rw [h0, Nat.mul_zero, Nat.add_zero] at h1
  rw [List.take_of_length_le (l := ys) (by omega)] at h
  rw [take_step, Nat.add_mul, h1, Nat.mul_assoc, ← h, Nat.mul_comm c]
end Go.Proofs.YtpbnmhnbkfnaeaaGreatDoor.Nt
