/- A part of the proof, put together out of smaller texts: each piece says what it is for. -/
import Derived.Test.YtpbnmhnbkfnaeaaGreatDoorM1
import Derived.Deep.RegionWith
import Derived.Deep.Cut
import Derived.Lib.SmallJoins
import Derived.ChangeSlices
import Derived.Deep.Strs
import Derived.Deep.RegionHeld3
import Derived.RegionIn
import Derived.Maps.AppendAt
namespace Go.Proofs.YtpbnmhnbkfnaeaaGreatDoor
open Go.RowKit Nt

def isDig (c : UInt8) : Bool := 48 ≤ c && c ≤ 57
theorem isDig_iff (c : UInt8) : isDig c = true ↔ 48 ≤ c.toNat ∧ c.toNat ≤ 57 := by
  simp [isDig, UInt8.le_iff_toNat_le]

theorem isDec_bad {l : List UInt8} (k : Nat) (h : k < l.length) (hb : ¬ (48 ≤ l[k].toNat ∧ l[k].toNat ≤ 57)) : isDec l = false := by
  cases hd : isDec l with
  | false => rfl
  | true =>
    unfold isDec at hd
    simp only [bne_iff_ne, Bool.and_eq_true, Bool.or_eq_true, decide_eq_true_eq] at hd
    have := List.all_eq_true.1 hd.1.2 l[k] (List.getElem_mem h)
    exact absurd ((isDig_iff _).1 this) hb

theorem isDec_good {l : List UInt8} (h0 : 0 < l.length) (hl : l.length ≤ 1 ∨ l.head? ≠ some 48) (h : ∀ k (hk : k < l.length), 48 ≤ l[k].toNat ∧ l[k].toNat ≤ 57) : isDec l = true := by
  unfold isDec
  simp only [bne_iff_ne, Bool.and_eq_true, Bool.or_eq_true, decide_eq_true_eq]
  refine ⟨⟨fun hh => by rw [hh] at h0; simp at h0, ?_⟩, hl⟩
  rw [List.all_eq_true]
  intro c hc
  obtain ⟨k, hk, rfl⟩ := List.getElem_of_mem hc
  exact (isDig_iff _).2 (h k hk)


set_option maxRecDepth 100000 in
set_option maxHeartbeats 4000000 in
theorem l1DigitsOk_c (l : List UInt8) (w : World) (hs : l.length ≤ 1000000000) :
    Calls Tryz.prog 121 #[.string (B l)] w fun e w' => e = .returned (.bool (isDec l)) ∧ w' = w := by
  have hsz : (B l).size ≤ 1000000000 := by rw [B_size]; exact hs
  have hI : ((B l).size : Int) = (l.length : Int) := by rw [B_size]
  by_cases hz : l.length = 0
  · have : l = [] := List.eq_nil_of_length_eq_zero hz
    subst this
    have h0 : (((B []).size : Int) == 0) = true := by simp [B_size]
    clear hI hs hsz hz
    go_enter Tryz.func121, Tryz.ntmps121
    go_wp2
    go_ret
    exact ⟨rfl, rfl⟩
  · have h0 : 0 < l.length := by omega
    have h0I : (((B l).size : Int) == 0) = false := by rw [beq_eq_false_iff_ne]; omega
    by_cases h1 : 1 < l.length
    · have h1I : (1 : Int) < ((B l).size : Int) := by omega
      have hg0 : 0 < (B l).size := by omega
      have hg : ((B l)[0]'hg0).toNat = (l[0]'h0).toNat := by rw [B_get]
      by_cases hc : l[0]'h0 = 48
      · have hq : ((((B l)[0]'hg0).toNat : Int) == 48) = true := by rw [hg, hc]; rfl
        have hf : isDec l = false := by
          cases hd : isDec l with
          | false => rfl
          | true =>
            unfold isDec at hd
            simp only [bne_iff_ne, Bool.and_eq_true, Bool.or_eq_true, decide_eq_true_eq] at hd
            rcases hd.2 with h2 | h2
            · omega
            · exact absurd (by rw [List.head?_eq_getElem?, List.getElem?_eq_getElem h0, hc]) h2
        rw [hf]
        clear hI hc hg hf hz
        go_enter Tryz.func121, Tryz.ntmps121
        go_wp2
        go_ret
        exact ⟨rfl, rfl⟩
      · have hq : ((((B l)[0]'hg0).toNat : Int) == 48) = false := by
          rw [hg, beq_eq_false_iff_ne]
          intro hh
          apply hc
          apply UInt8.toNat_inj.1
          simp only [UInt8.toNat_ofNat]; omega
        have hl0 : Hid (l.length ≤ 1 ∨ l.head? ≠ some 48) := .inr (by
          rw [List.head?_eq_getElem?, List.getElem?_eq_getElem h0]
          intro hh; exact hc (by simpa using hh))
        clear hI hc hg hz
        go_enter Tryz.func121, Tryz.ntmps121
        go_wp2
        go_loop [3] (fun i => ∃ k : Nat, k ≤ l.length ∧ i = .int .i64 k ∧ Hid (∀ j (hj : j < l.length), j < k → 48 ≤ l[j].toNat ∧ l[j].toNat ≤ 57)) (fun i => l.length - (intOf i).toNat)
        case atStart => exact ⟨0, Nat.zero_le _, rfl, hide (fun j _ h => by omega)⟩
        case round =>
          clear hq
          obtain ⟨k, hk, rfl, hv⟩ := hrel
          by_cases hlt : k < l.length
          · have hlt2 : k < (B l).size := by rw [B_size]; exact hlt
            have hgk : ((B l)[k]'hlt2).toNat = (l[k]'hlt).toNat := by rw [B_get]
            by_cases h1 : ((l[k]'hlt).toNat : Int) < 48
            · go_wp2
              go_ret
              exact ⟨ret_bool (by rw [isDec_bad k hlt (by omega)]), rfl⟩
            · by_cases h2 : 57 < ((l[k]'hlt).toNat : Int)
              · go_wp2
                go_ret
                exact ⟨ret_bool (by rw [isDec_bad k hlt (by omega)]), rfl⟩
              · have h3 : 48 ≤ (l[k]'hlt).toNat ∧ (l[k]'hlt).toNat ≤ 57 := by omega
                have hv2 : Hid (∀ j (hj : j < l.length), j < k + 1 → 48 ≤ l[j].toNat ∧ l[j].toNat ≤ 57) := by
                  intro j hj hjk
                  by_cases hjk2 : j < k
                  · exact unhide hv j hj hjk2
                  · have : j = k := by omega
                    subst this; exact h3
                go_wp2
                go_round
                case rel => exact ⟨k + 1, by omega, by go_num, hv2⟩
                case measure => simp [intOf]; omega
          · have hlt2 : ¬ k < (B l).size := by rw [B_size]; exact hlt
            have fin : isDec l = true := isDec_good h0 (unhide hl0) (fun j hj => unhide hv j hj (by omega))
            have Fin := hide fin
            clear fin
            go_wp2
            go_ret
            exact ⟨ret_bool (unhide Fin).symm, rfl⟩
    · have h1I : ¬ (1 : Int) < ((B l).size : Int) := by omega
      have hl0 : Hid (l.length ≤ 1 ∨ l.head? ≠ some 48) := .inl (by omega)
      clear hI hz
      go_enter Tryz.func121, Tryz.ntmps121
      go_wp2
      go_loop [3] (fun i => ∃ k : Nat, k ≤ l.length ∧ i = .int .i64 k ∧ Hid (∀ j (hj : j < l.length), j < k → 48 ≤ l[j].toNat ∧ l[j].toNat ≤ 57)) (fun i => l.length - (intOf i).toNat)
      case atStart => exact ⟨0, Nat.zero_le _, rfl, hide (fun j _ h => by omega)⟩
      case round =>
        obtain ⟨k, hk, rfl, hv⟩ := hrel
        by_cases hlt : k < l.length
        · have hlt2 : k < (B l).size := by rw [B_size]; exact hlt
          have hgk : ((B l)[k]'hlt2).toNat = (l[k]'hlt).toNat := by rw [B_get]
          by_cases h1 : ((l[k]'hlt).toNat : Int) < 48
          · go_wp2
            go_ret
            exact ⟨ret_bool (by rw [isDec_bad k hlt (by omega)]), rfl⟩
          · by_cases h2 : 57 < ((l[k]'hlt).toNat : Int)
            · go_wp2
              go_ret
              exact ⟨ret_bool (by rw [isDec_bad k hlt (by omega)]), rfl⟩
            · have h3 : 48 ≤ (l[k]'hlt).toNat ∧ (l[k]'hlt).toNat ≤ 57 := by omega
              have hv2 : Hid (∀ j (hj : j < l.length), j < k + 1 → 48 ≤ l[j].toNat ∧ l[j].toNat ≤ 57) := by
                intro j hj hjk
                by_cases hjk2 : j < k
                · exact unhide hv j hj hjk2
                · have : j = k := by omega
                  subst this; exact h3
              go_wp2
              go_round
              case rel => exact ⟨k + 1, by omega, by go_num, hv2⟩
              case measure => simp [intOf]; omega
        · have hlt2 : ¬ k < (B l).size := by rw [B_size]; exact hlt
          have fin : isDec l = true := isDec_good h0 (unhide hl0) (fun j hj => unhide hv j hj (by omega))
          have Fin := hide fin
          clear fin
          go_wp2
          go_ret
          exact ⟨ret_bool (unhide Fin).symm, rfl⟩

/-- what a byte is as a digit -/
def digN (c : UInt8) : Nat := if 48 ≤ c.toNat ∧ c.toNat ≤ 57 then c.toNat - 48 else if 97 ≤ c.toNat ∧ c.toNat ≤ 102 then c.toNat - 87 else 99

set_option maxRecDepth 100000 in
set_option maxHeartbeats 4000000 in
theorem l2Digit_c (c : UInt8) (w : World) :
    Calls Tryz.prog 131 #[.int .u8 c.toNat] w fun e w' => e = .returned (.int .i64 (digN c : Nat)) ∧ w' = w := by
  have hc : c.toNat < 256 := c.toNat_lt
  have hd : digN c = if 48 ≤ c.toNat ∧ c.toNat ≤ 57 then c.toNat - 48 else if 97 ≤ c.toNat ∧ c.toNat ≤ 102 then c.toNat - 87 else 99 := rfl
  generalize c.toNat = n at *
  generalize digN c = d at *
  by_cases h1 : 48 ≤ n ∧ n ≤ 57
  · rw [if_pos h1] at hd
    have e : (n : Int) - 48 = (d : Int) := by omega
    obtain ⟨ha, hb⟩ := h1
    clear hd
    go_enter Tryz.func131, Tryz.ntmps131
    go_wp2
    go_ret
    exact ⟨ret_int (by omega), rfl⟩
  · rw [if_neg h1] at hd
    by_cases h2 : 97 ≤ n ∧ n ≤ 102
    · rw [if_pos h2] at hd
      obtain ⟨ha, hb⟩ := h2
      have e : (n : Int) - 97 + 10 = (d : Int) := by omega
      have hh : ¬ (n : Int) ≤ 57 := by omega
      clear hd h1
      go_enter Tryz.func131, Tryz.ntmps131
      go_wp2
      go_ret
      exact ⟨ret_int (by omega), rfl⟩
    · rw [if_neg h2] at hd
      subst hd
      by_cases h3 : 48 ≤ n
      · have h4 : ¬ (n : Int) ≤ 57 := by omega
        by_cases h5 : 97 ≤ n
        · have h6 : ¬ (n : Int) ≤ 102 := by omega
          clear h1 h2
          go_enter Tryz.func131, Tryz.ntmps131
          go_wp2
          go_ret
          exact ⟨rfl, rfl⟩
        · clear h1 h2
          go_enter Tryz.func131, Tryz.ntmps131
          go_wp2
          go_ret
          exact ⟨rfl, rfl⟩
      · clear h1 h2
        go_enter Tryz.func131, Tryz.ntmps131
        go_wp2
        go_ret
        exact ⟨rfl, rfl⟩
end Go.Proofs.YtpbnmhnbkfnaeaaGreatDoor
namespace Go.Proofs.YtpbnmhnbkfnaeaaGreatDoor
open Go.RowKit Nt

theorem run_conv_one {P : Program} {src dst e : TypeId} (hs : P.underlying src = some (.slice e)) (he : P.underlying e = some (.int .u8)) (hd : P.underlying dst = some .string) (W w1 : World) (d : Nat) (hd10 : d < 10)
    (hb : Below (W.heap.size + 1) (W.alloc (.cells #[.int .u8 (48 + (d : Int))] e)) w1) :
    (convert src dst (.slice (some ⟨W.heap.size, 0, none⟩) 1 1)).run P w1 = .ok (.string (B [sg d])) w1 := by
  have h0 := World.ownsRow_lit (base := 0) (e := e) (size := 1) W #[.int .u8 (48 + (d : Int))] 1 (Nat.zero_le _) (by decide) (by simp)
  have h1 := own_below h0 (by simpa using hb)
  have e1 : (#[Value.int .u8 (48 + (d : Int))] : Array Value).toList = [sg d].map u8v := by simp [u8v_sg hd10]
  rw [e1] at h1
  exact run_conv_bytes hs he hd h1

theorem txl_step (b : Nat) (hb : 2 ≤ b) (n : Nat) (h : b ≤ n) : txl b n = txl b (n / b) ++ [sg (n % b)] := by
  have h0 : n ≠ 0 := by omega
  have hq : n / b ≠ 0 := by
    intro hh
    rcases Nat.div_eq_zero_iff.1 hh with h1 | h1 <;> omega
  rw [txl_pos h0, dg_pos hb (by omega), txl_pos hq]; simp

theorem txl_one (b : Nat) (hb : 2 ≤ b) (n : Nat) (h : n < b) : txl b n = [sg n] := by
  by_cases h0 : n = 0
  · subst h0; simp [txl_zero, sg]
  · rw [txl_pos h0, dg_pos hb (by omega), Nat.mod_eq_of_lt h, Nat.div_eq_of_lt h, dg_zero]; simp

set_option maxRecDepth 100000 in
set_option maxHeartbeats 4000000 in
theorem l1Small_c (n : Nat) (hn : n ≤ 9223372036854775807) (w : World) :
    Calls Tryz.prog 124 #[.int .i64 n] w fun e w' => e = .returned (.string (dec n)) ∧ Below w.heap.size w w' := by
  induction n using Nat.strongRecOn generalizing w with
  | _ n ih =>
    by_cases h : n < 10
    · have hfin : B [sg n] = dec n := by rw [dec, txt, txl_one 10 (by omega) n h]
      have Fin := hide hfin
      have hconv := run_conv_one (dst := 9) Tryz.underlying22 Tryz.underlying5 Tryz.underlying9 w _ n h (Below.refl _ _)
      clear ih hfin
      go_enter Tryz.func124, Tryz.ntmps124
      go_wp2
      go_ret
      exact ⟨ret_str (unhide Fin), (Below.refl _ _).alloc (Nat.le_refl _) _⟩
    · have hlt : n / 10 < n := Nat.div_lt_self (by omega) (by omega)
      have hq := ih (n / 10) hlt (by omega)
      have hfin : dec (n / 10) ++ B [sg (n % 10)] = dec n := by
        unfold dec txt; rw [B_append, ← txl_step 10 (by omega) n (by omega)]
      have Fin := hide hfin
      have Hq := hide hq
      have hm : n % 10 < 10 := Nat.mod_lt _ (by omega)
      have hconv := fun (W : World) => run_conv_one (P := Tryz.prog) (src := 22) (dst := 9) Tryz.underlying22 Tryz.underlying5 Tryz.underlying9 W _ (n % 10) hm (Below.refl _ _)
      have hconv2 := fun (W w1 : World) => run_conv_one (P := Tryz.prog) (src := 22) (dst := 9) Tryz.underlying22 Tryz.underlying5 Tryz.underlying9 W w1 (n % 10) hm
      clear ih hfin hq
      obtain ⟨q, hqd⟩ : ∃ q : Nat, n / 10 = q := ⟨_, rfl⟩
      obtain ⟨r, hrd⟩ : ∃ r : Nat, n % 10 = r := ⟨_, rfl⟩
      rw [hrd] at hconv hconv2 hm Fin
      rw [hqd] at Fin Hq hlt
      have e1 : (n : Int) / 10 = (q : Int) := by omega
      have e2 : (n : Int).tmod 10 = (r : Int) := by rw [Int.tmod_eq_emod_of_nonneg (by omega)]; omega
      have e3 := wi64 (q : Int) (by omega) (by omega)
      have e4 := wi64 (48 + (r : Int)) (by omega) (by omega)
      have e5 := wu8 (48 + (r : Int)) (by omega) (by omega)
      have hqs : (dec q).size ≤ 19 := by
        rw [dec_len]; exact txl_len_le (by omega) (by omega) (by omega)
      have hrs : (B [sg r]).size ≤ 1 := by rw [B_size]; simp
      have hns : ¬ 9223372036854775807 < (dec q).size + (B [sg r]).size := by omega
      have hns2 : ¬ (9223372036854775807 < ((dec q).size : Int) + ((B [sg r]).size : Int)) := by omega
      clear hqd hrd
      go_enter Tryz.func124, Tryz.ntmps124
      go_wp2
      have hcv0 := hconv2 w (w.alloc (.cells #[.int .u8 (48 + (r : Int))] 5)).drew ((Below.refl _ _).drew)
      go_region_with (go_at_call 124; refine (unhide Hq _).mono ?_; rintro e w1 ⟨rfl, hb1⟩; try have hcv := hconv2 w w1 (below_of_drew (by simpa using hb1)))
      all_goals
        go_wp2
        go_ret
        refine ⟨ret_str (unhide Fin), ?_⟩
        first
          | exact (below_of_drew hb1).alloc hb1.size _
          | exact ((Below.refl _ _).alloc (Nat.le_refl _) _).trans ((below_of_drew hb1).mono (by simp))
end Go.Proofs.YtpbnmhnbkfnaeaaGreatDoor
namespace Go.Proofs.YtpbnmhnbkfnaeaaGreatDoor
open Go.RowKit Nt

/-- the text of a mark -/
def mtx (k : Nat) : List UInt8 := 109 :: txl 10 k
theorem mtx_len {k : Nat} (h : k ≤ 4611686018427387904) : (mtx k).length ≤ 20 := by
  have := txl_len_le (b := 10) (by omega) (k := 19) (n := k) (by omega) (Nat.lt_of_le_of_lt h (by decide))
  simp [mtx]; omega
def txl0 (q : Nat) : List UInt8 := if q = 0 then [] else txl 10 q
theorem txl0_step {q : Nat} (h : 0 < q) : txl0 q = txl0 (q / 10) ++ [sg (q % 10)] := by
  unfold txl0
  rw [if_neg (by omega)]
  by_cases h1 : q < 10
  · rw [if_pos (by omega), txl_one 10 (by omega) q h1, Nat.mod_eq_of_lt h1]; rfl
  · rw [if_neg (by omega), txl_step 10 (by omega) q (by omega)]

set_option maxRecDepth 100000 in
set_option maxHeartbeats 4000000 in
theorem markText_c (k : Nat) (w : World) (h0 : 0 < k) (h1 : k ≤ 4611686018427387904) :
    Calls Tryz.prog 91 #[.int .i64 k] w fun e w' => e = .returned (.string (B (mtx k))) ∧ Below w.heap.size w w' := by
  have hlen := mtx_len h1
  have hkt : txl0 k = txl 10 k := by unfold txl0; rw [if_neg (by omega)]
  have hll : (txl 10 k).length ≤ 19 := by unfold mtx at hlen; simp at hlen; omega
  have HKT := hide hkt
  clear hlen hkt
  have hk0 : ¬ (k : Int) ≤ 0 := by omega
  go_enter Tryz.func91, Tryz.ntmps91
  go_wp2
  go_loopw [0, 3] (fun kv out wr => ∃ (q : Nat) (l : List UInt8), kv = .int .i64 q ∧ q ≤ k ∧ out = .string (B l) ∧ Hid (txl0 q ++ l = txl 10 k) ∧ l.length ≤ 19 ∧ Below w.heap.size w wr)
    (fun kv _ _ => (intOf kv).toNat)
  case atStart => exact ⟨k, [], rfl, Nat.le_refl _, rfl, hide (by rw [List.append_nil]; exact unhide HKT), by simp, Below.refl _ _⟩
  case round =>
    obtain ⟨q, l, rfl, hq, rfl, htx, hl, hbl⟩ := hrel
    by_cases hz : 0 < q
    · have hm : q % 10 < 10 := Nat.mod_lt _ (by omega)
      have hfin : B [sg (q % 10)] ++ B l = B (sg (q % 10) :: l) := by rw [B_append]; rfl
      have hst : txl0 (q / 10) ++ (sg (q % 10) :: l) = txl 10 k := by
        have := unhide htx
        rw [txl0_step hz, List.append_assoc] at this
        exact this
      have hl2 : (sg (q % 10) :: l).length ≤ 19 := by
        have := congrArg List.length hst
        rw [List.length_append] at this
        omega
      have hconv := fun (W w1 : World) => run_conv_one (P := Tryz.prog) (src := 22) (dst := 9) Tryz.underlying22 Tryz.underlying5 Tryz.underlying9 W w1 (q % 10) hm
      obtain ⟨p, hp⟩ : ∃ p : Nat, q / 10 = p := ⟨_, rfl⟩
      obtain ⟨r, hr⟩ : ∃ r : Nat, q % 10 = r := ⟨_, rfl⟩
      have hpq : p < q := by omega
      rw [hr] at hconv hfin hst hl2 hm
      rw [hp] at hst
      have e1 : (q : Int) / 10 = (p : Int) := by omega
      have e2 : (q : Int).tmod 10 = (r : Int) := by rw [Int.tmod_eq_emod_of_nonneg (by omega)]; omega
      have e2' : (q : Int) % 10 = (r : Int) := by omega
      have e4 := wi64 (48 + (r : Int)) (by omega) (by omega)
      have e5 := wu8 (48 + (r : Int)) (by omega) (by omega)
      have hrs : (B [sg r]).size = 1 := by rw [B_size]; rfl
      have hls := B_size l
      have hns : ¬ (9223372036854775807 < 1 + (l.length : Int)) := by omega
      have hcv := hconv wr (wr.alloc (.cells #[.int .u8 (48 + (r : Int))] 5)) (Below.refl _ _)
      have Hst := hide hst
      have Hfin := hide hfin
      have hsz := hbl.size
      have HBL := hide (hbl.alloc hsz (.cells #[.int .u8 (48 + (r : Int))] 5))
      clear hp hr hst hfin hconv hbl
      go_wp2
      go_roundw
      case rel => exact ⟨p, sg r :: l, by go_num, by omega, by rw [unhide Hfin], Hst, hl2, unhide HBL⟩
      case measure => simp [intOf]; omega
    · have hq0 : q = 0 := by omega
      subst hq0
      have hle : l = txl 10 k := by have := unhide htx; simpa [txl0] using this
      have hls := B_size l
      have hms : (⟨#[109]⟩ : ByteArray).size = 1 := rfl
      have hns : ¬ (9223372036854775807 < 1 + (l.length : Int)) := by omega
      have HLE := hide hle
      clear hle htx
      go_wp2
      go_ret
      exact ⟨ret_str (by rw [unhide HLE, show (⟨#[109]⟩ : ByteArray) = B [109] from rfl, B_append]; rfl), hbl⟩
end Go.Proofs.YtpbnmhnbkfnaeaaGreatDoor
namespace Go.Proofs.YtpbnmhnbkfnaeaaGreatDoor
open Go.RowKit Nt

/-- what marks are laid: k, k + 1, .. -/
def mkI (k n : Nat) : List Int := (List.range' k n).map Int.ofNat
theorem mkI_len (k n : Nat) : (mkI k n).length = n := by simp [mkI]
theorem mkI_get {k n j : Nat} (h : j < n) : (mkI k n)[j]? = some ((k + j : Nat) : Int) := by
  simp [mkI, h]
def mkNd (k : Nat) (nd : Nd) : Nd := (k, mtx (k + 1), mkI (k + 2) nd.2.2.length)
def cnt (ns : List Nd) : Nat := (ns.map fun nd => 2 + nd.2.2.length).sum
def mkN : Nat → List Nd → List Nd
  | _, [] => []
  | k, nd :: r => mkNd k nd :: mkN (k + (2 + nd.2.2.length)) r
theorem cnt_nil : cnt [] = 0 := rfl
theorem cnt_snoc (a : List Nd) (nd : Nd) : cnt (a ++ [nd]) = cnt a + (2 + nd.2.2.length) := by simp [cnt]
theorem mkN_len (k : Nat) (ns : List Nd) : (mkN k ns).length = ns.length := by
  induction ns generalizing k with
  | nil => rfl
  | cons nd r ih => simp [mkN, ih]
theorem cnt_take {ns : List Nd} {j : Nat} {nd : Nd} (h : ns[j]? = some nd) : cnt (ns.take (j + 1)) = cnt (ns.take j) + (2 + nd.2.2.length) := by
  rw [List.take_add_one, h]; exact cnt_snoc _ _
theorem cnt_append (a b : List Nd) : cnt (a ++ b) = cnt a + cnt b := by simp [cnt]
theorem cnt_le (ns : List Nd) (j : Nat) : cnt (ns.take j) ≤ cnt ns := by
  have := cnt_append (ns.take j) (ns.drop j)
  rw [List.take_append_drop] at this; omega
theorem mkN_get {k j : Nat} {ns : List Nd} {nd : Nd} (h : ns[j]? = some nd) : (mkN k ns)[j]? = some (mkNd (k + cnt (ns.take j)) nd) := by
  induction ns generalizing k j with
  | nil => simp at h
  | cons x r ih =>
    cases j with
    | zero => simp at h; subst h; simp [mkN, cnt]
    | succ j =>
      simp at h
      have := ih (k := k + (2 + x.2.2.length)) h
      simp only [mkN, List.getElem?_cons_succ, List.take_succ_cons]
      rw [this]
      simp only [cnt, List.map_cons, List.sum_cons]
      congr 2
      omega
theorem mkN_append (k : Nat) (a b : List Nd) : mkN k (a ++ b) = mkN k a ++ mkN (k + cnt a) b := by
  induction a generalizing k with
  | nil => simp [mkN, cnt]
  | cons x r ih =>
    simp only [List.cons_append, mkN, ih, List.cons_append]
    congr 3
    simp only [cnt, List.map_cons, List.sum_cons]
    omega

set_option maxRecDepth 100000 in
set_option maxHeartbeats 4000000 in
theorem heldIntS_c (v : Value) (k n : Nat) (w : World) (h : IntsAt w v (mkI k n)) (hk : k + n ≤ 2305843009213693952) :
    Calls Tryz.prog 56 #[v, .int .i64 k] w fun e w' => e = .returned (.int .i64 ((k + n : Nat) : Int)) ∧ Below w.heap.size w w' := by
  obtain ⟨a, cap, rfl, h1, h2⟩ := h.form
  unfold maxLen at h2
  have H := hide h
  clear h
  rw [mkI_len] at *
  go_enter Tryz.func56, Tryz.ntmps56
  go_wp2
  go_loopw [1, 5] (fun kv i wr => ∃ j : Nat, j ≤ n ∧ i = .int .i64 j ∧ kv = .int .i64 ((k + j : Nat) : Int) ∧ Below w.heap.size w wr)
    (fun _ i _ => n - (intOf i).toNat)
  case atStart => exact ⟨0, by omega, rfl, rfl, Below.refl _ _⟩
  case round =>
    obtain ⟨j, hj, rfl, rfl, hbl⟩ := hrel
    by_cases hlt : j < n
    · have hx := mkI_get (k := k) hlt
      obtain ⟨b, off, rfl, hb, hc⟩ := ((unhide H).below hbl).cell hx
      go_wp2
      go_roundw
      case rel => exact ⟨j + 1, by omega, by go_num, by go_num, hbl⟩
      case measure => simp [intOf]; omega
    · go_wp2
      go_ret
      have : j = n := by omega
      subst this
      exact ⟨rfl, hbl⟩
end Go.Proofs.YtpbnmhnbkfnaeaaGreatDoor
namespace Go.Proofs.YtpbnmhnbkfnaeaaGreatDoor
open Go.RowKit Nt

set_option maxRecDepth 100000 in
set_option maxHeartbeats 4000000 in
theorem heldReadNodeS_c (v : Value) (k : Nat) (ns : List Nd) (w : World) (h : NodesAt w v (mkN k ns)) (h0 : 0 < k) (hk : k + cnt ns ≤ 2305843009213693952) :
    Calls Tryz.prog 55 #[v, .int .i64 k] w fun e w' => e = .returned (.int .i64 ((k + cnt ns : Nat) : Int)) ∧ Below w.heap.size w w' := by
  obtain ⟨a, cap, rfl, h1, h2⟩ := h.form0
  unfold maxLen at h2
  have H := hide h
  clear h
  rw [mkN_len] at *
  go_enter Tryz.func55, Tryz.ntmps55
  go_wp2
  go_loopw [1, 5] (fun kv i wr => ∃ (j q : Nat), j ≤ ns.length ∧ i = .int .i64 j ∧ Hid (q = k + cnt (ns.take j)) ∧ kv = .int .i64 q ∧ 0 < q ∧ q ≤ 2305843009213693952 ∧ Below w.heap.size w wr)
    (fun _ i _ => ns.length - (intOf i).toNat)
  case atStart => exact ⟨0, k, by omega, rfl, rfl, rfl, h0, by omega, Below.refl _ _⟩
  case round =>
    obtain ⟨j, q, hj, rfl, hq, rfl, hq0, hq1, hbl⟩ := hrel
    by_cases hlt : j < ns.length
    · obtain ⟨nd, hnd⟩ : ∃ nd, ns[j]? = some nd := ⟨_, List.getElem?_eq_getElem hlt⟩
      have hx := mkN_get (k := k) hnd
      have hct := cnt_take hnd
      have hcl := cnt_le ns (j + 1)
      rw [← unhide hq] at hx
      obtain ⟨b, off, rfl, hb⟩ := ((unhide H).below hbl).addr (by rw [mkN_len]; omega)
      obtain ⟨kv, c0, c1, c2, htl, hk1⟩ := ((unhide H).below hbl).node hx
      unfold mkNd at c0 c1 htl hk1
      simp only at c0 c1 htl hk1
      have hq2 : q + (2 + nd.2.2.length) = k + cnt (ns.take (j + 1)) := by have := unhide hq; omega
      have hq3 : q + (2 + nd.2.2.length) ≤ 2305843009213693952 := by omega
      have HQ2 := hide hq2
      have HK1 := hide hk1
      have hsz := hbl.size
      have HBL := hide hbl
      generalize nd.2.2.length = m at *
      clear hk1 hbl hct hcl hq2 htl hx hnd
      go_wp2
      go_region_held3 (fun w' => w'.cell? ⟨b, off + j * 3 + 1, none⟩ = some (.string (B (mtx (q + 1))))) (((try dsimp only); (first | with_reducible assumption | exact c1))) ((go_at_call 91; refine (markText_c (q + 1) wr.drew (by omega) (by omega)).mono ?_; rintro e w1 ⟨rfl, hb1⟩; have HB1 : Hid (Below wr.heap.size wr w1) := (Below.refl wr.heap.size wr).drew.trans hb1; have d0 := (unhide HB1).cell (p := ⟨b, off + j * 3, none⟩) hb; have d1 := (unhide HB1).cell (p := ⟨b, off + j * 3 + 1, none⟩) hb; have d2 := (unhide HB1).cell (p := ⟨b, off + j * 3 + 2, none⟩) hb; rw [c0] at d0; rw [c1] at d1; rw [c2] at d2; clear hb1))
      clear c0 c1 c2
      go_wp2_with fail
      have h := heldIntS_c kv (q + 2) m w1 ((unhide HK1).below (unhide HB1)) (by omega)
      rw [show ((q + 2 : Nat) : Int) = (q : Int) + 1 + 1 from by omega] at h
      refine h.mono ?_
      clear h
      rintro e w2 ⟨rfl, hb2⟩
      have hn : ¬ ((q + 2 + m : Nat) : Int) < 0 := by omega
      have HB2 := hide (((unhide HBL).trans ((unhide HB1).mono hsz)).trans (hb2.mono (Nat.le_trans hsz (unhide HB1).size)))
      clear hb2 d0 d1 d2
      go_wp2
      go_roundw
      case rel => exact ⟨j + 1, q + 2 + m, by omega, by go_num, hide (by have := unhide HQ2; omega), rfl, by omega, by omega, unhide HB2⟩
      case measure => simp [intOf]; omega
    · go_wp2
      go_ret
      have : j = ns.length := by omega
      subst this
      have hq' := unhide hq
      rw [List.take_of_length_le (Nat.le_refl _)] at hq'
      exact ⟨ret_int (by rw [hq']), hbl⟩

/-- data behind marks from k on -/
def mkD (k : Nat) (d : Dt) : Dt := (mkN k d.1, mkI (k + cnt d.1) d.2.length)
def cntD (d : Dt) : Nat := cnt d.1 + d.2.length

set_option maxRecDepth 100000 in
set_option maxHeartbeats 4000000 in
theorem heldReadData_c (v : Value) (k : Nat) (d : Dt) (w : World) (h : DataAt w v (mkD k d)) (h0 : 0 < k) (hk : k + cntD d ≤ 2305843009213693952) :
    Calls Tryz.prog 25 #[v, .int .i64 k] w fun e w' => e = .returned (.int .i64 ((k + cntD d : Nat) : Int)) ∧ Below w.heap.size w w' := by
  obtain ⟨ns, rs⟩ := d
  obtain ⟨nv, rv, rfl, hn, hr⟩ := h
  unfold mkD at hn hr
  unfold cntD at *
  simp only at hn hr hk
  have hbb := (Below.refl w.heap.size w).alloc (Nat.le_refl _) (.cells #[nv, rv] 26)
  have HN := hide (hn.below hbb)
  have HR := hide (hr.below hbb)
  have HA := hide (AtC2.new w nv rv 26)
  have HBB := hide hbb
  clear hn hr hbb
  simp only
  go_enter Tryz.func25, Tryz.ntmps25
  go_wp2_with fail
  have h := heldReadNodeS_c nv k ns _ (unhide HN) h0 (by omega)
  refine h.mono ?_
  clear h
  rintro e w1 ⟨rfl, hb1⟩
  have a0 := ((unhide HA).below hb1).n0
  have a1 := ((unhide HA).below hb1).n1
  have HB1 := hide hb1
  have hn1 : ¬ ((k + cnt ns : Nat) : Int) < 0 := by omega
  clear hb1
  go_wp2_with fail
  have h := heldIntS_c rv (k + cnt ns) rs.length w1 ((unhide HR).below (unhide HB1)) (by omega)
  rw [show ((k + cnt ns : Nat) : Int) = (k : Int) + (cnt ns : Int) from by omega] at h
  refine h.mono ?_
  clear h
  rintro e w2 ⟨rfl, hb2⟩
  have hn2 : ¬ ((k + cnt ns + rs.length : Nat) : Int) < 0 := by omega
  go_wp2
  go_ret
  have hb1' := (unhide HBB).trans ((unhide HB1).mono (unhide HBB).size)
  exact ⟨ret_int (by omega), hb1'.trans (hb2.mono hb1'.size)⟩
end Go.Proofs.YtpbnmhnbkfnaeaaGreatDoor
namespace Go.Proofs.YtpbnmhnbkfnaeaaGreatDoor
open Go.RowKit Nt

theorem grown_trans {w w' w'' : World} {row : Option Nat} (h : w.grownBy w' row) (k : w'.grownBy w'' row) : w.grownBy w'' row :=
  ⟨k.os.trans h.os, k.tape.trans h.tape, k.output.trans h.output, Nat.le_trans h.size k.size, fun i hi hne => (k.block i (Nat.lt_of_lt_of_le hi h.size) hne).trans (h.block i hi hne)⟩

theorem mkI_snoc (k j : Nat) : mkI k (j + 1) = mkI k j ++ [((k + j : Nat) : Int)] := by
  unfold mkI
  rw [List.range'_1_concat, List.map_append]; rfl
theorem upd_step {xs : List Int} {k j : Nat} (h : j < xs.length) : (mkI k j ++ xs.drop j).set j ((k + j : Nat) : Int) = mkI k (j + 1) ++ xs.drop (j + 1) := by
  rw [List.set_append_right _ _ (by rw [mkI_len]; omega), mkI_len, Nat.sub_self, mkI_snoc, List.append_assoc, List.drop_eq_getElem_cons h]
  rfl

set_option maxRecDepth 100000 in
set_option maxHeartbeats 4000000 in
theorem markIntS_c (v : Value) (xs : List Int) (k base : Nat) (w : World) (h : w.ownsRow base 3 1 v xs.length (iv xs)) (hk : k + xs.length ≤ 2305843009213693952) :
    Calls Tryz.prog 54 #[v, .int .i64 k] w fun e w' => e = .returned (.int .i64 ((k + xs.length : Nat) : Int)) ∧ w'.ownsRow base 3 1 v xs.length (iv (mkI k xs.length)) ∧ w.grownBy w' v.ownBlock := by
  rcases h.2 with ⟨rfl, hn0⟩ | ⟨g, cap, cur, rfl, hb, hg, h1, h2, h3, h4⟩
  · have hxs : xs = [] := List.length_eq_zero_iff.1 hn0
    subst hxs
    go_enter Tryz.func54, Tryz.ntmps54
    go_wp2
    go_loopw [1, 5] (fun kv i wr => i = .int .i64 0 ∧ kv = .int .i64 k ∧ wr = w) (fun _ _ _ => 0)
    case atStart => exact ⟨rfl, rfl, rfl⟩
    case round =>
      obtain ⟨rfl, rfl, rfl⟩ := hrel
      go_wp2
      go_ret
      exact ⟨ret_int (by simp), h, World.grownBy.refl _ _⟩
  · have H := hide h
    unfold maxLen at h2
    clear h hg h3 h4
    go_enter Tryz.func54, Tryz.ntmps54
    go_wp2
    go_loopw [1, 5] (fun kv i wr => ∃ j : Nat, j ≤ xs.length ∧ i = .int .i64 j ∧ kv = .int .i64 ((k + j : Nat) : Int) ∧ wr.ownsRow base 3 1 (.slice (some ⟨g, 0, none⟩) xs.length cap) xs.length (iv (mkI k j ++ xs.drop j)) ∧ w.grownBy wr (some g))
      (fun _ i _ => xs.length - (intOf i).toNat)
    case atStart => exact ⟨0, by omega, rfl, rfl, by simpa [mkI] using unhide H, World.grownBy.refl _ _⟩
    case round =>
      obtain ⟨j, hj, rfl, rfl, hown, hgr⟩ := hrel
      by_cases hlt : j < xs.length
      · obtain ⟨v0, hv0⟩ := own_cell_some hown j (by omega)
        have hfr := hown.frozenAt j
        have hst := hown.stored j (.int .i64 ((k + j : Nat) : Int))
        rw [iv_set, upd_step hlt] at hst
        have Hst := hide hst.1
        have HG := hide (grown_trans hgr hst.2)
        clear hst
        go_wp2
        go_roundw
        case rel => exact ⟨j + 1, by omega, by go_num, by go_num, by simpa using unhide Hst, by simpa using unhide HG⟩
        case measure => simp [intOf]; omega
      · go_wp2
        go_ret
        have hjn : j = xs.length := by omega
        subst hjn
        rw [List.drop_of_length_le (Nat.le_refl _), List.append_nil] at hown
        exact ⟨rfl, hown, hgr⟩
end Go.Proofs.YtpbnmhnbkfnaeaaGreatDoor
namespace Go.Proofs.YtpbnmhnbkfnaeaaGreatDoor
open Go.RowKit Nt

theorem own_set1 {w : World} {base g i n : Nat} {e : TypeId} {size : Nat} {kv : Value} {xs : List Value} {u : Value} (h : w.ownsRow base e size kv n xs) (hg : kv.ownBlock ≠ some g) :
    (w.setCell ⟨g, i, none⟩ u).ownsRow base e size kv n xs := by
  refine h.kept (row := some g) ⟨rfl, rfl, rfl, by simp, fun k _ hk => ?_⟩ (.inr hg)
  exact heap_setCell_other _ ⟨g, i, none⟩ k _ (fun e => hk (by rw [e]))
theorem some_set1 {w : World} {p a : Addr} {u : Value} (h : ∃ x, w.cell? a = some x) : ∃ x, (w.setCell p u).cell? a = some x := by
  obtain ⟨y, hy⟩ := h
  by_cases e : p = a
  · subst e; exact ⟨u, World.cell?_setCell_same _ _ _ hy⟩
  · exact ⟨y, by rw [World.cell?_setCell_other _ _ _ _ e]; exact hy⟩
theorem ne_off {g i j : Nat} (h : i ≠ j) : (⟨g, i, none⟩ : Addr) ≠ ⟨g, j, none⟩ := fun e => h (by injection e)

/-- another sort at a place -/
theorem NodesOwn.sort {w : World} {base g n : Nat} {ns : List Nd} {kvs : List Value} (h : NodesOwn w base g n ns kvs) {j : Nat} {nd : Nd} (hj : ns[j]? = some nd) (s : Int) :
    NodesOwn (w.setCell ⟨g, j * 3, none⟩ (.int .i64 s)) base g n (ns.set j (s, nd.2)) kvs := by
  obtain ⟨⟨h1, h2, h3⟩, hf, hc, hnn, ha, hgg⟩ := h
  have hjl := (List.getElem?_eq_some_iff.1 hj).1
  refine ⟨⟨h1, by simpa using h2, by simpa using h3⟩, fun i => by simpa using hf i, fun i hi => some_set1 (hc i hi), fun i nd' kv' e1 e2 => ?_, ha, hgg⟩
  have hkg := hgg kv' (List.mem_of_getElem? e2)
  rw [List.getElem?_set] at e1
  by_cases hij : j = i
  · subst hij
    rw [if_pos rfl, if_pos hjl] at e1
    injection e1 with e1
    subst e1
    obtain ⟨c0, c1, c2, hl, ho⟩ := hnn j nd kv' hj e2
    exact ⟨World.cell?_setCell_same _ _ _ c0, by rw [World.cell?_setCell_other _ _ _ _ (ne_off (by omega))]; exact c1, by rw [World.cell?_setCell_other _ _ _ _ (ne_off (by omega))]; exact c2, hl, own_set1 ho hkg⟩
  · rw [if_neg hij] at e1
    obtain ⟨c0, c1, c2, hl, ho⟩ := hnn i nd' kv' e1 e2
    exact ⟨by rw [World.cell?_setCell_other _ _ _ _ (ne_off (by omega))]; exact c0, by rw [World.cell?_setCell_other _ _ _ _ (ne_off (by omega))]; exact c1, by rw [World.cell?_setCell_other _ _ _ _ (ne_off (by omega))]; exact c2, hl, own_set1 ho hkg⟩
/-- another text at a place -/
theorem NodesOwn.text {w : World} {base g n : Nat} {ns : List Nd} {kvs : List Value} (h : NodesOwn w base g n ns kvs) {j : Nat} {nd : Nd} (hj : ns[j]? = some nd) (l : List UInt8) (hl : l.length ≤ maxLen) :
    NodesOwn (w.setCell ⟨g, j * 3 + 1, none⟩ (.string (B l))) base g n (ns.set j (nd.1, l, nd.2.2)) kvs := by
  obtain ⟨⟨h1, h2, h3⟩, hf, hc, hnn, ha, hgg⟩ := h
  have hjl := (List.getElem?_eq_some_iff.1 hj).1
  refine ⟨⟨h1, by simpa using h2, by simpa using h3⟩, fun i => by simpa using hf i, fun i hi => some_set1 (hc i hi), fun i nd' kv' e1 e2 => ?_, ha, hgg⟩
  have hkg := hgg kv' (List.mem_of_getElem? e2)
  rw [List.getElem?_set] at e1
  by_cases hij : j = i
  · subst hij
    rw [if_pos rfl, if_pos hjl] at e1
    injection e1 with e1
    subst e1
    obtain ⟨c0, c1, c2, _, ho⟩ := hnn j nd kv' hj e2
    exact ⟨by rw [World.cell?_setCell_other _ _ _ _ (ne_off (by omega))]; exact c0, World.cell?_setCell_same _ _ _ c1, by rw [World.cell?_setCell_other _ _ _ _ (ne_off (by omega))]; exact c2, hl, own_set1 ho hkg⟩
  · rw [if_neg hij] at e1
    obtain ⟨c0, c1, c2, hl', ho⟩ := hnn i nd' kv' e1 e2
    exact ⟨by rw [World.cell?_setCell_other _ _ _ _ (ne_off (by omega))]; exact c0, by rw [World.cell?_setCell_other _ _ _ _ (ne_off (by omega))]; exact c1, by rw [World.cell?_setCell_other _ _ _ _ (ne_off (by omega))]; exact c2, hl', own_set1 ho hkg⟩
/-- the kids at a place written -/
theorem NodesOwn.kids {w w' : World} {base g n : Nat} {ns : List Nd} {kvs : List Value} (h : NodesOwn w base g n ns kvs) {j : Nat} {nd : Nd} {kv : Value} (hj : ns[j]? = some nd) (hkv : kvs[j]? = some kv) (xs : List Int)
    (hgr : w.grownBy w' kv.ownBlock) (hown : w'.ownsRow base 3 1 kv xs.length (iv xs)) :
    NodesOwn w' base g n (ns.set j (nd.1, nd.2.1, xs)) kvs := by
  obtain ⟨⟨h1, h2, h3⟩, hf, hc, hnn, ha, hgg⟩ := h
  have hjl := (List.getElem?_eq_some_iff.1 hj).1
  have hg : some g ≠ kv.ownBlock := fun e => hgg kv (List.mem_of_getElem? hkv) e.symm
  have hblk := hgr.block g h2 hg
  have hcell : ∀ i, w'.cell? ⟨g, i, none⟩ = w.cell? ⟨g, i, none⟩ := fun i => World.cell?_of_block (a := ⟨g, i, none⟩) hblk
  refine ⟨⟨h1, Nat.lt_of_lt_of_le h2 hgr.size, by simpa using h3⟩, fun i => by rw [World.frozen?_of_block (a := ⟨g, i, none⟩) hblk]; exact hf i, fun i hi => by rw [hcell]; exact hc i hi, fun i nd' kv' e1 e2 => ?_, ha, hgg⟩
  rw [List.getElem?_set] at e1
  by_cases hij : j = i
  · subst hij
    rw [if_pos rfl, if_pos hjl] at e1
    injection e1 with e1
    subst e1
    rw [hkv] at e2
    injection e2 with e2
    subst e2
    obtain ⟨c0, c1, c2, hl, ho⟩ := hnn j nd kv hj hkv
    exact ⟨by rw [hcell]; exact c0, by rw [hcell]; exact c1, by rw [hcell]; exact c2, hl, hown⟩
  · rw [if_neg hij] at e1
    obtain ⟨c0, c1, c2, hl, ho⟩ := hnn i nd' kv' e1 e2
    refine ⟨by rw [hcell]; exact c0, by rw [hcell]; exact c1, by rw [hcell]; exact c2, hl, ho.kept hgr ?_⟩
    cases hb : kv'.ownBlock with
    | none => exact .inl rfl
    | some b =>
      right
      intro e
      have hjk := (List.getElem?_eq_some_iff.1 hkv)
      have hik := (List.getElem?_eq_some_iff.1 e2)
      obtain ⟨hj1, hj2⟩ := hjk
      obtain ⟨hi1, hi2⟩ := hik
      unfold Apart at ha
      rw [List.pairwise_iff_getElem] at ha
      rcases Nat.lt_or_ge j i with hlt | hge
      · have := ha j i hj1 hi1 hlt b (by rw [hj2]; exact e.symm)
        rw [hi2] at this
        exact this hb
      · have := ha i j hi1 hj1 (by omega) b (by rw [hi2]; exact hb)
        rw [hj2] at this
        exact this e.symm

theorem setset {α : Type} (l : List α) (j : Nat) (a b : α) : (l.set j a).set j b = l.set j b := by
  apply List.ext_getElem?; intro i
  simp only [List.getElem?_set, List.length_set]
  split <;> rfl
theorem set_drop {α : Type} {a b : List α} {j : Nat} {x : α} (ha : a.length = j) (hj : j < b.length) : (a ++ b.drop j).set j x = a ++ x :: b.drop (j + 1) := by
  rw [List.set_append_right _ _ (by omega), ha, Nat.sub_self, List.drop_eq_getElem_cons hj]
  rfl
end Go.Proofs.YtpbnmhnbkfnaeaaGreatDoor
namespace Go.Proofs.YtpbnmhnbkfnaeaaGreatDoor
open Go.RowKit Nt

set_option maxRecDepth 100000 in
set_option maxHeartbeats 4000000 in
theorem markReadNodeS_c (g cap base : Nat) (ns : List Nd) (kvs : List Value) (k : Nat) (w : World) (h : NodesOwn w base g ns.length ns kvs) (hcap : ns.length ≤ cap) (hm : cap ≤ maxLen) (h0 : 0 < k) (hk : k + cnt ns ≤ 2305843009213693952) :
    Calls Tryz.prog 53 #[.slice (some ⟨g, 0, none⟩) ns.length cap, .int .i64 k] w fun e w' => e = .returned (.int .i64 ((k + cnt ns : Nat) : Int)) ∧ NodesOwn w' base g ns.length (mkN k ns) kvs ∧ Kept (fun b => b = g ∨ ∃ kv ∈ kvs, kv.ownBlock = some b) w w' := by
  have H := hide h
  unfold maxLen at hm
  clear h
  go_enter Tryz.func53, Tryz.ntmps53
  go_wp2
  go_loopw [1, 5] (fun kv i wr => ∃ (j q : Nat), j ≤ ns.length ∧ i = .int .i64 j ∧ Hid (q = k + cnt (ns.take j)) ∧ kv = .int .i64 q ∧ 0 < q ∧ q ≤ 2305843009213693952 ∧ Hid (NodesOwn wr base g ns.length (mkN k (ns.take j) ++ ns.drop j) kvs) ∧ Hid (Kept (fun b => b = g ∨ ∃ kv ∈ kvs, kv.ownBlock = some b) w wr))
    (fun _ i _ => ns.length - (intOf i).toNat)
  case atStart => exact ⟨0, k, by omega, rfl, rfl, rfl, h0, by omega, H, hide (Kept.refl _ _)⟩
  case round =>
    obtain ⟨j, q, hj, rfl, hq, rfl, hq0, hq1, hno, hkp⟩ := hrel
    by_cases hlt : j < ns.length
    · obtain ⟨nd, hnd⟩ : ∃ nd, ns[j]? = some nd := ⟨_, List.getElem?_eq_getElem hlt⟩
      have hml : (mkN k (ns.take j)).length = j := by rw [mkN_len, List.length_take]; omega
      have hL : (mkN k (ns.take j) ++ ns.drop j)[j]? = some nd := by
        rw [List.getElem?_append_right (by omega), hml, Nat.sub_self, List.getElem?_drop]; simpa using hnd
      have hct := cnt_take hnd
      have hcl := cnt_le ns (j + 1)
      have hkl := (unhide hno).1.2.2
      have hll : (mkN k (ns.take j) ++ ns.drop j).length = ns.length := by rw [List.length_append, hml, List.length_drop]; omega
      obtain ⟨kv, hkv⟩ : ∃ kv, kvs[j]? = some kv := ⟨_, List.getElem?_eq_getElem (by omega)⟩
      obtain ⟨c0, c1, c2, htl, ho⟩ := (unhide hno).2.2.2.1 j nd kv hL hkv
      have hfr := (unhide hno).2.1
      have hgl := (unhide hno).1.2.1
      -- the sort
      have n1 := (unhide hno).sort hL (q : Int)
      have K1 := hide ((unhide hkp).trans (Kept.set (a := ⟨g, j * 3, none⟩) (.inl rfl) (.int .i64 (q : Int))))
      have N1 := hide n1
      have hq2 : q + (2 + nd.2.2.length) = k + cnt (ns.take (j + 1)) := by have := unhide hq; omega
      have hq3 : q + (2 + nd.2.2.length) ≤ 2305843009213693952 := by omega
      have HQ := hide (And.intro hq2 (And.intro hL (And.intro hml (And.intro hnd (And.intro hkv (unhide hq))))))
      clear n1 hct hcl hq2 hL hkl hkv hml hll hno hkp htl ho hnd hq
      go_wp2_with fail
      have h := markText_c (q + 1) (wr.setCell ⟨g, j * 3, none⟩ (.int .i64 q)) (by omega) (by omega)
      rw [show ((q + 1 : Nat) : Int) = (q : Int) + 1 from by omega] at h
      refine h.mono ?_
      clear h
      rintro e w1 ⟨rfl, hb1⟩
      -- the text
      have n1' := (unhide N1).below hb1
      have hL1 : ((mkN k (ns.take j) ++ ns.drop j).set j ((q : Int), nd.2))[j]? = some ((q : Int), nd.2) := by
        have := (unhide HQ).2.1
        rw [List.getElem?_set, if_pos rfl, if_pos ((List.getElem?_eq_some_iff.1 this).1)]
      obtain ⟨d0, d1, d2, dtl, dho⟩ := n1'.2.2.2.1 j _ kv hL1 (unhide HQ).2.2.2.2.1
      have dfr := n1'.2.1
      have dgl := n1'.1.2.1
      have n2 := n1'.text hL1 (mtx (q + 1)) (by have := mtx_len (k := q + 1) (by omega); unfold maxLen; omega)
      rw [setset] at n2
      have K2 := hide (((unhide K1).trans (Kept.of_below hb1)).trans (Kept.set (a := ⟨g, j * 3 + 1, none⟩) (.inl rfl) (.string (B (mtx (q + 1))))))
      have N2 := hide n2
      clear n1' hL1 n2 hb1 N1 K1 c0 c1 c2 hfr hgl dho dtl
      simp only at d0 d1 d2
      go_wp2_with fail
      -- the kids
      have hL2 : ((mkN k (ns.take j) ++ ns.drop j).set j ((q : Int), mtx (q + 1), nd.2.2))[j]? = some ((q : Int), mtx (q + 1), nd.2.2) := by
        have := (unhide HQ).2.1
        rw [List.getElem?_set, if_pos rfl, if_pos ((List.getElem?_eq_some_iff.1 this).1)]
      obtain ⟨_, _, _, _, ho2⟩ := (unhide N2).2.2.2.1 j _ kv hL2 (unhide HQ).2.2.2.2.1
      have h := markIntS_c kv nd.2.2 (q + 2) base _ ho2 (by omega)
      rw [show ((q + 2 : Nat) : Int) = (q : Int) + 1 + 1 from by omega] at h
      refine h.mono ?_
      clear h
      rintro e w2 ⟨rfl, hown, hgr⟩
      have n3 := (unhide N2).kids hL2 (unhide HQ).2.2.2.2.1 (mkI (q + 2) nd.2.2.length) hgr (by rw [mkI_len]; exact hown)
      have hset : ((mkN k (ns.take j) ++ ns.drop j).set j ((q : Int), mtx (q + 1), nd.2.2)).set j ((q : Int), mtx (q + 1), mkI (q + 2) nd.2.2.length) = mkN k (ns.take (j + 1)) ++ ns.drop (j + 1) := by
        have hq := (unhide HQ).2.2.2.2.2
        rw [setset, set_drop (unhide HQ).2.2.1 hlt, List.take_add_one, (unhide HQ).2.2.2.1]
        show _ = mkN k (ns.take j ++ [nd]) ++ _
        rw [mkN_append, ← hq, List.append_assoc]
        rfl
      have n4 : NodesOwn w2 base g ns.length (mkN k (ns.take (j + 1)) ++ ns.drop (j + 1)) kvs := by rw [← hset]; exact n3
      have K3 := hide ((unhide K2).trans (Kept.of_grown hgr (fun i hi => .inr ⟨kv, List.mem_of_getElem? (unhide HQ).2.2.2.2.1, hi⟩)))
      have N4 := hide n4
      have HQ2 := hide (unhide HQ).1
      clear n3 n4 hset hL2 ho2 hown hgr N2 K2 d0 d1 d2 dfr dgl HQ
      go_wp2
      go_roundw
      case rel => exact ⟨j + 1, q + 2 + nd.2.2.length, by omega, by go_num, hide (by have := unhide HQ2; omega), rfl, by omega, by omega, N4, K3⟩
      case measure => simp [intOf]; omega
    · go_wp2
      go_ret
      have : j = ns.length := by omega
      subst this
      have hq' := unhide hq
      have hn' := unhide hno
      rw [List.take_of_length_le (Nat.le_refl _)] at hq' hn'
      rw [List.drop_of_length_le (Nat.le_refl _), List.append_nil] at hn'
      exact ⟨ret_int (by rw [hq']), hn', unhide hkp⟩

set_option maxRecDepth 100000 in
set_option maxHeartbeats 4000000 in
theorem markReadNodeS_nil (k : Nat) (w : World) :
    Calls Tryz.prog 53 #[.slice none 0 0, .int .i64 k] w fun e w' => e = .returned (.int .i64 k) ∧ w' = w := by
  go_enter Tryz.func53, Tryz.ntmps53
  go_wp2
  go_loopw [1, 5] (fun kv i wr => i = .int .i64 0 ∧ kv = .int .i64 k ∧ wr = w) (fun _ _ _ => 0)
  case atStart => exact ⟨rfl, rfl, rfl⟩
  case round =>
    obtain ⟨rfl, rfl, rfl⟩ := hrel
    go_wp2
    go_ret
    exact ⟨rfl, rfl⟩
end Go.Proofs.YtpbnmhnbkfnaeaaGreatDoor
namespace Go.Proofs.YtpbnmhnbkfnaeaaGreatDoor
open Go.RowKit Nt

/-- nodes stay where only a row of another block was written -/
theorem NodesOwn.row {w w' : World} {base g n : Nat} {ns : List Nd} {kvs : List Value} (h : NodesOwn w base g n ns kvs) {rv : Value} (hgr : w.grownBy w' rv.ownBlock) (hg : rv.ownBlock ≠ some g) (hk : ∀ kv ∈ kvs, ∀ i, rv.ownBlock = some i → kv.ownBlock ≠ some i) : NodesOwn w' base g n ns kvs := by
  obtain ⟨⟨h1, h2, h3⟩, hf, hc, hnn, ha, hgg⟩ := h
  have hblk := hgr.block g h2 (fun e => hg e.symm)
  have hcell : ∀ i, w'.cell? ⟨g, i, none⟩ = w.cell? ⟨g, i, none⟩ := fun i => World.cell?_of_block (a := ⟨g, i, none⟩) hblk
  refine ⟨⟨h1, Nat.lt_of_lt_of_le h2 hgr.size, h3⟩, fun i => by rw [World.frozen?_of_block (a := ⟨g, i, none⟩) hblk]; exact hf i, fun i hi => by rw [hcell]; exact hc i hi, fun i nd kv e1 e2 => ?_, ha, hgg⟩
  obtain ⟨c0, c1, c2, hl, ho⟩ := hnn i nd kv e1 e2
  refine ⟨by rw [hcell]; exact c0, by rw [hcell]; exact c1, by rw [hcell]; exact c2, hl, ho.kept hgr ?_⟩
  cases hb : kv.ownBlock with
  | none => exact .inl rfl
  | some b => exact .inr (fun e => hk kv (List.mem_of_getElem? e2) b e.symm hb)

theorem mkI_zero (k : Nat) : mkI k 0 = [] := rfl
theorem kept_alloc {S : Nat → Prop} {w w' : World} {o : Obj} (h : Kept S (w.alloc o) w') : Kept S w w' :=
  ⟨h.os, h.tape, h.output, Nat.le_trans (by simp) h.size, fun b hb ho => (h.block b (by simp; omega) ho).trans (heap_alloc_old w o hb)⟩
theorem Kept.own {S : Nat → Prop} {w w' : World} {base n size : Nat} {e : TypeId} {v : Value} {xs : List Value} (h : Kept S w w') (ho : w.ownsRow base e size v n xs) (hs : ∀ i, v.ownBlock = some i → ¬ S i) : w'.ownsRow base e size v n xs := by
  refine ⟨ho.1, ?_⟩
  rcases ho.2 with hn | ⟨g, cap, cur, rfl, hb, hg, rest⟩
  · exact .inl hn
  · refine .inr ⟨g, cap, cur, rfl, hb, ?_, rest⟩
    rw [h.block g (Array.getElem?_eq_some_iff.1 hg).1 (hs g rfl)]
    exact hg
theorem Kept.nodes {S : Nat → Prop} {w w' : World} {base g n : Nat} {ns : List Nd} {kvs : List Value} (h : Kept S w w') (hn : NodesOwn w base g n ns kvs) (hg : ¬ S g) (hk : ∀ kv ∈ kvs, ∀ i, kv.ownBlock = some i → ¬ S i) : NodesOwn w' base g n ns kvs := by
  obtain ⟨⟨h1, h2, h3⟩, hf, hc, hnn, ha, hgg⟩ := hn
  have hblk := h.block g h2 hg
  have hcell : ∀ i, w'.cell? ⟨g, i, none⟩ = w.cell? ⟨g, i, none⟩ := fun i => World.cell?_of_block (a := ⟨g, i, none⟩) hblk
  refine ⟨⟨h1, Nat.lt_of_lt_of_le h2 h.size, h3⟩, fun i => by rw [World.frozen?_of_block (a := ⟨g, i, none⟩) hblk]; exact hf i, fun i hi => by rw [hcell]; exact hc i hi, fun i nd kv e1 e2 => ?_, ha, hgg⟩
  obtain ⟨c0, c1, c2, hl, ho⟩ := hnn i nd kv e1 e2
  exact ⟨by rw [hcell]; exact c0, by rw [hcell]; exact c1, by rw [hcell]; exact c2, hl, h.own ho (hk kv (List.mem_of_getElem? e2))⟩
/-- data stay where only blocks of others were written -/
theorem Kept.data {S : Nat → Prop} {w w' : World} {base top : Nat} {v : Value} {d : Dt} (h : Kept S w w') (hd : DataOwn w base top v d) (hs : ∀ b, base ≤ b → b < top → ¬ S b) : DataOwn w' base top v d := by
  obtain ⟨nv, rv, kvs, rfl, hn, hr, hap, hnr, htop, hts⟩ := hd
  have hkb : ∀ g cap, nv = .slice (some ⟨g, 0, none⟩) d.1.length cap → NodesOwn w base g d.1.length d.1 kvs → ∀ kv ∈ kvs, ∀ i, kv.ownBlock = some i → base ≤ i := by
    intro g cap _ hno kv hkv i hi
    obtain ⟨j, hj⟩ := List.getElem?_of_mem hkv
    have hjl := (List.getElem?_eq_some_iff.1 hj).1
    have hl := hno.1.2.2
    obtain ⟨_, _, _, _, ho⟩ := hno.2.2.2.1 j (d.1[j]'(by omega)) kv (List.getElem?_eq_getElem _) hj
    exact (ho.lt i hi).1
  refine ⟨nv, rv, kvs, rfl, ?_, h.own hr (fun i hi => hs i (hr.lt i hi).1 (htop rv (.inr (.inl rfl)) i hi)), hap, hnr, htop, Nat.le_trans hts h.size⟩
  rcases hn with hn | ⟨g, cap, e, h1, h2, hno⟩
  · exact .inl hn
  · refine .inr ⟨g, cap, e, h1, h2, h.nodes hno ?_ ?_⟩
    · exact hs g hno.1.1 (htop nv (.inl rfl) g (by rw [e]; rfl))
    · intro kv hkv i hi
      exact hs i (hkb g cap e hno kv hkv i hi) (htop kv (.inr (.inr hkv)) i hi)
/-- the blocks of data -/
def dataBlocks (base top : Nat) : Nat → Prop := fun b => base ≤ b ∧ b < top

set_option maxRecDepth 100000 in
set_option maxHeartbeats 4000000 in
theorem markReadData_c (v : Value) (d : Dt) (k base top : Nat) (w : World) (h : DataOwn w base top v d) (h0 : 0 < k) (hk : k + cntD d ≤ 2305843009213693952) :
    Calls Tryz.prog 24 #[v, .int .i64 k] w fun e w' => e = .returned (.int .i64 ((k + cntD d : Nat) : Int)) ∧ DataOwn w' base top v (mkD k d) ∧ Kept (dataBlocks base top) w w' := by
  obtain ⟨ns, rs⟩ := d
  obtain ⟨nv, rv, kvs, rfl, hn, hr, hap, hnr, htop, hts⟩ := h
  unfold mkD cntD at *
  simp only at hn hr hk
  unfold Apart at hap
  rw [List.pairwise_cons] at hap
  have hbb := (Below.refl w.heap.size w).alloc (Nat.le_refl _) (.cells #[nv, rv] 26)
  have HR := hide (own_below hr hbb)
  have HA := hide (AtC2.new w nv rv 26)
  have HAP := hide hap
  have HNR := hide hnr
  have HTOP := hide htop
  rcases hn with ⟨rfl, rfl, rfl⟩ | ⟨g, cap, rfl, hc1, hc2, hno⟩
  · -- no nodes
    have hbr : ∀ i, rv.ownBlock = some i → base ≤ i ∧ i < top := fun i hi => ⟨((unhide HR).lt i hi).1, htop rv (.inr (.inl rfl)) i hi⟩
    clear hr hbb hap hnr htop
    have hk' : k + rs.length ≤ 2305843009213693952 := by simp only [cnt_nil] at hk; omega
    clear hk
    go_enter Tryz.func24, Tryz.ntmps24
    go_wp2_with fail
    have h := markReadNodeS_nil k (w.alloc (.cells #[.slice none 0 0, rv] 26))
    refine h.mono ?_
    clear h
    rintro e w1 ⟨rfl, rfl⟩
    go_wp2_with fail
    have h := markIntS_c rv rs k base _ (unhide HR) (by omega)
    refine h.mono ?_
    clear h
    rintro e w2 ⟨rfl, hown2, hgr2⟩
    go_wp2
    go_ret
    have k2 : Kept (dataBlocks base top) w w2 := kept_alloc (Kept.of_grown hgr2 (fun i hi => hbr i hi))
    refine ⟨ret_int (by simp [cnt_nil]), ⟨_, rv, [], rfl, .inl ⟨rfl, rfl, rfl⟩, ?_, ?_, unhide HNR, unhide HTOP, Nat.le_trans hts k2.size⟩, k2⟩
    · rw [mkI_len]; simpa [cnt_nil] using hown2
    · unfold Apart; rw [List.pairwise_cons]; exact unhide HAP
  · have HN := hide (hno.below hbb)
    have hgt : g < top := htop _ (.inl rfl) g rfl
    have hkt : ∀ kv ∈ kvs, ∀ i, kv.ownBlock = some i → i < top := fun kv hkv i hi => htop kv (.inr (.inr hkv)) i hi
    have hrt : ∀ i, rv.ownBlock = some i → i < top := fun i hi => htop rv (.inr (.inl rfl)) i hi
    have HRT := hide hrt
    clear hno hr hbb hap hnr htop hrt
    go_enter Tryz.func24, Tryz.ntmps24
    go_wp2_with fail
    have hbg := (unhide HN).1.1
    have hkb : ∀ kv ∈ kvs, ∀ i, kv.ownBlock = some i → base ≤ i := by
      intro kv hkv i hi
      obtain ⟨j, hj⟩ := List.getElem?_of_mem hkv
      have hjl := (List.getElem?_eq_some_iff.1 hj).1
      have hl := (unhide HN).1.2.2
      obtain ⟨_, _, _, _, ho⟩ := (unhide HN).2.2.2.1 j (ns[j]'(by omega)) kv (List.getElem?_eq_getElem _) hj
      exact (ho.lt i hi).1
    have h := markReadNodeS_c g cap base ns kvs k _ (unhide HN) hc1 hc2 h0 (by omega)
    refine h.mono ?_
    clear h
    rintro e w1 ⟨rfl, hno1, hk1⟩
    have hA1 : AtC2 w1 w.heap.size (.slice (some ⟨g, 0, none⟩) ns.length cap) rv 26 := by
      refine (hk1.block w.heap.size (by simp) ?_).trans (unhide HA)
      rintro (e | ⟨kv, hkv, e⟩)
      · omega
      · have := hkt kv hkv _ e; omega
    have a0 := hA1.n0
    have a1 := hA1.n1
    have hr1 : w1.ownsRow base 3 1 rv rs.length (iv rs) := by
      refine hk1.own (unhide HR) (fun i hi => ?_)
      rintro (e | ⟨kv, hkv, e⟩)
      · exact (unhide HNR) g rfl (by rw [hi, e])
      · exact (unhide HAP).1 kv hkv i hi e
    have hbr : ∀ i, rv.ownBlock = some i → base ≤ i := fun i hi => (hr1.lt i hi).1
    have K1 := hide hk1
    have N1 := hide hno1
    clear hk1 hno1 hA1 hkb
    go_wp2_with fail
    have h := markIntS_c rv rs (k + cnt ns) base w1 hr1 (by omega)
    rw [show ((k + cnt ns : Nat) : Int) = (k : Int) + (cnt ns : Int) from by omega] at h
    refine h.mono ?_
    clear h
    rintro e w2 ⟨rfl, hown2, hgr2⟩
    go_wp2
    go_ret
    have n2 := (unhide N1).row hgr2 (fun e => (unhide HNR) g rfl e) (fun kv hkv i hi => (unhide HAP).1 kv hkv i hi)
    have k2 : Kept (dataBlocks base top) w w2 := by
      refine (kept_alloc ((unhide K1).mono ?_)).trans (Kept.of_grown hgr2 (fun i hi => ⟨hbr i hi, (unhide HRT) i hi⟩))
      rintro b (rfl | ⟨kv, hkv, e⟩)
      · exact ⟨hbg, hgt⟩
      · obtain ⟨j, hj⟩ := List.getElem?_of_mem hkv
        have hjl := (List.getElem?_eq_some_iff.1 hj).1
        have hl := (unhide HN).1.2.2
        obtain ⟨_, _, _, _, ho⟩ := (unhide HN).2.2.2.1 j (ns[j]'(by omega)) kv (List.getElem?_eq_getElem _) hj
        exact ⟨(ho.lt b e).1, hkt kv hkv b e⟩
    refine ⟨ret_int (by omega), ⟨_, rv, kvs, rfl, .inr ⟨g, cap, by rw [mkN_len], by rw [mkN_len]; exact hc1, hc2, by rw [mkN_len]; exact n2⟩, by rw [mkI_len]; exact hown2, ?_, unhide HNR, unhide HTOP, Nat.le_trans hts k2.size⟩, k2⟩
    unfold Apart; rw [List.pairwise_cons]; exact unhide HAP
end Go.Proofs.YtpbnmhnbkfnaeaaGreatDoor
/- The law of ReadMin: what holds if both sides answer alike. -/
namespace Go.Proofs.YtpbnmhnbkfnaeaaGreatDoor
open Go.RowKit Nt

theorem DataOwn.below {w w' : World} {base top : Nat} {v : Value} {d : Dt} (h : DataOwn w base top v d) (k : Below w.heap.size w w') : DataOwn w' base top v d :=
  (Kept.of_below (S := fun _ => False) k).data h (fun _ _ _ e => e)
theorem DataAt.form {w : World} {v : Value} {d : Dt} (h : DataAt w v d) : ∃ nv rv, v = .agg #[nv, rv] := by
  obtain ⟨nv, rv, rfl, _⟩ := h; exact ⟨nv, rv, rfl⟩
theorem DataAt.slices {w : World} {nv rv : Value} {d : Dt} (h : DataAt w (.agg #[nv, rv]) d) : ∃ a n c b m c', nv = .slice a n c ∧ rv = .slice b m c' := by
  obtain ⟨nv', rv', e, h1, h2⟩ := h
  simp only [Value.agg.injEq, Array.mk.injEq, List.cons.injEq, and_true] at e
  obtain ⟨rfl, rfl⟩ := e
  obtain ⟨a, c, rfl, _⟩ := h1
  obtain ⟨b, c', rfl, _⟩ := h2
  exact ⟨_, _, _, _, _, _, rfl, rfl⟩
theorem cntD_le {d : Dt} (h1 : d.1.length ≤ 1048576) (h2 : d.2.length ≤ 1048576) (h3 : NsSmall d.1) : cntD d ≤ 1099514773504 := by
  have key : ∀ ns : List Nd, NsSmall ns → cnt ns ≤ ns.length * 1048578 := by
    intro ns
    induction ns with
    | nil => intro _; simp [cnt]
    | cons x r ih =>
      intro h
      have hx := (h x (by simp)).2
      have := ih (fun nd hm => h nd (by simp [hm]))
      simp only [cnt, List.map_cons, List.sum_cons, List.length_cons] at this ⊢
      omega
  have := key d.1 h3
  unfold cntD
  omega

end Go.Proofs.YtpbnmhnbkfnaeaaGreatDoor
/- The law of TabCmp: what holds if both sides answer alike. -/
namespace Go.Proofs.YtpbnmhnbkfnaeaaGreatDoor
open Go.RowKit Nt

set_option maxRecDepth 100000 in
set_option maxHeartbeats 4000000 in
theorem szReadDataL_c (v : Value) (d : Dt) (left : Int) (w : World) (hl : 0 ≤ left ∧ left ≤ 1048576) (h : DataAt w v d) :
    Calls Tryz.prog 21 #[v, .int .i64 left] w fun e w' => (∃ r, e = .returned (.int .i64 r) ∧ r ≤ left ∧ (0 ≤ r → d.1.length ≤ 1048576 ∧ d.2.length ≤ 1048576 ∧ NsSmall d.1)) ∧ Below w.heap.size w w' := by
  obtain ⟨ns, rs⟩ := d
  obtain ⟨nv, rv, rfl, hn, hr⟩ := h
  have hbb := (Below.refl w.heap.size w).alloc (Nat.le_refl _) (.cells #[nv, rv] 42)
  have HN := hide (hn.below hbb)
  have HR := hide (hr.below hbb)
  have HBB := hide hbb
  clear hn hr hbb
  simp only at *
  go_enter Tryz.func21, Tryz.ntmps21
  go_wp2_with fail
  have h := szReadNodeS_c nv ns left _ (unhide HN) hl
  refine h.mono ?_
  clear h
  rintro e w1 ⟨⟨r, rfl, hr1, hr2⟩, hb1⟩
  by_cases hr : r < 0
  · go_wp2
    go_ret
    exact ⟨⟨-1, rfl, by omega, by omega⟩, (unhide HBB).trans (hb1.mono (unhide HBB).size)⟩
  · have hr0 : 0 ≤ r := by omega
    have hA := (AtC2.new w nv rv 42).below hb1
    have a0 := hA.n0
    have a1 := hA.n1
    go_wp2_with fail
    have h := szIntS_c rv rs r w1 ((unhide HR).below hb1) ⟨by omega, by omega⟩
    refine h.mono ?_
    clear h
    rintro e w2 ⟨rfl, rfl⟩
    by_cases h2 : r < rs.length
    · rw [show szR r rs.length = -1 from by unfold szR; rw [if_pos h2]]
      go_wp2
      go_ret
      exact ⟨⟨-1, rfl, by omega, by omega⟩, (unhide HBB).trans (hb1.mono (unhide HBB).size)⟩
    · rw [show szR r rs.length = r - rs.length from by unfold szR; rw [if_neg h2]]
      have hn2 : ¬ r - rs.length < 0 := by omega
      go_wp2
      go_ret
      exact ⟨⟨_, rfl, by omega, fun _ => ⟨by have := (hr2 hr0).1; omega, by omega, (hr2 hr0).2⟩⟩, (unhide HBB).trans (hb1.mono (unhide HBB).size)⟩

set_option maxRecDepth 100000 in
set_option maxHeartbeats 8000000 in
theorem lawCmp_main (nv rv mv sv : Value) (d d' : Dt) (R : Int) (w : World) (hd : DataAt w (.agg #[nv, rv]) d) (he : DataAt w (.agg #[mv, sv]) d')
    (hspec : ∀ u v W, Below w.heap.size w W → DataAt W u d → DataAt W v d' → d.1.length ≤ 1048576 ∧ d.2.length ≤ 1048576 ∧ NsSmall d.1 → d'.1.length ≤ 1048576 ∧ d'.2.length ≤ 1048576 ∧ NsSmall d'.1 → Calls Tryz.prog 9 #[u, v] W fun r W' => r = .returned (.int .i64 R) ∧ Below W.heap.size W W')
    (himpl : ∀ u v W, Below w.heap.size w W → DataAt W u d → DataAt W v d' → d.1.length ≤ 1048576 ∧ d.2.length ≤ 1048576 ∧ NsSmall d.1 → d'.1.length ≤ 1048576 ∧ d'.2.length ≤ 1048576 ∧ NsSmall d'.1 → Calls Tryz.prog 8 #[u, v] W fun r W' => r = .returned (.int .i64 R) ∧ Below W.heap.size W W') :
    Calls Tryz.prog 5 #[.agg #[nv, rv], .agg #[mv, sv]] w fun e w' => e = .returned (.bool true) ∧ Below w.heap.size w w' := by
  have HD := hide hd
  have HE := hide he
  have HS := hide hspec
  have HI := hide himpl
  have HB := hide (step_a (step_a (Below.refl w.heap.size w) (.cells #[nv, rv] 42)) (.cells #[mv, sv] 42))
  have HbA := hide ((AtC2.new w nv rv 42).alloc (.cells #[mv, sv] 42))
  have HbE := hide (AtC2.new (w.alloc (.cells #[nv, rv] 42)) mv sv 42)
  rw [World.size_alloc] at HbE
  clear hd he hspec himpl
  go_enter Tryz.func5, Tryz.ntmps5
  go_wp2_with fail
  obtain ⟨W0, hW0⟩ : ∃ W0, (w.alloc (.cells #[nv, rv] 42)).alloc (.cells #[mv, sv] 42) = W0 := ⟨_, rfl⟩
  rw [hW0] at HB HbA HbE ⊢
  clear hW0
  have a0 := (unhide HbA).n0
  have a1 := (unhide HbA).n1
  go_wp2_with fail
  have h := szReadDataL_c _ d 1048576 W0 (by omega) ((unhide HD).below (unhide HB))
  refine h.mono ?_
  clear h
  rintro e w1 ⟨⟨r, rfl, hrl, hr⟩, hb⟩
  replace HB := hide (step_b (unhide HB) hb)
  replace HbA := hide ((unhide HbA).below hb)
  replace HbE := hide ((unhide HbE).below hb)
  clear hb a0 a1
  by_cases hr0 : r < 0
  · go_wp2
    go_ret
    exact ⟨rfl, unhide HB⟩
  have HSD := hide (hr (by omega))
  clear hr
  have b0 := (unhide HbE).n0
  have b1 := (unhide HbE).n1
  go_wp2_with fail
  have h := szReadDataL_c _ d' r w1 ⟨by omega, hrl⟩ ((unhide HE).below (unhide HB))
  refine h.mono ?_
  clear h
  rintro e w2 ⟨⟨q, rfl, hql, hq⟩, hb⟩
  replace HB := hide (step_b (unhide HB) hb)
  replace HbA := hide ((unhide HbA).below hb)
  replace HbE := hide ((unhide HbE).below hb)
  clear hb b0 b1
  by_cases hq0 : q < 0
  · go_wp2
    go_ret
    exact ⟨rfl, unhide HB⟩
  have HSE := hide (hq (by omega))
  clear hq hrl hql hr0
  have a0 := (unhide HbA).n0
  have a1 := (unhide HbA).n1
  have b0 := (unhide HbE).n0
  have b1 := (unhide HbE).n1
  have f0 : w2.drew.cell? ⟨w.heap.size, 0, none⟩ = some nv := a0
  have f1 : w2.drew.cell? ⟨w.heap.size, 1, none⟩ = some rv := a1
  have f2 : w2.drew.cell? ⟨w.heap.size + 1, 0, none⟩ = some mv := b0
  have f3 : w2.drew.cell? ⟨w.heap.size + 1, 1, none⟩ = some sv := b1
  go_wp2_with fail
  go_region_held3 (fun w' => w'.cell? ⟨w.heap.size, 0, none⟩ = some nv ∧ w'.cell? ⟨w.heap.size, 1, none⟩ = some rv ∧ w'.cell? ⟨w.heap.size + 1, 0, none⟩ = some mv ∧ w'.cell? ⟨w.heap.size + 1, 1, none⟩ = some sv) (((try dsimp only); (repeat' apply And.intro) <;> (with_reducible assumption))) (first | (go_at_call 9; refine (unhide HS _ _ w4 (step_b (unhide HB) (unhide HB4)) (unhide HU3) (unhide HU4) (unhide HSD) (unhide HSE)).mono ?_; rintro e w5 ⟨rfl, hb5⟩; have HB5 : Hid (Below w2.heap.size w2 w5) := step_b (unhide HB4) hb5; have y0 := ((unhide HbA).below (unhide HB5)).n0; have y1 := ((unhide HbA).below (unhide HB5)).n1; have y2 := ((unhide HbE).below (unhide HB5)).n0; have y3 := ((unhide HbE).below (unhide HB5)).n1; clear hb5) | (go_at_call 22; refine (toReadData_c _ d' w3 ((unhide HE).below (step_b (unhide HB) (unhide HB3))) (unhide HSE)).mono ?_; rintro e w4 ⟨⟨u4, rfl, hu4⟩, hb4⟩; have HB4 : Hid (Below w2.heap.size w2 w4) := step_b (unhide HB3) hb4; have HU3 := hide ((unhide HU3').below hb4); have HU4 := hide hu4.at; have z0 := ((unhide HbA).below (unhide HB4)).n0; have z1 := ((unhide HbA).below (unhide HB4)).n1; have z2 := ((unhide HbE).below (unhide HB4)).n0; have z3 := ((unhide HbE).below (unhide HB4)).n1; clear hu4 hb4) | (go_at_call 22; refine (toReadData_c _ d w2.drew ((unhide HD).below (unhide HB).drew) (unhide HSD)).mono ?_; rintro e w3 ⟨⟨u3, rfl, hu3⟩, hb3⟩; have HB3 : Hid (Below w2.heap.size w2 w3) := (Below.refl w2.heap.size w2).drew.trans hb3; have HU3' := hide hu3.at; have e0 := ((unhide HbA).below (unhide HB3)).n0; have e1 := ((unhide HbA).below (unhide HB3)).n1; have e2 := ((unhide HbE).below (unhide HB3)).n0; have e3 := ((unhide HbE).below (unhide HB3)).n1; clear hu3 hb3))
  replace HB := hide (step_b (unhide HB) (unhide HB5))
  replace HbA := hide ((unhide HbA).below (unhide HB5))
  replace HbE := hide ((unhide HbE).below (unhide HB5))
  clear a0 a1 b0 b1 f0 f1 f2 f3 e0 e1 e2 e3 y0 y1 y2 y3 z0 z1 z2 z3 HB3 HB4 HB5 HU3 HU3' HU4 HS
  -- the first copy
  have a0 := (unhide HbA).n0
  have a1 := (unhide HbA).n1
  go_wp2_with fail
  have h := toReadData_c _ d w5 ((unhide HD).below (unhide HB)) (unhide HSD)
  refine h.mono ?_
  clear h
  rintro e w6 ⟨⟨u6, rfl, hu6⟩, hb⟩
  obtain ⟨xn, xr, rfl⟩ := hu6.at.form
  obtain ⟨p0, p1, p2, p3, p4, p5, rfl, rfl⟩ := hu6.at.slices
  replace HB := hide (step_a (step_b (unhide HB) hb) (.cells #[.slice p0 p1 p2, .slice p3 p4 p5] 26))
  replace HbA := hide (((unhide HbA).below hb).alloc (.cells #[.slice p0 p1 p2, .slice p3 p4 p5] 26))
  replace HbE := hide (((unhide HbE).below hb).alloc (.cells #[.slice p0 p1 p2, .slice p3 p4 p5] 26))
  have HbX := hide (AtC2.new w6 (.slice p0 p1 p2) (.slice p3 p4 p5) 26)
  have HX := hide (hu6.at.below (step_a (Below.refl w6.heap.size w6) (.cells #[.slice p0 p1 p2, .slice p3 p4 p5] 26)))
  clear hb hu6 a0 a1
  have b0 := (unhide HbE).n0
  have b1 := (unhide HbE).n1
  -- the second copy
  go_wp2_with fail
  have h := toReadData_c _ d' (w6.alloc (.cells #[.slice p0 p1 p2, .slice p3 p4 p5] 26)) ((unhide HE).below (unhide HB)) (unhide HSE)
  refine h.mono ?_
  clear h
  rintro e w7 ⟨⟨u7, rfl, hu7⟩, hb⟩
  obtain ⟨yn, yr, rfl⟩ := hu7.at.form
  obtain ⟨q0, q1, q2, q3, q4, q5, rfl, rfl⟩ := hu7.at.slices
  replace HB := hide (step_a (step_b (unhide HB) hb) (.cells #[.slice q0 q1 q2, .slice q3 q4 q5] 26))
  replace HbA := hide (((unhide HbA).below hb).alloc (.cells #[.slice q0 q1 q2, .slice q3 q4 q5] 26))
  replace HbE := hide (((unhide HbE).below hb).alloc (.cells #[.slice q0 q1 q2, .slice q3 q4 q5] 26))
  replace HbX := hide (((unhide HbX).below hb).alloc (.cells #[.slice q0 q1 q2, .slice q3 q4 q5] 26))
  have HbY := hide (AtC2.new w7 (.slice q0 q1 q2) (.slice q3 q4 q5) 26)
  replace HX := hide (((unhide HX).below hb).below (step_a (Below.refl w7.heap.size w7) (.cells #[.slice q0 q1 q2, .slice q3 q4 q5] 26)))
  have HY := hide (hu7.at.below (step_a (Below.refl w7.heap.size w7) (.cells #[.slice q0 q1 q2, .slice q3 q4 q5] 26)))
  clear hb hu7 b0 b1
  have x0 := (unhide HbX).n0
  have x1 := (unhide HbX).n1
  have y0 := (unhide HbY).n0
  have y1 := (unhide HbY).n1
  go_wp2_with fail
  refine (unhide HI _ _ (w7.alloc (.cells #[.slice q0 q1 q2, .slice q3 q4 q5] 26)) (unhide HB) (unhide HX) (unhide HY) (unhide HSD) (unhide HSE)).mono ?_
  rintro e w8 ⟨rfl, hb⟩
  replace HB := hide (step_b (unhide HB) hb)
  replace HbA := hide ((unhide HbA).below hb)
  replace HbE := hide ((unhide HbE).below hb)
  replace HbX := hide ((unhide HbX).below hb)
  replace HbY := hide ((unhide HbY).below hb)
  replace HX := hide ((unhide HX).below hb)
  replace HY := hide ((unhide HY).below hb)
  clear hb x0 x1 y0 y1 HI
  -- what was handed in is as it was
  have x0 := (unhide HbX).n0
  have x1 := (unhide HbX).n1
  have a0 := (unhide HbA).n0
  have a1 := (unhide HbA).n1
  have x0' : w8.drew.cell? ⟨w6.heap.size, 0, none⟩ = some (.slice p0 p1 p2) := x0
  have x1' : w8.drew.cell? ⟨w6.heap.size, 1, none⟩ = some (.slice p3 p4 p5) := x1
  have a0' : w8.drew.cell? ⟨w.heap.size, 0, none⟩ = some nv := a0
  have a1' : w8.drew.cell? ⟨w.heap.size, 1, none⟩ = some rv := a1
  go_wp2_with fail
  -- w8 the world; w9 w10 what comes behind; w6 the copy's box's world; p0 p1 p2 p3 p4 p5 its slices; w.heap.size the argument's box; nv rv its cells; d the datum; then HD HSD HbA HbX HX
  go_region_held3 (fun w' => w'.cell? ⟨w6.heap.size, 0, none⟩ = some (.slice p0 p1 p2) ∧ w'.cell? ⟨w6.heap.size, 1, none⟩ = some (.slice p3 p4 p5) ∧ w'.cell? ⟨w.heap.size, 0, none⟩ = some nv ∧ w'.cell? ⟨w.heap.size, 1, none⟩ = some rv) (((try dsimp only); (repeat' apply And.intro) <;> (with_reducible assumption))) (first | (go_at_call 23; refine (eqReadData_c _ _ d w9 ((unhide HX).below (unhide HB9)) (unhide HU9)).mono ?_; rintro e w10 ⟨rfl, hb10⟩; have HB10 : Hid (Below w8.heap.size w8 w10) := step_b (unhide HB9) hb10; have s0 := ((unhide HbX).below (unhide HB10)).n0; have s1 := ((unhide HbX).below (unhide HB10)).n1; have s2 := ((unhide HbA).below (unhide HB10)).n0; have s3 := ((unhide HbA).below (unhide HB10)).n1; clear hb10) | (go_at_call 22; refine (toReadData_c _ d w8.drew ((unhide HD).below (unhide HB).drew) (unhide HSD)).mono ?_; rintro e w9 ⟨⟨u9, rfl, hu9⟩, hb9⟩; have HB9 : Hid (Below w8.heap.size w8 w9) := (Below.refl w8.heap.size w8).drew.trans hb9; have HU9 := hide hu9.at; have t0 := ((unhide HbX).below (unhide HB9)).n0; have t1 := ((unhide HbX).below (unhide HB9)).n1; have t2 := ((unhide HbA).below (unhide HB9)).n0; have t3 := ((unhide HbA).below (unhide HB9)).n1; clear hu9 hb9))
  replace HB := hide (step_b (unhide HB) (unhide HB10))
  replace HbE := hide ((unhide HbE).below (unhide HB10))
  replace HbY := hide ((unhide HbY).below (unhide HB10))
  replace HY := hide ((unhide HY).below (unhide HB10))
  clear x0 x1 a0 a1 x0' x1' a0' a1' s0 s1 s2 s3 t0 t1 t2 t3 HB9 HB10 HU9 HbA HbX HX
  have x0 := (unhide HbY).n0
  have x1 := (unhide HbY).n1
  have a0 := (unhide HbE).n0
  have a1 := (unhide HbE).n1
  have x0' : w10.drew.cell? ⟨w7.heap.size, 0, none⟩ = some (.slice q0 q1 q2) := x0
  have x1' : w10.drew.cell? ⟨w7.heap.size, 1, none⟩ = some (.slice q3 q4 q5) := x1
  have a0' : w10.drew.cell? ⟨w.heap.size + 1, 0, none⟩ = some mv := a0
  have a1' : w10.drew.cell? ⟨w.heap.size + 1, 1, none⟩ = some sv := a1
  go_wp2_with fail
  -- w10 the world; w11 w12 what comes behind; w7 the copy's box's world; q0 q1 q2 q3 q4 q5 its slices; w.heap.size + 1 the argument's box; mv sv its cells; d' the datum; then HD HSD HbA HbX HX
  go_region_held3 (fun w' => w'.cell? ⟨w7.heap.size, 0, none⟩ = some (.slice q0 q1 q2) ∧ w'.cell? ⟨w7.heap.size, 1, none⟩ = some (.slice q3 q4 q5) ∧ w'.cell? ⟨w.heap.size + 1, 0, none⟩ = some mv ∧ w'.cell? ⟨w.heap.size + 1, 1, none⟩ = some sv) (((try dsimp only); (repeat' apply And.intro) <;> (with_reducible assumption))) (first | (go_at_call 23; refine (eqReadData_c _ _ d' w11 ((unhide HY).below (unhide HB9)) (unhide HU9)).mono ?_; rintro e w12 ⟨rfl, hb10⟩; have HB10 : Hid (Below w10.heap.size w10 w12) := step_b (unhide HB9) hb10; have s0 := ((unhide HbY).below (unhide HB10)).n0; have s1 := ((unhide HbY).below (unhide HB10)).n1; have s2 := ((unhide HbE).below (unhide HB10)).n0; have s3 := ((unhide HbE).below (unhide HB10)).n1; clear hb10) | (go_at_call 22; refine (toReadData_c _ d' w10.drew ((unhide HE).below (unhide HB).drew) (unhide HSE)).mono ?_; rintro e w11 ⟨⟨u9, rfl, hu9⟩, hb9⟩; have HB9 : Hid (Below w10.heap.size w10 w11) := (Below.refl w10.heap.size w10).drew.trans hb9; have HU9 := hide hu9.at; have t0 := ((unhide HbY).below (unhide HB9)).n0; have t1 := ((unhide HbY).below (unhide HB9)).n1; have t2 := ((unhide HbE).below (unhide HB9)).n0; have t3 := ((unhide HbE).below (unhide HB9)).n1; clear hu9 hb9))
  replace HB := hide (step_b (unhide HB) (unhide HB10))
  go_wp2
  go_ret
  exact ⟨rfl, unhide HB⟩
end Go.Proofs.YtpbnmhnbkfnaeaaGreatDoor
/- Data as a caller hands them in, opened. (Of Rr; not to be imported beside it.) -/
namespace Go.Proofs.YtpbnmhnbkfnaeaaGreatDoor
open Go.ChangeShapes Go.WideShapes Go.ChangeAt Go.RowKit Go.Joins Go.Deep Nt

theorem list_of {α : Type} (Q : Nat → α → Prop) : ∀ n, (∀ i, i < n → ∃ x, Q i x) → ∃ l : List α, l.length = n ∧ ∀ j x, l[j]? = some x → Q j x
  | 0, _ => ⟨[], rfl, fun j x h => by simp at h⟩
  | n + 1, h => by
    obtain ⟨l, hl, hq⟩ := list_of Q n (fun i hi => h i (by omega))
    obtain ⟨x, hx⟩ := h n (by omega)
    refine ⟨l ++ [x], by simp [hl], fun j y hj => ?_⟩
    by_cases e : j < n
    · rw [List.getElem?_append_left (by omega)] at hj
      exact hq j y hj
    · have hjl := (List.getElem?_eq_some_iff.1 hj).1
      simp at hjl
      obtain rfl : j = n := by omega
      rw [List.getElem?_append_right (by omega)] at hj
      simp [hl] at hj
      subst hj
      exact hx

theorem addr_add2 (q i j : Nat) : (⟨q, i, none⟩ : Addr).add j = ⟨q, i + j, none⟩ := by
  by_cases h : j = 0
  · subst h; simp [Addr.add]
  · simp [Addr.add, h]
section
variable {H : Type} {enc : TypeId × Value → H} {W : World} {fuel : Nat} {v : Value} {y : DataW H × List MemPlace}
theorem ints_in (h : DataW.trod enc Tryz.prog W 0 (fun _ => true) true fuel 24 [v] = some y) : ∃ xs, IntsAt W v xs := by
  rcases open_ints Tryz.underlying24 Tryz.underlying3 (by kernel_rfl) h with ⟨hcs, _⟩ | ⟨x, l, c, zs, hcs, _, hl, hm, hz, _, hcell, _⟩
  · simp only [List.cons.injEq, and_true] at hcs
    subst hcs
    exact ⟨[], none, 0, rfl, by simp, by unfold maxLen; omega, fun h => by simp at h⟩
  · simp only [List.cons.injEq, and_true] at hcs
    subst hcs
    have hzl : zs.length = c := by simpa using hz
    have hlen : (zs.take l).length = l := by simp; omega
    refine ⟨zs.take l, some x, c, by rw [hlen], by rw [hlen]; exact hl, hm, fun h0 => ?_⟩
    obtain ⟨b, off, spot⟩ := x
    have hc := hcell 0 (by omega)
    have hspot : spot = none := by simpa [Addr.add] using World.cell?_spot hc
    subst hspot
    refine ⟨b, off, rfl, World.block_lt_of_cell? W _ hc, fun j z hj => ?_⟩
    have hjl : j < l := by have := (List.getElem?_eq_some_iff.1 hj).1; omega
    have hcj := hcell j (by omega)
    rw [List.getElem?_take, if_pos hjl] at hj
    rw [addr_add2, List.getD_eq_getElem?_getD, hj] at hcj
    exact hcj
theorem cells3 {a : Addr} {cs : List Value} (h : W.cells? 0 a 3 = some cs) : ∃ c0 c1 c2, cs = [c0, c1, c2] ∧ W.cell? (a.add 0) = some c0 ∧ W.cell? (a.add 1) = some c1 ∧ W.cell? (a.add 2) = some c2 := by
  unfold World.cells? at h
  rw [if_pos (Nat.zero_le _)] at h
  simp only [List.range_succ, List.range_zero, List.nil_append, List.cons_append, List.mapM_cons, List.mapM_nil] at h
  cases h0 : W.cell? (a.add 0) with
  | none => simp [h0] at h
  | some c0 =>
    cases h1 : W.cell? (a.add 1) with
    | none => simp [h0, h1] at h
    | some c1 =>
      cases h2 : W.cell? (a.add 2) with
      | none => simp [h0, h1, h2] at h
      | some c2 =>
        simp [h0, h1, h2] at h
        exact ⟨c0, c1, c2, h.symm, rfl, rfl, rfl⟩
theorem nodes_in (h : DataW.trod enc Tryz.prog W 0 (fun _ => true) true fuel 40 [v] = some y) : ∃ ns, NodesAt W v ns ∧ ∀ nd ∈ ns, (Lit.int .i64 nd.1).wf = true := by
  rcases DataW.trod_slice Tryz.underlying40 h with ⟨hcs, _⟩ | ⟨a, len, cap, elems, rest, n, _, hcs, _, _, hl, hm, hlen, hel, _, _⟩
  · simp only [List.cons.injEq, and_true] at hcs
    subst hcs
    exact ⟨[], ⟨none, 0, rfl, by simp, by unfold maxLen; omega, fun h => by simp at h⟩, fun nd h => by simp at h⟩
  · simp only [List.cons.injEq, and_true] at hcs
    subst hcs
    have e1 : Tryz.prog.cellsOf 117 = 3 := by kernel_rfl
    have e2 : Tryz.prog.cellsOf 3 = 1 := by kernel_rfl
    have e3 : Tryz.prog.cellsOf 9 = 1 := by kernel_rfl
    have e4 : Tryz.prog.cellsOf 24 = 1 := by kernel_rfl
    have each : ∀ i, i < len → ∃ nd : Nd, (W.cell? ((a.add (i * 3)).add 0) = some (.int .i64 nd.1) ∧ W.cell? ((a.add (i * 3)).add 1) = some (.string (B nd.2.1)) ∧ nd.2.1.length ≤ maxLen ∧ ∃ kv, W.cell? ((a.add (i * 3)).add 2) = some kv ∧ IntsAt W kv nd.2.2) ∧ (Lit.int .i64 nd.1).wf = true := by
      intro i hi
      have hE := hel i hi
      rw [e1] at hE
      obtain ⟨z, hz⟩ : ∃ z, elems[i]? = some z := ⟨_, List.getElem?_eq_getElem (by omega)⟩
      rw [hz] at hE
      simp only [Option.bind_eq_some_iff] at hE
      obtain ⟨cs, hc1, hy1⟩ := hE
      obtain ⟨c0, c1, c2, rfl, k0, k1, k2⟩ := cells3 hc1
      obtain ⟨y0, y1, y2, m, _, _, t0, t1, t2⟩ := trod_struct3 Tryz.underlying117 hy1
      simp only [e2, e3, e4, List.drop_zero, List.take_succ_cons, List.take_zero, List.drop_succ_cons] at t0 t1 t2
      obtain ⟨q, f0, _, wq⟩ := DataW.trod_int Tryz.underlying3 t0
      obtain ⟨s, f1, _, hs⟩ := DataW.trod_string Tryz.underlying9 t1
      obtain ⟨ks, hk⟩ := ints_in t2
      simp only [List.cons.injEq, and_true] at f0
      simp only [List.cons.injEq, and_true] at f1
      subst f0 f1
      exact ⟨(q, s.data.toList, ks), ⟨k0, by rw [k1]; simp [B], by rw [show s.data.toList.length = s.size from rfl]; exact hs, c2, k2, hk⟩, wq⟩
    obtain ⟨ns, hnl, hns⟩ := list_of _ len each
    subst hnl
    refine ⟨ns, ⟨some a, cap, rfl, hl, hm, fun h0 => ?_⟩, fun nd hnd => ?_⟩
    · obtain ⟨nd0, hnd0⟩ : ∃ nd, ns[0]? = some nd := ⟨_, List.getElem?_eq_getElem h0⟩
      obtain ⟨b, off, spot⟩ := a
      have hc := (hns 0 nd0 hnd0).1.1
      have hspot : spot = none := by
        have := World.cell?_spot hc
        simpa [Addr.add] using this
      subst hspot
      refine ⟨b, off, rfl, ?_, fun j nd hj => ?_⟩
      · have := World.block_lt_of_cell? W _ hc
        simpa [addr_add2] using this
      · obtain ⟨⟨k0, k1, k2, kv, k3, k4⟩, _⟩ := hns j nd hj
        simp only [addr_add2, Nat.add_zero] at k0 k1 k3
        exact ⟨k0, k1, k2, kv, k3, k4⟩
    · obtain ⟨j, hj⟩ := List.getElem?_of_mem hnd
      exact (hns j nd hj).2
end
end Go.Proofs.YtpbnmhnbkfnaeaaGreatDoor
/- Nodes in a row that grows, each list of kids in a block of its own. (Of Yg; not to be imported beside it.) -/
namespace Go.Proofs.YtpbnmhnbkfnaeaaGreatDoor
open Go.RowKit Nt

def nd3 (nd : Nd) (kv : Value) : List Value := [.int .i64 nd.1, .string (B nd.2.1), kv]
def flatN : List Nd → List Value → List Value
  | nd :: ns, kv :: kvs => nd3 nd kv ++ flatN ns kvs
  | _, _ => []
theorem flatN_snoc {ns : List Nd} {kvs : List Value} {nd : Nd} {kv : Value} (h : ns.length = kvs.length) : flatN (ns ++ [nd]) (kvs ++ [kv]) = flatN ns kvs ++ nd3 nd kv := by
  induction ns generalizing kvs with
  | nil =>
    cases kvs with
    | nil => simp [flatN]
    | cons a b => simp at h
  | cons x r ih =>
    cases kvs with
    | nil => simp at h
    | cons a b =>
      simp only [List.cons_append, flatN]
      rw [ih (by simpa using h), List.append_assoc]
theorem flatN_get {ns : List Nd} {kvs : List Value} {j : Nat} {nd : Nd} {kv : Value} (h1 : ns[j]? = some nd) (h2 : kvs[j]? = some kv) :
    (flatN ns kvs)[j * 3]? = some (.int .i64 nd.1) ∧ (flatN ns kvs)[j * 3 + 1]? = some (.string (B nd.2.1)) ∧ (flatN ns kvs)[j * 3 + 2]? = some kv := by
  induction ns generalizing kvs j with
  | nil => simp at h1
  | cons x r ih =>
    cases kvs with
    | nil => simp at h2
    | cons a b =>
      cases j with
      | zero =>
        simp at h1 h2
        subst h1 h2
        simp [flatN, nd3]
      | succ j =>
        simp only [List.getElem?_cons_succ] at h1 h2
        obtain ⟨c0, c1, c2⟩ := ih h1 h2
        have key : ∀ i, (flatN (x :: r) (a :: b))[(j + 1) * 3 + i]? = (flatN r b)[j * 3 + i]? := by
          intro i
          show (nd3 x a ++ flatN r b)[(j + 1) * 3 + i]? = _
          rw [List.getElem?_append_right (by simp [nd3]; omega)]
          congr 1
          simp [nd3]; omega
        exact ⟨by have := key 0; simp only [Nat.add_zero] at this; rw [this]; exact c0, by rw [key]; exact c1, by rw [key]; exact c2⟩

/-- a row of nodes that is the call's own, and the lists of their kids -/
def RowN (w : World) (base : Nat) (v : Value) (ns : List Nd) (kvs : List Value) : Prop :=
  kvs.length = ns.length ∧ w.ownsRow base 56 3 v ns.length (flatN ns kvs) ∧ ∀ (j : Nat) (nd : Nd) (kv : Value), ns[j]? = some nd → kvs[j]? = some kv → nd.2.1.length ≤ maxLen ∧ w.ownsRow base 3 1 kv nd.2.2.length (iv nd.2.2)
theorem RowN.at {w : World} {base : Nat} {v : Value} {ns : List Nd} {kvs : List Value} (h : RowN w base v ns kvs) : NodesAt w v ns := by
  obtain ⟨hl, hr, hk⟩ := h
  rcases hr.2 with ⟨rfl, h0⟩ | ⟨g, cap, cur, rfl, hb, hg, h1, h2, h3, h4⟩
  · exact ⟨none, 0, by rw [h0], by omega, by unfold maxLen; omega, fun h => absurd h (by omega)⟩
  · refine ⟨_, cap, rfl, h1, h2, fun _ => ⟨g, 0, rfl, (Array.getElem?_eq_some_iff.1 hg).1, fun j nd e1 => ?_⟩⟩
    have hj := (List.getElem?_eq_some_iff.1 e1).1
    have e2 : kvs[j]? = some (kvs[j]'(by omega)) := List.getElem?_eq_getElem _
    obtain ⟨f0, f1, f2⟩ := flatN_get e1 e2
    obtain ⟨hl2, ho⟩ := hk j nd _ e1 e2
    refine ⟨?_, ?_, hl2, _, ?_, owns_ints ho⟩
    · rw [Nat.zero_add, hr.cellAt (j * 3) (by omega)]; exact f0
    · rw [Nat.zero_add, hr.cellAt (j * 3 + 1) (by omega)]; exact f1
    · rw [Nat.zero_add, hr.cellAt (j * 3 + 2) (by omega)]; exact f2
theorem RowN.below {w w' : World} {base : Nat} {v : Value} {ns : List Nd} {kvs : List Value} (h : RowN w base v ns kvs) (k : Below w.heap.size w w') : RowN w' base v ns kvs :=
  ⟨h.1, own_below h.2.1 k, fun j nd kv e1 e2 => ⟨(h.2.2 j nd kv e1 e2).1, own_below (h.2.2 j nd kv e1 e2).2 k⟩⟩
/-- rows of other kinds lie in other blocks -/
theorem own_ne {w : World} {b1 b2 s1 s2 n1 n2 : Nat} {e1 e2 : TypeId} {v1 v2 : Value} {x1 x2 : List Value} (h1 : w.ownsRow b1 e1 s1 v1 n1 x1) (h2 : w.ownsRow b2 e2 s2 v2 n2 x2) (hne : e1 ≠ e2) : v1.ownBlock = none ∨ v1.ownBlock ≠ v2.ownBlock := by
  rcases h1.2 with ⟨rfl, _⟩ | ⟨g1, c1, k1, rfl, _, hg1, _⟩
  · exact .inl rfl
  · right
    rcases h2.2 with ⟨rfl, _⟩ | ⟨g2, c2, k2, rfl, _, hg2, _⟩
    · intro e; simp [Value.ownBlock] at e
    · intro e
      simp [Value.ownBlock] at e
      subst e
      rw [hg1] at hg2
      simp at hg2
      exact hne hg2.2
/-- one more node, behind an append -/
theorem RowN.push {w w' : World} {base : Nat} {v v' : Value} {ns : List Nd} {kvs : List Value} {nd : Nd} {kv : Value} (h : RowN w base v ns kvs) (ht : nd.2.1.length ≤ maxLen) (ho : w.ownsRow base 3 1 kv nd.2.2.length (iv nd.2.2))
    (hr : w'.ownsRow base 56 3 v' (ns.length + 1) (flatN ns kvs ++ nd3 nd kv)) (hg : w.grownBy w' v.ownBlock) : RowN w' base v' (ns ++ [nd]) (kvs ++ [kv]) := by
  obtain ⟨hl, hrow, hk⟩ := h
  have hne : 3 ≠ 56 := by decide
  refine ⟨by simp [hl], ?_, fun j nd' kv' e1 e2 => ?_⟩
  · rw [flatN_snoc hl.symm]; simpa using hr
  · by_cases hj : j < ns.length
    · rw [List.getElem?_append_left hj] at e1
      rw [List.getElem?_append_left (by omega)] at e2
      obtain ⟨a1, a2⟩ := hk j nd' kv' e1 e2
      exact ⟨a1, a2.kept hg (own_ne a2 hrow hne)⟩
    · have hj2 : j = ns.length := by
        have := (List.getElem?_eq_some_iff.1 e1).1
        simp at this; omega
      subst hj2
      rw [List.getElem?_append_right (Nat.le_refl _)] at e1
      rw [List.getElem?_append_right (by omega), hl] at e2
      simp at e1 e2
      subst e1 e2
      exact ⟨ht, ho.kept hg (own_ne ho hrow hne)⟩
end Go.Proofs.YtpbnmhnbkfnaeaaGreatDoor
/- A region that draws its order, by what holds whichever operations have been carried out (of Ui, Ub, Ur; not to be imported beside them). -/
namespace Go.Proofs.YtpbnmhnbkfnaeaaGreatDoor
open Go.RowKit Nt

theorem count_false {l : List Bool} {i : Nat} (h : l[i]? = some false) : (l.set i true).count false + 1 = l.count false := by
  induction l generalizing i with
  | nil => simp at h
  | cons a r ih =>
    cases i with
    | zero => simp at h; subst h; simp
    | succ i => rw [List.getElem?_cons_succ] at h; have := ih h; simp only [List.set_cons_succ, List.count_cons]; omega
def LL (l : Array Bool) (i : Nat) : Prop := l[i]? = some true
theorem LL_set {l : Array Bool} {i : Nat} (h : i < l.size) (j : Nat) : LL (l.setIfInBounds i true) j ↔ j = i ∨ LL l j := by
  unfold LL
  rw [Array.getElem?_setIfInBounds]
  by_cases e : i = j
  · subst e; rw [if_pos rfl, if_pos h]; simp
  · rw [if_neg e]; constructor
    · exact .inr
    · rintro (h | h)
      · exact absurd h.symm e
      · exact h
theorem LL_of {l : Array Bool} {k : Nat} (h : l[k]?.getD false = true) : LL l k := by
  unfold LL
  cases e : l[k]? with
  | none => rw [e] at h; simp at h
  | some b => rw [e] at h; simp at h; rw [h]
theorem wpAny_inv {P : Program} {ops : Array Oper} {Q : Exit → Act → World → Prop} {md : Region.Mode} (Inv : Array Bool → Act → World → Prop)
    (hsz : ∀ l a w, Inv l a w → l.size = ops.size) (hend : ∀ l a w, Inv l a w → (∀ i, i < ops.size → l[i]? = some true) → Q .normal a w)
    (hstep : ∀ l a w i, Inv l a w → i ∈ Region.ready md ops l → wpOp P ops Q i (fun a' w' => Inv (l.setIfInBounds i true) a' w') a w)
    (hgo : ∀ l a w, Inv l a w → Region.ready md ops l = [] → ∀ i, i < ops.size → l[i]? = some true) :
    ∀ fuel l a w, Inv l a w → l.toList.count false ≤ fuel → wpAny P md ops Q fuel l a w := by
  intro fuel
  induction fuel with
  | zero =>
    intro l a w hI hc
    have hall : ∀ i, i < ops.size → l[i]? = some true := fun i hi => by
      have h1 : l[i]? = some (l[i]'(by rw [hsz l a w hI]; exact hi)) := Array.getElem?_eq_getElem _
      cases hv : l[i]'(by rw [hsz l a w hI]; exact hi) with
      | true => rw [h1, hv]
      | false =>
        have : false ∈ l.toList := by rw [← hv]; simp
        have := List.count_pos_iff.2 this
        omega
    refine ⟨?_, hend l a w hI hall⟩
    unfold Region.ready
    rw [List.filter_eq_nil_iff]
    intro i hi
    have := hall i (by simpa using hi)
    simp [Array.getD_eq_getD_getElem?, this]
  | succ fuel ih =>
    intro l a w hI hc
    refine ⟨fun hr => hend l a w hI (hgo l a w hI hr), fun i hi => ?_⟩
    have hi2 := hi
    unfold Region.ready at hi2
    rw [List.mem_filter] at hi2
    have hlt : i < ops.size := by simpa using hi2.1
    have hlf : l[i]? = some false := by
      have h1 : l[i]? = some (l[i]'(by rw [hsz l a w hI]; exact hlt)) := Array.getElem?_eq_getElem _
      have h2 := hi2.2
      simp [Array.getD_eq_getD_getElem?, h1] at h2
      rw [h1, h2.1]
    refine wpOp_mono (fun a' w' h => ih _ a' w' h ?_) (hstep l a w i hI hi)
    have h3 := count_false (l := l.toList) (i := i) (by simpa using hlf)
    simp only [Array.toList_setIfInBounds]
    omega

theorem wpAnyIn_inv {F : Fence} {n : Nat} {P : Program} {ops : Array Oper} {Q : Exit → Act → World → Prop} {md : Region.Mode} (Inv : Array Bool → Act → World → Prop)
    (hsz : ∀ l a w, Inv l a w → l.size = ops.size) (hend : ∀ l a w, Inv l a w → (∀ i, i < ops.size → l[i]? = some true) → Q .normal a w)
    (hstep : ∀ l a w i, Inv l a w → i ∈ Region.ready md ops l → wpOpIn F n P ops Q i (fun a' w' => Inv (l.setIfInBounds i true) a' w') a w)
    (hgo : ∀ l a w, Inv l a w → Region.ready md ops l = [] → ∀ i, i < ops.size → l[i]? = some true) :
    ∀ fuel l a w, Inv l a w → l.toList.count false ≤ fuel → wpAnyIn F n P md ops Q fuel l a w := by
  intro fuel
  induction fuel with
  | zero =>
    intro l a w hI hc
    have hall : ∀ i, i < ops.size → l[i]? = some true := fun i hi => by
      have h1 : l[i]? = some (l[i]'(by rw [hsz l a w hI]; exact hi)) := Array.getElem?_eq_getElem _
      cases hv : l[i]'(by rw [hsz l a w hI]; exact hi) with
      | true => rw [h1, hv]
      | false =>
        have : false ∈ l.toList := by rw [← hv]; simp
        have := List.count_pos_iff.2 this
        omega
    refine ⟨?_, hend l a w hI hall⟩
    unfold Region.ready
    rw [List.filter_eq_nil_iff]
    intro i hi
    have := hall i (by simpa using hi)
    simp [Array.getD_eq_getD_getElem?, this]
  | succ fuel ih =>
    intro l a w hI hc
    refine ⟨fun hr => hend l a w hI (hgo l a w hI hr), fun i hi => ?_⟩
    have hi2 := hi
    unfold Region.ready at hi2
    rw [List.mem_filter] at hi2
    have hlt : i < ops.size := by simpa using hi2.1
    have hlf : l[i]? = some false := by
      have h1 : l[i]? = some (l[i]'(by rw [hsz l a w hI]; exact hlt)) := Array.getElem?_eq_getElem _
      have h2 := hi2.2
      simp [Array.getD_eq_getD_getElem?, h1] at h2
      rw [h1, h2.1]
    refine wpOpIn_mono (fun a' w' h => ih _ a' w' h ?_) (hstep l a w i hI hi)
    have h3 := count_false (l := l.toList) (i := i) (by simpa using hlf)
    simp only [Array.toList_setIfInBounds]
    omega

theorem LL_ready {md : Region.Mode} {ops : Array Oper} {l : Array Bool} (hr : Region.ready md ops l = []) (i : Nat) (hi : i < ops.size) (hs : l.size = ops.size) (h : ((ops[i]?).map (·.after.all fun e => !Region.binds md e || l.getD e.on false)).getD false = true) : l[i]? = some true := by
  apply Classical.byContradiction
  intro hne
  have hf : l[i]? = some false := by
    have e : l[i]? = some (l[i]'(by omega)) := Array.getElem?_eq_getElem _
    cases hb : l[i]'(by omega) with
    | true => rw [hb] at e; exact absurd e hne
    | false => rw [hb] at e; exact e
  apply List.not_mem_nil (a := i)
  rw [← hr]
  unfold Region.ready
  rw [List.mem_filter]
  refine ⟨by simpa using hi, ?_⟩
  rw [h]
  simp [Array.getD_eq_getD_getElem?, hf]

end Go.Proofs.YtpbnmhnbkfnaeaaGreatDoor
/- append, onto a row of the call's own, of whatever list of ints lies in memory. -/
namespace Go.Proofs.YtpbnmhnbkfnaeaaGreatDoor
open Go.RowKit Nt

/-- a row of ints of the call's own -/
abbrev RowI (w : World) (base : Nat) (v : Value) (xs : List Int) : Prop := w.ownsRow base 3 1 v xs.length (iv xs)
theorem iv_app (xs ys : List Int) : iv (xs ++ ys) = iv xs ++ iv ys := by simp [iv]
theorem rowI_made (w : World) : RowI (w.alloc (.cells #[] 3)) w.heap.size (.slice (some ⟨w.heap.size, 0, none⟩) 0 0) [] :=
  ⟨rfl, .inr ⟨w.heap.size, 0, #[], rfl, Nat.le_refl _, heap_alloc_new w _, Nat.le_refl _, by unfold maxLen; omega, rfl, rfl⟩⟩
theorem run_append_none {P : Program} (w : World) (base : Nat) (t ty e : TypeId) (i : TypeInfo) (size : Nat) (ht : P.underlying t = some (.slice e)) (hi : P.info? e = some i)
    (v : Value) (n c : Nat) (xs : List Value) (hown : w.ownsRow base e size v n xs) : (Builtin.append_ #[t, t] ty #[v, .slice none 0 c]).run P w = .ok v w := by
  rcases hown.2 with ⟨rfl, rfl⟩ | ⟨g, cap, cur, rfl, _, hg, hnc, _⟩
  · simp [Builtin.append_, run_underlying ht, sizeOf, typeInfo, hi, Builtin.lenOf, Builtin.firstCells]
  · simp [Builtin.append_, run_underlying ht, sizeOf, typeInfo, hi, Builtin.lenOf, Builtin.firstCells, storeCells, hnc]
theorem cell_add {w : World} {b off j : Nat} {v : Value} (h : w.cell? ⟨b, off + j, none⟩ = some v) : w.cell? ((⟨b, off, none⟩ : Addr).add j) = some v := by
  have e : (⟨b, off, none⟩ : Addr).add j = ⟨b, off + j, none⟩ := by unfold Addr.add; split <;> simp_all
  rw [e]; exact h
theorem run_append_ints (w : World) (base : Nat) (ty : TypeId) (v x : Value) (l xs : List Int) (hown : RowI w base v l) (hx : IntsAt w x xs) (hn : l.length + xs.length ≤ 10000000) (hbase : base ≤ w.heap.size) :
    ∃ v' w', (Builtin.append_ #[24, 24] ty #[v, x]).run Tryz.prog w = .ok v' w' ∧ RowI w' base v' (l ++ xs) ∧ w.grownBy w' v.ownBlock ∧ (v'.ownBlock = v.ownBlock ∨ v'.ownBlock = some w.heap.size) := by
  obtain ⟨i0, hi, hz0, hz1, hz2⟩ := info_parts Tryz.infoInt
  obtain ⟨a, c, rfl, h1, h2, h3⟩ := hx
  by_cases h0 : xs.length = 0
  · have hxs : xs = [] := List.length_eq_zero_iff.1 h0
    subst hxs
    cases a with
    | none =>
      refine ⟨v, w, run_append_none w base _ _ _ i0 1 Tryz.underlying24 hi v l.length c _ hown, by simpa using hown, ⟨rfl, rfl, rfl, Nat.le_refl _, fun _ _ _ => rfl⟩, .inl rfl⟩
    | some ad =>
      obtain ⟨v', w', hr, k1, k2, _, k3⟩ := run_append_own_at (P := Tryz.prog) w base 24 ty 3 i0 (.int .i64 0) 1 8 Tryz.underlying24 hi hz0 hz1 hz2 rfl (by decide) v l.length _ hown ad 0 c [] rfl (fun j u h => by simp at h) (fun u h => by simp at h) (by unfold maxLen; simp at hn; omega) (by simp at hn; omega) hbase
      exact ⟨v', w', hr, by simpa using k1, k2, k3⟩
  · obtain ⟨b, off, rfl, hb, hc⟩ := h3 (by omega)
    obtain ⟨v', w', hr, k1, k2, _, k3⟩ := run_append_own_at (P := Tryz.prog) w base 24 ty 3 i0 (.int .i64 0) 1 8 Tryz.underlying24 hi hz0 hz1 hz2 rfl (by decide) v l.length _ hown ⟨b, off, none⟩ xs.length c (iv xs) (by simp [iv])
      (fun j u h => by
        rw [iv_get] at h
        cases e : xs[j]? with
        | none => rw [e] at h; simp at h
        | some y =>
          rw [e] at h
          simp at h
          subst h
          exact cell_add (hc j y e))
      (fun u h => by
        unfold iv at h
        obtain ⟨y, _, rfl⟩ := List.mem_map.1 h
        rfl) (by unfold maxLen; omega) (by omega) hbase
    exact ⟨v', w', hr, by unfold RowI; rw [List.length_append, iv_app]; exact k1, k2, k3⟩
theorem wpList_append_ints {w : World} {ops : Array Oper} {rest : List Oper} {o : Oper} {a : Act} {Q : Exit → Act → World → Prop} (hgd : o.guard = none) (s x : Operand)
    (ho : o.op = .call { callee := .builtin .append, args := #[s, x], argTypes := #[24, 24] })
    (base : Nat) (v xv : Value) (l xs : List Int) (hs : a.eval s = v) (hxv : a.eval x = xv) (hown : RowI w base v l) (hx : IntsAt w xv xs) (hn : l.length + xs.length ≤ 10000000) (hbase : base ≤ w.heap.size)
    (h : ∀ v' w', RowI w' base v' (l ++ xs) → w.grownBy w' v.ownBlock → (v'.ownBlock = v.ownBlock ∨ v'.ownBlock = some w.heap.size) → wpList Tryz.prog ops Q rest (a.put o.dst v') w') :
    wpList Tryz.prog ops Q (o :: rest) a w := by
  refine wpList_plain hgd fun K hK => ?_
  obtain ⟨v', w', hr, h2, h3, h4⟩ := run_append_ints w base o.type v xv l xs hown hx hn hbase
  unfold Oper.wp execOp
  simp only [ho, resolve, invoke, builtin, Sem.run_bind, Sem.run_pure, Result.andThen_ok, List.map_toArray, List.map_cons, List.map_nil, hs, hxv, hr]
  exact hK _ _ (h v' w' h2 h3 h4)
theorem step_append_ints {w : World} {ops : Array Oper} {o : Oper} {a : Act} {K : Act → World → Prop} {Q : Exit → Act → World → Prop} {E : Prop} (hgd : o.guard = none) (s x : Operand)
    (ho : o.op = .call { callee := .builtin .append, args := #[s, x], argTypes := #[24, 24] })
    (base : Nat) (v xv : Value) (l xs : List Int) (hs : a.eval s = v) (hxv : a.eval x = xv) (hown : RowI w base v l) (hx : IntsAt w xv xs) (hn : l.length + xs.length ≤ 10000000) (hbase : base ≤ w.heap.size) (d : Option Tmp) (hd : o.dst = d)
    (h : ∀ v' w', RowI w' base v' (l ++ xs) → w.grownBy w' v.ownBlock → (v'.ownBlock = v.ownBlock ∨ v'.ownBlock = some w.heap.size) → K (a.put d v') w') :
    if Region.wanted o (yielded ops a.tmps) = true then Oper.wp Tryz.prog o a w K Q else E := by
  subst hd
  have hw : Region.wanted o (yielded ops a.tmps) = true := by simp [Region.wanted, hgd]
  rw [if_pos hw]
  obtain ⟨v', w', hr, h2, h3, h4⟩ := run_append_ints w base o.type v xv l xs hown hx hn hbase
  unfold Oper.wp execOp
  simp only [ho, resolve, invoke, builtin, Sem.run_bind, Sem.run_pure, Result.andThen_ok, List.map_toArray, List.map_cons, List.map_nil, hs, hxv, hr]
  exact h v' w' h2 h3 h4
/-- a row that has a view: a part of it is a list, too -/
theorem IntsAt.drop {w : World} {a : Addr} {n c k : Nat} {xs : List Int} (h : IntsAt w (.slice (some a) n c) xs) (hk : k ≤ xs.length) (hn : n = xs.length) : IntsAt w (.slice (some (a.add k)) (n - k) (c - k)) (xs.drop k) := by
  obtain ⟨a', c', e, h1, h2, h3⟩ := h
  injection e with e1 e2 e3
  subst e1 e3
  refine ⟨some (a.add k), c - k, by rw [List.length_drop, hn], by rw [List.length_drop]; omega, by omega, fun h0 => ?_⟩
  rw [List.length_drop] at h0
  obtain ⟨b, off, e, hb, hc⟩ := h3 (by omega)
  injection e with e
  subst e
  have e : (⟨b, off, none⟩ : Addr).add k = ⟨b, off + k, none⟩ := by unfold Addr.add; split <;> simp_all
  refine ⟨b, off + k, by rw [e], hb, fun j x hx => ?_⟩
  rw [List.getElem?_drop] at hx
  have := hc (k + j) x hx
  rwa [← Nat.add_assoc] at this
theorem IntsAt.take {w : World} {a : Option Addr} {n c k : Nat} {xs : List Int} (h : IntsAt w (.slice a n c) xs) (hk : k ≤ xs.length) : IntsAt w (.slice a k c) (xs.take k) := by
  obtain ⟨a', c', e, h1, h2, h3⟩ := h
  injection e with e1 e2 e3
  subst e1 e3
  have hl : (xs.take k).length = k := by rw [List.length_take]; omega
  refine ⟨a, c, by rw [hl], by omega, h2, fun h0 => ?_⟩
  obtain ⟨b, off, e, hb, hc⟩ := h3 (by omega)
  refine ⟨b, off, e, hb, fun j x hx => hc j x ?_⟩
  rw [List.getElem?_take] at hx
  split at hx
  · exact hx
  · cases hx
end Go.Proofs.YtpbnmhnbkfnaeaaGreatDoor
/- The specification's l12Copy: the region of a round, by what holds whichever of its operations have been carried out. -/
namespace Go.Proofs.YtpbnmhnbkfnaeaaGreatDoor
open Go.RowKit Nt

theorem AtC2.grown' {w w' : World} {b : Nat} {x y : Value} {T : TypeId} {row : Option Nat} (h : AtC2 w b x y T) (hg : w.grownBy w' row) (hne : row ≠ some b) : AtC2 w' b x y T :=
  (hg.block b (Array.getElem?_eq_some_iff.1 h).1 (Ne.symm hne)).trans h
theorem own_nb' {w : World} {base : Nat} {e : TypeId} {size : Nat} {v : Value} {n : Nat} {xs : List Value} (h : w.ownsRow base e size v n xs) {k : Nat} (hk : k < base) : v.ownBlock ≠ some k := by
  rcases h.2 with ⟨rfl, _⟩ | ⟨g, c, k1, rfl, hb, _⟩
  · intro e; simp [Value.ownBlock] at e
  · intro e
    simp [Value.ownBlock] at e
    omega
theorem own_ne2' {w : World} {b base n size : Nat} {x y kv : Value} {T e : TypeId} {xs : List Value} (h : AtC2 w b x y T) (ho : w.ownsRow base e size kv n xs) (hne : e ≠ T) : kv.ownBlock ≠ some b := by
  unfold AtC2 at h
  rcases ho.2 with ⟨rfl, _⟩ | ⟨g1, c1, k1, rfl, _, hg1, _⟩
  · intro e; simp [Value.ownBlock] at e
  · intro e
    simp [Value.ownBlock] at e
    subst e
    rw [hg1] at h
    simp at h
    exact hne h.2
theorem own_form' {w : World} {base size : Nat} {T : TypeId} {v : Value} {n : Nat} {xs : List Value} (h : w.ownsRow base T size v n xs) : ∃ p cap, v = .slice p n cap := by
  rcases h.2 with ⟨rfl, h1⟩ | ⟨g, cap, cur, rfl, _⟩
  · exact ⟨none, 0, by rw [h1]⟩
  · exact ⟨_, _, rfl⟩
theorem RowN.far' {w : World} {base : Nat} {v : Value} {ns : List Nd} {kvs : List Value} (h : RowN w base v ns kvs) {a : Addr} (ha : a.block < base) (u : Value) : RowN (w.setCell a u) base v ns kvs :=
  ⟨h.1, ownsRow_setCell_below h.2.1 ha u, fun j nd kv e1 e2 => ⟨(h.2.2 j nd kv e1 e2).1, ownsRow_setCell_below (h.2.2 j nd kv e1 e2).2 ha u⟩⟩
theorem below_st {B : Nat} {V W w' : World} (h : Below V.heap.size V W) (k : Below W.heap.size W w') (_ : B = 0) : Below V.heap.size V w' := h.trans (k.mono h.size)
theorem LL_ne {l : Array Bool} {i j : Nat} (hj : j ≠ i) : LL (l.setIfInBounds i true) j = LL l j := by
  unfold LL
  rw [Array.getElem?_setIfInBounds, if_neg (Ne.symm hj)]
theorem LL_eq {l : Array Bool} {i : Nat} (h : i < l.size) : LL (l.setIfInBounds i true) i := by
  unfold LL
  rw [Array.getElem?_setIfInBounds, if_pos rfl, if_pos h]

/-- which operations read alone -/
def rdC (i : Nat) : Bool := decide (i < 14) || (decide (14 < i) && decide (i < 21)) || decide (i = 25)
/-- which operations it waits for -/
def dpC : Nat → List Nat
  | 1 => [0]
  | 3 => [2]
  | 5 => [3, 4]
  | 6 => [5]
  | 7 => [6]
  | 9 => [8]
  | 11 => [9, 10]
  | 12 => [11]
  | 13 => [12]
  | 16 => [15]
  | 18 => [16, 17]
  | 19 => [18]
  | 20 => [19]
  | 21 => [14, 20]
  | 22 => [7, 13, 21]
  | 23 => [22]
  | 24 => [1, 23]
  | _ => []
theorem cl_step {l : Array Bool} {i : Nat} (h : ∀ i d, d ∈ dpC i → LL l i → LL l d) (hi : i < l.size) (hd : ∀ d ∈ dpC i, LL l d) : ∀ j d, d ∈ dpC j → LL (l.setIfInBounds i true) j → LL (l.setIfInBounds i true) d := by
  have mono : ∀ d, LL l d → LL (l.setIfInBounds i true) d := fun d e => by
    by_cases q : d = i
    · subst q; exact LL_eq hi
    · rw [LL_ne q]; exact e
  intro j d hjd e
  by_cases q : j = i
  · subst q; exact mono d (hd d hjd)
  · rw [LL_ne q] at e; exact mono d (h j d hjd e)
/-- V: the world when the copy's box is made, behind it; W: the world when the round begins -/
structure CpS (V W : World) (v : Nat → Value) (nd : Nd) (mv rv : Value) (nk : List Nd) (kvs : List Value) (l : Array Bool) (x : Nat → Value) (w' : World) : Prop where
  sz : l.size = 27
  val : ∀ i, rdC i = true → LL l i → x i = v i
  bw : ¬ LL l 24 → Below W.heap.size W w'
  k0 : LL l 14 → ¬ LL l 21 → (∃ g, x 14 = .slice (some ⟨g, 0, none⟩) 0 0) ∧ RowI w' W.heap.size (x 14) []
  k1 : LL l 21 → ∃ a c, x 21 = .slice a nd.2.2.length c
  r1 : LL l 21 → ¬ LL l 24 → RowI w' W.heap.size (x 21) nd.2.2
  a1 : LL l 22 → x 22 = .agg #[.int .i64 nd.1, .string (B nd.2.1), x 21]
  n1 : LL l 23 → ¬ LL l 24 → ∃ g, x 23 = .slice (some ⟨g, 0, none⟩) 1 1 ∧ w'.heap[g]? = some (.cells #[.int .i64 nd.1, .string (B nd.2.1), x 21] 56 (0, 0))
  c21 : LL l 21 → LL l 14
  c22 : LL l 22 → LL l 21
  c23 : LL l 23 → LL l 22
  c24 : LL l 24 → ∀ j, j < 24 → LL l j
  c26 : LL l 26 → LL l 24
  m1 : LL l 24 → ∃ a c, x 24 = .slice a (nk.length + 1) c
  m2 : LL l 24 → Below V.heap.size V w' ∧ RowN w' (V.heap.size + 1) (x 24) (nk ++ [nd]) (kvs ++ [x 21])
  b1 : LL l 24 → ¬ LL l 26 → AtC2 w' V.heap.size mv rv 26
  b2 : LL l 26 → AtC2 w' V.heap.size (x 24) rv 26
  cl : ∀ i d, d ∈ dpC i → LL l i → LL l d
section
variable {V W w' w2 : World} {v x : Nat → Value} {nd : Nd} {mv rv : Value} {nk : List Nd} {kvs : List Value} {l : Array Bool}
theorem CpS.start (hl : l = Array.replicate 27 false) (h : Below W.heap.size W w') : CpS V W v nd mv rv nk kvs l x w' := by
  subst hl
  have hn : ∀ j, ¬ LL (Array.replicate 27 false) j := fun j h => by
    unfold LL at h
    rw [Array.getElem?_replicate] at h
    split at h <;> simp at h
  exact ⟨by simp, fun i _ h => absurd h (hn _), fun _ => h, fun h => absurd h (hn _), fun h => absurd h (hn _), fun h => absurd h (hn _), fun h => absurd h (hn _), fun h => absurd h (hn _), fun h => absurd h (hn _), fun h => absurd h (hn _), fun h => absurd h (hn _), fun h => absurd h (hn _), fun h => absurd h (hn _), fun h => absurd h (hn _), fun h => absurd h (hn _), fun h => absurd h (hn _), fun h => absurd h (hn _), fun _ _ _ e => absurd e (hn _)⟩
/-- one that reads -/
theorem CpS.read (h : CpS V W v nd mv rv nk kvs l x w') (i : Nat) (hi : rdC i = true) (hi27 : i < 27) (hn : ¬ LL l i) (hd : ∀ d ∈ dpC i, LL l d) (u : Value) (hu : u = v i) : CpS V W v nd mv rv nk kvs (l.setIfInBounds i true) (fun j => if j = i then u else x j) w' := by
  have n14 : 14 ≠ i := by rintro rfl; revert hi; decide
  have n21 : 21 ≠ i := by rintro rfl; revert hi; decide
  have n22 : 22 ≠ i := by rintro rfl; revert hi; decide
  have n23 : 23 ≠ i := by rintro rfl; revert hi; decide
  have n24 : 24 ≠ i := by rintro rfl; revert hi; decide
  have n26 : 26 ≠ i := by rintro rfl; revert hi; decide
  refine ⟨by simp [h.sz], fun j hj e => ?_, ?_, ?_, ?_, ?_, ?_, ?_, ?_, ?_, ?_, ?_, ?_, ?_, ?_, ?_, ?_, cl_step h.cl (by rw [h.sz]; exact hi27) hd⟩
  · show (if j = i then u else x j) = v j
    by_cases q : j = i
    · subst q; rw [if_pos rfl]; exact hu
    · rw [if_neg q]; exact h.val j hj (by rwa [LL_ne q] at e)
  · rw [LL_ne n24]; exact h.bw
  · rw [LL_ne n14, LL_ne n21]; simp only [if_neg n14]; exact h.k0
  · rw [LL_ne n21]; simp only [if_neg n21]; exact h.k1
  · rw [LL_ne n21, LL_ne n24]; simp only [if_neg n21]; exact h.r1
  · rw [LL_ne n22]; simp only [if_neg n22, if_neg n21]; exact h.a1
  · rw [LL_ne n23, LL_ne n24]; simp only [if_neg n23, if_neg n21]; exact h.n1
  · rw [LL_ne n21, LL_ne n14]; exact h.c21
  · rw [LL_ne n22, LL_ne n21]; exact h.c22
  · rw [LL_ne n23, LL_ne n22]; exact h.c23
  · rw [LL_ne n24]
    intro e j hj
    by_cases q : j = i
    · subst q; exact absurd (h.c24 e j hj) hn
    · rw [LL_ne q]; exact h.c24 e j hj
  · rw [LL_ne n26, LL_ne n24]; exact h.c26
  · rw [LL_ne n24]; simp only [if_neg n24]; exact h.m1
  · rw [LL_ne n24]; simp only [if_neg n24, if_neg n21]; exact h.m2
  · rw [LL_ne n24, LL_ne n26]; exact h.b1
  · rw [LL_ne n26]; simp only [if_neg n24]; exact h.b2
theorem CpS.all (h : CpS V W v nd mv rv nk kvs l x w') (h1 : LL l 1) (h23 : LL l 23) : ∀ j, j < 24 → LL l j := by
  have g := fun i d => h.cl i d
  have h0 := g 1 0 (by decide) h1
  have h22 := g 23 22 (by decide) h23
  have h7 := g 22 7 (by decide) h22
  have h13 := g 22 13 (by decide) h22
  have h21 := g 22 21 (by decide) h22
  have h6 := g 7 6 (by decide) h7
  have h5 := g 6 5 (by decide) h6
  have h3 := g 5 3 (by decide) h5
  have h4 := g 5 4 (by decide) h5
  have h2 := g 3 2 (by decide) h3
  have h12 := g 13 12 (by decide) h13
  have h11 := g 12 11 (by decide) h12
  have h9 := g 11 9 (by decide) h11
  have h10 := g 11 10 (by decide) h11
  have h8 := g 9 8 (by decide) h9
  have h14 := g 21 14 (by decide) h21
  have h20 := g 21 20 (by decide) h21
  have h19 := g 20 19 (by decide) h20
  have h18 := g 19 18 (by decide) h19
  have h16 := g 18 16 (by decide) h18
  have h17 := g 18 17 (by decide) h18
  have h15 := g 16 15 (by decide) h16
  intro j hj
  rcases (by omega : j = 0 ∨ j = 1 ∨ j = 2 ∨ j = 3 ∨ j = 4 ∨ j = 5 ∨ j = 6 ∨ j = 7 ∨ j = 8 ∨ j = 9 ∨ j = 10 ∨ j = 11 ∨ j = 12 ∨ j = 13 ∨ j = 14 ∨ j = 15 ∨ j = 16 ∨ j = 17 ∨ j = 18 ∨ j = 19 ∨ j = 20 ∨ j = 21 ∨ j = 22 ∨ j = 23) with rfl | rfl | rfl | rfl | rfl | rfl | rfl | rfl | rfl | rfl | rfl | rfl | rfl | rfl | rfl | rfl | rfl | rfl | rfl | rfl | rfl | rfl | rfl | rfl
  all_goals assumption
theorem CpS.s14 (h : CpS V W v nd mv rv nk kvs l x w') (hn : ¬ LL l 14) (hd : ∀ d ∈ dpC 14, LL l d) : CpS V W v nd mv rv nk kvs (l.setIfInBounds 14 true) (fun j => if j = 14 then .slice (some ⟨w'.heap.size, 0, none⟩) 0 0 else x j) (w'.alloc (.cells #[] 3)) := by
  have n24 : ¬ LL l 24 := fun e => hn (h.c24 e 14 (by omega))
  have n21 : ¬ LL l 21 := fun e => hn (h.c21 e)
  have n22 : ¬ LL l 22 := fun e => n21 (h.c22 e)
  have n23 : ¬ LL l 23 := fun e => n22 (h.c23 e)
  have n26 : ¬ LL l 26 := fun e => n24 (h.c26 e)
  have e21 : LL (l.setIfInBounds 14 true) 21 = LL l 21 := LL_ne (by decide)
  have e22 : LL (l.setIfInBounds 14 true) 22 = LL l 22 := LL_ne (by decide)
  have e23 : LL (l.setIfInBounds 14 true) 23 = LL l 23 := LL_ne (by decide)
  have e24 : LL (l.setIfInBounds 14 true) 24 = LL l 24 := LL_ne (by decide)
  have e26 : LL (l.setIfInBounds 14 true) 26 = LL l 26 := LL_ne (by decide)
  have hb := h.bw n24
  refine ⟨by simp [h.sz], fun j hj e => ?_, fun _ => step_a hb _, fun _ _ => ⟨⟨_, rfl⟩, own_base (rowI_made w') hb.size⟩, fun e => absurd (e21 ▸ e) n21, fun e => absurd (e21 ▸ e) n21, fun e => absurd (e22 ▸ e) n22, fun e => absurd (e23 ▸ e) n23, fun e => absurd (e21 ▸ e) n21, fun e => absurd (e22 ▸ e) n22, fun e => absurd (e23 ▸ e) n23, fun e => absurd (e24 ▸ e) n24, fun e => absurd (e26 ▸ e) n26, fun e => absurd (e24 ▸ e) n24, fun e => absurd (e24 ▸ e) n24, fun e => absurd (e24 ▸ e) n24, fun e => absurd (e26 ▸ e) n26, cl_step h.cl (by rw [h.sz]; omega) hd⟩
  have q : j ≠ 14 := by rintro rfl; revert hj; decide
  show (if j = 14 then _ else x j) = v j
  rw [if_neg q]; exact h.val j hj (by rwa [LL_ne q] at e)
theorem CpS.s21 (h : CpS V W v nd mv rv nk kvs l x w') (hn : ¬ LL l 21) (hd : ∀ d ∈ dpC 21, LL l d) (h14 : LL l 14) {a : Option Addr} {c : Nat} (hr : RowI w2 W.heap.size (.slice a nd.2.2.length c) nd.2.2) (hg : w'.grownBy w2 (x 14).ownBlock) :
    CpS V W v nd mv rv nk kvs (l.setIfInBounds 21 true) (fun j => if j = 21 then .slice a nd.2.2.length c else x j) w2 := by
  have n24 : ¬ LL l 24 := fun e => hn (h.c24 e 21 (by omega))
  have n22 : ¬ LL l 22 := fun e => hn (h.c22 e)
  have n23 : ¬ LL l 23 := fun e => n22 (h.c23 e)
  have n26 : ¬ LL l 26 := fun e => n24 (h.c26 e)
  have e14 : LL (l.setIfInBounds 21 true) 14 = LL l 14 := LL_ne (by decide)
  have e22 : LL (l.setIfInBounds 21 true) 22 = LL l 22 := LL_ne (by decide)
  have e23 : LL (l.setIfInBounds 21 true) 23 = LL l 23 := LL_ne (by decide)
  have e24 : LL (l.setIfInBounds 21 true) 24 = LL l 24 := LL_ne (by decide)
  have e26 : LL (l.setIfInBounds 21 true) 26 = LL l 26 := LL_ne (by decide)
  have e21 : LL (l.setIfInBounds 21 true) 21 := LL_eq (by rw [h.sz]; omega)
  have hb := h.bw n24
  have hk := (h.k0 h14 hn).2
  refine ⟨by simp [h.sz], fun j hj e => ?_, fun _ => below_grown hb hk hg hb.size, fun _ e => absurd e21 e, fun _ => ⟨a, c, rfl⟩, fun _ _ => hr, fun e => absurd (e22 ▸ e) n22, fun e => absurd (e23 ▸ e) n23, fun _ => by rw [e14]; exact h14, fun e => absurd (e22 ▸ e) n22, fun e => absurd (e23 ▸ e) n23, fun e => absurd (e24 ▸ e) n24, fun e => absurd (e26 ▸ e) n26, fun e => absurd (e24 ▸ e) n24, fun e => absurd (e24 ▸ e) n24, fun e => absurd (e24 ▸ e) n24, fun e => absurd (e26 ▸ e) n26, cl_step h.cl (by rw [h.sz]; omega) hd⟩
  have q : j ≠ 21 := by rintro rfl; revert hj; decide
  show (if j = 21 then _ else x j) = v j
  rw [if_neg q]; exact h.val j hj (by rwa [LL_ne q] at e)
theorem CpS.s22 (h : CpS V W v nd mv rv nk kvs l x w') (hn : ¬ LL l 22) (hd : ∀ d ∈ dpC 22, LL l d) (h21 : LL l 21) (u : Value) (hu : u = .agg #[.int .i64 nd.1, .string (B nd.2.1), x 21]) :
    CpS V W v nd mv rv nk kvs (l.setIfInBounds 22 true) (fun j => if j = 22 then u else x j) w' := by
  have n24 : ¬ LL l 24 := fun e => hn (h.c24 e 22 (by omega))
  have n23 : ¬ LL l 23 := fun e => hn (h.c23 e)
  have n26 : ¬ LL l 26 := fun e => n24 (h.c26 e)
  have e14 : LL (l.setIfInBounds 22 true) 14 = LL l 14 := LL_ne (by decide)
  have e21 : LL (l.setIfInBounds 22 true) 21 = LL l 21 := LL_ne (by decide)
  have e23 : LL (l.setIfInBounds 22 true) 23 = LL l 23 := LL_ne (by decide)
  have e24 : LL (l.setIfInBounds 22 true) 24 = LL l 24 := LL_ne (by decide)
  have e26 : LL (l.setIfInBounds 22 true) 26 = LL l 26 := LL_ne (by decide)
  refine ⟨by simp [h.sz], fun j hj e => ?_, fun _ => h.bw n24, fun _ e => absurd (by rw [e21]; exact h21) e, fun _ => h.k1 h21, fun _ _ => h.r1 h21 n24, fun _ => hu, fun e => absurd (e23 ▸ e) n23, fun _ => by rw [e14]; exact h.c21 h21, fun _ => by rw [e21]; exact h21, fun e => absurd (e23 ▸ e) n23, fun e => absurd (e24 ▸ e) n24, fun e => absurd (e26 ▸ e) n26, fun e => absurd (e24 ▸ e) n24, fun e => absurd (e24 ▸ e) n24, fun e => absurd (e24 ▸ e) n24, fun e => absurd (e26 ▸ e) n26, cl_step h.cl (by rw [h.sz]; omega) hd⟩
  have q : j ≠ 22 := by rintro rfl; revert hj; decide
  show (if j = 22 then _ else x j) = v j
  rw [if_neg q]; exact h.val j hj (by rwa [LL_ne q] at e)
theorem CpS.s23 (h : CpS V W v nd mv rv nk kvs l x w') (hn : ¬ LL l 23) (hd : ∀ d ∈ dpC 23, LL l d) (h22 : LL l 22) :
    CpS V W v nd mv rv nk kvs (l.setIfInBounds 23 true) (fun j => if j = 23 then .slice (some ⟨w'.heap.size, 0, none⟩) 1 1 else x j) (w'.alloc (.cells #[.int .i64 nd.1, .string (B nd.2.1), x 21] 56)) := by
  have n24 : ¬ LL l 24 := fun e => hn (h.c24 e 23 (by omega))
  have n26 : ¬ LL l 26 := fun e => n24 (h.c26 e)
  have h21 := h.c22 h22
  have e14 : LL (l.setIfInBounds 23 true) 14 = LL l 14 := LL_ne (by decide)
  have e21 : LL (l.setIfInBounds 23 true) 21 = LL l 21 := LL_ne (by decide)
  have e22 : LL (l.setIfInBounds 23 true) 22 = LL l 22 := LL_ne (by decide)
  have e24 : LL (l.setIfInBounds 23 true) 24 = LL l 24 := LL_ne (by decide)
  have e26 : LL (l.setIfInBounds 23 true) 26 = LL l 26 := LL_ne (by decide)
  have hb := h.bw n24
  refine ⟨by simp [h.sz], fun j hj e => ?_, fun _ => step_a hb _, fun _ e => absurd (by rw [e21]; exact h21) e, fun _ => h.k1 h21, fun _ _ => own_below (h.r1 h21 n24) (step_a (Below.refl _ _) _), fun _ => h.a1 h22, fun _ _ => ⟨_, rfl, heap_alloc_new w' _⟩, fun _ => by rw [e14]; exact h.c21 h21, fun _ => by rw [e21]; exact h21, fun _ => by rw [e22]; exact h22, fun e => absurd (e24 ▸ e) n24, fun e => absurd (e26 ▸ e) n26, fun e => absurd (e24 ▸ e) n24, fun e => absurd (e24 ▸ e) n24, fun e => absurd (e24 ▸ e) n24, fun e => absurd (e26 ▸ e) n26, cl_step h.cl (by rw [h.sz]; omega) hd⟩
  have q : j ≠ 23 := by rintro rfl; revert hj; decide
  show (if j = 23 then _ else x j) = v j
  rw [if_neg q]; exact h.val j hj (by rwa [LL_ne q] at e)
/-- the nodes' row, put into memory behind one more -/
theorem CpS.s24 (h : CpS V W v nd mv rv nk kvs l x w') (hn : ¬ LL l 24) (hd : ∀ d ∈ dpC 24, LL l d) (hall : ∀ j, j < 24 → LL l j) (ht : nd.2.1.length ≤ maxLen) (hVW : Below V.heap.size V W) (hbx : AtC2 W V.heap.size mv rv 26) (hN : RowN W (V.heap.size + 1) mv nk kvs)
    {a : Option Addr} {c : Nat} (hV : V.heap.size < W.heap.size) (hr : w2.ownsRow (V.heap.size + 1) 56 3 (.slice a (nk.length + 1) c) (nk.length + 1) (flatN nk kvs ++ nd3 nd (x 21))) (hg : w'.grownBy w2 mv.ownBlock) :
    CpS V W v nd mv rv nk kvs (l.setIfInBounds 24 true) (fun j => if j = 24 then .slice a (nk.length + 1) c else x j) w2 := by
  have n26 : ¬ LL l 26 := fun e => hn (h.c26 e)
  have h21 := hall 21 (by omega)
  have e14 : LL (l.setIfInBounds 24 true) 14 = LL l 14 := LL_ne (by decide)
  have e21 : LL (l.setIfInBounds 24 true) 21 = LL l 21 := LL_ne (by decide)
  have e22 : LL (l.setIfInBounds 24 true) 22 = LL l 22 := LL_ne (by decide)
  have e23 : LL (l.setIfInBounds 24 true) 23 = LL l 23 := LL_ne (by decide)
  have e26 : LL (l.setIfInBounds 24 true) 26 = LL l 26 := LL_ne (by decide)
  have e24 : LL (l.setIfInBounds 24 true) 24 := LL_eq (by rw [h.sz]; omega)
  have hb := h.bw hn
  have hN' := hN.below hb
  have hbl : Below V.heap.size V w' := hVW.trans (hb.mono hVW.size)
  refine ⟨by simp [h.sz], fun j hj e => ?_, fun e => absurd e24 e, fun _ e => absurd (by rw [e21]; exact h21) e, fun _ => h.k1 h21, fun _ e => absurd e24 e, fun _ => h.a1 (hall 22 (by omega)), fun _ e => absurd e24 e, fun _ => by rw [e14]; exact hall 14 (by omega), fun _ => by rw [e21]; exact h21, fun _ => by rw [e22]; exact hall 22 (by omega), fun _ j hj => by rw [LL_ne (by omega)]; exact hall j hj, fun e => absurd (e26 ▸ e) n26, fun _ => ⟨a, c, rfl⟩, fun _ => ⟨?_, ?_⟩, fun _ _ => ?_, fun e => absurd (e26 ▸ e) n26, cl_step h.cl (by rw [h.sz]; omega) hd⟩
  · have q : j ≠ 24 := by rintro rfl; revert hj; decide
    show (if j = 24 then _ else x j) = v j
    rw [if_neg q]; exact h.val j hj (by rwa [LL_ne q] at e)
  · exact below_grown hbl (own_base hN'.2.1 (by omega)) hg hbl.size
  · exact hN'.push ht (own_base (h.r1 h21 hn) (by omega)) hr hg
  · exact (hbx.below hb).grown' hg (own_nb' hN'.2.1 (by omega))
theorem CpS.s26 (h : CpS V W v nd mv rv nk kvs l x w') (hn : ¬ LL l 26) (hd : ∀ d ∈ dpC 26, LL l d) (h24 : LL l 24) :
    CpS V W v nd mv rv nk kvs (l.setIfInBounds 26 true) x (w'.setCell ⟨V.heap.size, 0, none⟩ (x 24)) := by
  have e14 : LL (l.setIfInBounds 26 true) 14 = LL l 14 := LL_ne (by decide)
  have e21 : LL (l.setIfInBounds 26 true) 21 = LL l 21 := LL_ne (by decide)
  have e22 : LL (l.setIfInBounds 26 true) 22 = LL l 22 := LL_ne (by decide)
  have e23 : LL (l.setIfInBounds 26 true) 23 = LL l 23 := LL_ne (by decide)
  have e24 : LL (l.setIfInBounds 26 true) 24 = LL l 24 := LL_ne (by decide)
  have e26 : LL (l.setIfInBounds 26 true) 26 := LL_eq (by rw [h.sz]; omega)
  have hall := h.c24 h24
  have h21 := hall 21 (by omega)
  have g24 : LL (l.setIfInBounds 26 true) 24 := by rw [e24]; exact h24
  refine ⟨by simp [h.sz], fun j hj e => ?_, fun e => absurd g24 e, fun _ e => absurd (by rw [e21]; exact h21) e, fun _ => h.k1 h21, fun _ e => absurd g24 e, fun _ => h.a1 (hall 22 (by omega)), fun _ e => absurd g24 e, fun _ => by rw [e14]; exact hall 14 (by omega), fun _ => by rw [e21]; exact h21, fun _ => by rw [e22]; exact hall 22 (by omega), fun _ j hj => by rw [LL_ne (by omega)]; exact hall j hj, fun _ => g24, fun _ => h.m1 h24, fun _ => ⟨?_, ?_⟩, fun _ e => absurd e26 e, fun _ => ?_, cl_step h.cl (by rw [h.sz]; omega) hd⟩
  · have q : j ≠ 26 := by rintro rfl; revert hj; decide
    exact h.val j hj (by rwa [LL_ne q] at e)
  · exact (h.m2 h24).1.setCell (p := ⟨V.heap.size, 0, none⟩) (Nat.le_refl _) _
  · exact (h.m2 h24).2.far' (a := ⟨V.heap.size, 0, none⟩) (by show V.heap.size < V.heap.size + 1; omega) _
  · exact (h.b1 h24 hn).st0 _
end
end Go.Proofs.YtpbnmhnbkfnaeaaGreatDoor
