/- A part of the proof, put together out of smaller texts: each piece says what it is for. -/
import Derived.Test.YtchginjabaobfaaDoorM2
import Derived.BigRegion
import Derived.Lib.OthersKept
import Derived.Deep.RegionWith
namespace Go.Proofs.YtchginjabaobfaaDoor
open Go.RowKit Nt

set_option maxRecDepth 100000 in
set_option maxHeartbeats 1000000 in
theorem natOf_c (N : Nat) (w : World) (hN : N < 18446744073709551616) :
    Calls Tryd.prog 55 #[.int .u64 N] w fun e w' => (∃ v', e = .returned v' ∧ isNat w' v' N) ∧ Below w.heap.size w w' := by
  obtain ⟨i0, hi, hz0, hz1, hz2⟩ := info_parts Tryd.infoU64
  have hlen : (gr N).length ≤ 3 := dg_len_le (by omega) (Nat.lt_of_lt_of_le hN (by decide))
  have Hlen := hide hlen
  clear hlen
  go_enter Tryd.func55, Tryd.ntmps55
  go_wp2
  go_loopw [0, 3] (fun wd v wr => ∃ (k : Nat) (xs : List Nat), wd = .int .u64 k ∧ k < 18446744073709551616 ∧ wr.ownsRow w.heap.size 80 1 v xs.length (u64s xs) ∧ Below w.heap.size w wr ∧ Hid (gr N = xs ++ gr k))
    (fun wd _ _ => (intOf wd).toNat)
  case atStart =>
    exact ⟨N, [], rfl, hN, World.ownsRow_made w #[] 0 (Nat.le_refl _) (by decide) (by simp), (Below.refl _ _).alloc (Nat.le_refl _) _, hide (by simp)⟩
  case round =>
    obtain ⟨k, xs, rfl, hk, hown, hb, hgr⟩ := hrel
    by_cases hz : 0 < k
    · have hg := dg_pos (b := 1000000000) (by omega) hz
      have hxl : xs.length ≤ 3 := by
        have h1 := congrArg List.length (unhide hgr)
        have := unhide Hlen
        rw [List.length_append] at h1; omega
      obtain ⟨d, hd⟩ : ∃ d : Nat, (k : Int) % 1000000000 = d := ⟨k % 1000000000, by omega⟩
      obtain ⟨q, hq⟩ : ∃ d : Nat, (k : Int) / 1000000000 = d := ⟨k / 1000000000, by omega⟩
      have hgr2 : gr N = (xs ++ [d]) ++ gr q := by
        rw [unhide hgr]
        unfold gr
        rw [hg, show k % 1000000000 = d from by omega, show k / 1000000000 = q from by omega]; simp
      have Hgr2 := hide hgr2
      have hw := hb.size
      clear hg hgr2
      go_wp2_with (at_builtin; refine wpList_append_own _ rfl (.tmp 9) (.tmp 12) 65 rfl w.heap.size 80 i0 (.int .u64 0) 1 8 Tryd.underlying65 hi hz0 hz1 hz2 rfl (by decide) _ _ _ rfl (hown.alloc _) ⟨wr.heap.size, 0, none⟩ 1 1 [.int .u64 d] rfl rfl (cell_one_new _ _ _) (by intro u hu; simp at hu; subst hu; rfl) (by unfold maxLen; omega) (by omega) (by simp; omega) ?_; intro v2 w2 hown2 hg2 _)
      have hbX := below_grown (hb.alloc hw _) (hown.alloc _) hg2 (by simp <;> omega)
      go_roundw
      case rel => exact ⟨q, xs ++ [d], rfl, by omega, by rw [List.length_append, ← u64s_snoc]; exact hown2, hbX, Hgr2⟩
      case measure => simp [intOf]; omega
    · have hk0 : k = 0 := by omega
      subst hk0
      go_wp2
      go_ret
      refine ⟨⟨_, rfl, ?_⟩, hb⟩
      have h1 := unhide hgr
      rw [gr_zero, List.append_nil] at h1
      unfold isNat
      rw [h1]
      exact own_base hown (Nat.zero_le _)

/-- what stands behind k exchanges -/
def revTo (l l' : List UInt8) (k : Nat) : Prop :=
  l'.length = l.length ∧ ∀ t (h : t < l.length) (h' : t < l'.length), l'[t] = if t < k ∨ l.length - k ≤ t then l[l.length - 1 - t]'(by omega) else l[t]

theorem revTo_zero (l : List UInt8) : revTo l l 0 := ⟨rfl, fun t h h' => by rw [if_neg (by omega)]⟩
theorem revTo_end {l l' : List UInt8} {k : Nat} (h : revTo l l' k) (hk : l.length ≤ 2 * k + 1) : l' = l.reverse := by
  apply List.ext_getElem
  · simp [h.1]
  · intro t h1 h2
    rw [List.getElem_reverse, h.2 t (by simpa using h2) h1]
    by_cases ht : t < k ∨ l.length - k ≤ t
    · rw [if_pos ht]
    · rw [if_neg ht]
      congr 1
      have : t < l.length := by simpa using h2
      omega
theorem revTo_step {l l' : List UInt8} {k : Nat} (h : revTo l l' k) (hk : 2 * k + 1 < l.length) {a b : UInt8} (ha : l'[k]? = some a) (hb : l'[l.length - 1 - k]? = some b) :
    revTo l ((l'.set k b).set (l.length - 1 - k) a) (k + 1) := by
  have hl := h.1
  have ha' : l[k]'(by omega) = a := by
    rw [List.getElem?_eq_getElem (by omega)] at ha
    have := h.2 k (by omega) (by omega)
    rw [if_neg (by omega)] at this
    rw [← this]; simpa using ha
  have hb' : l[l.length - 1 - k]'(by omega) = b := by
    rw [List.getElem?_eq_getElem (by omega)] at hb
    have := h.2 (l.length - 1 - k) (by omega) (by omega)
    rw [if_neg (by omega)] at this
    rw [← this]; simpa using hb
  refine ⟨by simpa using hl, ?_⟩
  intro t h1 h2
  by_cases h3 : t = l.length - 1 - k
  · subst h3
    rw [List.getElem_set_self, if_pos (by omega), ← ha']
    congr 1; omega
  · rw [List.getElem_set_ne (by omega)]
    by_cases h4 : t = k
    · subst h4
      rw [List.getElem_set_self, if_pos (by omega), ← hb']
    · rw [List.getElem_set_ne (by omega), h.2 t h1 (by omega)]
      by_cases h5 : t < k ∨ l.length - k ≤ t
      · rw [if_pos h5, if_pos (by omega)]
      · rw [if_neg h5, if_neg (by omega)]

theorem u8v_cell (l : List UInt8) (j : Nat) (h : j < l.length) : (l.map u8v)[j]? = some (.int .u8 (l[j]).toNat) := by simp [u8v, h]
theorem u8v_set (l : List UInt8) (j : Nat) (c : UInt8) : (l.map u8v).set j (.int .u8 c.toNat) = (l.set j c).map u8v := by simp [u8v, List.map_set]

set_option maxRecDepth 100000 in
set_option maxHeartbeats 2000000 in
theorem reverse_c (l : List UInt8) (g cap base : Nat) (w : World) (hs : l.length ≤ 1000000000) (h : w.ownsRow base 5 1 (.slice (some ⟨g, 0, none⟩) l.length cap) l.length (l.map u8v)) :
    Calls Tryd.prog 101 #[.slice (some ⟨g, 0, none⟩) l.length cap] w fun e w' => e = .returned (.tuple #[]) ∧ w'.ownsRow base 5 1 (.slice (some ⟨g, 0, none⟩) l.length cap) l.length (l.reverse.map u8v) ∧ w.grownBy w' (some g) := by
  go_enter Tryd.func101, Tryd.ntmps101
  go_wp2
  go_loopw [2, 3] (fun i j wr => ∃ (k : Nat) (l' : List UInt8), 2 * k ≤ l.length + 1 ∧ i = .int .i64 k ∧ j = .int .i64 ((l.length : Int) - 1 - k) ∧ wr.ownsRow base 5 1 (.slice (some ⟨g, 0, none⟩) l.length cap) l.length (l'.map u8v) ∧ w.grownBy wr (some g) ∧ Hid (revTo l l' k))
    (fun i _ _ => l.length - (intOf i).toNat)
  case atStart => exact ⟨0, l, by omega, rfl, by go_num, h, World.grownBy.refl _ _, hide (revTo_zero l)⟩
  case round =>
    obtain ⟨k, l', hk, rfl, rfl, hown, hg, hrev⟩ := hrel
    by_cases hlt : 2 * k + 1 < l.length
    · have hll := (unhide hrev).1
      have hlI : (k : Int) < (l.length : Int) - 1 - k := by omega
      have hc0 := hown.cellAt k (by omega)
      rw [u8v_cell _ _ (by omega)] at hc0
      have hc1 := hown.cellAt (l.length - 1 - k) (by omega)
      rw [u8v_cell _ _ (by omega)] at hc1
      have hf0 := hown.frozenAt k
      have hf1 := hown.frozenAt (l.length - 1 - k)
      have hga : l'[k]? = some (l'[k]'(by omega)) := List.getElem?_eq_getElem _
      have hgb : l'[l.length - 1 - k]? = some (l'[l.length - 1 - k]'(by omega)) := List.getElem?_eq_getElem _
      have hstep := fun a b ha hb => @revTo_step l l' k (unhide hrev) hlt a b ha hb
      have hst1 := hstep _ _ hga hgb
      generalize l'[k]'(by omega) = a at *
      generalize l'[l.length - 1 - k]'(by omega) = b at *
      have hs1 := hown.stored k (.int .u8 b.toNat)
      rw [u8v_set] at hs1
      have hs2 := hs1.1.stored (l.length - 1 - k) (.int .u8 a.toNat)
      rw [u8v_set] at hs2
      have Hown := hide hs2.1
      have Hg := hide (grownBy_trans (grownBy_trans hg hs1.2) hs2.2)
      have Hst := hide hst1
      have e1 : ((l.length : Int) - 1 - k).toNat = l.length - 1 - k := by omega
      have hkl : (k : Int) < l.length := by omega
      have hjl : (l.length : Int) - 1 - k < l.length := by omega
      have hj0 : 0 ≤ (l.length : Int) - 1 - k := by omega
      have hne : ¬ k = l.length - 1 - k := by omega
      clear hs1 hs2 hst1 hstep hga hgb hll
      go_wp2
      go_region
      all_goals
        go_wp2
        go_roundw
        case rel => exact ⟨k + 1, (l'.set k b).set (l.length - 1 - k) a, by omega, by go_num, by go_num, unhide Hown, ⟨(unhide Hg).os, (unhide Hg).tape, (unhide Hg).output, (unhide Hg).size, (unhide Hg).block⟩, Hst⟩
        case measure => simp [intOf]; omega
    · go_wp2
      go_end0
      have := revTo_end (unhide hrev) (by omega)
      rw [this] at hown
      exact ⟨rfl, hown, hg⟩
end Go.Proofs.YtchginjabaobfaaDoor
namespace Go.Proofs.YtchginjabaobfaaDoor
open Go.RowKit Nt

/-- a text of a number is no longer than this -/
def big : Nat := 100000

theorem dec_len (n : Nat) : (dec n).size = (txl 10 n).length := by simp [dec, txt, B_size]
theorem dec_lt (n : Nat) : n < 10 ^ (dec n).size := by rw [dec_len]; exact lt_pow_txl (by omega) n

theorem sub_end {a b X l : Nat} (hba : b ≤ a) (hX : X < 10 ^ (dec a).size) (h : X + b % 10 ^ (dec a).size = a % 10 ^ (dec a).size + l * 10 ^ (dec a).size) : X = a - b := by
  have ha := dec_lt a
  rw [Nat.mod_eq_of_lt ha, Nat.mod_eq_of_lt (by omega)] at h
  generalize 10 ^ (dec a).size = p at *
  have : l = 0 := by
    rcases Nat.eq_zero_or_pos l with h0 | h0
    · exact h0
    · have := Nat.mul_le_mul_right p h0
      omega
  subst this; omega

set_option maxRecDepth 100000 in
set_option maxHeartbeats 400000 in
theorem l1Sub_c (a b : Nat) (w : World) (hba : b ≤ a) (hs : (dec a).size ≤ 100000) :
    Calls Tryd.prog 109 #[.string (dec a), .string (dec b)] w fun e w' => e = .returned (.string (dec (a - b))) ∧ Below w.heap.size w w' := by
  obtain ⟨i0, hi, hz0, hz1, hz2⟩ := info_parts Tryd.infoInt
  have hbs : (dec b).size ≤ 1000000000 := by
    have := txl_len_le (b := 10) (by omega) (dec_size_pos a) (Nat.lt_of_le_of_lt hba (dec_lt a))
    rw [dec_len b]; omega
  have Hba := hide hba
  clear hba
  go_enter Tryd.func109, Tryd.ntmps109
  go_wp2
  go_loopw [5, 6, 7] (fun v l i wr => ∃ (k c : Nat) (xs : List Nat), k ≤ (dec a).size ∧ i = .int .i64 k ∧ l = .int .i64 c ∧ c ≤ 1 ∧ xs.length = k ∧ wr.ownsRow w.heap.size 3 1 v k (ints xs) ∧ Below w.heap.size w wr ∧
      Hid (∀ d ∈ xs, d < 10) ∧ Hid (ofd 10 xs + b % 10 ^ k = a % 10 ^ k + c * 10 ^ k))
    (fun _ _ i _ => (dec a).size - (intOf i).toNat)
  case atStart =>
    exact ⟨0, 0, [], Nat.zero_le _, rfl, rfl, by omega, rfl, World.ownsRow_made w #[] 0 (Nat.le_refl _) (by decide) (by simp), (Below.refl _ _).alloc (Nat.le_refl _) _, hide (by simp), hide (by simp [ofd, Nat.mod_one])⟩
  case round =>
    obtain ⟨k, c, xs, hk, rfl, rfl, hc, hxk, hown, hb, hdg, hval⟩ := hrel
    by_cases hlt : k < (dec a).size
    · have hak : a / 10 ^ k % 10 < 10 := Nat.mod_lt _ (by omega)
      have hbk : b / 10 ^ k % 10 < 10 := Nat.mod_lt _ (by omega)
      generalize hga : a / 10 ^ k % 10 = ak at *
      generalize hgb : b / 10 ^ k % 10 = bk at *
      have Ha := hide hga
      have Hb := hide hgb
      clear hga hgb
      go_wp2_with fail
      refine (l1At_d a k ak _ (unhide Ha) (by omega) (by omega)).mono ?_
      rintro e w1 ⟨rfl, rfl⟩
      go_wp2_with fail
      refine (l1At_d b k bk _ (unhide Hb) (by omega) (by omega)).mono ?_
      rintro e w1 ⟨rfl, rfl⟩
      by_cases hneg : (ak : Int) - bk - c < 0
      · obtain ⟨d, hd⟩ : ∃ d : Nat, (ak : Int) - bk - c + 10 = d := ⟨((ak : Int) - bk - c + 10).toNat, by omega⟩
        have hdl : d < 10 := by omega
        have hw := hb.size
        go_wp2_with (at_builtin; refine wpList_append_own _ rfl (.tmp 29) (.tmp 31) 41 rfl w.heap.size 3 i0 (.int .i64 0) 1 8 Tryd.underlying41 hi hz0 hz1 hz2 rfl (by decide) _ _ _ rfl (hown.alloc _) ⟨w1.heap.size, 0, none⟩ 1 1 [.int .i64 d] rfl rfl (cell_one_new _ _ _) (by intro u hu; simp at hu; subst hu; rfl) (by unfold maxLen; omega) (by omega) (by simp; omega) ?_; intro v2 w2 hown2 hg2 _)
        have hbX := below_grown (hb.alloc hw _) (hown.alloc _) hg2 (by simp; omega)
        go_roundw
        case rel => exact ⟨k + 1, 1, xs ++ [d], by omega, by go_num, rfl, by omega, by simp [hxk], by rw [← ints_snoc]; exact hown2, hbX, dig_snoc hdg hdl, hide (by rw [ofd_snoc, hxk]; exact sub_step (unhide hval) (unhide Ha) (unhide Hb) (by omega))⟩
        case measure => simp [intOf]; omega
      · obtain ⟨d, hd⟩ : ∃ d : Nat, (ak : Int) - bk - c = d := ⟨((ak : Int) - bk - c).toNat, by omega⟩
        have hdl : d < 10 := by omega
        have hw := hb.size
        go_wp2_with (at_builtin; refine wpList_append_own _ rfl (.tmp 29) (.tmp 31) 41 rfl w.heap.size 3 i0 (.int .i64 0) 1 8 Tryd.underlying41 hi hz0 hz1 hz2 rfl (by decide) _ _ _ rfl (hown.alloc _) ⟨w1.heap.size, 0, none⟩ 1 1 [.int .i64 d] rfl rfl (cell_one_new _ _ _) (by intro u hu; simp at hu; subst hu; rfl) (by unfold maxLen; omega) (by omega) (by simp; omega) ?_; intro v2 w2 hown2 hg2 _)
        have hbX := below_grown (hb.alloc hw _) (hown.alloc _) hg2 (by simp; omega)
        go_roundw
        case rel => exact ⟨k + 1, 0, xs ++ [d], by omega, by go_num, rfl, by omega, by simp [hxk], by rw [← ints_snoc]; exact hown2, hbX, dig_snoc hdg hdl, hide (by rw [ofd_snoc, hxk]; exact sub_step (unhide hval) (unhide Ha) (unhide Hb) (by omega))⟩
        case measure => simp [intOf]; omega
    · go_wp2_with fail
      refine (l1Text_c xs _ _ (unhide hdg) (by omega) (own_base (hxk ▸ hown) (Nat.zero_le _))).mono ?_
      rintro e w1 ⟨rfl, hb1⟩
      go_wp2
      go_ret
      have hkn : k = (dec a).size := by omega
      subst hkn
      exact ⟨ret_str (by rw [sub_end (unhide Hba) (hxk ▸ ofd_lt xs (unhide hdg)) (unhide hval)]), hb.trans (hb1.mono hb.size)⟩
end Go.Proofs.YtchginjabaobfaaDoor
namespace Go.Proofs.YtchginjabaobfaaDoor
open Go.RowKit Nt

theorem dec_above' (n k : Nat) (h : (dec n).size ≤ k) : n / 10 ^ k % 10 = 0 := by
  rw [dec_above n k (by rw [← dec_len]; exact h)]

theorem add_end {a b X k : Nat} (h1 : (dec a).size ≤ k) (h2 : (dec b).size ≤ k) (h : X + 0 * 10 ^ k = a % 10 ^ k + b % 10 ^ k) : X = a + b := by
  have ha := Nat.lt_of_lt_of_le (dec_lt a) (Nat.pow_le_pow_right (show 0 < 10 by omega) h1)
  have hb := Nat.lt_of_lt_of_le (dec_lt b) (Nat.pow_le_pow_right (show 0 < 10 by omega) h2)
  rw [Nat.mod_eq_of_lt ha, Nat.mod_eq_of_lt hb] at h
  omega


set_option maxRecDepth 100000 in
set_option maxHeartbeats 1000000 in
theorem l1Add_c (a b : Nat) (w : World) (hsa : (dec a).size ≤ 100000) (hsb : (dec b).size ≤ 100000) :
    Calls Tryd.prog 58 #[.string (dec a), .string (dec b)] w fun e w' => e = .returned (.string (dec (a + b))) ∧ Below w.heap.size w w' := by
  obtain ⟨i0, hi, hz0, hz1, hz2⟩ := info_parts Tryd.infoInt
  obtain ⟨M, hM1, hM2, hM3⟩ : ∃ M, (dec a).size ≤ M ∧ (dec b).size ≤ M ∧ M ≤ 100000 := ⟨max (dec a).size (dec b).size, by omega, by omega, by omega⟩
  go_enter Tryd.func58, Tryd.ntmps58
  go_wp2
  go_loopw [5, 6, 7] (fun v l i wr => ∃ (k c : Nat) (xs : List Nat), k ≤ M + 1 ∧ k + c ≤ M + 1 ∧ i = .int .i64 k ∧ l = .int .i64 c ∧ c ≤ 1 ∧ xs.length = k ∧ wr.ownsRow w.heap.size 3 1 v k (ints xs) ∧ Below w.heap.size w wr ∧
      Hid (∀ d ∈ xs, d < 10) ∧ Hid (ofd 10 xs + c * 10 ^ k = a % 10 ^ k + b % 10 ^ k))
    (fun _ _ i _ => M + 1 - (intOf i).toNat)
  case atStart =>
    exact ⟨0, 0, [], by omega, by omega, rfl, rfl, by omega, rfl, World.ownsRow_made w #[] 0 (Nat.le_refl _) (by decide) (by simp), (Below.refl _ _).alloc (Nat.le_refl _) _, hide (by simp), hide (by simp [ofd, Nat.mod_one])⟩
  case round =>
    obtain ⟨k, c, xs, hk, hkc, rfl, rfl, hc, hxk, hown, hb, hdg, hval⟩ := hrel
    have hak : a / 10 ^ k % 10 < 10 := Nat.mod_lt _ (by omega)
    have hbk : b / 10 ^ k % 10 < 10 := Nat.mod_lt _ (by omega)
    have ha0 := dec_above' a k
    have hb0 := dec_above' b k
    generalize hga : a / 10 ^ k % 10 = ak at *
    generalize hgb : b / 10 ^ k % 10 = bk at *
    have Ha := hide hga
    have Hb := hide hgb
    clear hga hgb
    obtain ⟨d, hd⟩ : ∃ d : Nat, ((ak : Int) + bk + c) % 10 = d := ⟨(((ak : Int) + bk + c) % 10).toNat, by omega⟩
    obtain ⟨c', hc'⟩ : ∃ d : Nat, ((ak : Int) + bk + c) / 10 = d := ⟨(((ak : Int) + bk + c) / 10).toNat, by omega⟩
    have hdl : d < 10 := by omega
    have hcl : (dec a).size ≤ k → (dec b).size ≤ k → c' = 0 := fun h1 h2 => by have := ha0 h1; have := hb0 h2; omega
    have hkM : k < (dec a).size ∨ k < (dec b).size ∨ 0 < c → k + 1 + c' ≤ M + 1 := by
      intro h
      by_cases h1 : (dec a).size ≤ k
      · by_cases h2 : (dec b).size ≤ k
        · have := hcl h1 h2; omega
        · omega
      · omega
    have HkM := hide hkM
    clear hcl hkM ha0 hb0
    by_cases h1 : k < (dec a).size
    · have hkm := unhide HkM (.inl h1)
      go_wp2_with fail
      refine (l1At_d a k ak _ (unhide Ha) (by omega) (by omega)).mono ?_
      rintro e w1 ⟨rfl, rfl⟩
      go_wp2_with fail
      refine (l1At_d b k bk _ (unhide Hb) (by omega) (by omega)).mono ?_
      rintro e w1 ⟨rfl, rfl⟩
      have hw := hb.size
      go_wp2_with (at_builtin; refine wpList_append_own _ rfl (.tmp 35) (.tmp 38) 41 rfl w.heap.size 3 i0 (.int .i64 0) 1 8 Tryd.underlying41 hi hz0 hz1 hz2 rfl (by decide) _ _ _ rfl (hown.alloc _) ⟨w1.heap.size, 0, none⟩ 1 1 [.int .i64 d] rfl rfl (cell_one_new _ _ _) (by intro u hu; simp at hu; subst hu; rfl) (by unfold maxLen; omega) (by omega) (by simp; omega) ?_; intro v2 w2 hown2 hg2 _)
      have hbX := below_grown (hb.alloc hw _) (hown.alloc _) hg2 (by simp; omega)
      go_roundw
      case rel => exact ⟨k + 1, c', xs ++ [d], by omega, by omega, by go_num, by rw [hc'], by omega, by simp [hxk], by rw [← ints_snoc]; exact hown2, hbX, dig_snoc hdg hdl, hide (by rw [ofd_snoc, hxk]; exact add_step (unhide hval) (unhide Ha) (unhide Hb) (by omega))⟩
      case measure => simp [intOf]; omega
    · by_cases h2 : k < (dec b).size
      · have hkm := unhide HkM (.inr (.inl h2))
        go_wp2_with fail
        refine (l1At_d a k ak _ (unhide Ha) (by omega) (by omega)).mono ?_
        rintro e w1 ⟨rfl, rfl⟩
        go_wp2_with fail
        refine (l1At_d b k bk _ (unhide Hb) (by omega) (by omega)).mono ?_
        rintro e w1 ⟨rfl, rfl⟩
        have hw := hb.size
        go_wp2_with (at_builtin; refine wpList_append_own _ rfl (.tmp 35) (.tmp 38) 41 rfl w.heap.size 3 i0 (.int .i64 0) 1 8 Tryd.underlying41 hi hz0 hz1 hz2 rfl (by decide) _ _ _ rfl (hown.alloc _) ⟨w1.heap.size, 0, none⟩ 1 1 [.int .i64 d] rfl rfl (cell_one_new _ _ _) (by intro u hu; simp at hu; subst hu; rfl) (by unfold maxLen; omega) (by omega) (by simp; omega) ?_; intro v2 w2 hown2 hg2 _)
        have hbX := below_grown (hb.alloc hw _) (hown.alloc _) hg2 (by simp; omega)
        go_roundw
        case rel => exact ⟨k + 1, c', xs ++ [d], by omega, by omega, by go_num, by rw [hc'], by omega, by simp [hxk], by rw [← ints_snoc]; exact hown2, hbX, dig_snoc hdg hdl, hide (by rw [ofd_snoc, hxk]; exact add_step (unhide hval) (unhide Ha) (unhide Hb) (by omega))⟩
        case measure => simp [intOf]; omega
      · by_cases h3 : 0 < c
        · have hkm := unhide HkM (.inr (.inr h3))
          go_wp2_with fail
          refine (l1At_d a k ak _ (unhide Ha) (by omega) (by omega)).mono ?_
          rintro e w1 ⟨rfl, rfl⟩
          go_wp2_with fail
          refine (l1At_d b k bk _ (unhide Hb) (by omega) (by omega)).mono ?_
          rintro e w1 ⟨rfl, rfl⟩
          have hw := hb.size
          go_wp2_with (at_builtin; refine wpList_append_own _ rfl (.tmp 35) (.tmp 38) 41 rfl w.heap.size 3 i0 (.int .i64 0) 1 8 Tryd.underlying41 hi hz0 hz1 hz2 rfl (by decide) _ _ _ rfl (hown.alloc _) ⟨w1.heap.size, 0, none⟩ 1 1 [.int .i64 d] rfl rfl (cell_one_new _ _ _) (by intro u hu; simp at hu; subst hu; rfl) (by unfold maxLen; omega) (by omega) (by simp; omega) ?_; intro v2 w2 hown2 hg2 _)
          have hbX := below_grown (hb.alloc hw _) (hown.alloc _) hg2 (by simp; omega)
          go_roundw
          case rel => exact ⟨k + 1, c', xs ++ [d], by omega, by omega, by go_num, by rw [hc'], by omega, by simp [hxk], by rw [← ints_snoc]; exact hown2, hbX, dig_snoc hdg hdl, hide (by rw [ofd_snoc, hxk]; exact add_step (unhide hval) (unhide Ha) (unhide Hb) (by omega))⟩
          case measure => simp [intOf]; omega
        · have hc0 : c = 0 := by omega
          subst hc0
          go_wp2_with fail
          refine (l1Text_c xs _ _ (unhide hdg) (by omega) (own_base (hxk ▸ hown) (Nat.zero_le _))).mono ?_
          rintro e w1 ⟨rfl, hb1⟩
          go_wp2
          go_ret
          exact ⟨ret_str (by rw [add_end (Nat.le_of_not_lt h1) (Nat.le_of_not_lt h2) (unhide hval)]), hb.trans (hb1.mono hb.size)⟩
end Go.Proofs.YtchginjabaobfaaDoor
namespace Go.Proofs.YtchginjabaobfaaDoor
open Go.RowKit Nt

theorem B_tl (l : List UInt8) : (B l).toList = l := by rw [ByteArray.toList_eq, B_data]

theorem less_digits : ∀ (l m : List Nat), l.length = m.length → (∀ d ∈ l, d < 10) → (∀ d ∈ m, d < 10) →
    Op.bytesLess (l.map sg) (m.map sg) = decide (ofd 10 l.reverse < ofd 10 m.reverse) := by
  intro l
  induction l with
  | nil => intro m h _ _; have : m = [] := List.eq_nil_of_length_eq_zero (by simpa using h.symm)
           subst this; simp [Op.bytesLess]
  | cons d r ih =>
    intro m h hl hm
    match m, h with
    | [], h => simp at h
    | c :: s, h =>
      have hrs : r.length = s.length := by simpa using h
      have hd := hl d (by simp)
      have hc := hm c (by simp)
      have hr := fun x hx => hl x (List.mem_cons_of_mem d hx)
      have hs := fun x hx => hm x (List.mem_cons_of_mem c hx)
      simp only [List.map_cons, Op.bytesLess, List.reverse_cons, ih s hrs hr hs]
      rw [ofd_snoc, ofd_snoc, List.length_reverse, List.length_reverse, ← hrs]
      have h1 := ofd_lt (b := 10) r.reverse (fun x hx => hr x (by simpa using hx))
      have h2 := ofd_lt (b := 10) s.reverse (fun x hx => hs x (by simpa using hx))
      rw [List.length_reverse] at h1 h2
      rw [← hrs] at h2
      generalize 10 ^ r.length = p at *
      have e1 : decide (sg d < sg c) = decide (d < c) := by
        simp only [UInt8.lt_iff_toNat_lt, sg_toNat (show d < 16 by omega), sg_toNat (show c < 16 by omega), if_pos hd, if_pos hc]; simp
      have e2 : (sg d == sg c) = decide (d = c) := by
        by_cases hdc : d = c
        · subst hdc; simp
        · have : sg d ≠ sg c := fun hh => hdc (sg_inj (by omega) (by omega) hh)
          simp [this, hdc]
      rw [e1, e2]
      rcases Nat.lt_trichotomy d c with hlt | heq | hgt
      · have : p * (d + 1) ≤ p * c := Nat.mul_le_mul_left p hlt
        rw [Nat.mul_add] at this
        simp only [hlt, decide_true, Bool.true_or]
        symm; rw [decide_eq_true_iff]; omega
      · subst heq; simp
      · have : p * (c + 1) ≤ p * d := Nat.mul_le_mul_left p hgt
        rw [Nat.mul_add] at this
        have hn : ¬ d < c := by omega
        have hne : d ≠ c := by omega
        simp only [hn, hne, decide_false, Bool.false_and, Bool.or_false]
        symm; rw [decide_eq_false_iff_not]; omega

/-- digits, the highest first -/
def hi10 (n : Nat) : List Nat := if n = 0 then [0] else (dg 10 n).reverse
theorem txl_hi (n : Nat) : txl 10 n = (hi10 n).map sg := by
  unfold txl hi10; split
  · simp [sg]
  · rw [List.map_reverse]
theorem hi10_lt (n : Nat) : ∀ d ∈ hi10 n, d < 10 := by
  intro d hd; unfold hi10 at hd; split at hd
  · simp at hd; omega
  · exact dg_lt (by omega) n d (by simpa using hd)
theorem ofd_hi (n : Nat) : ofd 10 (hi10 n).reverse = n := by
  unfold hi10; split
  · subst n; simp [ofd]
  · rw [List.reverse_reverse, ofd_dg (by omega)]

theorem dec_less {a b : Nat} (h : (dec a).size = (dec b).size) : Op.bytesLess (dec a).toList (dec b).toList = decide (a < b) := by
  unfold dec txt
  rw [B_tl, B_tl, txl_hi, txl_hi, less_digits _ _ _ (hi10_lt a) (hi10_lt b), ofd_hi, ofd_hi]
  rw [dec_len, dec_len, txl_hi, txl_hi] at h
  simpa using h

theorem dec_beq (a b : Nat) : ((dec a).toList == (dec b).toList) = decide (a = b) := by
  by_cases h : a = b
  · subst h; simp
  · have : (dec a).toList ≠ (dec b).toList := by
      intro hh
      unfold dec txt at hh
      rw [B_tl, B_tl] at hh
      exact h (txl_inj (by omega) (by omega) hh)
    simp [this, h]

theorem dec_size_lt {a b : Nat} (h : (dec a).size < (dec b).size) : a < b := by
  rcases Nat.lt_or_ge a b with h1 | h1
  · exact h1
  · have := txl_len_le (b := 10) (by omega) (dec_size_pos a) (Nat.lt_of_le_of_lt h1 (dec_lt a))
    rw [← dec_len] at this; omega

def cmpN (a b : Nat) : Int := if a < b then -1 else if b < a then 1 else 0

set_option maxRecDepth 100000 in
set_option maxHeartbeats 400000 in
theorem l1Cmp_c (a b : Nat) (w : World) (_hsa : (dec a).size ≤ 1000000000) (_hsb : (dec b).size ≤ 1000000000) :
    Calls Tryd.prog 108 #[.string (dec a), .string (dec b)] w fun e w' => e = .returned (.int .i64 (cmpN a b)) ∧ w' = w := by
  by_cases he : (dec a).size = (dec b).size
  · have h1 := dec_less he
    have h2 := dec_beq a b
    have h0 : ((dec a).size != (dec b).size) = false := by simp [he]
    have hI : (((dec a).size : Int) != ((dec b).size : Int)) = false := by simp [he]
    rcases Nat.lt_trichotomy a b with hlt | heq | hgt
    · have hr : cmpN a b = -1 := by simp [cmpN, hlt]
      rw [decide_eq_true hlt] at h1
      rw [hr]
      clear he h2 h0 hr
      go_enter Tryd.func108, Tryd.ntmps108
      go_wp2
      go_ret
      exact ⟨rfl, rfl⟩
    · subst heq
      have hr : cmpN a a = 0 := by simp [cmpN]
      rw [decide_eq_false (by omega)] at h1
      rw [hr]
      clear he h0 hr
      go_enter Tryd.func108, Tryd.ntmps108
      go_wp2
      go_ret
      exact ⟨rfl, rfl⟩
    · have hr : cmpN a b = 1 := by unfold cmpN; rw [if_neg (by omega), if_pos hgt]
      rw [decide_eq_false (by omega)] at h1 h2
      rw [hr]
      clear he h0 hr
      go_enter Tryd.func108, Tryd.ntmps108
      go_wp2
      go_ret
      exact ⟨rfl, rfl⟩
  · have hI : (((dec a).size : Int) != ((dec b).size : Int)) = true := by rw [bne_iff_ne]; omega
    by_cases hlt : (dec a).size < (dec b).size
    · have hr : cmpN a b = -1 := by simp [cmpN, dec_size_lt hlt]
      rw [hr]
      clear he hr
      go_enter Tryd.func108, Tryd.ntmps108
      go_wp2
      go_ret
      exact ⟨rfl, rfl⟩
    · have hgt := dec_size_lt (a := b) (b := a) (by omega)
      have hr : cmpN a b = 1 := by unfold cmpN; rw [if_neg (by omega), if_pos hgt]
      rw [hr]
      clear he hr hgt
      go_enter Tryd.func108, Tryd.ntmps108
      go_wp2
      go_ret
      exact ⟨rfl, rfl⟩

/-- a text that is a number, in decimals, with no needless nought -/
def isDec (l : List UInt8) : Bool := l != [] && l.all (fun c => 48 ≤ c && c ≤ 57) && (l.length ≤ 1 || l.head? != some 48)

theorem isDec_txl (n : Nat) : isDec (txl 10 n) = true := by
  have hall : (txl 10 n).all (fun c => 48 ≤ c && c ≤ 57) = true := by
    rw [List.all_eq_true]
    intro c hc
    rw [txl_hi] at hc
    obtain ⟨d, hd, rfl⟩ := List.mem_map.1 hc
    have := hi10_lt n d hd
    simp only [Bool.and_eq_true, decide_eq_true_eq, UInt8.le_iff_toNat_le, sg_toNat (show d < 16 by omega), if_pos this]
    simp; omega
  have hne : txl 10 n ≠ [] := fun h => by have := txl_length_pos (b := 10) (by omega) n; rw [h] at this; simp at this
  have hlead : (txl 10 n).length ≤ 1 ∨ (txl 10 n).head? ≠ some 48 := by
    have ht := trim_txl n
    cases hl : txl 10 n with
    | nil => left; simp
    | cons c r =>
      by_cases hr : r = []
      · left; subst hr; simp
      · right
        intro hc
        simp at hc
        subst hc
        rw [hl] at ht
        simp only [trim] at ht
        rw [if_pos ⟨trivial, hr⟩] at ht
        have := trim_length r
        have := congrArg List.length ht
        simp at this; omega
  unfold isDec
  simp only [bne_iff_ne, Bool.and_eq_true, Bool.or_eq_true, decide_eq_true_eq]
  exact ⟨⟨by simpa using hne, hall⟩, hlead⟩

/-- the number that decimals are -/
def valDec (l : List UInt8) : Nat := ofd 10 ((l.map fun c => c.toNat - 48).reverse)

theorem isDec_val {l : List UInt8} (h : isDec l = true) : l = txl 10 (valDec l) := by
  unfold isDec at h
  simp only [bne_iff_ne, Bool.and_eq_true, Bool.or_eq_true, decide_eq_true_eq] at h
  obtain ⟨⟨hne, hall⟩, hlead⟩ := h
  rw [List.all_eq_true] at hall
  have hc : ∀ c ∈ l, 48 ≤ c.toNat ∧ c.toNat ≤ 57 := by
    intro c hc; have := hall c hc
    simp only [Bool.and_eq_true, decide_eq_true_eq, UInt8.le_iff_toNat_le] at this
    simpa using this
  have hm : (l.map fun c => c.toNat - 48).map sg = l := by
    rw [List.map_map]
    have : ∀ c ∈ l, (sg ∘ fun c : UInt8 => c.toNat - 48) c = id c := by
      intro c hcl
      have := hc c hcl
      apply UInt8.toNat_inj.1
      simp only [Function.comp, id]
      rw [sg_toNat (by omega), if_pos (by omega)]; omega
    rw [List.map_congr_left this, List.map_id]
  have hd : ∀ d ∈ (l.map fun c => c.toNat - 48).reverse, d < 10 := by
    intro d hd
    rw [List.mem_reverse] at hd
    obtain ⟨c, hcl, rfl⟩ := List.mem_map.1 hd
    have := hc c hcl
    show c.toNat - 48 < 10
    omega
  have ht := trim_rev _ hd (by simpa using hne)
  rw [List.map_reverse, List.reverse_reverse, hm] at ht
  unfold valDec
  rw [← ht]
  symm
  apply trim_stop
  rcases hlead with h1 | h1
  · exact .inl h1
  · right
    cases l with
    | nil => exact absurd rfl hne
    | cons c r => exact ⟨c, r, rfl, fun h => h1 (by simp [h])⟩
end Go.Proofs.YtchginjabaobfaaDoor
namespace Go.Proofs.YtchginjabaobfaaDoor
open Go.RowKit Nt

def isDig (c : UInt8) : Bool := 48 ≤ c && c ≤ 57
theorem isDig_iff (c : UInt8) : isDig c = true ↔ 48 ≤ c.toNat ∧ c.toNat ≤ 57 := by
  simp [isDig, UInt8.le_iff_toNat_le]

theorem isDec_bad {l : List UInt8} (k : Nat) (h : k < l.length) (hb : ¬ (48 ≤ l[k].toNat ∧ l[k].toNat ≤ 57)) : isDec l = false := by
  cases hd : isDec l with
  | false => rfl
  | true =>
    unfold isDec at hd
    simp only [bne_iff_ne, Bool.and_eq_true, Bool.or_eq_true, decide_eq_true_eq] at hd
    have := List.all_eq_true.1 hd.1.2 l[k] (List.getElem_mem h)
    exact absurd ((isDig_iff _).1 this) hb

theorem isDec_good {l : List UInt8} (h0 : 0 < l.length) (hl : l.length ≤ 1 ∨ l.head? ≠ some 48) (h : ∀ k (hk : k < l.length), 48 ≤ l[k].toNat ∧ l[k].toNat ≤ 57) : isDec l = true := by
  unfold isDec
  simp only [bne_iff_ne, Bool.and_eq_true, Bool.or_eq_true, decide_eq_true_eq]
  refine ⟨⟨fun hh => by rw [hh] at h0; simp at h0, ?_⟩, hl⟩
  rw [List.all_eq_true]
  intro c hc
  obtain ⟨k, hk, rfl⟩ := List.getElem_of_mem hc
  exact (isDig_iff _).2 (h k hk)


set_option maxRecDepth 100000 in
set_option maxHeartbeats 1000000 in
theorem l1DigitsOk_c (l : List UInt8) (w : World) (hs : l.length ≤ 1000000000) :
    Calls Tryd.prog 64 #[.string (B l)] w fun e w' => e = .returned (.bool (isDec l)) ∧ w' = w := by
  have hsz : (B l).size ≤ 1000000000 := by rw [B_size]; exact hs
  have hI : ((B l).size : Int) = (l.length : Int) := by rw [B_size]
  by_cases hz : l.length = 0
  · have : l = [] := List.eq_nil_of_length_eq_zero hz
    subst this
    have h0 : (((B []).size : Int) == 0) = true := by simp [B_size]
    clear hI hs hsz hz
    go_enter Tryd.func64, Tryd.ntmps64
    go_wp2
    go_ret
    exact ⟨rfl, rfl⟩
  · have h0 : 0 < l.length := by omega
    have h0I : (((B l).size : Int) == 0) = false := by rw [beq_eq_false_iff_ne]; omega
    by_cases h1 : 1 < l.length
    · have h1I : (1 : Int) < ((B l).size : Int) := by omega
      have hg0 : 0 < (B l).size := by omega
      have hg : ((B l)[0]'hg0).toNat = (l[0]'h0).toNat := by rw [B_get]
      by_cases hc : l[0]'h0 = 48
      · have hq : ((((B l)[0]'hg0).toNat : Int) == 48) = true := by rw [hg, hc]; rfl
        have hf : isDec l = false := by
          cases hd : isDec l with
          | false => rfl
          | true =>
            unfold isDec at hd
            simp only [bne_iff_ne, Bool.and_eq_true, Bool.or_eq_true, decide_eq_true_eq] at hd
            rcases hd.2 with h2 | h2
            · omega
            · exact absurd (by rw [List.head?_eq_getElem?, List.getElem?_eq_getElem h0, hc]) h2
        rw [hf]
        clear hI hc hg hf hz
        go_enter Tryd.func64, Tryd.ntmps64
        go_wp2
        go_ret
        exact ⟨rfl, rfl⟩
      · have hq : ((((B l)[0]'hg0).toNat : Int) == 48) = false := by
          rw [hg, beq_eq_false_iff_ne]
          intro hh
          apply hc
          apply UInt8.toNat_inj.1
          simp only [UInt8.toNat_ofNat]; omega
        have hl0 : Hid (l.length ≤ 1 ∨ l.head? ≠ some 48) := .inr (by
          rw [List.head?_eq_getElem?, List.getElem?_eq_getElem h0]
          intro hh; exact hc (by simpa using hh))
        clear hI hc hg hz
        go_enter Tryd.func64, Tryd.ntmps64
        go_wp2
        go_loop [3] (fun i => ∃ k : Nat, k ≤ l.length ∧ i = .int .i64 k ∧ Hid (∀ j (hj : j < l.length), j < k → 48 ≤ l[j].toNat ∧ l[j].toNat ≤ 57)) (fun i => l.length - (intOf i).toNat)
        case atStart => exact ⟨0, Nat.zero_le _, rfl, hide (fun j _ h => by omega)⟩
        case round =>
          clear hq
          obtain ⟨k, hk, rfl, hv⟩ := hrel
          by_cases hlt : k < l.length
          · have hlt2 : k < (B l).size := by rw [B_size]; exact hlt
            have hgk : ((B l)[k]'hlt2).toNat = (l[k]'hlt).toNat := by rw [B_get]
            by_cases h1 : ((l[k]'hlt).toNat : Int) < 48
            · go_wp2
              go_ret
              exact ⟨ret_bool (by rw [isDec_bad k hlt (by omega)]), rfl⟩
            · by_cases h2 : 57 < ((l[k]'hlt).toNat : Int)
              · go_wp2
                go_ret
                exact ⟨ret_bool (by rw [isDec_bad k hlt (by omega)]), rfl⟩
              · have h3 : 48 ≤ (l[k]'hlt).toNat ∧ (l[k]'hlt).toNat ≤ 57 := by omega
                have hv2 : Hid (∀ j (hj : j < l.length), j < k + 1 → 48 ≤ l[j].toNat ∧ l[j].toNat ≤ 57) := by
                  intro j hj hjk
                  by_cases hjk2 : j < k
                  · exact unhide hv j hj hjk2
                  · have : j = k := by omega
                    subst this; exact h3
                go_wp2
                go_round
                case rel => exact ⟨k + 1, by omega, by go_num, hv2⟩
                case measure => simp [intOf]; omega
          · have hlt2 : ¬ k < (B l).size := by rw [B_size]; exact hlt
            have fin : isDec l = true := isDec_good h0 (unhide hl0) (fun j hj => unhide hv j hj (by omega))
            have Fin := hide fin
            clear fin
            go_wp2
            go_ret
            exact ⟨ret_bool (unhide Fin).symm, rfl⟩
    · have h1I : ¬ (1 : Int) < ((B l).size : Int) := by omega
      have hl0 : Hid (l.length ≤ 1 ∨ l.head? ≠ some 48) := .inl (by omega)
      clear hI hz
      go_enter Tryd.func64, Tryd.ntmps64
      go_wp2
      go_loop [3] (fun i => ∃ k : Nat, k ≤ l.length ∧ i = .int .i64 k ∧ Hid (∀ j (hj : j < l.length), j < k → 48 ≤ l[j].toNat ∧ l[j].toNat ≤ 57)) (fun i => l.length - (intOf i).toNat)
      case atStart => exact ⟨0, Nat.zero_le _, rfl, hide (fun j _ h => by omega)⟩
      case round =>
        obtain ⟨k, hk, rfl, hv⟩ := hrel
        by_cases hlt : k < l.length
        · have hlt2 : k < (B l).size := by rw [B_size]; exact hlt
          have hgk : ((B l)[k]'hlt2).toNat = (l[k]'hlt).toNat := by rw [B_get]
          by_cases h1 : ((l[k]'hlt).toNat : Int) < 48
          · go_wp2
            go_ret
            exact ⟨ret_bool (by rw [isDec_bad k hlt (by omega)]), rfl⟩
          · by_cases h2 : 57 < ((l[k]'hlt).toNat : Int)
            · go_wp2
              go_ret
              exact ⟨ret_bool (by rw [isDec_bad k hlt (by omega)]), rfl⟩
            · have h3 : 48 ≤ (l[k]'hlt).toNat ∧ (l[k]'hlt).toNat ≤ 57 := by omega
              have hv2 : Hid (∀ j (hj : j < l.length), j < k + 1 → 48 ≤ l[j].toNat ∧ l[j].toNat ≤ 57) := by
                intro j hj hjk
                by_cases hjk2 : j < k
                · exact unhide hv j hj hjk2
                · have : j = k := by omega
                  subst this; exact h3
              go_wp2
              go_round
              case rel => exact ⟨k + 1, by omega, by go_num, hv2⟩
              case measure => simp [intOf]; omega
        · have hlt2 : ¬ k < (B l).size := by rw [B_size]; exact hlt
          have fin : isDec l = true := isDec_good h0 (unhide hl0) (fun j hj => unhide hv j hj (by omega))
          have Fin := hide fin
          clear fin
          go_wp2
          go_ret
          exact ⟨ret_bool (unhide Fin).symm, rfl⟩

/-- what a byte is as a digit -/
def digN (c : UInt8) : Nat := if 48 ≤ c.toNat ∧ c.toNat ≤ 57 then c.toNat - 48 else if 97 ≤ c.toNat ∧ c.toNat ≤ 102 then c.toNat - 87 else 99

set_option maxRecDepth 100000 in
set_option maxHeartbeats 1000000 in
theorem l2Digit_c (c : UInt8) (w : World) :
    Calls Tryd.prog 95 #[.int .u8 c.toNat] w fun e w' => e = .returned (.int .i64 (digN c : Nat)) ∧ w' = w := by
  have hc : c.toNat < 256 := c.toNat_lt
  have hd : digN c = if 48 ≤ c.toNat ∧ c.toNat ≤ 57 then c.toNat - 48 else if 97 ≤ c.toNat ∧ c.toNat ≤ 102 then c.toNat - 87 else 99 := rfl
  generalize c.toNat = n at *
  generalize digN c = d at *
  by_cases h1 : 48 ≤ n ∧ n ≤ 57
  · rw [if_pos h1] at hd
    have e : (n : Int) - 48 = (d : Int) := by omega
    obtain ⟨ha, hb⟩ := h1
    clear hd
    go_enter Tryd.func95, Tryd.ntmps95
    go_wp2
    go_ret
    exact ⟨ret_int (by omega), rfl⟩
  · rw [if_neg h1] at hd
    by_cases h2 : 97 ≤ n ∧ n ≤ 102
    · rw [if_pos h2] at hd
      obtain ⟨ha, hb⟩ := h2
      have e : (n : Int) - 97 + 10 = (d : Int) := by omega
      have hh : ¬ (n : Int) ≤ 57 := by omega
      clear hd h1
      go_enter Tryd.func95, Tryd.ntmps95
      go_wp2
      go_ret
      exact ⟨ret_int (by omega), rfl⟩
    · rw [if_neg h2] at hd
      subst hd
      by_cases h3 : 48 ≤ n
      · have h4 : ¬ (n : Int) ≤ 57 := by omega
        by_cases h5 : 97 ≤ n
        · have h6 : ¬ (n : Int) ≤ 102 := by omega
          clear h1 h2
          go_enter Tryd.func95, Tryd.ntmps95
          go_wp2
          go_ret
          exact ⟨rfl, rfl⟩
        · clear h1 h2
          go_enter Tryd.func95, Tryd.ntmps95
          go_wp2
          go_ret
          exact ⟨rfl, rfl⟩
      · clear h1 h2
        go_enter Tryd.func95, Tryd.ntmps95
        go_wp2
        go_ret
        exact ⟨rfl, rfl⟩
end Go.Proofs.YtchginjabaobfaaDoor
namespace Go.Proofs.YtchginjabaobfaaDoor
open Go.RowKit Nt

def plain (l : List UInt8) : Bool := isDec l && decide (l.length ≤ 60)

theorem plain_long {l : List UInt8} (h : 60 < l.length) : plain l = false := by
  unfold plain; rw [decide_eq_false (by omega)]; simp
theorem plain_of {l : List UInt8} (h : isDec l = false) : plain l = false := by unfold plain; rw [h]; simp

/-- the rune at a place is a digit's just if the byte is -/
theorem rune_dig (l : List UInt8) (pos : Nat) (h : pos < l.length) :
    (48 ≤ (l[pos]).toNat ∧ (l[pos]).toNat ≤ 57 ∧ Utf8.decode (B l) pos = ((l[pos]).toNat, 1)) ∨ (¬ (48 ≤ (l[pos]).toNat ∧ (l[pos]).toNat ≤ 57) ∧ ((Utf8.decode (B l) pos).1 < 48 ∨ 57 < (Utf8.decode (B l) pos).1)) := by
  have h2 : pos < (B l).size := by rw [B_size]; exact h
  have hg : ((B l)[pos]'h2) = l[pos]'h := B_get l pos h2
  by_cases ha : (l[pos]).toNat < 128
  · have := decode_ascii (B l) pos h2 (by rw [hg]; exact ha)
    rw [hg] at this
    by_cases hd : 48 ≤ (l[pos]).toNat ∧ (l[pos]).toNat ≤ 57
    · exact .inl ⟨hd.1, hd.2, this⟩
    · refine .inr ⟨hd, ?_⟩
      rw [this]
      show (l[pos]).toNat < 48 ∨ 57 < (l[pos]).toNat
      omega
  · have := (decode_high (B l) pos h2 (by rw [hg]; omega)).1
    exact .inr ⟨by omega, .inr (by omega)⟩


set_option maxRecDepth 100000 in
set_option maxHeartbeats 2000000 in
theorem numPlain_c (l : List UInt8) (w : World) (hs : l.length ≤ 1000000000) :
    Calls Tryd.prog 48 #[.string (B l)] w fun e w' => e = .returned (.bool (plain l)) ∧ Below w.heap.size w w' := by
  have hI : ((B l).size : Int) = (l.length : Int) := by rw [B_size]
  by_cases hz : l.length = 0
  · have : l = [] := List.eq_nil_of_length_eq_zero hz
    subst this
    have hI0 : (((B []).size : Int) == 0) = true := by rw [hI]; rfl
    clear hI hz hs
    go_enter Tryd.func48, Tryd.ntmps48
    go_wp2
    go_ret
    exact ⟨rfl, Below.refl _ _⟩
  · have h0 : 0 < l.length := by omega
    have h0I : (((B l).size : Int) == 0) = false := by rw [beq_eq_false_iff_ne]; omega
    by_cases h60 : 60 < l.length
    · have h60I : (60 : Int) < ((B l).size : Int) := by omega
      rw [plain_long h60]
      clear hI hz h60
      go_enter Tryd.func48, Tryd.ntmps48
      go_wp2
      go_ret
      exact ⟨rfl, Below.refl _ _⟩
    · have h60I : ¬ (60 : Int) < ((B l).size : Int) := by omega
      by_cases h1 : 1 < l.length
      · have h1I : (1 : Int) < ((B l).size : Int) := by omega
        have hg0 : 0 < (B l).size := by omega
        have hg : ((B l)[0]'hg0).toNat = (l[0]'h0).toNat := by rw [B_get]
        by_cases hc : l[0]'h0 = 48
        · have hq : ((((B l)[0]'hg0).toNat : Int) == 48) = true := by rw [hg, hc]; rfl
          have hf : plain l = false := by
            apply plain_of
            cases hd : isDec l with
            | false => rfl
            | true =>
              unfold isDec at hd
              simp only [bne_iff_ne, Bool.and_eq_true, Bool.or_eq_true, decide_eq_true_eq] at hd
              rcases hd.2 with h2 | h2
              · omega
              · exact absurd (by rw [List.head?_eq_getElem?, List.getElem?_eq_getElem h0, hc]) h2
          rw [hf]
          clear hI hc hg hf hz
          go_enter Tryd.func48, Tryd.ntmps48
          go_wp2
          go_ret
          exact ⟨rfl, Below.refl _ _⟩
        · have hq : ((((B l)[0]'hg0).toNat : Int) == 48) = false := by
            rw [hg, beq_eq_false_iff_ne]
            intro hh
            apply hc
            apply UInt8.toNat_inj.1
            simp only [UInt8.toNat_ofNat]; omega
          have hl0 : Hid (l.length ≤ 1 ∨ l.head? ≠ some 48) := .inr (by
            rw [List.head?_eq_getElem?, List.getElem?_eq_getElem h0]
            intro hh; exact hc (by simpa using hh))
          clear hI hc hg hz
          go_enter Tryd.func48, Tryd.ntmps48
          go_wp2
          go_loopw [4] (fun _ wr => ∃ pos : Nat, pos ≤ l.length ∧ wr.heap[w.heap.size]? = some (.stringIter (B l) pos) ∧ Below w.heap.size w wr ∧ Hid (∀ j (hj : j < l.length), j < pos → 48 ≤ (l[j]).toNat ∧ (l[j]).toNat ≤ 57))
            (fun _ wr => l.length - wr.iterPos w.heap.size)
          case atStart => exact ⟨0, Nat.zero_le _, World.iter_heap _ _ _, (Below.refl _ _).alloc (Nat.le_refl _) _, hide (fun j _ h => by omega)⟩
          case round =>
            obtain ⟨pos, hpl, hit, hb, hv⟩ := hrel
            have hpos0 := iterPos_of hit
            by_cases hlt : pos < l.length
            · have hlt2 : pos < (B l).size := by rw [B_size]; exact hlt
              have hnx := fun ty => Lib.run_next_any_at (P := Tryd.prog) wr w.heap.size (B l) pos ty hit hlt2
              rcases rune_dig l pos hlt with ⟨h1, h2, h3⟩ | ⟨h1, h2⟩
              · rw [h3] at hnx
                have hit2 := Lib.iterAt_heap wr w.heap.size (B l) pos (pos + 1) hit
                have hb2 := Lib.below_iterAt hb (k := w.heap.size) (Nat.le_refl _) (B l) (pos + 1)
                have hpos2 := iterPos_of hit2
                have hv2 : Hid (∀ j (hj : j < l.length), j < pos + 1 → 48 ≤ (l[j]).toNat ∧ (l[j]).toNat ≤ 57) := by
                  intro j hj hjk
                  by_cases hjk2 : j < pos
                  · exact unhide hv j hj hjk2
                  · have : j = pos := by omega
                    subst this; exact ⟨h1, h2⟩
                have h1I : (48 : Int) ≤ ((l[pos]'hlt).toNat : Int) := by omega
                have h2I : ((l[pos]'hlt).toNat : Int) ≤ 57 := by omega
                have Hit2 := hide hit2
                have Hp0 := hide hpos0
                have Hp2 := hide hpos2
                clear h3 hit hit2 hpos0 hpos2
                go_wp2
                go_roundw
                case rel => exact ⟨pos + 1, by omega, unhide Hit2, hb2, hv2⟩
                case measure => rw [unhide Hp0, unhide Hp2]; omega
              · have hb2 := Lib.below_iterAt hb (k := w.heap.size) (Nat.le_refl _) (B l) (pos + (Utf8.decode (B l) pos).2)
                have hf := plain_of (isDec_bad pos hlt h1)
                have Hf := hide hf
                generalize Utf8.decode (B l) pos = rw_ at *
                clear hf h1 hit hpos0
                rcases h2 with h2 | h2
                · have h2I : (rw_.1 : Int) < 48 := by omega
                  clear h2
                  go_wp2
                  go_ret
                  exact ⟨ret_bool (unhide Hf).symm, hb2⟩
                · have h2I : (57 : Int) < rw_.1 := by omega
                  have h3I : ¬ (rw_.1 : Int) < 48 := by omega
                  clear h2
                  go_wp2
                  go_ret
                  exact ⟨ret_bool (unhide Hf).symm, hb2⟩
            · have hlt2 : ¬ pos < (B l).size := by rw [B_size]; exact hlt
              have hnx := fun ty => Lib.run_next_end_at (P := Tryd.prog) wr w.heap.size (B l) pos ty hit hlt2
              have hf : plain l = true := by
                unfold plain
                rw [isDec_good h0 (unhide hl0) (fun j hj => unhide hv j hj (by omega)), decide_eq_true (by omega)]; rfl
              have Hf := hide hf
              clear hf hit hpos0
              go_wp2
              go_ret
              exact ⟨ret_bool (unhide Hf).symm, hb⟩
      · have h1I : ¬ (1 : Int) < ((B l).size : Int) := by omega
        have hl0 : Hid (l.length ≤ 1 ∨ l.head? ≠ some 48) := .inl (by omega)
        clear hI hz
        go_enter Tryd.func48, Tryd.ntmps48
        go_wp2
        go_loopw [4] (fun _ wr => ∃ pos : Nat, pos ≤ l.length ∧ wr.heap[w.heap.size]? = some (.stringIter (B l) pos) ∧ Below w.heap.size w wr ∧ Hid (∀ j (hj : j < l.length), j < pos → 48 ≤ (l[j]).toNat ∧ (l[j]).toNat ≤ 57))
          (fun _ wr => l.length - wr.iterPos w.heap.size)
        case atStart => exact ⟨0, Nat.zero_le _, World.iter_heap _ _ _, (Below.refl _ _).alloc (Nat.le_refl _) _, hide (fun j _ h => by omega)⟩
        case round =>
          obtain ⟨pos, hpl, hit, hb, hv⟩ := hrel
          have hpos0 := iterPos_of hit
          by_cases hlt : pos < l.length
          · have hlt2 : pos < (B l).size := by rw [B_size]; exact hlt
            have hnx := fun ty => Lib.run_next_any_at (P := Tryd.prog) wr w.heap.size (B l) pos ty hit hlt2
            rcases rune_dig l pos hlt with ⟨h1, h2, h3⟩ | ⟨h1, h2⟩
            · rw [h3] at hnx
              have hit2 := Lib.iterAt_heap wr w.heap.size (B l) pos (pos + 1) hit
              have hb2 := Lib.below_iterAt hb (k := w.heap.size) (Nat.le_refl _) (B l) (pos + 1)
              have hpos2 := iterPos_of hit2
              have hv2 : Hid (∀ j (hj : j < l.length), j < pos + 1 → 48 ≤ (l[j]).toNat ∧ (l[j]).toNat ≤ 57) := by
                intro j hj hjk
                by_cases hjk2 : j < pos
                · exact unhide hv j hj hjk2
                · have : j = pos := by omega
                  subst this; exact ⟨h1, h2⟩
              have h1I : (48 : Int) ≤ ((l[pos]'hlt).toNat : Int) := by omega
              have h2I : ((l[pos]'hlt).toNat : Int) ≤ 57 := by omega
              have Hit2 := hide hit2
              have Hp0 := hide hpos0
              have Hp2 := hide hpos2
              clear h3 hit hit2 hpos0 hpos2
              go_wp2
              go_roundw
              case rel => exact ⟨pos + 1, by omega, unhide Hit2, hb2, hv2⟩
              case measure => rw [unhide Hp0, unhide Hp2]; omega
            · have hb2 := Lib.below_iterAt hb (k := w.heap.size) (Nat.le_refl _) (B l) (pos + (Utf8.decode (B l) pos).2)
              have hf := plain_of (isDec_bad pos hlt h1)
              have Hf := hide hf
              generalize Utf8.decode (B l) pos = rw_ at *
              clear hf h1 hit hpos0
              rcases h2 with h2 | h2
              · have h2I : (rw_.1 : Int) < 48 := by omega
                clear h2
                go_wp2
                go_ret
                exact ⟨ret_bool (unhide Hf).symm, hb2⟩
              · have h2I : (57 : Int) < rw_.1 := by omega
                have h3I : ¬ (rw_.1 : Int) < 48 := by omega
                clear h2
                go_wp2
                go_ret
                exact ⟨ret_bool (unhide Hf).symm, hb2⟩
          · have hlt2 : ¬ pos < (B l).size := by rw [B_size]; exact hlt
            have hnx := fun ty => Lib.run_next_end_at (P := Tryd.prog) wr w.heap.size (B l) pos ty hit hlt2
            have hf : plain l = true := by
              unfold plain
              rw [isDec_good h0 (unhide hl0) (fun j hj => unhide hv j hj (by omega)), decide_eq_true (by omega)]; rfl
            have Hf := hide hf
            clear hf hit hpos0
            go_wp2
            go_ret
            exact ⟨ret_bool (unhide Hf).symm, hb⟩
end Go.Proofs.YtchginjabaobfaaDoor
namespace Go.Proofs.YtchginjabaobfaaDoor
open Go.RowKit Nt

theorem run_conv_one {P : Program} {src dst e : TypeId} (hs : P.underlying src = some (.slice e)) (he : P.underlying e = some (.int .u8)) (hd : P.underlying dst = some .string) (W w1 : World) (d : Nat) (hd10 : d < 10)
    (hb : Below (W.heap.size + 1) (W.alloc (.cells #[.int .u8 (48 + (d : Int))] e)) w1) :
    (convert src dst (.slice (some ⟨W.heap.size, 0, none⟩) 1 1)).run P w1 = .ok (.string (B [sg d])) w1 := by
  have h0 := World.ownsRow_lit (base := 0) (e := e) (size := 1) W #[.int .u8 (48 + (d : Int))] 1 (Nat.zero_le _) (by decide) (by simp)
  have h1 := own_below h0 (by simpa using hb)
  have e1 : (#[Value.int .u8 (48 + (d : Int))] : Array Value).toList = [sg d].map u8v := by simp [u8v_sg hd10]
  rw [e1] at h1
  exact run_conv_bytes hs he hd h1

theorem txl_step (b : Nat) (hb : 2 ≤ b) (n : Nat) (h : b ≤ n) : txl b n = txl b (n / b) ++ [sg (n % b)] := by
  have h0 : n ≠ 0 := by omega
  have hq : n / b ≠ 0 := by
    intro hh
    rcases Nat.div_eq_zero_iff.1 hh with h1 | h1 <;> omega
  rw [txl_pos h0, dg_pos hb (by omega), txl_pos hq]; simp

theorem txl_one (b : Nat) (hb : 2 ≤ b) (n : Nat) (h : n < b) : txl b n = [sg n] := by
  by_cases h0 : n = 0
  · subst h0; simp [txl_zero, sg]
  · rw [txl_pos h0, dg_pos hb (by omega), Nat.mod_eq_of_lt h, Nat.div_eq_of_lt h, dg_zero]; simp

set_option maxRecDepth 100000 in
set_option maxHeartbeats 1000000 in
theorem l1Small_c (n : Nat) (hn : n ≤ 9223372036854775807) (w : World) :
    Calls Tryd.prog 57 #[.int .i64 n] w fun e w' => e = .returned (.string (dec n)) ∧ Below w.heap.size w w' := by
  induction n using Nat.strongRecOn generalizing w with
  | _ n ih =>
    by_cases h : n < 10
    · have hfin : B [sg n] = dec n := by rw [dec, txt, txl_one 10 (by omega) n h]
      have Fin := hide hfin
      have hconv := run_conv_one (dst := 9) Tryd.underlying22 Tryd.underlying5 Tryd.underlying9 w _ n h (Below.refl _ _)
      clear ih hfin
      go_enter Tryd.func57, Tryd.ntmps57
      go_wp2
      go_ret
      exact ⟨ret_str (unhide Fin), (Below.refl _ _).alloc (Nat.le_refl _) _⟩
    · have hlt : n / 10 < n := Nat.div_lt_self (by omega) (by omega)
      have hq := ih (n / 10) hlt (by omega)
      have hfin : dec (n / 10) ++ B [sg (n % 10)] = dec n := by
        unfold dec txt; rw [B_append, ← txl_step 10 (by omega) n (by omega)]
      have Fin := hide hfin
      have Hq := hide hq
      have hm : n % 10 < 10 := Nat.mod_lt _ (by omega)
      have hconv := fun (W : World) => run_conv_one (P := Tryd.prog) (src := 22) (dst := 9) Tryd.underlying22 Tryd.underlying5 Tryd.underlying9 W _ (n % 10) hm (Below.refl _ _)
      have hconv2 := fun (W w1 : World) => run_conv_one (P := Tryd.prog) (src := 22) (dst := 9) Tryd.underlying22 Tryd.underlying5 Tryd.underlying9 W w1 (n % 10) hm
      clear ih hfin hq
      obtain ⟨q, hqd⟩ : ∃ q : Nat, n / 10 = q := ⟨_, rfl⟩
      obtain ⟨r, hrd⟩ : ∃ r : Nat, n % 10 = r := ⟨_, rfl⟩
      rw [hrd] at hconv hconv2 hm Fin
      rw [hqd] at Fin Hq hlt
      have e1 : (n : Int) / 10 = (q : Int) := by omega
      have e2 : (n : Int).tmod 10 = (r : Int) := by rw [Int.tmod_eq_emod_of_nonneg (by omega)]; omega
      have e3 := wi64 (q : Int) (by omega) (by omega)
      have e4 := wi64 (48 + (r : Int)) (by omega) (by omega)
      have e5 := wu8 (48 + (r : Int)) (by omega) (by omega)
      have hqs : (dec q).size ≤ 19 := by
        rw [dec_len]; exact txl_len_le (by omega) (by omega) (by omega)
      have hrs : (B [sg r]).size ≤ 1 := by rw [B_size]; simp
      have hns : ¬ 9223372036854775807 < (dec q).size + (B [sg r]).size := by omega
      have hns2 : ¬ (9223372036854775807 < ((dec q).size : Int) + ((B [sg r]).size : Int)) := by omega
      clear hqd hrd
      go_enter Tryd.func57, Tryd.ntmps57
      go_wp2
      have hcv0 := hconv2 w (w.alloc (.cells #[.int .u8 (48 + (r : Int))] 5)).drew ((Below.refl _ _).drew)
      go_region_with (go_at_call 57; refine (unhide Hq _).mono ?_; rintro e w1 ⟨rfl, hb1⟩; try have hcv := hconv2 w w1 (below_of_drew (by simpa using hb1)))
      all_goals
        go_wp2
        go_ret
        refine ⟨ret_str (unhide Fin), ?_⟩
        first
          | exact (below_of_drew hb1).alloc hb1.size _
          | exact ((Below.refl _ _).alloc (Nat.le_refl _) _).trans ((below_of_drew hb1).mono (by simp))
end Go.Proofs.YtchginjabaobfaaDoor
namespace Go.Proofs.YtchginjabaobfaaDoor
open Go.RowKit Nt

theorem ints_length (l : List Nat) : (ints l).length = l.length := by simp [ints]
theorem ints_get (l : List Nat) (j : Nat) (h : j < l.length) : (ints l)[j]? = some (.int .i64 (l[j] : Nat)) := by simp [ints, h]
theorem ints_set (l : List Nat) (j d : Nat) : (ints l).set j (.int .i64 (d : Int)) = ints (l.set j d) := by simp [ints, List.map_set]
theorem ints_zero (n : Nat) : List.replicate n (Value.int .i64 0) = ints (List.replicate n 0) := by simp [ints]

theorem ints_set' (l : List Nat) (j d : Nat) (v : Int) (h : v = (d : Int)) : (ints l).set j (.int .i64 v) = ints (l.set j d) := by rw [h, ints_set]

/-- what is left when the carries are laid: each a digit -/
theorem mul_norm {xs : List Nat} {L j X : Nat} (hl : xs.length = L) (hj : j + 1 = L) (h : ∀ t (ht : t < xs.length), t < j → xs[t] < 10) (hX : ofd 10 xs = X) (hlt : X < 10 ^ L) : ∀ d ∈ xs, d < 10 := by
  intro d hd
  obtain ⟨t, ht, rfl⟩ := List.getElem_of_mem hd
  by_cases htj : t < j
  · exact h t ht htj
  · have htj2 : t = j := by omega
    subst htj2
    have h1 := ofd_ge 10 xs t ht
    rw [hX] at h1
    rw [← hj, Nat.pow_succ] at hlt
    have h2 : 10 ^ t * xs[t] < 10 ^ t * 10 := by omega
    exact Nat.lt_of_mul_lt_mul_left h2

theorem mul_lt_pow {a b i la lb L : Nat} (hla : (dec a).size = la) (hlb : (dec b).size = lb) (hL : la + lb = L) : a % 10 ^ (i + 1) * b < 10 ^ L := by
  have h1 := dec_lt a
  have h2 := dec_lt b
  rw [hla] at h1
  rw [hlb] at h2
  rw [← hL, Nat.pow_add 10 la lb]
  exact Nat.mul_lt_mul'' (Nat.lt_of_le_of_lt (Nat.mod_le _ _) h1) h2

theorem norm_step {xs : List Nat} {j x y q r X : Nat} (hj : j + 1 < xs.length) (hx : xs[j]'(by omega) = x) (hy : xs[j + 1] = y) (hq : x / 10 = q) (hr : x % 10 = r) (hX : ofd 10 xs = X) :
    ofd 10 ((xs.set (j + 1) (y + q)).set j r) = X := by
  have h1 := ofd_set 10 xs (j + 1) (y + q) hj
  have h2 := ofd_set 10 (xs.set (j + 1) (y + q)) j r (by rw [List.length_set]; omega)
  rw [List.getElem_set_ne (by omega), hx] at h2
  rw [hy, hX, ← hq] at h1
  rw [← hr, ← hq] at h2
  have := carry_step h1 h2
  rw [← hq, ← hr]; exact this

/-- the row that is written: of L integers -/
abbrev rowOf (w : World) (L : Nat) : Value := .slice (some ⟨w.heap.size, 0, none⟩) L L

set_option maxRecDepth 100000 in
set_option maxHeartbeats 1000000 in
theorem l1Mul_c (a b : Nat) (w : World) (hsa : (dec a).size ≤ 100000) (hsb : (dec b).size ≤ 100000) :
    Calls Tryd.prog 96 #[.string (dec a), .string (dec b)] w fun e w' => e = .returned (.string (dec (a * b))) ∧ Below w.heap.size w w' := by
  obtain ⟨i0, hi, hz0, hz1, hz2⟩ := info_parts Tryd.infoInt
  obtain ⟨la, hla⟩ : ∃ la, (dec a).size = la := ⟨_, rfl⟩
  obtain ⟨lb, hlb⟩ : ∃ lb, (dec b).size = lb := ⟨_, rfl⟩
  have Hla := hide hla
  have Hlb := hide hlb
  obtain ⟨L, hL⟩ : ∃ L, la + lb = L := ⟨_, rfl⟩
  have hLI : (la : Int) + lb = L := by omega
  have HL := hide hL
  have hlaI : ((dec a).size : Int) = la := by omega
  have hlbI : ((dec b).size : Int) = lb := by omega
  rw [hla] at hsa
  rw [hlb] at hsb
  have hLs : L ≤ 200000 := by omega
  have hlaL : la ≤ L := by omega
  clear hL
  go_enter Tryd.func96, Tryd.ntmps96
  go_wp2_with (refine wpList_make_full _ rfl (.tmp 13) (.tmp 13) 41 rfl w.heap.size 3 i0 (.int .i64 0) 1 Tryd.underlying41 hi hz0 hz1 .i64 .i64 L L L rfl rfl rfl rfl (by rw [hz2]; omega) (by unfold maxLen; omega) (Nat.le_refl _) ?_; intro w1 hown1 hg1)
  go_loopw [6, 7, 8] (fun i k j wr => ∃ (i' : Nat) (xs : List Nat), i' ≤ la ∧ i = .int .i64 i' ∧ xs.length = L ∧ wr.ownsRow w.heap.size 3 1 (rowOf w L) L (ints xs) ∧ Below w.heap.size w wr ∧
      Hid (∀ d ∈ xs, d < 10) ∧ Hid (ofd 10 xs = a % 10 ^ i' * b))
    (fun i _ _ _ => la - (intOf i).toNat)
  case atStart =>
    refine ⟨0, List.replicate L 0, Nat.zero_le _, rfl, by simp, ?_, (Below.refl _ _).grown hg1 (Nat.le_refl _) (fun _ h => by cases h), ?_, ?_⟩
    · simpa [Value.cells, toList_madeCells_one, ints_zero] using hown1
    · intro d hd; simp at hd; omega
    · show _ = _; rw [ofd_replicate_zero]; simp [Nat.mod_one]
  case round =>
    clear hown1 hg1
    obtain ⟨i', xs, hi', rfl, hxl, hown, hb, hdg, hval⟩ := hrel
    by_cases hlt : i' < la
    · have hai : a / 10 ^ i' % 10 < 10 := Nat.mod_lt _ (by omega)
      generalize hga : a / 10 ^ i' % 10 = ai at *
      have Ha := hide hga
      clear hga
      go_wp2
      go_loopw [7] (fun k wr => ∃ (k' : Nat) (xs : List Nat), k' ≤ lb ∧ k = .int .i64 k' ∧ xs.length = L ∧ wr.ownsRow w.heap.size 3 1 (rowOf w L) L (ints xs) ∧ Below w.heap.size w wr ∧
          Hid (∀ d ∈ xs, d ≤ 90) ∧ Hid (∀ j (h : j < xs.length), i' + k' ≤ j → xs[j] < 10) ∧ Hid (ofd 10 xs = a % 10 ^ i' * b + 10 ^ i' * (ai * (b % 10 ^ k'))))
        (fun k _ => lb - (intOf k).toNat)
      case atStart =>
        exact ⟨0, xs, Nat.zero_le _, rfl, hxl, hown, hb, hide (fun d hd => by have := unhide hdg d hd; omega), hide (fun j h _ => unhide hdg _ (List.getElem_mem h)), hide (by rw [unhide hval]; simp [Nat.mod_one])⟩
      case round =>
        clear hown hb hdg hval hxl
        clear xs
        obtain ⟨k', xs, hk', rfl, hxl, hown, hb, hdg, hup, hval⟩ := hrel
        by_cases hlt2 : k' < lb
        · have hbk : b / 10 ^ k' % 10 < 10 := Nat.mod_lt _ (by omega)
          generalize hgb : b / 10 ^ k' % 10 = bk at *
          have Hb := hide hgb
          clear hgb
          have hjL : i' + k' < L := by omega
          have hx10 : xs[i' + k']'(by omega) < 10 := unhide hup _ (by omega) (Nat.le_refl _)
          have hcell := hown.cellAt (i' + k') (by omega)
          rw [ints_get _ _ (by omega)] at hcell
          have hfr := hown.frozenAt (i' + k')
          generalize hx : xs[i' + k']'(by omega) = x at *
          have Hx := hide hx
          have hmul : ai * bk ≤ 9 * 9 := Nat.mul_le_mul (by omega) (by omega)
          generalize hpp : ai * bk = pp at *
          have hppI : (ai : Int) * bk = pp := by rw [← hpp]; simp
          have Hpp := hide hpp
          clear hx hpp
          have hst := hown.stored (i' + k') (.int .i64 ((x : Int) + pp))
          rw [ints_set' _ _ (x + pp) _ (by simp)] at hst
          have Hst := hide hst
          clear hst
          have e1 := wi64 ((i' : Int) + k') (by omega) (by omega)
          have e2 := wi64 (pp : Int) (by omega) (by omega)
          have e3 := wi64 ((x : Int) + pp) (by omega) (by omega)
          have e4 : ((i' : Int) + k').toNat = i' + k' := by omega
          have hix : (i' : Int) + k' < L := by omega
          go_wp2
          go_region_with (first | (go_at_call_of 102 (dec a); refine (l1At_d a i' ai _ (unhide Ha) (by omega) (by omega)).mono ?_; rintro e w1 ⟨rfl, rfl⟩) | (go_at_call_of 102 (dec b); refine (l1At_d b k' bk _ (unhide Hb) (by omega) (by omega)).mono ?_; rintro e w1 ⟨rfl, rfl⟩))
          all_goals
            go_wp2
            go_roundw
            case rel =>
              refine ⟨k' + 1, xs.set (i' + k') (x + pp), by omega, by go_num, by simpa using hxl, (unhide Hst).1, ?_, hide (set_all (unhide hdg) (by omega)), ?_, ?_⟩
              · first
                | exact (hb.setCell (by simp) _).drew
                | exact hb.setCell (by simp) _
              · intro j hj hij
                rw [List.getElem_set_ne (by omega)]
                exact unhide hup j (by simpa using hj) (by omega)
              · have hs := ofd_set 10 xs (i' + k') (x + pp) (by omega)
                rw [unhide Hx, ← unhide Hpp] at hs
                have := mul_step (unhide Ha) (unhide Hb) (unhide hval) hs
                rw [unhide Hpp] at this
                exact this
            case measure => simp [intOf]; omega
        · have hkl : k' = lb := by omega
          subst hkl
          have hlen := Nat.lt_of_le_of_lt (Nat.zero_le _) hlt
          go_wp2
          go_loopw [8] (fun j wr => ∃ (j' : Nat) (xs : List Nat), j' + 1 ≤ L ∧ j = .int .i64 j' ∧ xs.length = L ∧ wr.ownsRow w.heap.size 3 1 (rowOf w L) L (ints xs) ∧ Below w.heap.size w wr ∧
              Hid (∀ d ∈ xs, d ≤ 99) ∧ Hid (∀ t (h : t < xs.length), t < j' → xs[t] < 10) ∧ Hid (∀ t (h : t < xs.length), j' < t → xs[t] ≤ 90) ∧ Hid (ofd 10 xs = a % 10 ^ (i' + 1) * b))
            (fun j _ => L - (intOf j).toNat)
          case atStart =>
            refine ⟨0, xs, by omega, rfl, hxl, hown, hb, hide (fun d hd => by have := unhide hdg d hd; omega), hide (fun j h _ => by omega), hide (fun t ht _ => unhide hdg _ (List.getElem_mem ht)), ?_⟩
            show _ = _
            rw [unhide hval, ← mul_row (unhide Ha)]
            have hbl := dec_lt b
            rw [unhide Hlb] at hbl
            rw [Nat.mod_eq_of_lt hbl]
          case round =>
            clear hown hb hdg hval hxl hup
            clear xs
            obtain ⟨j', xs, hj', rfl, hxl, hown, hb, hdg, hlow, hhi, hval⟩ := hrel
            by_cases hlt3 : j' + 1 < L
            · have hc0 := hown.cellAt j' (by omega)
              rw [ints_get _ _ (by omega)] at hc0
              have hc1 := hown.cellAt (j' + 1) (by omega)
              rw [ints_get _ _ (by omega)] at hc1
              have hf0 := hown.frozenAt j'
              have hf1 := hown.frozenAt (j' + 1)
              have hx99 : xs[j']'(by omega) ≤ 99 := unhide hdg _ (List.getElem_mem _)
              have hy90 : xs[j' + 1]'(by omega) ≤ 90 := unhide hhi _ (by omega) (by omega)
              generalize hx : xs[j']'(by omega) = x at *
              generalize hy : xs[j' + 1]'(by omega) = y at *
              have Hx := hide hx
              have Hy := hide hy
              clear hx hy
              obtain ⟨q, hq⟩ : ∃ q : Nat, (x : Int) / 10 = q := ⟨x / 10, by omega⟩
              obtain ⟨r, hr⟩ : ∃ r : Nat, (x : Int) % 10 = r := ⟨x % 10, by omega⟩
              have hqN : x / 10 = q := by omega
              have hrN : x % 10 = r := by omega
              have HqN := hide hqN
              have HrN := hide hrN
              clear hqN hrN
              have hq9 : q ≤ 9 := by omega
              have hr9 : r ≤ 9 := by omega
              have hq' : (x : Int).tdiv 10 = q := by rw [Int.tdiv_eq_ediv_of_nonneg (by omega)]; exact hq
              have hr' : (x : Int).tmod 10 = r := by rw [Int.tmod_eq_emod_of_nonneg (by omega)]; exact hr
              have hst := hown.stored (j' + 1) (.int .i64 ((y : Int) + q))
              rw [ints_set' _ _ (y + q) _ (by simp)] at hst
              have hst2 := hst.1.stored j' (.int .i64 (r : Int))
              rw [ints_set] at hst2
              have Hst := hide hst2
              have e1 := wi64 ((j' : Int) + 1) (by omega) (by omega)
              have e2 := wi64 ((y : Int) + q) (by omega) (by omega)
              have e3 := wi64 (q : Int) (by omega) (by omega)
              have e4 : ((j' : Int) + 1).toNat = j' + 1 := by omega
              have hix : (j' : Int) + 1 < L := by omega
              clear hst hst2
              go_wp2
              go_region
              all_goals
                go_wp2
                go_roundw
                case rel =>
                  refine ⟨j' + 1, (xs.set (j' + 1) (y + q)).set j' r, by omega, by go_num, by simpa using hxl, (unhide Hst).1, ((hb.setCell (by simp) _).setCell (by simp) _).drew, hide (set_all (set_all (unhide hdg) (by omega)) (by omega)), ?_, ?_, hide (norm_step (by omega) (unhide Hx) (unhide Hy) (unhide HqN) (unhide HrN) (unhide hval))⟩
                  · intro t ht htj
                    by_cases hh : t = j'
                    · subst hh; rw [List.getElem_set_self]; omega
                    · rw [List.getElem_set_ne (by omega), List.getElem_set_ne (by omega)]
                      exact unhide hlow t (by simpa using ht) (by omega)
                  · intro t ht htj
                    rw [List.getElem_set_ne (by omega), List.getElem_set_ne (by omega)]
                    exact unhide hhi t (by simpa using ht) (by omega)
                case measure => simp [intOf]; omega
            · go_wp2
              go_roundw
              case rel =>
                have hjl : j' + 1 = L := by omega
                exact ⟨i' + 1, xs, by omega, by go_num, hxl, hown, hb, hide (mul_norm hxl hjl (unhide hlow) (unhide hval) (mul_lt_pow (unhide Hla) (unhide Hlb) (unhide HL))), hval⟩
              case measure => simp [intOf]; omega
    · have hil : i' = la := by omega
      subst hil
      go_wp2_with fail
      refine (l1Text_c xs _ _ (unhide hdg) (by omega) (by rw [hxl]; exact own_base hown (Nat.zero_le _))).mono ?_
      rintro e w1 ⟨rfl, hb1⟩
      go_wp2
      go_ret
      have hal := dec_lt a
      rw [unhide Hla] at hal
      have hv := unhide hval
      rw [Nat.mod_eq_of_lt hal] at hv
      exact ⟨ret_str (by rw [hv]), hb.trans (hb1.mono hb.size)⟩
end Go.Proofs.YtchginjabaobfaaDoor
namespace Go.Proofs.YtchginjabaobfaaDoor
open Go.RowKit Nt

theorem l1Trim_t (l : List UInt8) (n : Nat) (w : World) (hs : l.length ≤ 1000000000) (h : trim l = txl 10 n) :
    Calls Tryd.prog 89 #[.string (B l)] w fun e w' => e = .returned (.string (dec n)) ∧ w' = w := by
  have := l1Trim_c l w hs
  rw [h] at this
  exact this

theorem trim_push (R c : Nat) (hc : c < 10) : trim (txl 10 R ++ [sg c]) = txl 10 (10 * R + c) := by
  by_cases h : R = 0
  · subst h
    rw [txl_zero, Nat.mul_zero, Nat.zero_add, txl_one 10 (by omega) c hc]
    simp [trim]
  · have := txl_step 10 (by omega) (10 * R + c) (by omega)
    rw [show (10 * R + c) / 10 = R from by omega, show (10 * R + c) % 10 = c from by omega] at this
    rw [← this, trim_txl]

/-- the digits that are read so far -/
def pref (a i : Nat) : Nat := a / 10 ^ ((dec a).size - i)

theorem pref_zero (a : Nat) : pref a 0 = 0 := Nat.div_eq_of_lt (dec_lt a)
theorem pref_all (a : Nat) : pref a (dec a).size = a := by simp [pref]
theorem pref_succ (a i : Nat) (h : i < (dec a).size) : pref a (i + 1) = 10 * pref a i + a / 10 ^ ((dec a).size - 1 - i) % 10 := by
  unfold pref
  rw [show (dec a).size - i = ((dec a).size - 1 - i) + 1 from by omega, show (dec a).size - (i + 1) = (dec a).size - 1 - i from by omega, Nat.pow_succ, ← Nat.div_div_eq_div_mul]
  omega

theorem dec_cut (a i : Nat) (h : i < (dec a).size) : (dec a).extract i (i + 1) = B [sg (a / 10 ^ ((dec a).size - 1 - i) % 10)] := by
  have h1 : i < (txl 10 a).length := by rw [← dec_len]; exact h
  have e := dec_at a ((txl 10 a).length - 1 - i) (by omega)
  rw [List.getElem_reverse] at e
  have e2 : (txl 10 a).length - 1 - ((txl 10 a).length - 1 - i) = i := by omega
  simp only [e2] at e
  rw [dec_len, ← e]
  unfold dec txt
  rw [B_extract, List.take_succ_eq_append_getElem h1, List.drop_append_of_le_length (by simp; omega)]
  simp

theorem div_push {A b q R c m : Nat} (hq : A / b = q) (hR : A % b = R) (hm : (10 * R + c) / b = m) (hb : 0 < b) : (10 * A + c) / b = m + 10 * q ∧ (10 * A + c) % b = (10 * R + c) % b := by
  have hA := Nat.div_add_mod A b
  rw [hq, hR] at hA
  have e : 10 * A + c = 10 * R + c + b * (10 * q) := by
    rw [← hA, Nat.mul_add, Nat.mul_left_comm]; omega
  rw [e, Nat.add_mul_div_left _ _ hb, Nat.add_mul_mod_self_left, hm]
  exact ⟨rfl, rfl⟩

theorem div_stop {ρ m b X : Nat} (h : ρ + m * b = X) (hlt : ρ < b) : X / b = m ∧ X % b = ρ := by
  have hb : 0 < b := by omega
  rw [← h, Nat.mul_comm m b, Nat.add_mul_div_left _ _ hb, Nat.add_mul_mod_self_left, Nat.div_eq_of_lt hlt, Nat.mod_eq_of_lt hlt]
  exact ⟨by omega, rfl⟩

theorem mul_lt_ten {m b X ρ : Nat} (h : ρ + m * b = X) (hX : X < 10 * b) (hge : b ≤ ρ) : m + 1 ≤ 9 := by
  have h1 : (m + 1) * b < 10 * b := by rw [Nat.add_mul]; omega
  have := Nat.lt_of_mul_lt_mul_right h1
  omega

theorem dec_size_le {m n : Nat} (h : m ≤ n) : (dec m).size ≤ (dec n).size := by
  have := txl_len_le (b := 10) (by omega) (dec_size_pos n) (Nat.lt_of_le_of_lt h (dec_lt n))
  rw [dec_len m]; exact this

theorem dec_size_ten {ρ b : Nat} (h : ρ < 10 * b) : (dec ρ).size ≤ (dec b).size + 1 := by
  rw [dec_len ρ]
  apply txl_len_le (by omega) (by omega)
  have := dec_lt b
  rw [Nat.pow_succ]; omega

theorem cmp_ge {a b : Nat} (h : b ≤ a) : 0 ≤ cmpN a b := by unfold cmpN; rw [if_neg (by omega)]; split <;> omega
theorem cmp_lt {a b : Nat} (h : a < b) : cmpN a b < 0 := by unfold cmpN; rw [if_pos h]; omega

set_option maxRecDepth 100000 in
set_option maxHeartbeats 1000000 in
theorem l1Div_c (a b : Nat) (w : World) (hb0 : 0 < b) (hsa : (dec a).size ≤ 50000) (hsb : (dec b).size ≤ 50000) :
    Calls Tryd.prog 97 #[.string (dec a), .string (dec b)] w fun e w' => e = .returned (.tuple #[.string (dec (a / b)), .string (dec (a % b))]) ∧ Below w.heap.size w w' := by
  obtain ⟨i0, hi, hz0, hz1, hz2⟩ := info_parts Tryd.infoByte
  go_enter Tryd.func97, Tryd.ntmps97
  go_wp2
  go_loopw [6, 7, 8, 9] (fun q r i _ wr => ∃ (i' R : Nat) (Q : List Nat), i' ≤ (dec a).size ∧ i = .int .i64 i' ∧ r = .string (dec R) ∧ R < b ∧ Q.length = i' ∧ wr.ownsRow w.heap.size 5 1 q i' ((Q.map sg).map u8v) ∧ Below w.heap.size w wr ∧
      Hid (∀ d ∈ Q, d < 10) ∧ Hid (pref a i' / b = ofd 10 Q.reverse) ∧ Hid (pref a i' % b = R))
    (fun _ _ i _ _ => (dec a).size - (intOf i).toNat)
  case atStart =>
    refine ⟨0, 0, [], Nat.zero_le _, rfl, rfl, hb0, rfl, World.ownsRow_made w #[] 0 (Nat.le_refl _) (by decide) (by simp), (Below.refl _ _).alloc (Nat.le_refl _) _, hide (by simp), ?_, ?_⟩
    · show _ = _; rw [pref_zero]; simp [ofd]
    · show _ = _; rw [pref_zero]; simp
  case round =>
    obtain ⟨i', R, Q, hi', rfl, rfl, hR, hQl, hown, hb, hdg, hqv, hrv⟩ := hrel
    by_cases hlt : i' < (dec a).size
    · have hc : a / 10 ^ ((dec a).size - 1 - i') % 10 < 10 := Nat.mod_lt _ (by omega)
      have hcut := dec_cut a i' hlt
      have hps := pref_succ a i' hlt
      generalize a / 10 ^ ((dec a).size - 1 - i') % 10 = c at *
      have Hps := hide hps
      clear hps
      have hRs : (dec R).size ≤ (dec b).size := dec_size_le (by omega)
      have hcs : (B [sg c]).size ≤ 1 := by rw [B_size]; simp
      have hcat : dec R ++ B [sg c] = B (txl 10 R ++ [sg c]) := by unfold dec txt; rw [B_append]
      have hlen : (txl 10 R ++ [sg c]).length ≤ 1000000000 := by rw [List.length_append, ← dec_len]; simp; omega
      have hns : ¬ 9223372036854775807 < (dec R).size + (B [sg c]).size := by omega
      have Htp := hide (trim_push R c hc)
      go_wp2_with fail
      refine (l1Trim_t _ (10 * R + c) _ hlen (unhide Htp)).mono ?_
      rintro e w1 ⟨rfl, rfl⟩
      go_wp2_with fail
      have hX : 10 * R + c < 10 * b := by omega
      generalize hXd : 10 * R + c = X at *
      have HXd := hide hXd
      clear hXd hcut hcat hns Htp hlen
      go_loopw [7, 9] (fun r n wr => ∃ (ρ m : Nat), r = .string (dec ρ) ∧ n = .int .u8 (48 + (m : Int)) ∧ m ≤ 9 ∧ ρ < 10 * b ∧ wr.ownsRow w.heap.size 5 1 u6 i' ((Q.map sg).map u8v) ∧ Below w.heap.size w wr ∧ Hid (ρ + m * b = X))
        (fun _ n _ => 60 - (intOf n).toNat)
      case atStart => exact ⟨X, 0, rfl, rfl, by omega, hX, hown, hb, hide (by simp)⟩
      case round =>
        clear hown hb
        obtain ⟨ρ, m, rfl, rfl, hm9, hρ, hown, hb, hinv⟩ := hrel
        have hρs := dec_size_ten hρ
        by_cases hge : b ≤ ρ
        · have hcg := cmp_ge hge
          have hm1 := mul_lt_ten (unhide hinv) hX hge
          go_wp2_with fail
          refine (l1Cmp_c ρ b _ (by omega) (by omega)).mono ?_
          rintro e w1 ⟨rfl, rfl⟩
          go_wp2_with fail
          refine (l1Sub_c ρ b _ hge (by omega)).mono ?_
          rintro e w2 ⟨rfl, hb2⟩
          go_wp2_with fail
          go_roundw
          case rel =>
            exact ⟨ρ - b, m + 1, rfl, by go_num, by omega, by omega, own_below hown hb2, hb.trans (hb2.mono hb.size), hide (by have := unhide hinv; rw [Nat.add_mul]; omega)⟩
          case measure => simp [intOf]; omega
        · have hρb : ρ < b := by omega
          have hcl := cmp_lt hρb
          go_wp2_with fail
          refine (l1Cmp_c ρ b _ (by omega) (by omega)).mono ?_
          rintro e w1 ⟨rfl, rfl⟩
          have hw := hb.size
          go_wp2_with (at_builtin; refine wpList_append_own _ rfl (.tmp 34) (.tmp 36) 22 rfl w.heap.size 5 i0 (.int .u8 0) 1 1 Tryd.underlying22 hi hz0 hz1 hz2 rfl (by decide) _ _ _ rfl (hown.alloc _) ⟨w1.heap.size, 0, none⟩ 1 1 [.int .u8 (48 + (m : Int))] rfl rfl (cell_one_new _ _ _) (by intro u hu; simp at hu; subst hu; rfl) (by unfold maxLen; omega) (by omega) (by simp; omega) ?_; intro v2 w2 hown2 hg2 _)
          have hbX := below_grown (hb.alloc hw _) (hown.alloc _) hg2 (by simp <;> omega)
          have hds := div_stop (unhide hinv) hρb
          have hpush := div_push (c := c) (m := m) (unhide hqv) (unhide hrv) (by rw [unhide HXd]; exact hds.1) hb0
          go_roundw
          case rel =>
            refine ⟨i' + 1, ρ, Q ++ [m], by omega, by go_num, rfl, hρb, by simp [hQl], ?_, hbX, dig_snoc hdg (by omega), ?_, ?_⟩
            · rw [List.map_append, List.map_append]
              simp only [List.map_cons, List.map_nil, u8v_sg (show m < 10 by omega)]
              exact hown2
            · show _ = _
              rw [unhide Hps, hpush.1, List.reverse_append]; simp [ofd]
            · show _ = _
              rw [unhide Hps, hpush.2, unhide HXd]; exact hds.2
          case measure => simp [intOf]; omega
    · have hil : i' = (dec a).size := by omega
      subst hil
      have hQ0 : Q ≠ [] := fun h => by have := dec_size_pos a; rw [h] at hQl; simp at hQl; omega
      have hconv := run_conv_bytes (dst := 9) Tryd.underlying22 Tryd.underlying5 Tryd.underlying9 hown
      have htr : trim (Q.map sg) = txl 10 (a / b) := by
        have h1 := trim_rev Q.reverse (fun d hd => unhide hdg d (by simpa using hd)) (by simpa using hQ0)
        rw [List.map_reverse, List.reverse_reverse] at h1
        rw [h1, ← unhide hqv, pref_all]
      have Htr := hide htr
      have hrv2 := unhide hrv
      rw [pref_all] at hrv2
      have Hrv2 := hide hrv2
      clear hrv2 htr
      go_wp2_with fail
      refine (l1Trim_t _ (a / b) _ (by simp; omega) (unhide Htr)).mono ?_
      rintro e w1 ⟨rfl, rfl⟩
      go_wp2
      go_ret2
      exact ⟨by rw [unhide Hrv2]; rfl, hb⟩

theorem valDec_txl (n : Nat) : valDec (txl 10 n) = n := by
  have := isDec_val (isDec_txl n)
  exact (txl_inj (by omega) (by omega) this).symm

set_option maxRecDepth 100000 in
set_option maxHeartbeats 400000 in
theorem l1Gcd_c (a b : Nat) (w : World) (hsa : (dec a).size ≤ 50000) (hsb : (dec b).size ≤ 50000) :
    Calls Tryd.prog 65 #[.string (dec a), .string (dec b)] w fun e w' => e = .returned (.string (dec (Nat.gcd a b))) ∧ Below w.heap.size w w' := by
  go_enter Tryd.func65, Tryd.ntmps65
  go_wp2
  go_loopw [0, 1] (fun x y wr => ∃ (a' b' : Nat), x = .string (dec a') ∧ y = .string (dec b') ∧ (dec a').size ≤ 50000 ∧ (dec b').size ≤ 50000 ∧ Below w.heap.size w wr ∧ Hid (Nat.gcd a' b' = Nat.gcd a b))
    (fun _ y _ => valDec (match y with | .string s => s.data.toList | _ => []))
  case atStart => exact ⟨a, b, rfl, rfl, hsa, hsb, Below.refl _ _, hide rfl⟩
  case round =>
    obtain ⟨a', b', rfl, rfl, ha', hb', hb, hg⟩ := hrel
    by_cases hz : b' = 0
    · subst hz
      have h0 : ((dec 0).toList == [48]) = true := by unfold dec txt; rw [B_tl, txl_zero]; rfl
      go_wp2
      go_ret
      have := unhide hg
      rw [Nat.gcd_zero_right] at this
      exact ⟨ret_str (by rw [this]), hb⟩
    · have h0 : ((dec b').toList == [48]) = false := by
        have := dec_beq b' 0
        rw [decide_eq_false hz] at this
        rw [show (dec 0).toList = [48] from by unfold dec txt; rw [B_tl, txl_zero]] at this
        exact this
      go_wp2_with fail
      refine (l1Div_c a' b' _ (by omega) ha' hb').mono ?_
      rintro e w1 ⟨rfl, hb1⟩
      go_wp2_with fail
      go_roundw
      case rel =>
        refine ⟨b', a' % b', rfl, rfl, hb', ?_, hb.trans (hb1.mono hb.size), hide ?_⟩
        · have := dec_size_le (Nat.le_of_lt (Nat.mod_lt a' (show 0 < b' by omega))); omega
        · rw [Nat.gcd_comm b', ← Nat.gcd_rec b' a', Nat.gcd_comm, unhide hg]
      case measure =>
        show valDec (txl 10 (a' % b')) < valDec (txl 10 b')
        rw [valDec_txl, valDec_txl]
        exact Nat.mod_lt _ (by omega)
end Go.Proofs.YtchginjabaobfaaDoor
namespace Go.Proofs.YtchginjabaobfaaDoor
open Go.RowKit Nt

/-- the number that digits in a radix are; whether they are such -/
def rdN (b : Nat) (l : List UInt8) : Nat := l.foldl (fun n c => n * b + digN c) 0
def okN (b : Nat) (l : List UInt8) : Bool := !l.isEmpty && l.all (fun c => digN c < b)

theorem rdN_snoc (b : Nat) (l : List UInt8) (c : UInt8) : rdN b (l ++ [c]) = rdN b l * b + digN c := by simp [rdN]
theorem rdN_lt (b : Nat) (l : List UInt8) (h : ∀ c ∈ l, digN c < b) : rdN b l < b ^ l.length := by
  have key : ∀ (n : Nat) (l : List UInt8), l.length = n → (∀ c ∈ l, digN c < b) → rdN b l < b ^ n := by
    intro n
    induction n with
    | zero => intro l hl _; have : l = [] := List.eq_nil_of_length_eq_zero hl
              subst this; simp [rdN]
    | succ n ih =>
      intro l hl hc
      have hne : l ≠ [] := fun hh => by rw [hh] at hl; simp at hl
      have e := List.dropLast_concat_getLast hne
      rw [← e, rdN_snoc]
      have h1 := ih l.dropLast (by simp [hl]) (fun c hc' => hc c (List.dropLast_subset l hc'))
      have h2 := hc (l.getLast hne) (List.getLast_mem hne)
      rw [Nat.pow_succ]
      have h3 : (rdN b l.dropLast + 1) * b ≤ b ^ n * b := Nat.mul_le_mul_right b h1
      rw [Nat.add_mul] at h3
      omega
  exact key l.length l rfl h

theorem dec_size_pow {n b k : Nat} (hb : b ≤ 16) (h : n < b ^ k) : (dec n).size ≤ 2 * k + 1 := by
  rw [dec_len]
  apply txl_len_le (by omega) (by omega)
  have h1 : b ^ k ≤ 100 ^ k := Nat.pow_le_pow_left (by omega) k
  have h2 : (100 : Nat) ^ k = 10 ^ (2 * k) := by rw [Nat.pow_mul]
  have h3 : (10 : Nat) ^ (2 * k) ≤ 10 ^ (2 * k + 1) := Nat.pow_le_pow_right (by omega) (by omega)
  omega

theorem dec_small {n : Nat} (h : n < 1000) : (dec n).size ≤ 3 := by rw [dec_len]; exact txl_len_le (by omega) (by omega) (by omega)

theorem take_snoc' (l : List UInt8) (k : Nat) (h : k < l.length) : l.take (k + 1) = l.take k ++ [l[k]] := List.take_succ_eq_append_getElem h

theorem okN_bad {b : Nat} {l : List UInt8} (k : Nat) (h : k < l.length) (hb : b ≤ digN l[k]) : okN b l = false := by
  cases hh : okN b l with
  | false => rfl
  | true =>
    unfold okN at hh
    simp only [Bool.and_eq_true] at hh
    have := List.all_eq_true.1 hh.2 l[k] (List.getElem_mem h)
    simp at this; omega

theorem okN_good {b : Nat} {l : List UInt8} (h0 : 0 < l.length) (h : ∀ c ∈ l, digN c < b) : okN b l = true := by
  unfold okN
  simp only [Bool.and_eq_true]
  refine ⟨?_, List.all_eq_true.2 (fun c hc => by simpa using h c hc)⟩
  cases l with
  | nil => simp at h0
  | cons _ _ => rfl

def natV (b : Nat) (l : List UInt8) : Nat := if okN b l then rdN b l else 0
def natAns (b : Nat) (l : List UInt8) : Value := .tuple #[.string (dec (natV b l)), .bool (okN b l)]

set_option maxRecDepth 100000 in
set_option maxHeartbeats 1000000 in
theorem l2Nat_c (l : List UInt8) (b : Nat) (w : World) (hb2 : 2 ≤ b) (hb16 : b ≤ 16) (hs : l.length ≤ 10000) :
    Calls Tryd.prog 46 #[.string (B l), .int .i64 b] w fun e w' => e = .returned (natAns b l) ∧ Below w.heap.size w w' := by
  have hsz : (B l).size ≤ 10000 := by rw [B_size]; exact hs
  have hd0 : dec 0 = ⟨#[48]⟩ := by unfold dec txt; rw [txl_zero]; rfl
  have Hd0 := hide hd0
  clear hd0
  by_cases hz : l.length = 0
  · have : l = [] := List.eq_nil_of_length_eq_zero hz
    subst this
    clear hs hsz hz
    have h0 : ((B []).toList == []) = true := by rw [B_tl]; rfl
    have h1 : (B []).toList.isEmpty = true := by rw [B_tl]; rfl
    go_enter Tryd.func46, Tryd.ntmps46
    go_wp2
    go_ret2
    refine ⟨?_, Below.refl _ _⟩
    unfold natAns natV
    simp [okN, unhide Hd0]
  · have hne : l ≠ [] := fun hh => by rw [hh] at hz; simp at hz
    have h1 : (B l).toList.isEmpty = false := by rw [B_tl]; simpa using hne
    go_enter Tryd.func46, Tryd.ntmps46
    go_wp2
    go_loopw [6, 7] (fun n i wr => ∃ k : Nat, k ≤ l.length ∧ i = .int .i64 k ∧ n = .string (dec (rdN b (l.take k))) ∧ Below w.heap.size w wr ∧ Hid (∀ c ∈ l.take k, digN c < b))
      (fun _ i _ => l.length - (intOf i).toNat)
    case atStart =>
      exact ⟨0, Nat.zero_le _, rfl, by rw [List.take_zero]; simp [rdN, unhide Hd0], Below.refl _ _, hide (by simp)⟩
    case round =>
      obtain ⟨k, hk, rfl, rfl, hb, hdg⟩ := hrel
      by_cases hlt : k < l.length
      · have hlt2 : k < (B l).size := by rw [B_size]; exact hlt
        have hgk : ((B l)[k]'hlt2).toNat = (l[k]'hlt).toNat := by rw [B_get]
        have hbad := @okN_bad b l k hlt
        have hsn := take_snoc' l k hlt
        have hlk := rdN_lt b (l.take k) (unhide hdg)
        rw [List.length_take, Nat.min_eq_left hk] at hlk
        have hsk := dec_size_pow hb16 hlk
        generalize hn : rdN b (l.take k) = n at *
        have Hn := hide hn
        generalize hcc : l[k]'hlt = c at *
        have Hbad := hide hbad
        have Hsn := hide hsn
        clear hbad hsn hlk hn hcc
        go_wp2_with fail
        refine (l2Digit_c c _).mono ?_
        rintro e w1 ⟨rfl, rfl⟩
        have hdc : digN c < 100 := by unfold digN; split <;> (try split) <;> omega
        by_cases hge : b ≤ digN c
        · go_wp2
          go_ret2
          refine ⟨?_, hb⟩
          unfold natAns natV
          rw [unhide Hbad hge]
          simp [unhide Hd0]
        · go_wp2_with fail
          refine (l1Small_c b (by omega) _).mono ?_
          rintro e w2 ⟨rfl, hb2'⟩
          go_wp2_with fail
          have hbs := dec_small (n := b) (by omega)
          have hds := dec_small (n := digN c) (by omega)
          refine (l1Mul_c n b _ (by omega) (by omega)).mono ?_
          rintro e w3 ⟨rfl, hb3⟩
          go_wp2_with fail
          refine (l1Small_c (digN c) (by omega) _).mono ?_
          rintro e w4 ⟨rfl, hb4⟩
          have hsm : (dec (n * b)).size ≤ 100000 := by
            have h1 : n * b < 10 ^ ((dec n).size + (dec b).size) := by
              rw [Nat.pow_add]; exact Nat.mul_lt_mul'' (dec_lt n) (dec_lt b)
            have := dec_size_pos n
            have := txl_len_le (b := 10) (by omega) (by omega) h1
            rw [dec_len]; omega
          go_wp2_with fail
          refine (l1Add_c (n * b) (digN c) _ hsm (by omega)).mono ?_
          rintro e w5 ⟨rfl, hb5⟩
          go_wp2_with fail
          have hbX := (((hb.trans (hb2'.mono hb.size)).trans (hb3.mono (by have := hb.size; have := hb2'.size; omega))).trans (hb4.mono (by have := hb.size; have := hb2'.size; have := hb3.size; omega))).trans (hb5.mono (by have := hb.size; have := hb2'.size; have := hb3.size; have := hb4.size; omega))
          go_roundw
          case rel =>
            refine ⟨k + 1, by omega, by go_num, ?_, hbX, ?_⟩
            · rw [unhide Hsn, rdN_snoc, unhide Hn]
            · show ∀ x ∈ _, _
              rw [unhide Hsn]
              intro x hx
              rcases List.mem_append.1 hx with h | h
              · exact unhide hdg x h
              · simp at h; subst h; omega
          case measure => simp [intOf]; omega
      · have hkl : k = l.length := by omega
        subst hkl
        have hlt2 : ¬ l.length < (B l).size := by rw [B_size]; omega
        have htk : l.take l.length = l := List.take_length
        have hok := okN_good (show 0 < l.length by omega) (by have := unhide hdg; rwa [htk] at this)
        have Hok := hide hok
        have Htk := hide htk
        clear hok htk
        go_wp2
        go_ret2
        refine ⟨?_, hb⟩
        unfold natAns natV
        rw [unhide Hok]
        simp [List.take_length]
end Go.Proofs.YtchginjabaobfaaDoor
namespace Go.Proofs.YtchginjabaobfaaDoor
open Go.RowKit Nt

def isRadix (r : Int) : Bool := r == 2 || r == 8 || r == 10 || r == 16

set_option maxRecDepth 100000 in
set_option maxHeartbeats 1000000 in
theorem l2Radix_c (r : Int) (w : World) :
    Calls Tryd.prog 42 #[.int .i64 r] w fun e w' => e = .returned (.bool (isRadix r)) ∧ w' = w := by
  unfold isRadix
  by_cases h2 : (r == 2) = true
  · go_enter Tryd.func42, Tryd.ntmps42
    go_wp2
    go_ret
    exact ⟨ret_bool (by simp [h2]), rfl⟩
  · have h2' : (r == 2) = false := by simpa using h2
    clear h2
    by_cases h8 : (r == 8) = true
    · go_enter Tryd.func42, Tryd.ntmps42
      go_wp2
      go_ret
      exact ⟨ret_bool (by simp [h8, h2']), rfl⟩
    · have h8' : (r == 8) = false := by simpa using h8
      clear h8
      by_cases h10 : (r == 10) = true
      · go_enter Tryd.func42, Tryd.ntmps42
        go_wp2
        go_ret
        exact ⟨ret_bool (by simp [h8', h2', h10]), rfl⟩
      · have h10' : (r == 10) = false := by simpa using h10
        clear h10
        by_cases h16 : (r == 16) = true
        · go_enter Tryd.func42, Tryd.ntmps42
          go_wp2
          go_ret
          exact ⟨ret_bool (by simp [h8', h2', h10', h16]), rfl⟩
        · have h16' : (r == 16) = false := by simpa using h16
          clear h16
          go_enter Tryd.func42, Tryd.ntmps42
          go_wp2
          go_ret
          exact ⟨ret_bool (by simp [h8', h2', h10', h16']), rfl⟩

/-- the first place of a byte, -1 if it is not there -/
def findB (c : UInt8) : List UInt8 → Option Nat
  | [] => none
  | d :: r => if d = c then some 0 else (findB c r).map (· + 1)
def findI (c : UInt8) (l : List UInt8) : Int := match findB c l with | some k => (k : Int) | none => -1

theorem findB_some {c : UInt8} : ∀ {l : List UInt8} {k : Nat}, (h : k < l.length) → l[k] = c → (∀ j (hj : j < l.length), j < k → l[j] ≠ c) → findB c l = some k := by
  intro l
  induction l with
  | nil => intro k h; simp at h
  | cons d r ih =>
    intro k h hk hlt
    cases k with
    | zero => simp only [List.getElem_cons_zero] at hk; simp [findB, hk]
    | succ k =>
      have hd : d ≠ c := hlt 0 (by simp) (by omega)
      have := ih (k := k) (by simpa using h) (by simpa using hk) (fun j hj hjk => by have := hlt (j + 1) (by simpa using hj) (by omega); simpa using this)
      simp [findB, hd, this]

theorem findB_none {c : UInt8} : ∀ {l : List UInt8}, (∀ j (hj : j < l.length), l[j] ≠ c) → findB c l = none := by
  intro l
  induction l with
  | nil => intro _; rfl
  | cons d r ih =>
    intro h
    have hd : d ≠ c := h 0 (by simp)
    have := ih (fun j hj => by have := h (j + 1) (by simpa using hj); simpa using this)
    simp [findB, hd, this]

set_option maxRecDepth 100000 in
set_option maxHeartbeats 1000000 in
theorem l2Find_c (l : List UInt8) (c : UInt8) (w : World) (hs : l.length ≤ 1000000000) :
    Calls Tryd.prog 43 #[.string (B l), .int .u8 c.toNat] w fun e w' => e = .returned (.int .i64 (findI c l)) ∧ w' = w := by
  have hsz : (B l).size ≤ 1000000000 := by rw [B_size]; exact hs
  go_enter Tryd.func43, Tryd.ntmps43
  go_wp2
  go_loop [5] (fun i => ∃ k : Nat, k ≤ l.length ∧ i = .int .i64 k ∧ Hid (∀ j (hj : j < l.length), j < k → l[j] ≠ c)) (fun i => l.length - (intOf i).toNat)
  case atStart => exact ⟨0, Nat.zero_le _, rfl, hide (fun j _ h => by omega)⟩
  case round =>
    obtain ⟨k, hk, rfl, hv⟩ := hrel
    by_cases hlt : k < l.length
    · have hlt2 : k < (B l).size := by rw [B_size]; exact hlt
      have hgk : ((B l)[k]'hlt2).toNat = (l[k]'hlt).toNat := by rw [B_get]
      by_cases heq : l[k]'hlt = c
      · have hf : findI c l = (k : Int) := by unfold findI; rw [findB_some hlt heq (unhide hv)]
        have Hf := hide hf
        have ht : (((l[k]'hlt).toNat : Int) == (c.toNat : Int)) = true := by rw [heq]; simp
        clear hf heq
        go_wp2
        go_ret
        exact ⟨ret_int (unhide Hf).symm, rfl⟩
      · have ht : (((l[k]'hlt).toNat : Int) == (c.toNat : Int)) = false := by
          rw [beq_eq_false_iff_ne]; intro hh; exact heq (UInt8.toNat_inj.1 (by omega))
        have hv2 : Hid (∀ j (hj : j < l.length), j < k + 1 → l[j] ≠ c) := by
          intro j hj hjk
          by_cases hjk2 : j < k
          · exact unhide hv j hj hjk2
          · have : j = k := by omega
            subst this; exact heq
        clear heq
        go_wp2
        go_round
        case rel => exact ⟨k + 1, by omega, by go_num, hv2⟩
        case measure => simp [intOf]; omega
    · have hlt2 : ¬ k < (B l).size := by rw [B_size]; exact hlt
      have hf : findI c l = -1 := by unfold findI; rw [findB_none (fun j hj => unhide hv j hj (by omega))]
      have Hf := hide hf
      clear hf
      go_wp2
      go_ret
      exact ⟨ret_int (unhide Hf).symm, rfl⟩

/-- a number as a value; what is told of one -/
def numV (neg : Bool) (u d : ByteArray) : Value := .agg #[.bool neg, .string u, .string d]
def noNum : Value := numV false ⟨#[]⟩ ⟨#[]⟩
def lowest (neg : Bool) (u d : Nat) : Option (Bool × Nat × Nat) :=
  if d = 0 ∨ 60 < (dec (u / Nat.gcd u d)).size ∨ 60 < (dec (d / Nat.gcd u d)).size then none else some (neg && u / Nat.gcd u d != 0, u / Nat.gcd u d, d / Nat.gcd u d)
def numO : Option (Bool × Nat × Nat) → Value
  | none => noNum
  | some (n, u, d) => numV n (dec u) (dec d)
def numAns (o : Option (Bool × Nat × Nat)) : Value := .tuple #[numO o, .bool o.isSome]

theorem dec_zero : dec 0 = ⟨#[48]⟩ := by unfold dec txt; rw [txl_zero]; rfl
theorem dec_is0 (n : Nat) : ((dec n).toList == [48]) = decide (n = 0) := by
  have := dec_beq n 0
  rwa [show (dec 0).toList = [48] from by unfold dec txt; rw [B_tl, txl_zero]] at this

set_option maxRecDepth 100000 in
set_option maxHeartbeats 1000000 in
theorem l2Make_c (neg : Bool) (u d : Nat) (w : World) (hsu : (dec u).size ≤ 50000) (hsd : (dec d).size ≤ 50000) :
    Calls Tryd.prog 47 #[.bool neg, .string (dec u), .string (dec d)] w fun e w' => e = .returned (numAns (lowest neg u d)) ∧ Below w.heap.size w w' := by
  have hd0 := dec_is0 d
  by_cases hz : d = 0
  · rw [decide_eq_true hz] at hd0
    have hl : lowest neg u d = none := by simp [lowest, hz]
    rw [hl]
    clear hl hz
    go_enter Tryd.func47, Tryd.ntmps47
    go_wp2
    refine bodyPost_ret (v := numAns none) (by simp [results, Tryd.results47, go_sem, numAns, numO, noNum, numV]) rfl ⟨rfl, (Below.refl _ _).alloc (Nat.le_refl _) _⟩
  · rw [decide_eq_false hz] at hd0
    have hg : 0 < Nat.gcd u d := Nat.gcd_pos_of_pos_right _ (by omega)
    have hg1 : (dec (Nat.gcd u d)).size ≤ 50000 := by have := dec_size_le (Nat.gcd_le_right u (show 0 < d by omega)); omega
    go_enter Tryd.func47, Tryd.ntmps47
    go_wp2_with fail
    refine (l1Gcd_c u d _ hsu hsd).mono ?_
    rintro e w1 ⟨rfl, hb1⟩
    go_wp2_with fail
    refine (l1Div_c u _ _ hg hsu hg1).mono ?_
    rintro e w2 ⟨rfl, hb2⟩
    go_wp2_with fail
    refine (l1Div_c d _ _ hg hsd hg1).mono ?_
    rintro e w3 ⟨rfl, hb3⟩
    have hb0 := below_alloc_size hb1
    have h2 := below_next hb0 (by have := hb1.size; simpa using this) hb2
    have h3 := below_next h2.1 h2.2 hb3
    have c0 := newcell h3.1 0
    have c1 := newcell h3.1 1
    have c2 := newcell h3.1 2
    have f0 := newfree h3.1 0
    have f1 := newfree h3.1 1
    have f2 := newfree h3.1 2
    have hbX := below_new h3.1
    simp at c0 c1 c2
    have hqz := dec_is0 (u / Nat.gcd u d)
    generalize hqu : u / Nat.gcd u d = qu at *
    generalize hqd : d / Nat.gcd u d = qd at *
    have Hlow : Hid (lowest neg u d = if 60 < (dec qu).size ∨ 60 < (dec qd).size then none else some (neg && qu != 0, qu, qd)) := by
      show _ = _
      unfold lowest; rw [hqu, hqd]
      by_cases h : 60 < (dec qu).size ∨ 60 < (dec qd).size
      · rw [if_pos (by rcases h with h | h <;> simp [h]), if_pos h]
      · rw [if_neg (by rintro (h1 | h1); exact hz h1; exact h h1), if_neg h]
    clear hb1 hb2 hb3 h2 h3 hb0 hqu hqd
    by_cases h1 : 60 < (dec qu).size
    · rw [if_pos (.inl h1)] at Hlow
      go_wp2
      refine bodyPost_ret (v := numAns none) (by simp [results, Tryd.results47, go_sem, numAns, numO, noNum, numV, c0, c1, c2]) rfl ⟨by rw [unhide Hlow], ?_⟩
      exact ((hbX.setCell (by simp) _).setCell (by simp) _).setCell (by simp) _
    · by_cases h2 : 60 < (dec qd).size
      · rw [if_pos (.inr h2)] at Hlow
        go_wp2
        refine bodyPost_ret (v := numAns none) (by simp [results, Tryd.results47, go_sem, numAns, numO, noNum, numV, c0, c1, c2]) rfl ⟨by rw [unhide Hlow], ?_⟩
        exact ((hbX.setCell (by simp) _).setCell (by simp) _).setCell (by simp) _
      · rw [if_neg (by rintro (h | h); exact h1 h; exact h2 h)] at Hlow
        by_cases hq0 : qu = 0
        · rw [decide_eq_true hq0] at hqz
          have Hq0 := hide hq0
          clear hq0
          cases neg
          case false =>
            go_wp2
            refine bodyPost_ret (v := numAns (some (false, qu, qd))) (by simp [results, Tryd.results47, go_sem, numAns, numO, numV, c0, c1, c2]) rfl ⟨by rw [unhide Hlow]; rfl, ?_⟩
            exact ((hbX.setCell (by simp) _).setCell (by simp) _).setCell (by simp) _
          case true =>
            go_wp2
            refine bodyPost_ret (v := numAns (some (false, qu, qd))) (by simp [results, Tryd.results47, go_sem, numAns, numO, numV, c0, c1, c2]) rfl ⟨by rw [unhide Hlow, unhide Hq0]; rfl, ?_⟩
            exact ((hbX.setCell (by simp) _).setCell (by simp) _).setCell (by simp) _
        · rw [decide_eq_false hq0] at hqz
          have Hq0 := hide hq0
          clear hq0
          cases neg
          case false =>
            go_wp2
            refine bodyPost_ret (v := numAns (some (false, qu, qd))) (by simp [results, Tryd.results47, go_sem, numAns, numO, numV, c0, c1, c2]) rfl ⟨by rw [unhide Hlow]; rfl, ?_⟩
            exact ((hbX.setCell (by simp) _).setCell (by simp) _).setCell (by simp) _
          case true =>
            go_wp2
            refine bodyPost_ret (v := numAns (some (true, qu, qd))) (by simp [results, Tryd.results47, go_sem, numAns, numO, numV, c0, c1, c2]) rfl ⟨by rw [unhide Hlow, bne_iff_ne.2 (unhide Hq0)]; rfl, ?_⟩
            exact ((hbX.setCell (by simp) _).setCell (by simp) _).setCell (by simp) _
end Go.Proofs.YtchginjabaobfaaDoor
namespace Go.Proofs.YtchginjabaobfaaDoor
open Go.RowKit Nt

theorem run_conv_byte {P : Program} {src dst e : TypeId} (hs : P.underlying src = some (.slice e)) (he : P.underlying e = some (.int .u8)) (hd : P.underlying dst = some .string) (W w1 : World) (c : UInt8)
    (hb : Below (W.heap.size + 1) (W.alloc (.cells #[.int .u8 c.toNat] e)) w1) :
    (convert src dst (.slice (some ⟨W.heap.size, 0, none⟩) 1 1)).run P w1 = .ok (.string (B [c])) w1 := by
  have h0 := World.ownsRow_lit (base := 0) (e := e) (size := 1) W #[.int .u8 c.toNat] 1 (Nat.zero_le _) (by decide) (by simp)
  have h1 := own_below h0 (by simpa using hb)
  have e1 : (#[Value.int .u8 c.toNat] : Array Value).toList = [c].map u8v := by simp [u8v]
  rw [e1] at h1
  exact run_conv_bytes hs he hd h1

theorem dec_byte (n k : Nat) (h : k < (dec n).size) : ((dec n)[k]'h).toNat = 48 + n / 10 ^ ((dec n).size - 1 - k) % 10 := by
  have h1 : k < (txl 10 n).length := by rw [← dec_len]; exact h
  have e := dec_at n ((txl 10 n).length - 1 - k) (by omega)
  rw [List.getElem_reverse] at e
  have e2 : (txl 10 n).length - 1 - ((txl 10 n).length - 1 - k) = k := by omega
  simp only [e2] at e
  have hm : n / 10 ^ ((txl 10 n).length - 1 - k) % 10 < 10 := Nat.mod_lt _ (by omega)
  rw [dec_len]
  have e3 : ((dec n)[k]'h) = (txl 10 n)[k]'h1 := by simp only [dec, txt, B_get]
  rw [e3, e, sg_toNat (by omega), if_pos hm]

def digitSigns : ByteArray := ⟨#[48, 49, 50, 51, 52, 53, 54, 55, 56, 57, 97, 98, 99, 100, 101, 102]⟩
theorem digitSigns_at (d : Nat) (h : d < 16) (h' : d < digitSigns.size) : (digitSigns[d]'h').toNat = (sg d).toNat := by
  have : ∀ d : Fin 16, (digitSigns[d.val]'d.isLt).toNat = (sg d.val).toNat := by decide
  exact this ⟨d, h⟩

set_option maxRecDepth 100000 in
set_option maxHeartbeats 1000000 in
theorem l2Out_c (N b : Nat) (w : World) (hb2 : 2 ≤ b) (hb16 : b ≤ 16) (hs : (dec N).size ≤ 5000) (ht : (txl b N).length ≤ 50000) :
    Calls Tryd.prog 54 #[.string (dec N), .int .i64 b] w fun e w' => e = .returned (.string (txt b N)) ∧ Below w.heap.size w w' := by
  have hbs := dec_small (n := b) (by omega)
  go_enter Tryd.func54, Tryd.ntmps54
  go_wp2
  go_loopw [0, 5] (fun n o wr => ∃ (m : Nat) (t : List UInt8), n = .string (dec m) ∧ o = .string (B t) ∧ m ≤ N ∧ t.length ≤ 50000 ∧ Below w.heap.size w wr ∧ Hid (txl b m ++ t = txl b N))
    (fun n _ _ => valDec (match n with | .string s => s.data.toList | _ => []))
  case atStart => exact ⟨N, [], rfl, rfl, Nat.le_refl _, by simp, Below.refl _ _, hide (by simp)⟩
  case round =>
    obtain ⟨m, t, rfl, rfl, hmN, htl, hb, htx⟩ := hrel
    have hms := dec_size_le hmN
    have hmod : m % b < b := Nat.mod_lt _ (by omega)
    go_wp2_with fail
    refine (l1Small_c b (by omega) _).mono ?_
    rintro e w1 ⟨rfl, hb1⟩
    go_wp2_with fail
    refine (l1Div_c m b _ (by omega) (by omega) (by omega)).mono ?_
    rintro e w2 ⟨rfl, hb2'⟩
    have hbA := below_next hb hb.size hb1
    have hbB := below_next hbA.1 hbA.2 hb2'
    clear hbA hb1 hb2'
    obtain ⟨q, hq⟩ : ∃ q, m / b = q := ⟨_, rfl⟩
    obtain ⟨r, hr⟩ : ∃ r, m % b = r := ⟨_, rfl⟩
    rw [hr] at hmod
    have hrs := dec_small (n := r) (by omega)
    have Hq := hide hq
    have Hr := hide hr
    rw [hq, hr]
    clear hq hr
    go_wp2_with fail
    go_loopw [8, 9] (fun d i wr => ∃ k : Nat, k ≤ (dec r).size ∧ i = .int .i64 k ∧ d = .int .i64 (pref r k : Nat) ∧ Below w.heap.size w wr) (fun _ i _ => (dec r).size - (intOf i).toNat)
    case atStart => exact ⟨0, Nat.zero_le _, rfl, by rw [pref_zero]; rfl, hbB.1⟩
    case round =>
      obtain ⟨k, hk, rfl, rfl, hbC⟩ := hrel
      by_cases hlt : k < (dec r).size
      · have hby := dec_byte r k hlt
        have hm10 : r / 10 ^ ((dec r).size - 1 - k) % 10 < 10 := Nat.mod_lt _ (by omega)
        have hps := pref_succ r k hlt
        have hpl : pref r k ≤ r := Nat.div_le_self _ _
        generalize r / 10 ^ ((dec r).size - 1 - k) % 10 = c at *
        generalize pref r k = p at *
        have Hps := hide hps
        clear hps
        go_wp2
        go_roundw
        case rel => exact ⟨k + 1, by omega, by go_num, by rw [unhide Hps]; go_num, hbC⟩
        case measure => simp [intOf]; omega
      · have hkl : k = (dec r).size := by omega
        subst hkl
        have hpa := pref_all r
        have hd16 : r < 16 := by omega
        have hg := digitSigns_at r hd16 hd16
        unfold digitSigns at hg
        have hconv := run_conv_byte (P := Tryd.prog) (src := 22) (dst := 9) Tryd.underlying22 Tryd.underlying5 Tryd.underlying9 wr _ (sg r) (Below.refl _ _)
        have hcat : B [sg r] ++ B t = B (sg r :: t) := by rw [B_append]; rfl
        have hs1 : (B [sg r]).size ≤ 1 := by rw [B_size]; simp
        have hs2 : (B t).size ≤ 50000 := by rw [B_size]; exact htl
        have hns : ¬ 9223372036854775807 < (B [sg r]).size + (B t).size := by omega
        have hbD := hbC.alloc (by have := hbC.size; exact this) (.cells #[.int .u8 (sg r).toNat] 5)
        have hq0 := dec_is0 q
        by_cases hz : q = 0
        · rw [decide_eq_true hz] at hq0
          have hmb : m < b := by
            have := unhide Hq; rw [hz] at this
            rcases Nat.div_eq_zero_iff.1 this with h | h
            · omega
            · exact h
          have hfin : B (sg r :: t) = txt b N := by
            unfold txt
            rw [← unhide htx, txl_one b hb2 m hmb, ← unhide Hr, Nat.mod_eq_of_lt hmb]; rfl
          have Hfin := hide hfin
          clear hfin hz
          go_wp2
          go_ret
          exact ⟨ret_str (unhide Hfin), hbD⟩
        · rw [decide_eq_false hz] at hq0
          have hmb : b ≤ m := by
            apply Nat.le_of_not_lt
            intro h; apply hz; rw [← unhide Hq]; exact Nat.div_eq_of_lt h
          have htx2 : txl b q ++ (sg r :: t) = txl b N := by
            rw [← unhide htx, txl_step b hb2 m hmb, unhide Hq, unhide Hr]; simp
          have Htx2 := hide htx2
          have hl2 : (sg r :: t).length ≤ 50000 := by
            have := congrArg List.length htx2
            rw [List.length_append] at this; omega
          have hqm : q < m := by rw [← unhide Hq]; exact Nat.div_lt_self (by omega) (by omega)
          clear htx2
          go_wp2
          go_roundw
          case rel => exact ⟨q, sg r :: t, rfl, rfl, by omega, hl2, hbD, Htx2⟩
          case measure =>
            show valDec (txl 10 q) < valDec (txl 10 m)
            rw [valDec_txl, valDec_txl]; exact hqm
end Go.Proofs.YtchginjabaobfaaDoor
namespace Go.Proofs.YtchginjabaobfaaDoor
open Go.RowKit Nt

/-- the table of powers of ten reads as it is written -/
def Tens (w : World) : Prop := ∀ j, j < 9 → w.cell? ⟨0, j, none⟩ = some (.int .u64 ((10 ^ j : Nat) : Int))

theorem Tens.below {w w' : World} (h : Tens w) (hb : Below w.heap.size w w') : Tens w' := by
  intro j hj
  have h1 := h j hj
  rw [hb.cell (p := ⟨0, j, none⟩) (World.block_lt_of_cell? w _ h1)]
  exact h1
theorem Tens.lt {w : World} (h : Tens w) : 0 < w.heap.size := World.block_lt_of_cell? w _ (h 0 (by omega))
theorem Tens.belowB {w w' : World} {b : Nat} (h : Tens w) (hb : Below b w w') (hlt : 0 < b) : Tens w' := by
  intro j hj
  rw [hb.cell (p := ⟨0, j, none⟩) hlt]
  exact h j hj

theorem own_iterAt {w : World} {base : Nat} {e : TypeId} {size : Nat} {v : Value} {n : Nat} {xs : List Value} (h : w.ownsRow base e size v n xs) {k : Nat} (hk : v.ownBlock ≠ some k) (s : ByteArray) (p : Nat) : (w.iterAt k s p).ownsRow base e size v n xs := by
  obtain ⟨h1, h2⟩ := h
  refine ⟨h1, ?_⟩
  rcases h2 with h2 | ⟨g, cap, cur, rfl, hb, hg, rest⟩
  · exact .inl h2
  · refine .inr ⟨g, cap, cur, rfl, hb, ?_, rest⟩
    rw [Lib.iterAt_other _ _ _ _ _ (by intro hh; apply hk; simp [Value.ownBlock, hh])]
    exact hg

/-- digits that are laid from the upper end: what each group is a multiple of -/
def laidTo (xs : List Nat) (k : Nat) : Prop := ∀ g (h : g < xs.length), xs[g] < 1000000000 ∧ 10 ^ (min 9 (k - 9 * g)) ∣ xs[g]

theorem laid_room {a c r : Nat} (ha : a < 10 ^ 9) (hr : r < 9) (hd : 10 ^ (r + 1) ∣ a) (hc : c ≤ 9) : a + c * 10 ^ r < 10 ^ 9 := by
  obtain ⟨t, rfl⟩ := hd
  have e : (10 : Nat) ^ 9 = 10 ^ (r + 1) * 10 ^ (8 - r) := by rw [← Nat.pow_add]; congr 1; omega
  rw [e] at ha ⊢
  have h1 : t < 10 ^ (8 - r) := Nat.lt_of_mul_lt_mul_left ha
  have h2 : 10 ^ (r + 1) * (t + 1) ≤ 10 ^ (r + 1) * 10 ^ (8 - r) := Nat.mul_le_mul_left _ h1
  rw [Nat.mul_add, Nat.mul_one] at h2
  have h3 : c * 10 ^ r < 10 ^ (r + 1) := by
    rw [Nat.pow_succ, Nat.mul_comm]
    exact Nat.mul_lt_mul_of_pos_left (by omega) (Nat.pow_pos (by omega))
  omega

theorem laid_step {xs : List Nat} {p c : Nat} (h : laidTo xs (p + 1)) (hg : p / 9 < xs.length) (hc : c ≤ 9) :
    xs[p / 9] + c * 10 ^ (p % 9) < 1000000000 ∧ laidTo (xs.set (p / 9) (xs[p / 9] + c * 10 ^ (p % 9))) p := by
  have hr : p % 9 < 9 := Nat.mod_lt _ (by omega)
  have h0 := h (p / 9) hg
  have hmin : min 9 (p + 1 - 9 * (p / 9)) = p % 9 + 1 := by omega
  rw [hmin] at h0
  have hroom := laid_room (a := xs[p / 9]) h0.1 hr h0.2 hc
  refine ⟨hroom, ?_⟩
  intro g hgl
  by_cases hgg : g = p / 9
  · subst hgg
    rw [List.getElem_set_self]
    refine ⟨hroom, ?_⟩
    rw [show min 9 (p - 9 * (p / 9)) = p % 9 from by omega]
    exact Nat.dvd_add (Nat.dvd_trans (Nat.pow_dvd_pow 10 (by omega)) h0.2) (Nat.dvd_mul_left _ _)
  · rw [List.getElem_set_ne (by omega)]
    have h1 := h g (by simpa using hgl)
    exact ⟨h1.1, Nat.dvd_trans (Nat.pow_dvd_pow 10 (by omega)) h1.2⟩

theorem pow_group (p : Nat) : 1000000000 ^ (p / 9) * 10 ^ (p % 9) = 10 ^ p := by
  have e : (1000000000 : Nat) = 10 ^ 9 := by decide
  rw [e, ← Nat.pow_mul, ← Nat.pow_add]
  congr 1; omega

theorem laid_ofd {xs : List Nat} {p c V : Nat} (hg : p / 9 < xs.length) (hV : ofd 1000000000 xs = V) : ofd 1000000000 (xs.set (p / 9) (xs[p / 9] + c * 10 ^ (p % 9))) = V + c * 10 ^ p := by
  have h := ofd_set 1000000000 xs (p / 9) (xs[p / 9] + c * 10 ^ (p % 9)) hg
  rw [hV, Nat.mul_add, Nat.mul_left_comm, pow_group] at h
  omega

set_option maxRecDepth 100000 in
set_option maxHeartbeats 2000000 in
theorem natReadB_c (x : Nat) (w : World) (hs : (dec x).size ≤ 100000) (hT : Tens w) :
    Calls Tryd.prog 49 #[.string (dec x)] w fun e w' => (∃ v', e = .returned v' ∧ isNatB w' w.heap.size v' x) ∧ Below w.heap.size w w' := by
  obtain ⟨i0, hi, hz0, hz1, hz2⟩ := info_parts Tryd.infoU64
  obtain ⟨n, hn⟩ : ∃ n, (dec x).size = n := ⟨_, rfl⟩
  obtain ⟨G, hG⟩ : ∃ G : Nat, (n : Int) / 9 + 1 = G := ⟨n / 9 + 1, by omega⟩
  have hnI : ((dec x).size : Int) = n := by omega
  have hn0 : 0 < n := by have := dec_size_pos x; omega
  rw [hn] at hs
  have Hn := hide hn
  have HT := hide hT
  clear hn hT
  go_enter Tryd.func49, Tryd.ntmps49
  go_wp2_with (refine wpList_make_full _ rfl (.tmp 10) (.tmp 10) 65 rfl w.heap.size 80 i0 (.int .u64 0) 1 Tryd.underlying65 hi hz0 hz1 .i64 .i64 G G G rfl rfl rfl rfl (by rw [hz2]; omega) (by unfold maxLen; omega) (Nat.le_refl _) ?_; intro w1 hown1 hg1)
  have hown0 : w1.ownsRow w.heap.size 80 1 (.slice (some ⟨w.heap.size, 0, none⟩) G G) G (u64s (List.replicate G 0)) := by
    simpa [Value.cells, toList_madeCells_one, u64s_zero] using hown1
  have hb1 : Below w.heap.size w w1 := (Below.refl _ _).grown hg1 (Nat.le_refl _) (fun _ h => by cases h)
  have hlt1 : w.heap.size < w1.heap.size := (hown0.lt _ rfl).2
  clear hown1 hg1
  go_loopw [4] (fun _ wr => ∃ (pos : Nat) (xs : List Nat), pos ≤ n ∧ wr.heap[w1.heap.size]? = some (.stringIter (dec x) pos) ∧ xs.length = G ∧ wr.ownsRow w.heap.size 80 1 (.slice (some ⟨w.heap.size, 0, none⟩) G G) G (u64s xs) ∧ Below w.heap.size w wr ∧
      Hid (laidTo xs (n - pos)) ∧ Hid (ofd 1000000000 xs = pref x pos * 10 ^ (n - pos)))
    (fun _ wr => n - wr.iterPos w1.heap.size)
  case atStart =>
    refine ⟨0, List.replicate G 0, Nat.zero_le _, World.iter_heap _ _ _, by simp, hown0.alloc _, hb1.alloc hb1.size _, ?_, ?_⟩
    · intro g hg
      simp
    · show _ = _
      rw [ofd_replicate_zero, pref_zero]; simp
  case round =>
    clear hown0 hb1
    obtain ⟨pos, xs, hpl, hit, hxl, hown, hb, hlaid, hval⟩ := hrel
    have hpos0 := iterPos_of hit
    by_cases hlt : pos < n
    · have hlt2 : pos < (dec x).size := by rw [unhide Hn]; exact hlt
      obtain ⟨p, hp⟩ : ∃ p : Nat, (n : Int) - 1 - pos = p := ⟨n - 1 - pos, by omega⟩
      have hpN : n - 1 - pos = p := by omega
      have hby := dec_byte x pos hlt2
      have hps := pref_succ x pos hlt2
      rw [unhide Hn, hpN] at hby hps
      have hc9 : x / 10 ^ p % 10 < 10 := Nat.mod_lt _ (by omega)
      generalize x / 10 ^ p % 10 = c at *
      have hnx := fun ty => Lib.run_next_ascii_at (P := Tryd.prog) wr w1.heap.size (dec x) pos ty hit hlt2 (by omega)
      obtain ⟨b, hbb⟩ : ∃ b, ((dec x)[pos]'hlt2).toNat = b := ⟨_, rfl⟩
      rw [hbb] at hnx hby
      have hb48 : (b : Int) - 48 = c := by omega
      have hit2 := Lib.iterAt_heap wr w1.heap.size (dec x) pos (pos + 1) hit
      have hb2 := Lib.below_iterAt hb (k := w1.heap.size) (by omega) (dec x) (pos + 1)
      have hown2 := own_iterAt hown (k := w1.heap.size) (by simp [Value.ownBlock]; omega) (dec x) (pos + 1)
      obtain ⟨W1, hW1⟩ : ∃ W1, W1 = wr.iterAt w1.heap.size (dec x) (pos + 1) := ⟨_, rfl⟩
      rw [← hW1] at hnx hit2 hb2 hown2
      have hgp : p / 9 < xs.length := by omega
      have hT2 := ((unhide HT).belowB hb2 (unhide HT).lt) (p % 9) (Nat.mod_lt _ (by omega))
      have hlaid' : laidTo xs (p + 1) := by have := unhide hlaid; rwa [show n - pos = p + 1 from by omega] at this
      have hst := laid_step (c := c) hlaid' hgp (by omega)
      have hval' : ofd 1000000000 xs = pref x pos * 10 ^ (p + 1) := by have := unhide hval; rwa [show n - pos = p + 1 from by omega] at this
      have hof := laid_ofd (c := c) hgp hval'
      have hcx := hown2.cellAt (p / 9) (by omega)
      rw [u64s_get _ _ hgp] at hcx
      have hfr := hown2.frozenAt (p / 9)
      have hpow : 10 ^ (p % 9) ≤ 100000000 := by
        have : (10 : Nat) ^ (p % 9) ≤ 10 ^ 8 := Nat.pow_le_pow_right (by omega) (by omega)
        exact this
      generalize xs[p / 9]'hgp = a at *
      obtain ⟨t, ht⟩ : ∃ t, 10 ^ (p % 9) = t := ⟨_, rfl⟩
      rw [ht] at hT2 hst hof hpow
      obtain ⟨q, hq⟩ : ∃ q, p / 9 = q := ⟨_, rfl⟩
      obtain ⟨r, hr⟩ : ∃ r, p % 9 = r := ⟨_, rfl⟩
      rw [hq] at hgp hst hof hcx hfr
      rw [hr] at hT2
      obtain ⟨pp, hpp⟩ : ∃ pp, c * t = pp := ⟨_, rfl⟩
      have hppI : (c : Int) * t = pp := by rw [← hpp]; simp
      rw [hpp] at hst hof
      have hst2 := hown2.stored q (.int .u64 ((a : Int) + pp))
      rw [u64s_set _ _ (a + pp) _ (by simp)] at hst2
      have e1 : (p : Int).tdiv 9 = q := by rw [Int.tdiv_eq_ediv_of_nonneg (by omega)]; omega
      have e2 : (p : Int).tmod 9 = r := by rw [Int.tmod_eq_emod_of_nonneg (by omega)]; omega
      have e3 := wi64 (q : Int) (by omega) (by omega)
      have e4 := wi32 (c : Int) (by omega) (by omega)
      have e5 := wu64 (c : Int) (by omega) (by omega)
      have hrm : c * t ≤ 9 * 100000000 := Nat.mul_le_mul (by omega) hpow
      have e6 := wu64 (pp : Int) (by omega) (by omega)
      have e7 := wu64 ((a : Int) + pp) (by omega) (by omega)
      have hqG : (q : Int) < G := by omega
      have hr9 : (r : Int) < 9 := by omega
      have hqn : q < G := by omega
      have hrn : r < 9 := by omega
      have Hst := hide hst
      have Hof := hide hof
      have Hst2 := hide hst2
      have Hit2 := hide hit2
      have Hps := hide hps
      have Hp0 := hide hpos0
      clear hst hof hst2 hit hit2 hps hpos0 hown hb hval hval' hlaid hlaid' hW1 hby hbb ht hq hr hpp hpN
      go_wp2
      go_region
      all_goals
        go_wp2
        go_roundw
        case rel =>
          refine ⟨pos + 1, xs.set q (a + pp), by omega, ?_, by simpa using hxl, (unhide Hst2).1, (hb2.setCell (by simp) _).drew, ?_, ?_⟩
          · have h1 := unhide Hit2
            show (W1.setCell ⟨w.heap.size, q, none⟩ _).heap[w1.heap.size]? = _
            rw [Below.heap_setCell _ _ _ _ (by show w1.heap.size ≠ w.heap.size; omega)]
            exact h1
          · rw [show n - (pos + 1) = p from by omega]; exact (unhide Hst).2
          · show _ = _
            rw [unhide Hof, unhide Hps, show n - (pos + 1) = p from by omega, Nat.add_mul, Nat.pow_succ, Nat.mul_comm (10 ^ p) 10, ← Nat.mul_assoc, Nat.mul_comm 10 (pref x pos)]
        case measure =>
          have h1 := unhide Hit2
          rw [unhide Hp0]
          have h2 : ((W1.setCell ⟨w.heap.size, q, none⟩ (.int .u64 ((a : Int) + pp))).drew).iterPos w1.heap.size = pos + 1 := by
            apply iterPos_of (s := dec x)
            show (W1.setCell ⟨w.heap.size, q, none⟩ _).heap[w1.heap.size]? = _
            rw [Below.heap_setCell _ _ _ _ (by show w1.heap.size ≠ w.heap.size; omega)]
            exact h1
          rw [h2]; omega
    · have hpn : pos = n := by omega
      subst hpn
      have hlt2 : ¬ pos < (dec x).size := by rw [unhide Hn]; omega
      have hnx := fun ty => Lib.run_next_end_at (P := Tryd.prog) wr w1.heap.size (dec x) pos ty hit hlt2
      have hfin : ofd 1000000000 xs = x := by
        have h1 := unhide hval
        have h2 := pref_all x
        rw [unhide Hn] at h2
        rw [h1, h2]; simp
      have hall : ∀ d ∈ xs, d < 1000000000 := by
        intro d hd
        obtain ⟨g, hg, rfl⟩ := List.getElem_of_mem hd
        exact (unhide hlaid g hg).1
      have Hfin := hide hfin
      have Hall := hide hall
      clear hfin hall hval hlaid hpos0 hit
      go_wp2_with fail
      refine (trimmed_n xs w.heap.size _ _ (by omega) (unhide Hall) (by rw [hxl]; exact hown)).mono ?_
      rintro e w2 ⟨⟨v', rfl, hv'⟩, rfl⟩
      rw [unhide Hfin] at hv'
      go_wp2
      go_ret
      exact ⟨⟨v', rfl, hv'⟩, hb⟩

theorem natRead_c (x : Nat) (w : World) (hs : (dec x).size ≤ 100000) (hT : Tens w) :
    Calls Tryd.prog 49 #[.string (dec x)] w fun e w' => (∃ v', e = .returned v' ∧ isNat w' v' x) ∧ Below w.heap.size w w' :=
  (natReadB_c x w hs hT).mono fun _ _ h => ⟨⟨h.1.choose, h.1.choose_spec.1, h.1.choose_spec.2.nat⟩, h.2⟩
end Go.Proofs.YtchginjabaobfaaDoor
