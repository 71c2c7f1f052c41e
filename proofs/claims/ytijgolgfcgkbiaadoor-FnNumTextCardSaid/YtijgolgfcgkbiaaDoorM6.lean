/- A part of the proof, put together out of smaller texts: each piece says what it is for. -/
import Derived.Test.YtijgolgfcgkbiaaDoorM5
import Derived.Test.YtijgolgfcgkbiaaDoorRows
import Derived.Deep.QuietTactic
import Derived.BigQuiet
namespace Go.Proofs.YtijgolgfcgkbiaaDoor
open Go.RowKit Nt

/-- what stands where a text is drawn: its radix, the text, the reader -/
def textTab1 : Array Value := #[.int .i64 10, .int .i64 10, .int .i64 2, .int .i64 8, .int .i64 16, .int .i64 3, .int .i64 0]

theorem picks (i2 i3 i4 : Nat) (h2 : i2 < 2) (h3 : i3 < 2) (h4 : i4 < 3) : ∃ m3 : Nat, Hid (wrap64 (5 + wrap64 (wrap64 ((i2 : Int) * (i3 : Int)) * (i4 : Int))) = (m3 : Int)) ∧ m3 ≤ 7 := by
  have k : ∀ a : Nat, a < 2 → ∀ b : Nat, b < 2 → ∀ c : Nat, c < 3 → wrap64 (5 + wrap64 (wrap64 ((a : Int) * (b : Int)) * (c : Int))) = ((5 + a * b * c : Nat) : Int) ∧ 5 + a * b * c ≤ 7 := by decide +kernel
  exact ⟨_, (k i2 h2 i3 h3 i4 h4).1, (k i2 h2 i3 h3 i4 h4).2⟩
theorem five (m : Nat) (h : m ≤ 2) : ∃ k : Nat, wrap64 (5 + (m : Int)) = (k : Int) ∧ k ≤ 7 := ⟨5 + m, by unfold wrap64; omega, by omega⟩

theorem print_len (neg : Bool) (u d : List UInt8) (r : Int) : (printM neg u d r).length ≤ 482 := by
  unfold printM
  split
  · rename_i h
    simp only [Bool.and_eq_true] at h
    obtain ⟨b, rfl, hb4⟩ := isRadix_nat h.2
    obtain ⟨h3, h4, hu, hd, _⟩ := ok_parts h.1
    have e1 := txt_size (b := b) (n := valDec u) (by omega) (by rw [dec_len, ← isDec_val h3]; exact hu)
    have e2 := txt_size (b := b) (n := valDec d) (by omega) (by rw [dec_len, ← isDec_val h4]; exact hd)
    unfold txt at e1 e2
    rw [B_size] at e1
    rw [B_size] at e2
    unfold prM
    rw [Int.toNat_natCast]
    cases neg <;> by_cases h1 : valDec d = 1 <;> simp [h1] <;> omega
  · simp

set_option maxRecDepth 100000 in
set_option maxHeartbeats 2000000 in
theorem DrawNumParse_c (a : Option Addr) (n cap : Nat) (w : World) (h : Bytes0 w a n) (hcap : n ≤ cap) (hmax : cap ≤ maxLen) :
    Calls Tryd.prog 5 #[.slice a n cap] w fun e w' => (∃ (s : ByteArray) (r : Int), e = .returned (.tuple #[.string s, .int .i64 r]) ∧ s.size ≤ 10000) ∧ Below w.heap.size w w' := by
  go_enter Tryd.func5, Tryd.ntmps5
  go_wp2_with fail
  refine (l1Open_c a n cap w h hcap hmax).mono ?_
  rintro e w1 ⟨rfl, ⟨m, hm, hr1⟩, hb1⟩
  have hlt1 := hr1.lt
  have HR1 := hide hr1
  clear hr1 h
  go_wp2_with fail
  refine (pick_d w.heap.size 0 m cap a 2 _ ((unhide HR1).alloc _) (by omega) (by omega)).mono ?_
  rintro e w2 ⟨⟨i2, rfl, hi2⟩, ⟨p2, hp2, hr2⟩, hk2⟩
  have hi2' : i2 < 2 := by rcases hi2 with h | h <;> omega
  have HR2 := hide hr2
  have HK2 := hide hk2
  clear hr2 hk2 hi2
  go_wp2_with fail
  refine (pick_d w.heap.size p2 m cap a 2 _ (unhide HR2) (by omega) (by omega)).mono ?_
  rintro e w3 ⟨⟨i3, rfl, hi3⟩, ⟨p3, hp3, hr3⟩, hk3⟩
  have hi3' : i3 < 2 := by rcases hi3 with h | h <;> omega
  have HR3 := hide hr3
  have HK3 := hide ((unhide HK2).trans hk3)
  clear hr3 hk3 hi3
  go_wp2_with fail
  refine (pick_d w.heap.size p3 m cap a 3 _ (unhide HR3) (by omega) (by omega)).mono ?_
  rintro e w4 ⟨⟨i4, rfl, hi4⟩, ⟨p4, hp4, hr4⟩, hk4⟩
  have hi4' : i4 < 3 := by rcases hi4 with h | h <;> omega
  have HR4 := hide hr4
  have HK4 := hide ((unhide HK3).trans hk4)
  clear hr4 hk4 hi4
  obtain ⟨m3, hw3, hm3⟩ := picks i2 i3 i4 hi2' hi3' hi4'
  go_wp2_with fail
  rw [show wrap64 (5 + wrap64 (wrap64 ((i2 : Int) * (i3 : Int)) * (i4 : Int))) = (m3 : Int) from unhide hw3]
  refine (pick_d w.heap.size p4 m cap a (m3 : Int) _ (unhide HR4) (by omega) (by omega)).mono ?_
  rintro e w5 ⟨⟨i5, rfl, hi5⟩, ⟨p5, hp5, hr5⟩, hk5⟩
  have hi5' : i5 < 7 := by rcases hi5 with h | h <;> omega
  have hiL : (i5 : Int) < 7 := by omega
  have HR5 := hide hr5
  have HK5 := hide ((unhide HK4).trans hk5)
  obtain ⟨r, hr⟩ := int_at (cs := #[.int .i64 10, .int .i64 10, .int .i64 2, .int .i64 8, .int .i64 16, .int .i64 3, .int .i64 0]) rfl hi5'
  have hcr := tab_keep1 (q := w1.heap.size) (i := i5) rfl (unhide HK5) (by omega) hr
  have HKw := hide (((Keeps.refl w.heap.size w1).alloc (.cells #[.int .i64 10, .int .i64 10, .int .i64 2, .int .i64 8, .int .i64 16, .int .i64 3, .int .i64 0] 3)).trans (unhide HK5))
  clear hr5 hk5 hi5 hr hw3 HR1 HR2 HR3 HR4 HK2 HK3 HK4 HK5
  go_wp2_with fail
  have h := l6Num_c w.heap.size p5 m cap a w5 (unhide HR5) (by omega)
  refine h.mono ?_
  clear h
  rintro e w6 ⟨⟨neg, x, y, rfl, hx60, hy60⟩, ⟨p6, hp6, hr6⟩, hk6⟩
  have hlt6 := hr6.lt
  have HR6 := hide hr6
  have HK6 := hide ((unhide HKw).trans hk6)
  clear hr6 hk6
  go_wp2_with fail
  refine (pick_d w.heap.size p6 m cap a 2 _ ((unhide HR6).alloc _) (by omega) (by omega)).mono ?_
  rintro e w7 ⟨⟨i7, rfl, hi7⟩, ⟨p7, hp7, hr7⟩, hk7⟩
  have hi7' : i7 < 2 := by rcases hi7 with h | h <;> omega
  have hiL7 : (i7 : Int) < 2 := by omega
  obtain ⟨r7, hr7'⟩ := int_at (cs := #[.int .i64 10, .int .i64 r]) rfl hi7'
  have hcr7 := tab_keep1 (q := w6.heap.size) (i := i7) rfl hk7 (by omega) hr7'
  have HR7 := hide hr7
  have HK7 := hide (((unhide HK6).alloc (.cells #[.int .i64 10, .int .i64 r] 3)).trans hk7)
  clear hr7 hk7 hi7 hr7' HR5 HKw HR6 HK6
  go_wp2_with fail
  have h := specNumPrint_c neg (txl 10 x) (txl 10 y) r7 w7 (by rw [← dec_len]; omega) (by rw [← dec_len]; omega)
  unfold numV
  refine h.mono ?_
  clear h
  rintro e w8 ⟨rfl, hb8⟩
  have hpl := print_len neg (txl 10 x) (txl 10 y) r7
  generalize printM neg (txl 10 x) (txl 10 y) r7 = s at *
  have HR8 := hide ((unhide HR7).keep hb8)
  have HK8 := hide ((unhide HK7).trans (Keeps.of_below hb8))
  clear hb8 HR7 HK7
  go_wp2_with fail
  refine (pick_d w.heap.size p7 m cap a 10 _ (unhide HR8) (by omega) (by omega)).mono ?_
  rintro e w9 ⟨⟨i9, rfl, hi9⟩, ⟨p9, hp9, hr9⟩, hk9⟩
  have hlt9 := hr9.lt
  have hsz := B_size s
  have HR9 := hide hr9
  have HK9 := hide ((unhide HK8).trans hk9)
  clear hr9 hk9 hi9 HR8 HK8 hcr hcr7
  have HB1 := hide hb1
  clear hb1
  rcases Nat.lt_or_ge i9 1 with h | h
  · have hi0 : i9 = 0 := by omega
    subst hi0
    have hs2 : (⟨#[43]⟩ ++ B s : ByteArray).size ≤ 10000 := by rw [ByteArray.size_append, B_size]; show 1 + _ ≤ _; omega
    have hns : ¬ 9223372036854775807 < 1 + (B s).size := by omega
    have Hs2 := hide hs2
    clear hs2
    go_wp2
    go_ret2
    exact ⟨⟨_, r, rfl, unhide Hs2⟩, (unhide HB1).trans ((unhide HK9).below (Nat.le_refl _) (by omega))⟩
  have z0 : ((i9 : Int) == 0) = false := by rw [beq_eq_false_iff_ne]; omega
  rcases Nat.lt_or_ge i9 2 with h2 | h2
  · have hi0 : i9 = 1 := by omega
    subst hi0
    go_wp2_with fail
    refine (of_c w.heap.size p9 m cap w9.heap.size a #[.string ⟨#[]⟩, .string ⟨#[45]⟩, .string ⟨#[43]⟩, .string ⟨#[47]⟩, .string ⟨#[49, 47]⟩, .string ⟨#[47, 49]⟩, .string ⟨#[49, 47, 48]⟩, .string ⟨#[45, 45, 49]⟩, .string ⟨#[49, 45]⟩, .string ⟨#[49, 46, 53]⟩, .string ⟨#[46, 53]⟩, .string ⟨#[53, 46]⟩, .string ⟨#[46]⟩, .string ⟨#[45, 46, 50, 53]⟩, .string ⟨#[49, 46, 50, 46, 51]⟩, .string ⟨#[49, 47, 50, 47, 51]⟩, .string ⟨#[49, 46, 53, 47, 50]⟩, .string ⟨#[48, 120, 49]⟩, .string ⟨#[70]⟩, .string ⟨#[102]⟩, .string ⟨#[49, 101, 51]⟩, .string ⟨#[32, 49]⟩, .string ⟨#[48, 48]⟩, .string ⟨#[45, 48]⟩, .string ⟨#[48, 48, 55]⟩, .string ⟨#[48, 47, 53]⟩] 26 _ ((unhide HR9).alloc _) (by omega) rfl (by omega) (by omega) (heap_at _ _ _) (by omega)).mono ?_
    rintro e w10 ⟨⟨v, rfl, hv⟩, ⟨p10, hp10, hr10⟩, hk10⟩
    obtain ⟨s2, rfl, hs2⟩ := of_strs (M := 10) (by rfl) hv
    have HK10 := hide (((unhide HK9).alloc _).trans hk10)
    clear hr10 hk10 hv
    go_wp2
    go_ret2
    exact ⟨⟨_, r, rfl, by omega⟩, (unhide HB1).trans ((unhide HK10).below (Nat.le_refl _) (by omega))⟩
  have z1 : ((i9 : Int) == 1) = false := by rw [beq_eq_false_iff_ne]; omega
  rcases Nat.lt_or_ge i9 3 with h3 | h3
  · have hi0 : i9 = 2 := by omega
    subst hi0
    go_wp2_with fail
    refine (pick_d w.heap.size p9 m cap a ((B s).size + 1 : Int) _ (unhide HR9) (by omega) (by omega)).mono ?_
    rintro e w10 ⟨⟨k, rfl, hk⟩, ⟨p10, hp10, hr10⟩, hk10⟩
    have hks : k ≤ s.length := by rcases hk with h | h <;> omega
    have hks1 : k ≤ (B s).size := by omega
    have hks2 : (k : Int) ≤ (B s).size := by omega
    have hlt10 := hr10.lt
    have HR10 := hide hr10
    have HK10 := hide ((unhide HK9).trans hk10)
    clear hr10 hk10 hk HK9 HR9
    have hx1 : ((B s).extract 0 k).size = k := by rw [ByteArray.size_extract]; omega
    have hx2 : ((B s).extract k (B s).size).size = (B s).size - k := by rw [ByteArray.size_extract]; omega
    have hx3 := fun s2 : ByteArray => (ByteArray.size_append (a := (B s).extract 0 k) (b := s2))
    go_wp2
    go_region_with (go_at_call 27; refine (of_c w.heap.size p10 m cap w10.heap.size a #[.string ⟨#[48]⟩, .string ⟨#[57]⟩, .string ⟨#[46]⟩, .string ⟨#[47]⟩, .string ⟨#[45]⟩, .string ⟨#[97]⟩, .string ⟨#[32]⟩, .string ⟨#[0]⟩] 8 _ (by repeat (first | exact unhide HR10 | refine Rd.drew ?_ | refine Rd.alloc ?_ _)) (by omega) rfl (by omega) (by omega) (by exact heap_at w10 _ _) (by omega)).mono ?_; rintro e w11 ⟨⟨v, rfl, hv⟩, ⟨p11, hp11, hr11⟩, hk11⟩; obtain ⟨s2, rfl, hs2⟩ := of_strs (M := 10) (by rfl) hv; have HK11 := hide hk11; clear hr11 hk11 hv; have hn1 : ¬ 9223372036854775807 < ((B s).extract 0 k).size + s2.size := (by omega); have hn2 : ¬ 9223372036854775807 < ((B s).extract 0 k).size + s2.size + ((B s).extract k (B s).size).size := (by omega))
    all_goals
      have hF : Below w.heap.size w1 w11 := by
        first
          | exact (((unhide HK10).alloc _).trans (unhide HK11)).below (Nat.le_refl _) (by omega)
          | exact (((unhide HK10).alloc _).drew.trans (unhide HK11)).below (Nat.le_refl _) (by omega)
          | exact (((unhide HK10).drew.alloc _).trans (unhide HK11)).below (Nat.le_refl _) (by omega)
      have hfin : ((B s).extract 0 k ++ s2 ++ (B s).extract k s.length).size ≤ 10000 := by
        rw [ByteArray.size_append, ByteArray.size_append, ByteArray.size_extract, ByteArray.size_extract]; omega
      have Hfin := hide hfin
      clear hfin
      go_wp2
      go_ret2
      exact ⟨⟨_, r, rfl, unhide Hfin⟩, (unhide HB1).trans hF⟩
  have z2 : ((i9 : Int) == 2) = false := by rw [beq_eq_false_iff_ne]; omega
  rcases Nat.lt_or_ge i9 4 with h4 | h4
  · have hi0 : i9 = 3 := by omega
    subst hi0
    go_wp2_with fail
    refine (pick_d w.heap.size p9 m cap a 2 _ (unhide HR9) (by omega) (by omega)).mono ?_
    rintro e w10 ⟨⟨k, rfl, hk⟩, ⟨p10, hp10, hr10⟩, hk10⟩
    have hk2 : k < 2 := by rcases hk with h | h <;> omega
    have HK10 := hide ((unhide HK9).trans hk10)
    clear hr10 hk10 hk HK9 HR9
    go_wp2_with fail
    refine (l1Many_c ⟨#[48]⟩ (240 - ((B s).size : Int) + (k : Int)) 300 _ (by show 1 * _ ≤ _; omega) (by omega) (by omega)).mono ?_
    rintro e w11 ⟨⟨s2, rfl, hs2⟩, rfl⟩
    have hs3 : (s2 ++ B s : ByteArray).size ≤ 10000 := by rw [ByteArray.size_append, B_size]; omega
    have hns : ¬ 9223372036854775807 < s2.size + (B s).size := by omega
    have Hs3 := hide hs3
    clear hs3
    go_wp2
    go_ret2
    exact ⟨⟨_, r, rfl, unhide Hs3⟩, (unhide HB1).trans ((unhide HK10).below (Nat.le_refl _) (by omega))⟩
  have z3 : ((i9 : Int) == 3) = false := by rw [beq_eq_false_iff_ne]; omega
  rcases Nat.lt_or_ge i9 5 with h5 | h5
  · have hi0 : i9 = 4 := by omega
    subst hi0
    go_wp2_with fail
    have h := l6Digits_c w.heap.size p9 m cap a w9 (unhide HR9) (by omega)
    refine h.mono ?_
    clear h
    rintro e w10 ⟨⟨u, rfl, hu⟩, ⟨p10, hp10, hr10⟩, hk10⟩
    have HR10 := hide hr10
    have HK10 := hide ((unhide HK9).trans hk10)
    clear hr10 hk10 HK9 HR9
    go_wp2_with fail
    have h := l6Digits_c w.heap.size p10 m cap a w10 (unhide HR10) (by omega)
    refine h.mono ?_
    clear h
    rintro e w11 ⟨⟨d, rfl, hd⟩, ⟨p11, hp11, hr11⟩, hk11⟩
    have HK11 := hide ((unhide HK10).trans hk11)
    clear hr11 hk11 HK10 HR10
    have hs3 : (dec u ++ ⟨#[46]⟩ ++ dec d : ByteArray).size ≤ 10000 := by rw [ByteArray.size_append, ByteArray.size_append]; show _ + 1 + _ ≤ _; omega
    have hs4 : (dec u ++ ⟨#[46]⟩ : ByteArray).size = (dec u).size + 1 := by rw [ByteArray.size_append]; rfl
    have hns : ¬ 9223372036854775807 < (dec u).size + 1 := by omega
    have hns2 : ¬ 9223372036854775807 < (dec u).size + 1 + (dec d).size := by omega
    have hns3 : ¬ 9223372036854775807 < (dec u ++ ⟨#[46]⟩ : ByteArray).size + (dec d).size := by omega
    have Hs3 := hide hs3
    clear hs3
    go_wp2
    go_ret2
    exact ⟨⟨_, r, rfl, unhide Hs3⟩, (unhide HB1).trans ((unhide HK11).below (Nat.le_refl _) (by omega))⟩
  have z4 : ((i9 : Int) == 4) = false := by rw [beq_eq_false_iff_ne]; omega
  go_wp2
  go_ret2
  exact ⟨⟨_, r, rfl, by omega⟩, (unhide HB1).trans ((unhide HK9).below (Nat.le_refl _) (by omega))⟩
end Go.Proofs.YtijgolgfcgkbiaaDoor
namespace Go.Proofs.YtijgolgfcgkbiaaDoor
open Go.RowKit Nt

theorem Tryd.infoU64 : (Tryd.prog.info? 68).map (fun i => (i.zero, i.size, i.bytes)) = some (some (.int .u64 0), 1, 8) := by kernel_rfl

set_option maxRecDepth 100000 in
set_option maxHeartbeats 400000 in
theorem trimmed_c (xs : List Nat) (base : Nat) (v : Value) (w : World) (hs : xs.length ≤ 1000000000) (h : w.ownsRow base 68 1 v xs.length (u64s xs)) :
    Calls Tryd.prog 68 #[v] w fun e w' => (∃ v', e = .returned v' ∧ w.ownsRow base 68 1 v' (strip xs).length (u64s (strip xs)) ∧ v'.ownBlock = v.ownBlock) ∧ w' = w := by
  rcases own_shape h with ⟨rfl, hn, hx⟩ | ⟨g, cap, rfl, hnc, hbg, hgw⟩
  · have : xs = [] := List.eq_nil_of_length_eq_zero hn
    subst this
    have H := hide h
    clear h hn hx hs
    go_enter Tryd.func68, Tryd.ntmps68
    go_wp2
    refine wp_loop_rounds 1 ?_; rw [rounds_succ]
    go_wp2
    go_ret
    exact ⟨⟨_, rfl, unhide H, rfl⟩, rfl⟩
  · go_enter Tryd.func68, Tryd.ntmps68
    go_wp2
    go_loop [0] (fun v' => ∃ ys : List Nat, v' = .slice (some ⟨g, 0, none⟩) ys.length cap ∧ ys.length ≤ xs.length ∧ w.ownsRow base 68 1 (.slice (some ⟨g, 0, none⟩) ys.length cap) ys.length (u64s ys) ∧ Hid (strip ys = strip xs))
      (fun v' => match v' with | .slice _ n _ => n | _ => 0)
    case atStart => exact ⟨xs, rfl, Nat.le_refl _, h, hide rfl⟩
    case round =>
      obtain ⟨ys, rfl, hyl, hown, hst⟩ := hrel
      by_cases hy0 : 0 < ys.length
      · have hc := hown.cellAt (ys.length - 1) (by omega)
        rw [u64s_get _ _ (by omega)] at hc
        have hsp : ys = ys.take (ys.length - 1) ++ [ys[ys.length - 1]'(by omega)] := by
          rw [← List.take_succ_eq_append_getElem (by omega), show ys.length - 1 + 1 = ys.length from by omega, List.take_length]
        have htk := own_take hown (ys.length - 1) (by omega)
        generalize hd : ys[ys.length - 1]'(by omega) = d at *
        by_cases hd0 : d = 0
        · have hst2 : strip (ys.take (ys.length - 1)) = strip xs := by
            rw [← unhide hst]
            conv => rhs; rw [hsp, hd0]
            rw [strip_snoc_zero]
          have hq : ((d : Int) == 0) = true := by rw [beq_iff_eq]; omega
          have e1 : u64s (ys.take (ys.length - 1)) = (u64s ys).take (ys.length - 1) := by simp [u64s, List.map_take]
          rw [← e1] at htk
          have hl1 : (ys.take (ys.length - 1)).length = ys.length - 1 := by simp
          generalize ys.take (ys.length - 1) = zs at *
          have hzl : zs.length + 1 = ys.length := by omega
          have Htk := hide htk
          have Hst2 := hide hst2
          clear hst2 htk hsp hd0 e1 hd
          go_wp2
          go_round
          case rel => exact ⟨zs, by rw [hl1], by omega, by rw [hl1]; exact unhide Htk, Hst2⟩
          case measure => show ys.length - 1 < ys.length; omega
        · have hq : ((d : Int) == 0) = false := by rw [beq_eq_false_iff_ne]; omega
          have hfin : strip xs = ys := by rw [← unhide hst, hsp, strip_snoc_pos _ _ hd0]
          have Hfin := hide hfin
          clear hfin hsp htk hd0 hd
          go_wp2
          go_ret
          refine ⟨⟨_, rfl, ?_, rfl⟩, rfl⟩
          rw [unhide Hfin]; exact hown
      · have : ys = [] := List.eq_nil_of_length_eq_zero (by omega)
        subst this
        have H := hide hown
        go_wp2
        go_ret
        refine ⟨⟨_, rfl, ?_, rfl⟩, rfl⟩
        rw [← unhide hst]; exact unhide H

/-- the groups of a number, the lowest first -/
def gr (x : Nat) : List Nat := dg 1000000000 x
theorem gr_ofd (x : Nat) : ofd 1000000000 (gr x) = x := ofd_dg (by omega) x
theorem gr_lt (x : Nat) : ∀ d ∈ gr x, d < 1000000000 := dg_lt (by omega) x
theorem gr_zero : gr 0 = [] := dg_zero _
theorem gr_nil {x : Nat} : gr x = [] ↔ x = 0 := dg_eq_nil (by omega)
theorem gr_strip {l : List Nat} (h : ∀ d ∈ l, d < 1000000000) : strip l = gr (ofd 1000000000 l) := strip_eq_dg (by omega) h
theorem gr_len_le {x y : Nat} (h : x ≤ y) : (gr x).length ≤ (gr y).length :=
  dg_len_le (by omega) (Nat.lt_of_le_of_lt h (lt_pow_dg (by omega) y))

/-- a value that holds a number as groups -/
def isNat (w : World) (v : Value) (x : Nat) : Prop := w.ownsRow 0 68 1 v (gr x).length (u64s (gr x))

/-- .. in a block from a number on -/
def isNatB (w : World) (base : Nat) (v : Value) (x : Nat) : Prop := w.ownsRow base 68 1 v (gr x).length (u64s (gr x))
theorem isNatB.nat {w : World} {base : Nat} {v : Value} {x : Nat} (h : isNatB w base v x) : isNat w v x := own_base h (Nat.zero_le _)

theorem isNat_below {w w' : World} {v : Value} {x : Nat} (h : isNat w v x) (hb : Below w.heap.size w w') : isNat w' v x := own_below h hb

/-- a slice of groups that is trimmed, whatever they are -/
theorem trimmed_n (xs : List Nat) (base : Nat) (v : Value) (w : World) (hs : xs.length ≤ 1000000000) (hd : ∀ d ∈ xs, d < 1000000000) (h : w.ownsRow base 68 1 v xs.length (u64s xs)) :
    Calls Tryd.prog 68 #[v] w fun e w' => (∃ v', e = .returned v' ∧ isNatB w base v' (ofd 1000000000 xs)) ∧ w' = w := by
  refine (trimmed_c xs base v w hs h).mono ?_
  rintro e w' ⟨⟨v', rfl, h1, _⟩, rfl⟩
  refine ⟨⟨v', rfl, ?_⟩, rfl⟩
  unfold isNatB
  rw [← gr_strip hd]
  exact h1

set_option maxRecDepth 100000 in
set_option maxHeartbeats 400000 in
theorem isOne_c (x : Nat) (v : Value) (w : World) (h : isNat w v x) (hs : (gr x).length ≤ 1000000000) :
    Calls Tryd.prog 43 #[v] w fun e w' => e = .returned (.bool (decide (x = 1))) ∧ w' = w := by
  have g1 : gr 1 = [1] := by unfold gr; rw [dg_pos (by omega) (by omega)]; simp [dg_zero]
  have hx1 : x = 1 ↔ gr x = [1] := by
    constructor
    · intro hh; rw [hh, g1]
    · intro hh; rw [← gr_ofd x, hh]; simp [ofd]
  unfold isNat at h
  generalize gr x = xs at *
  rcases own_shape h with ⟨rfl, hn, hx⟩ | ⟨g, cap, rfl, hnc, hbg, hgw⟩
  · have hf : decide (x = 1) = false := by
      rw [decide_eq_false_iff_not, hx1]; intro hh; rw [hh] at hn; simp at hn
    rw [hf]
    clear h hn hx hs hx1 hf g1
    go_enter Tryd.func43, Tryd.ntmps43
    go_wp2
    go_ret
    exact ⟨rfl, rfl⟩
  · by_cases hl : xs.length = 1
    · have hc := h.cellAt 0 (by omega)
      rw [u64s_get _ _ (by omega)] at hc
      have hxs : xs = [xs[0]'(by omega)] := by
        match xs, hl with
        | [a], _ => rfl
      generalize xs[0]'(by omega) = a at *
      have hlI : ((xs.length : Int) == 1) = true := by rw [beq_iff_eq]; omega
      have hf : decide (x = 1) = ((a : Int) == 1) := by
        rw [Bool.eq_iff_iff, decide_eq_true_iff, hx1, hxs, beq_iff_eq]
        simp
        omega
      rw [hf]
      have h0 : 0 < xs.length := by omega
      clear hf hxs hx1 h hl g1
      go_enter Tryd.func43, Tryd.ntmps43
      go_wp2
      go_ret
      exact ⟨rfl, rfl⟩
    · have hlI : ((xs.length : Int) == 1) = false := by rw [beq_eq_false_iff_ne]; omega
      have hf : decide (x = 1) = false := by
        rw [decide_eq_false_iff_not, hx1]; intro hh; rw [hh] at hl; simp at hl
      rw [hf]
      clear hf hx1 hl g1
      go_enter Tryd.func43, Tryd.ntmps43
      go_wp2
      go_ret
      exact ⟨rfl, rfl⟩

theorem ofd_split (b : Nat) (l : List Nat) (i : Nat) (h : i < l.length) : ofd b l = ofd b (l.take i) + b ^ i * (l[i] + b * ofd b (l.drop (i + 1))) := by
  have e : l = l.take i ++ (l[i] :: l.drop (i + 1)) := by rw [← List.drop_eq_getElem_cons h, List.take_append_drop]
  conv => lhs; rw [e]
  rw [ofd_append]
  simp only [ofd, List.length_take]
  rw [Nat.min_eq_left (by omega)]

theorem less_at {l m : List Nat} {b i : Nat} (hl : i < l.length) (hm : i < m.length) (hlen : l.length = m.length) (hb : ∀ d ∈ l, d < b) (hup : ∀ t (h1 : t < l.length) (h2 : t < m.length), i < t → l[t] = m[t]) (hlt : l[i] < m[i]) :
    ofd b l < ofd b m := by
  have hdr : l.drop (i + 1) = m.drop (i + 1) := by
    apply List.ext_getElem
    · simp [hlen]
    · intro t h1 h2
      simp only [List.getElem_drop]
      exact hup _ _ _ (by omega)
  rw [ofd_split b l i hl, ofd_split b m i hm, hdr]
  have h1 := ofd_lt (b := b) (l.take i) (fun d hd => hb d (List.mem_of_mem_take hd))
  rw [List.length_take, Nat.min_eq_left (by omega)] at h1
  generalize ofd b (m.drop (i + 1)) = D
  have h2 : b ^ i * (l[i] + b * D + 1) ≤ b ^ i * (m[i] + b * D) := Nat.mul_le_mul_left _ (by omega)
  rw [Nat.mul_add] at h2
  omega

set_option maxRecDepth 100000 in
set_option maxHeartbeats 1000000 in
theorem less_c (x y : Nat) (v u : Value) (w : World) (hx : isNat w v x) (hy : isNat w u y) (hsx : (gr x).length ≤ 1000000) (_hsy : (gr y).length ≤ 1000000) :
    Calls Tryd.prog 83 #[v, u] w fun e w' => e = .returned (.bool (decide (x < y))) ∧ Below w.heap.size w w' := by
  by_cases hlen : (gr x).length = (gr y).length
  · by_cases h0 : (gr x).length = 0
    · have hx0 : x = 0 := gr_nil.1 (List.eq_nil_of_length_eq_zero h0)
      have hy0 : y = 0 := gr_nil.1 (List.eq_nil_of_length_eq_zero (by omega))
      obtain ⟨p1, c1, rfl⟩ := own_slice hx
      obtain ⟨p2, c2, rfl⟩ := own_slice hy
      rw [show decide (x < y) = false from by rw [hx0, hy0]; rfl, ← hlen, h0]
      clear hx hy hlen h0 hsx hx0 hy0
      go_enter Tryd.func83, Tryd.ntmps83
      go_wp2
      refine wp_loop_rounds 1 ?_; rw [rounds_succ]
      go_wp2
      go_ret
      exact ⟨rfl, Below.refl _ _⟩
    · obtain ⟨g, cap, rfl, hnc, _, hgw⟩ := own_some hx (by omega)
      obtain ⟨g2, cap2, rfl, hnc2, _, hgw2⟩ := own_some hy (by omega)
      have hxd := gr_lt x
      have hyd := gr_lt y
      have hxo := gr_ofd x
      have hyo := gr_ofd y
      unfold isNat at hx hy
      generalize gr x = xs at *
      generalize gr y = ys at *
      have Hxd := hide hxd
      have Hyd := hide hyd
      have Hxo := hide hxo
      have Hyo := hide hyo
      have Hlen := hide hlen
      have hneI : ((xs.length : Int) != (ys.length : Int)) = false := by rw [hlen]; simp
      have hleI : (ys.length : Int) = (xs.length : Int) := by omega
      clear hxd hyd hxo hyo
      go_enter Tryd.func83, Tryd.ntmps83
      go_wp2
      go_loopw [5] (fun i wr => ∃ k : Nat, k ≤ xs.length ∧ i = .int .i64 ((k : Int) - 1) ∧ (∃ m, wr = w.drewN m) ∧ Hid (∀ t (h1 : t < xs.length) (h2 : t < ys.length), k ≤ t → xs[t] = ys[t]))
        (fun i _ => ((intOf i) + 1).toNat)
      case atStart => exact ⟨xs.length, Nat.le_refl _, by go_num, ⟨0, rfl⟩, hide (fun t h1 _ h => by omega)⟩
      case round =>
        obtain ⟨k, hk, rfl, ⟨m, rfl⟩, hup⟩ := hrel
        cases k with
        | zero =>
          have hxy : x = y := by
            rw [← unhide Hxo, ← unhide Hyo]
            congr 1
            apply List.ext_getElem (unhide Hlen)
            intro t h1 h2
            exact unhide hup t h1 h2 (Nat.zero_le _)
          rw [show (((0 : Nat) : Int) - 1) = -1 from rfl]
          have hdf : decide (x < y) = false := by rw [hxy]; simp
          have Hdf := hide hdf
          clear hxy hdf
          go_wp2
          go_ret
          exact ⟨ret_bool (unhide Hdf).symm, below_drewN (Below.refl _ _) _⟩
        | succ k =>
          rw [show (((k + 1 : Nat) : Int) - 1) = (k : Int) from by omega]
          have hc1 := hx.cellAt k (by omega)
          have hc2 := hy.cellAt k (by omega)
          rw [u64s_get _ _ (by omega)] at hc1
          rw [u64s_get _ _ (by omega)] at hc2
          have hk2 : (k : Int) < xs.length := by omega
          obtain ⟨xk, hxk⟩ : ∃ a, xs[k]'(by omega) = a := ⟨_, rfl⟩
          obtain ⟨yk, hyk⟩ : ∃ a, ys[k]'(by omega) = a := ⟨_, rfl⟩
          rw [hxk] at hc1
          rw [hyk] at hc2
          have Hxk := hide hxk
          have Hyk := hide hyk
          have hc1' : (w.drewN m).cell? ⟨g, k, none⟩ = some (.int .u64 (xk : Int)) := hc1
          have hc2' : (w.drewN m).cell? ⟨g2, k, none⟩ = some (.int .u64 (yk : Int)) := hc2
          clear hxk hyk
          by_cases heq : xk = yk
          · have hq : ((xk : Int) != (yk : Int)) = false := by rw [heq]; simp
            have Heq := hide heq
            clear heq
            go_wp2
            go_quiet (fail)
            go_wp2
            go_roundw
            case rel =>
              refine ⟨k, by omega, rfl, ⟨m + nq, rfl⟩, ?_⟩
              intro t h1 h2 ht
              by_cases htk : t = k
              · subst htk; rw [unhide Hxk, unhide Hyk]; exact unhide Heq
              · exact unhide hup t h1 h2 (by omega)
            case measure => simp [intOf]
          · have hq : ((xk : Int) != (yk : Int)) = true := by rw [bne_iff_ne]; omega
            have Heq := hide heq
            clear heq
            go_wp2
            go_quiet (fail)
            go_wp2
            go_quiet (fail)
            go_wp2
            go_ret
            refine ⟨ret_bool ?_, below_drewN (below_drewN (below_drewN (Below.refl _ _) _) _) _⟩
            have hup' := unhide hup
            have hne := unhide Heq
            rcases Nat.lt_or_ge xk yk with h1 | h1
            · have := less_at (l := xs) (m := ys) (i := k) (by omega) (by omega) hlen (unhide Hxd) (fun t a b hh => hup' t a b (by omega)) (by rw [unhide Hxk, unhide Hyk]; exact h1)
              rw [unhide Hxo, unhide Hyo] at this
              rw [decide_eq_true this, decide_eq_true h1]
            · have := less_at (l := ys) (m := xs) (i := k) (by omega) (by omega) hlen.symm (unhide Hyd) (fun t a b hh => (hup' t b a (by omega)).symm) (by rw [unhide Hxk, unhide Hyk]; omega)
              rw [unhide Hxo, unhide Hyo] at this
              rw [decide_eq_false (show ¬ x < y by omega), decide_eq_false (show ¬ xk < yk by omega)]
  · have hf : decide (x < y) = decide ((gr x).length < (gr y).length) := by
      rw [Bool.eq_iff_iff, decide_eq_true_iff, decide_eq_true_iff]
      constructor
      · intro h; have := gr_len_le (Nat.le_of_lt h); omega
      · intro h
        rcases Nat.lt_or_ge x y with h1 | h1
        · exact h1
        · have := gr_len_le h1; omega
    rw [hf]
    unfold isNat at hx hy
    have hne : (((gr x).length : Int) != ((gr y).length : Int)) = true := by rw [bne_iff_ne]; omega
    generalize gr x = xs at *
    generalize gr y = ys at *
    obtain ⟨p1, c1, rfl⟩ := own_slice hx
    obtain ⟨p2, c2, rfl⟩ := own_slice hy
    clear hf hlen hx hy
    go_enter Tryd.func83, Tryd.ntmps83
    go_wp2
    go_ret
    exact ⟨rfl, Below.refl _ _⟩
end Go.Proofs.YtijgolgfcgkbiaaDoor
namespace Go.Proofs.YtijgolgfcgkbiaaDoor
open Go.RowKit Nt

theorem mulstep_fit {d f c : Nat} (hd : d < 1000000000) (hf : f < 1000000000) (hc : c < 1000000000) : c + d * f < 1000000000 * 1000000000 := by
  have : d * f ≤ 999999999 * 999999999 := Nat.mul_le_mul (by omega) (by omega)
  omega

/-- one group more of a number times a word -/
theorem tp_step {xs : List Nat} {k : Nat} (hk : k < xs.length) {f c0 c c' d X : Nat} (h : X + c * 1000000000 ^ k = ofd 1000000000 (xs.take k) * f + c0) (he : d + 1000000000 * c' = c + xs[k] * f) :
    X + 1000000000 ^ k * d + c' * 1000000000 ^ (k + 1) = ofd 1000000000 (xs.take (k + 1)) * f + c0 := by
  rw [List.take_succ_eq_append_getElem hk, ofd_snoc, List.length_take, Nat.min_eq_left (by omega), Nat.pow_succ]
  generalize 1000000000 ^ k = p at *
  have h2 := congrArg (p * ·) he
  simp only [Nat.mul_add] at h2
  rw [Nat.add_mul, Nat.mul_assoc]
  have e1 : c' * (p * 1000000000) = p * (1000000000 * c') := by rw [Nat.mul_comm c', Nat.mul_assoc]
  have e2 : c * p = p * c := Nat.mul_comm _ _
  omega


set_option maxRecDepth 100000 in
set_option maxHeartbeats 1000000 in
theorem timesPlus_c (x f c : Nat) (v : Value) (w : World) (hx : isNat w v x) (hs : (gr x).length ≤ 1000000) (hf : f < 1000000000) (hc : c < 1000000000) :
    Calls Tryd.prog 82 #[v, .int .u64 f, .int .u64 c] w fun e w' => (∃ v', e = .returned v' ∧ isNatB w' w.heap.size v' (x * f + c)) ∧ Below w.heap.size w w' := by
  obtain ⟨i0, hi, hz0, hz1, hz2⟩ := info_parts Tryd.infoU64
  have hxd := gr_lt x
  have hxo := gr_ofd x
  unfold isNat at hx
  generalize gr x = xs at *
  obtain ⟨p, cap, rfl⟩ := own_slice hx
  have Hxd := hide hxd
  have Hxo := hide hxo
  have Hx := hide hx
  clear hxd hxo
  go_enter Tryd.func82, Tryd.ntmps82
  go_wp2_with (refine wpList_make_full _ rfl (.tmp 11) (.tmp 11) 53 rfl w.heap.size 68 i0 (.int .u64 0) 1 Tryd.underlying53 hi hz0 hz1 .i64 .i64 ((xs.length + 1 : Nat) : Int) ((xs.length + 1 : Nat) : Int) (xs.length + 1) rfl rfl rfl rfl (by rw [hz2]; omega) (by unfold maxLen; omega) (Nat.le_refl _) ?_; intro w1 hown1 hg1)
  go_loopw [2, 15] (fun cy i wr => ∃ (k c' : Nat) (ys : List Nat), k ≤ xs.length ∧ cy = .int .u64 c' ∧ c' < 1000000000 ∧ i = .int .i64 k ∧ ys.length = xs.length + 1 ∧
      wr.ownsRow w.heap.size 68 1 (.slice (some ⟨w.heap.size, 0, none⟩) (xs.length + 1) (xs.length + 1)) (xs.length + 1) (u64s ys) ∧ Below w.heap.size w wr ∧
      Hid (∀ d ∈ ys, d < 1000000000) ∧ Hid (ofd 1000000000 (ys.take k) + c' * 1000000000 ^ k = ofd 1000000000 (xs.take k) * f + c))
    (fun _ i _ => xs.length - (intOf i).toNat)
  case atStart =>
    refine ⟨0, c, List.replicate (xs.length + 1) 0, Nat.zero_le _, rfl, hc, rfl, by simp, ?_, (Below.refl _ _).grown hg1 (Nat.le_refl _) (fun _ h => by cases h), ?_, ?_⟩
    · simpa [Value.cells, toList_madeCells_one, u64s_zero] using hown1
    · intro d hd; simp at hd; omega
    · show _ = _; simp [ofd]
  case round =>
    clear hown1 hg1
    obtain ⟨k, c', ys, hk, rfl, hc', rfl, hyl, hown, hb, hyd, hval⟩ := hrel
    by_cases hlt : k < xs.length
    · obtain ⟨g, cap', hv, _⟩ := own_some (unhide Hx) (by omega)
      simp only [Value.slice.injEq, true_and] at hv
      obtain ⟨rfl, rfl⟩ := hv
      have hcx := (own_below (unhide Hx) hb).cellAt k (by omega)
      rw [u64s_get _ _ hlt] at hcx
      obtain ⟨v0, hv0⟩ := own_cell_some hown k (by omega)
      have hfr := hown.frozenAt k
      have hxk : xs[k]'hlt < 1000000000 := unhide Hxd _ (List.getElem_mem _)
      have hstep := fun d c2 => @tp_step xs k hlt f c c' c2 d
      generalize xs[k]'hlt = xk at *
      have Hstep := hide hstep
      have hfit := mulstep_fit hxk hf hc'
      generalize hpp : xk * f = pp at *
      have hppI : (xk : Int) * f = pp := by rw [← hpp]; simp
      clear hstep hpp
      obtain ⟨d, hd⟩ : ∃ d : Nat, ((c' : Int) + pp) % 1000000000 = d := ⟨(c' + pp) % 1000000000, by omega⟩
      obtain ⟨c2, hc2⟩ : ∃ d : Nat, ((c' : Int) + pp) / 1000000000 = d := ⟨(c' + pp) / 1000000000, by omega⟩
      have hdl : d < 1000000000 := by omega
      have hcl : c2 < 1000000000 := by omega
      have hsum : Hid (d + 1000000000 * c2 = c' + pp) := by show _ = _; omega
      have hst := hown.stored k (.int .u64 (d : Int))
      rw [u64s_set _ _ d _ rfl] at hst
      have Hst := hide hst
      have hk2 : (k : Int) < (xs.length : Int) + 1 := by omega
      clear hst
      go_wp2
      go_roundw
      case rel =>
        refine ⟨k + 1, c2, ys.set k d, by omega, by rw [hc2], hcl, by go_num, by simpa using hyl, (unhide Hst).1, hb.setCell (by simp) _, set_all (unhide hyd) hdl, ?_⟩
        have h1 := unhide Hstep d c2 (unhide hval) (unhide hsum)
        show _ = _
        rw [← h1]
        congr 1
        rw [show (ys.set k d).take (k + 1) = ys.take k ++ [d] from by
          rw [List.take_succ_eq_append_getElem (by simp; omega), List.take_set_of_le (Nat.le_refl _), List.getElem_set_self], ofd_snoc, List.length_take, Nat.min_eq_left (by omega)]
      case measure => simp [intOf]; omega
    · have hkl : k = xs.length := by omega
      subst hkl
      obtain ⟨v0, hv0⟩ := own_cell_some hown xs.length (by omega)
      have hfr := hown.frozenAt xs.length
      have hst := hown.stored xs.length (.int .u64 (c' : Int))
      rw [u64s_set _ _ c' _ rfl] at hst
      have hbX := hb.setCell (p := ⟨w.heap.size, xs.length, none⟩) (by simp) (.int .u64 (c' : Int))
      have hk2 : (xs.length : Int) < (xs.length : Int) + 1 := by omega
      have hfin : ofd 1000000000 (ys.set xs.length c') = x * f + c := by
        have h1 := unhide hval
        rw [List.take_length, unhide Hxo] at h1
        rw [← h1, show ys.set xs.length c' = ys.take xs.length ++ [c'] from by
          conv => lhs; rw [← List.take_length (l := ys.set xs.length c')]
          rw [List.length_set, hyl, List.take_succ_eq_append_getElem (by simp; omega), List.take_set_of_le (Nat.le_refl _), List.getElem_set_self], ofd_snoc, List.length_take, Nat.min_eq_left (by omega), Nat.mul_comm]
      have hall := set_all (j := xs.length) (v := c') (unhide hyd) hc'
      have hyl2 : (ys.set xs.length c').length = xs.length + 1 := by simpa using hyl
      generalize ys.set xs.length c' = zs at *
      have Hst := hide hst
      have Hfin := hide hfin
      have Hall := hide hall
      clear hst hfin hall
      go_wp2_with fail
      refine (trimmed_n zs w.heap.size _ _ (by omega) (unhide Hall) (by rw [hyl2]; exact (unhide Hst).1)).mono ?_
      rintro e w2 ⟨⟨v', rfl, hv'⟩, rfl⟩
      rw [unhide Hfin] at hv'
      go_wp2
      go_ret
      exact ⟨⟨v', rfl, hv'⟩, hbX⟩

/-- one group of a number divided by a word -/
theorem ow_step {xs : List Nat} {k : Nat} (hk : k < xs.length) {by_ r X q r' : Nat} (h : ofd 1000000000 (xs.drop (k + 1)) = by_ * X + r) (he : r * 1000000000 + xs[k] = by_ * q + r') :
    ofd 1000000000 (xs.drop k) = by_ * (q + 1000000000 * X) + r' := by
  rw [List.drop_eq_getElem_cons hk]
  simp only [ofd]
  rw [h, Nat.mul_add, Nat.mul_add, ← Nat.mul_assoc, Nat.mul_comm 1000000000 by_, Nat.mul_assoc]
  rw [Nat.mul_comm r] at he
  have e : by_ * (1000000000 * X) = 1000000000 * (by_ * X) := by rw [Nat.mul_left_comm]
  omega

theorem ow_end {x b q r : Nat} (h : x = b * q + r) (hr : r < b) : x / b = q ∧ x % b = r := by
  have hb : 0 < b := by omega
  subst h
  rw [Nat.mul_add_div hb, Nat.mul_add_mod, Nat.div_eq_of_lt hr, Nat.mod_eq_of_lt hr]
  exact ⟨by omega, rfl⟩

set_option maxRecDepth 100000 in
set_option maxHeartbeats 1000000 in
theorem overWordB_c (x b : Nat) (v : Value) (w : World) (hx : isNat w v x) (hs : (gr x).length ≤ 1000000) (hb0 : 0 < b) (hb9 : b < 1000000000) :
    Calls Tryd.prog 70 #[v, .int .u64 b] w fun e w' => (∃ v', e = .returned (.tuple #[v', .int .u64 ((x % b : Nat) : Int)]) ∧ isNatB w' w.heap.size v' (x / b)) ∧ Below w.heap.size w w' := by
  obtain ⟨i0, hi, hz0, hz1, hz2⟩ := info_parts Tryd.infoU64
  have hxd := gr_lt x
  have hxo := gr_ofd x
  unfold isNat at hx
  generalize gr x = xs at *
  obtain ⟨p, cap, rfl⟩ := own_slice hx
  have Hxd := hide hxd
  have Hxo := hide hxo
  have Hx := hide hx
  clear hxd hxo
  go_enter Tryd.func70, Tryd.ntmps70
  go_wp2_with (refine wpList_make_full _ rfl (.tmp 10) (.tmp 10) 53 rfl w.heap.size 68 i0 (.int .u64 0) 1 Tryd.underlying53 hi hz0 hz1 .i64 .i64 xs.length xs.length xs.length rfl rfl rfl rfl (by rw [hz2]; omega) (by unfold maxLen; omega) (Nat.le_refl _) ?_; intro w1 hown1 hg1)
  go_loopw [7, 8] (fun lf i wr => ∃ (k r : Nat) (ys : List Nat), k ≤ xs.length ∧ lf = .int .u64 r ∧ r < b ∧ i = .int .i64 ((k : Int) - 1) ∧ ys.length = xs.length ∧
      wr.ownsRow w.heap.size 68 1 (.slice (some ⟨w.heap.size, 0, none⟩) xs.length xs.length) xs.length (u64s ys) ∧ Below w.heap.size w wr ∧
      Hid (∀ d ∈ ys, d < 1000000000) ∧ Hid (ofd 1000000000 (xs.drop k) = b * ofd 1000000000 (ys.drop k) + r))
    (fun _ i _ => ((intOf i) + 1).toNat)
  case atStart =>
    refine ⟨xs.length, 0, List.replicate xs.length 0, Nat.le_refl _, rfl, hb0, by go_num, by simp, ?_, (Below.refl _ _).grown hg1 (Nat.le_refl _) (fun _ h => by cases h), ?_, ?_⟩
    · simpa [Value.cells, toList_madeCells_one, u64s_zero] using hown1
    · intro d hd; simp at hd; omega
    · show _ = _; simp [ofd]
  case round =>
    clear hown1 hg1
    obtain ⟨k, r, ys, hk, rfl, hr, rfl, hyl, hown, hb, hyd, hval⟩ := hrel
    cases k with
    | succ k =>
      rw [show (((k + 1 : Nat) : Int) - 1) = (k : Int) from by omega]
      have hlt : k < xs.length := by omega
      obtain ⟨g, cap', hv, _⟩ := own_some (unhide Hx) (by omega)
      simp only [Value.slice.injEq, true_and] at hv
      obtain ⟨rfl, rfl⟩ := hv
      have hcx := (own_below (unhide Hx) hb).cellAt k (by omega)
      rw [u64s_get _ _ hlt] at hcx
      obtain ⟨v0, hv0⟩ := own_cell_some hown k (by omega)
      have hfr := hown.frozenAt k
      have hxk : xs[k]'hlt < 1000000000 := unhide Hxd _ (List.getElem_mem _)
      have hstep := fun q r' => @ow_step xs k hlt b r (ofd 1000000000 (ys.drop (k + 1))) q r' (unhide hval)
      generalize xs[k]'hlt = xk at *
      have Hstep := hide hstep
      clear hstep
      have hS : r * 1000000000 + xk < b * 1000000000 := by
        have : (r + 1) * 1000000000 ≤ b * 1000000000 := Nat.mul_le_mul_right _ hr
        omega
      have hq9 : (r * 1000000000 + xk) / b < 1000000000 := by
        rw [Nat.div_lt_iff_lt_mul hb0]; omega
      have hrb : (r * 1000000000 + xk) % b < b := Nat.mod_lt _ hb0
      have hdm := Nat.div_add_mod (r * 1000000000 + xk) b
      have hSI : ((r * 1000000000 + xk : Nat) : Int) = (r : Int) * 1000000000 + xk := by simp
      have hqI : ((r : Int) * 1000000000 + xk) / (b : Int) = (((r * 1000000000 + xk) / b : Nat) : Int) := by rw [← hSI]; rfl
      have hrI : ((r : Int) * 1000000000 + xk) % (b : Int) = (((r * 1000000000 + xk) % b : Nat) : Int) := by rw [← hSI]; rfl
      generalize hq : (r * 1000000000 + xk) / b = q at *
      generalize hr' : (r * 1000000000 + xk) % b = r' at *
      have Hdm := hide hdm
      have hst := hown.stored k (.int .u64 (q : Int))
      rw [u64s_set _ _ q _ rfl] at hst
      have Hst := hide hst
      have hkI : (k : Int) < xs.length := by omega
      have hbI : (0 : Int) < b := by omega
      clear hst hdm hSI hq hr'
      go_wp2
      go_roundw
      case rel =>
        refine ⟨k, r', ys.set k q, by omega, by rw [hrI], hrb, rfl, by simpa using hyl, (unhide Hst).1, hb.setCell (by simp) _, set_all (unhide hyd) hq9, ?_⟩
        show _ = _
        rw [unhide Hstep q r' (unhide Hdm).symm, List.drop_eq_getElem_cons (l := ys.set k q) (by simp; omega), List.getElem_set_self, List.drop_set_of_lt (by omega)]
        simp only [ofd]
      case measure => simp [intOf]
    | zero =>
      rw [show (((0 : Nat) : Int) - 1) = -1 from rfl]
      have hfin := ow_end (x := x) (b := b) (q := ofd 1000000000 ys) (r := r) (by rw [← unhide Hxo]; have := unhide hval; simpa using this) hr
      have Hfin := hide hfin
      clear hfin
      go_wp2_with fail
      refine (trimmed_n ys w.heap.size _ _ (by omega) (unhide hyd) (by rw [hyl]; exact hown)).mono ?_
      rintro e w2 ⟨⟨v', rfl, hv'⟩, rfl⟩
      rw [← (unhide Hfin).1] at hv'
      go_wp2
      go_ret2
      refine ⟨⟨v', ?_, hv'⟩, hb⟩
      rw [(unhide Hfin).2]; rfl

theorem overWord_c (x b : Nat) (v : Value) (w : World) (hx : isNat w v x) (hs : (gr x).length ≤ 1000000) (hb0 : 0 < b) (hb9 : b < 1000000000) :
    Calls Tryd.prog 70 #[v, .int .u64 b] w fun e w' => (∃ v', e = .returned (.tuple #[v', .int .u64 ((x % b : Nat) : Int)]) ∧ isNat w' v' (x / b)) ∧ Below w.heap.size w w' := by
  refine (overWordB_c x b v w hx hs hb0 hb9).mono ?_
  rintro e w' ⟨⟨v', h1, h2⟩, h3⟩
  exact ⟨⟨v', h1, h2.nat⟩, h3⟩
end Go.Proofs.YtijgolgfcgkbiaaDoor
namespace Go.Proofs.YtijgolgfcgkbiaaDoor
open Go.RowKit Nt

/-- k groups from the i-th on, as a number -/
def win (L : List Nat) (i k : Nat) : Nat := ofd 1000000000 ((L.drop i).take k)

theorem win_zero (L : List Nat) (i : Nat) : win L i 0 = 0 := by simp [win, ofd]
theorem win_succ (L : List Nat) (i k : Nat) (h : i + k < L.length) : win L i (k + 1) = win L i k + 1000000000 ^ k * L[i + k] := by
  unfold win
  have hl : (L.drop i).length = L.length - i := List.length_drop
  rw [List.take_succ_eq_append_getElem (by omega), ofd_snoc, List.length_take, Nat.min_eq_left (by omega), List.getElem_drop]
theorem win_set (L : List Nat) (i k j d : Nat) (h : i + k ≤ j) : win (L.set j d) i k = win L i k := by
  unfold win
  congr 1
  apply List.ext_getElem
  · simp
  · intro t h1 h2
    simp only [List.getElem_take, List.getElem_drop]
    rw [List.getElem_set_ne]
    simp only [List.length_take, List.length_drop] at h2
    omega

theorem win_put (L : List Nat) (i k d : Nat) (h : i + k < L.length) : win (L.set (i + k) d) i (k + 1) = win L i k + 1000000000 ^ k * d := by
  rw [win_succ _ _ _ (by simpa using h), win_set _ _ _ _ _ (Nat.le_refl _), List.getElem_set_self]

theorem grownBy_trans {w a b : World} {g : Nat} (h : w.grownBy a (some g)) (k : a.grownBy b (some g)) : w.grownBy b (some g) :=
  ⟨k.os.trans h.os, k.tape.trans h.tape, k.output.trans h.output, Nat.le_trans h.size k.size, fun j hj hne => (k.block j (Nat.lt_of_lt_of_le hj h.size) hne).trans (h.block j hj hne)⟩

theorem store_u64 {w wr : World} {base e g N cap : Nat} {L : List Nat} (hown : wr.ownsRow base e 1 (.slice (some ⟨g, 0, none⟩) N cap) N (u64s L)) (hgr : w.grownBy wr (some g)) (j d : Nat) (v : Int) (hv : v = (d : Int)) :
    (wr.setCell ⟨g, j, none⟩ (.int .u64 v)).ownsRow base e 1 (.slice (some ⟨g, 0, none⟩) N cap) N (u64s (L.set j d)) ∧ w.grownBy (wr.setCell ⟨g, j, none⟩ (.int .u64 v)) (some g) := by
  have h := hown.stored j (.int .u64 v)
  rw [u64s_set _ _ d _ hv] at h
  exact ⟨h.1, grownBy_trans hgr h.2⟩

/-- a list in whose window alone something has turned -/
def sameOut (L L' : List Nat) (i k : Nat) : Prop := L'.length = L.length ∧ (∀ d ∈ L', d < 1000000000) ∧ ∀ t (h : t < L.length) (h' : t < L'.length), t < i ∨ i + k ≤ t → L'[t] = L[t]

theorem sameOut_refl {L : List Nat} (h : ∀ d ∈ L, d < 1000000000) (i k : Nat) : sameOut L L i k := ⟨rfl, h, fun _ _ _ _ => rfl⟩
theorem sameOut_set {L L' : List Nat} {i k d : Nat} (h : sameOut L L' i k) (hd : d < 1000000000) : sameOut L (L'.set (i + k) d) i (k + 1) := by
  refine ⟨by simpa using h.1, set_all h.2.1 hd, ?_⟩
  intro t h1 h2 ht
  rw [List.getElem_set_ne (by omega)]
  exact h.2.2 t h1 (by simpa using h2) (by omega)

/-- one group of a take-off -/
theorem takeoff_step {X Y V q o o' y x d : Nat} {j : Nat} (h : X + q * Y = V + o * 1000000000 ^ j) (he : d + (o + y * q) = x + o' * 1000000000) :
    X + 1000000000 ^ j * d + q * (Y + 1000000000 ^ j * y) = V + 1000000000 ^ j * x + o' * 1000000000 ^ (j + 1) := by
  rw [Nat.pow_succ]
  generalize 1000000000 ^ j = p at *
  have h2 := congrArg (p * ·) he
  simp only [Nat.mul_add] at h2
  rw [Nat.mul_add, show q * (p * y) = p * (y * q) from by rw [Nat.mul_left_comm, Nat.mul_comm q y], show o' * (p * 1000000000) = p * (o' * 1000000000) from by rw [Nat.mul_left_comm]]
  rw [Nat.mul_comm o p] at h
  omega

theorem takeoff_fit {y q o : Nat} (hy : y < 1000000000) (hq : q < 1000000000) (ho : o < 1000000000) : o + y * q ≤ 999999999 * 1000000000 := by
  have : y * q ≤ 999999999 * 999999999 := Nat.mul_le_mul (by omega) (by omega)
  omega

set_option maxRecDepth 100000 in
set_option maxHeartbeats 2000000 in
theorem takeOff_c (L ys : List Nat) (g gb i m N cap capb q base : Nat) (w : World) (hm : ys.length = m) (hNl : L.length = N) (hN : N ≤ 2000000) (hi : i + m + 1 ≤ N) (hcap : m + 1 ≤ cap)
    (hL : w.ownsRow base 68 1 (.slice (some ⟨g, 0, none⟩) N N) N (u64s L)) (hY : w.ownsRow 0 68 1 (.slice (some ⟨gb, 0, none⟩) m capb) m (u64s ys)) (hgg : gb ≠ g)
    (hLd : ∀ d ∈ L, d < 1000000000) (hYd : ∀ d ∈ ys, d < 1000000000) (hq : q < 1000000000) :
    Calls Tryd.prog 84 #[.slice (some ⟨g, i, none⟩) (m + 1) cap, .slice (some ⟨gb, 0, none⟩) m capb, .int .u64 q] w fun e w' =>
      ∃ (neg : Bool) (L' : List Nat), e = .returned (.bool neg) ∧ w'.ownsRow base 68 1 (.slice (some ⟨g, 0, none⟩) N N) N (u64s L') ∧ w.grownBy w' (some g) ∧ sameOut L L' i (m + 1) ∧
        win L' i (m + 1) + q * ofd 1000000000 ys = win L i (m + 1) + (if neg then 1000000000 ^ (m + 1) else 0) := by
  have HLd := hide hLd
  have HYd := hide hYd
  have HL := hide hL
  have HY := hide hY
  clear hLd hYd hL hY
  go_enter Tryd.func84, Tryd.ntmps84
  go_wp2
  go_loopw [7, 13] (fun ow j wr => ∃ (k o : Nat) (L' : List Nat), k ≤ m ∧ ow = .int .u64 o ∧ o < 1000000000 ∧ j = .int .i64 k ∧ wr.ownsRow base 68 1 (.slice (some ⟨g, 0, none⟩) N N) N (u64s L') ∧ w.grownBy wr (some g) ∧
      Hid (sameOut L L' i k) ∧ Hid (win L' i k + q * ofd 1000000000 (ys.take k) = win L i k + o * 1000000000 ^ k))
    (fun _ j _ => m - (intOf j).toNat)
  case atStart =>
    exact ⟨0, 0, L, Nat.zero_le _, rfl, by omega, rfl, unhide HL, World.grownBy.refl _ _, hide (sameOut_refl (unhide HLd) _ _), hide (by simp [win_zero, ofd])⟩
  case round =>
    obtain ⟨k, o, L', hk, rfl, ho, rfl, hown, hgr, hso, hval⟩ := hrel
    by_cases hlt : k < m
    · have hL'l : L'.length = N := (unhide hso).1.trans hNl
      have hcy := (unhide HY).kept hgr (.inr (by simp [Value.ownBlock]; omega))
      have hcy := hcy.cellAt k (by omega)
      rw [u64s_get _ _ (by omega)] at hcy
      have hcx := hown.cellAt (i + k) (by omega)
      rw [u64s_get _ _ (by omega)] at hcx
      have hfr := hown.frozenAt (i + k)
      have hy9 : ys[k]'(by omega) < 1000000000 := unhide HYd _ (List.getElem_mem _)
      have hx9 : L'[i + k]'(by omega) < 1000000000 := (unhide hso).2.1 _ (List.getElem_mem _)
      have hxL : L[i + k]'(by omega) = L'[i + k]'(by omega) := ((unhide hso).2.2 (i + k) (by omega) (by omega) (.inr (Nat.le_refl _))).symm
      have hwin := win_succ L i k (by omega)
      have hofd : ofd 1000000000 (ys.take (k + 1)) = ofd 1000000000 (ys.take k) + 1000000000 ^ k * ys[k]'(by omega) := by
        rw [List.take_succ_eq_append_getElem (by omega), ofd_snoc, List.length_take, Nat.min_eq_left (by omega)]
      rw [hxL] at hwin
      generalize ys[k]'(by omega) = y at *
      generalize L'[i + k]'(by omega) = x at *
      have hfit := takeoff_fit hy9 hq ho
      have Hwin := hide hwin
      have Hofd := hide hofd
      have hstep := fun d o' => @takeoff_step (win L' i k) (ofd 1000000000 (ys.take k)) (win L i k) q o o' y x d k (unhide hval)
      generalize hpp : y * q = pp at *
      have hppI : (y : Int) * q = pp := by rw [← hpp]; simp
      have Hstep := hide hstep
      clear hwin hofd hstep hxL hpp
      obtain ⟨t, ht⟩ : ∃ d : Nat, ((o : Int) + pp) % 1000000000 = d := ⟨(o + pp) % 1000000000, by omega⟩
      obtain ⟨c, hc⟩ : ∃ d : Nat, ((o : Int) + pp) / 1000000000 = d := ⟨(o + pp) / 1000000000, by omega⟩
      have hkI : (k : Int) < (m : Int) + 1 := by omega
      have hkI2 : (k : Int) < (m : Int) := by omega
      by_cases hbr : (x : Int) < t
      · obtain ⟨d, hd⟩ : ∃ d : Nat, (x : Int) + 1000000000 - t = d := ⟨x + 1000000000 - t, by omega⟩
        have hst1 := store_u64 hown hgr (i + k) (x + 1000000000) ((x : Int) + 1000000000) (by simp)
        have hst2 := store_u64 hst1.1 hst1.2 (i + k) d ((x : Int) + 1000000000 - t) hd
        rw [List.set_set] at hst2
        have Hst := hide hst2
        have HD := hide hd
        clear hst1 hst2 hd
        go_wp2
        go_roundw
        case rel =>
          refine ⟨k + 1, c + 1, L'.set (i + k) d, by omega, rfl, by omega, by go_num, (unhide Hst).1, (unhide Hst).2, hide (sameOut_set (unhide hso) (by have := unhide HD; omega)), ?_⟩
          show _ = _
          rw [win_put _ _ _ _ (by omega), unhide Hofd, unhide Hwin]
          exact unhide Hstep d (c + 1) (by have := unhide HD; omega)
        case measure => simp [intOf]; omega
      · obtain ⟨d, hd⟩ : ∃ d : Nat, (x : Int) - t = d := ⟨x - t, by omega⟩
        have hst2 := store_u64 hown hgr (i + k) d ((x : Int) - t) hd
        have Hst := hide hst2
        have HD := hide hd
        clear hst2 hd
        go_wp2
        go_roundw
        case rel =>
          refine ⟨k + 1, c, L'.set (i + k) d, by omega, by rw [hc], by omega, by go_num, (unhide Hst).1, (unhide Hst).2, hide (sameOut_set (unhide hso) (by have := unhide HD; omega)), ?_⟩
          show _ = _
          rw [win_put _ _ _ _ (by omega), unhide Hofd, unhide Hwin]
          exact unhide Hstep d c (by have := unhide HD; omega)
        case measure => simp [intOf]; omega
    · have hkm : k = m := by omega
      subst hkm
      have hL'l : L'.length = N := (unhide hso).1.trans hNl
      have hcx := hown.cellAt (i + k) (by omega)
      rw [u64s_get _ _ (by omega)] at hcx
      have hfr := hown.frozenAt (i + k)
      have hx9 : L'[i + k]'(by omega) < 1000000000 := (unhide hso).2.1 _ (List.getElem_mem _)
      have hxL : L[i + k]'(by omega) = L'[i + k]'(by omega) := ((unhide hso).2.2 (i + k) (by omega) (by omega) (.inr (Nat.le_refl _))).symm
      have hwin := win_succ L i k (by omega)
      rw [hxL] at hwin
      generalize L'[i + k]'(by omega) = x at *
      have Hwin := hide hwin
      have hval' := unhide hval
      rw [← hm, List.take_length, hm] at hval'
      have Hval := hide hval'
      clear hwin hxL hval'
      have hkI : (k : Int) < (k : Int) + 1 := by omega
      by_cases hge : o ≤ x
      · obtain ⟨d, hd⟩ : ∃ d : Nat, (x : Int) - o = d := ⟨x - o, by omega⟩
        have hst2 := store_u64 hown hgr (i + k) d ((x : Int) - o) hd
        have Hst := hide hst2
        have HD := hide hd
        clear hst2 hd
        go_wp2
        go_ret
        refine ⟨false, L'.set (i + k) d, rfl, (unhide Hst).1, (unhide Hst).2, sameOut_set (unhide hso) (by have := unhide HD; omega), ?_⟩
        rw [win_put _ _ _ _ (by omega), unhide Hwin]
        have h1 := unhide Hval
        have h2 : x = d + o := by have := unhide HD; omega
        rw [h2, Nat.mul_add]
        rw [Nat.mul_comm o] at h1
        simp only [Bool.false_eq_true, if_false]
        omega
      · obtain ⟨d, hd⟩ : ∃ d : Nat, (x : Int) + (1000000000 - o) = d := ⟨x + (1000000000 - o), by omega⟩
        have hst2 := store_u64 hown hgr (i + k) d ((x : Int) + (1000000000 - o)) hd
        have Hst := hide hst2
        have HD := hide hd
        clear hst2 hd
        go_wp2
        go_ret
        refine ⟨true, L'.set (i + k) d, rfl, (unhide Hst).1, (unhide Hst).2, sameOut_set (unhide hso) (by have := unhide HD; omega), ?_⟩
        rw [win_put _ _ _ _ (by omega), unhide Hwin]
        have h1 := unhide Hval
        have h2 : d + o = x + 1000000000 := by have := unhide HD; omega
        have h3 := congrArg (1000000000 ^ k * ·) h2
        simp only [Nat.mul_add] at h3
        rw [Nat.mul_comm o] at h1
        rw [Nat.pow_succ]
        simp only [if_true]
        omega
end Go.Proofs.YtijgolgfcgkbiaaDoor
namespace Go.Proofs.YtijgolgfcgkbiaaDoor
open Go.RowKit Nt

theorem putback_step {X Y V c c' y x d : Nat} {j : Nat} (h : X + c * 1000000000 ^ j = V + Y) (he : d + 1000000000 * c' = c + (x + y)) :
    X + 1000000000 ^ j * d + c' * 1000000000 ^ (j + 1) = V + 1000000000 ^ j * x + (Y + 1000000000 ^ j * y) := by
  rw [Nat.pow_succ]
  generalize 1000000000 ^ j = p at *
  have h2 := congrArg (p * ·) he
  simp only [Nat.mul_add] at h2
  rw [show c' * (p * 1000000000) = p * (1000000000 * c') from by rw [Nat.mul_left_comm, Nat.mul_comm c']]
  rw [Nat.mul_comm c p] at h
  omega

theorem own_drewN {w : World} {base : Nat} {e : TypeId} {size : Nat} {v : Value} {n : Nat} {xs : List Value} (h : w.ownsRow base e size v n xs) (k : Nat) : (w.drewN k).ownsRow base e size v n xs := h
theorem grownBy_drewN {w wr : World} {r : Option Nat} (h : w.grownBy wr r) (k : Nat) : w.grownBy (wr.drewN k) r := ⟨h.os, h.tape, h.output, h.size, h.block⟩

set_option maxRecDepth 100000 in
set_option maxHeartbeats 2000000 in
theorem putBack_c (L ys : List Nat) (g gb i m N cap capb base : Nat) (w : World) (hm : ys.length = m) (hNl : L.length = N) (hN : N ≤ 2000000) (hi : i + m + 1 ≤ N) (hcap : m + 1 ≤ cap)
    (hL : w.ownsRow base 68 1 (.slice (some ⟨g, 0, none⟩) N N) N (u64s L)) (hY : w.ownsRow 0 68 1 (.slice (some ⟨gb, 0, none⟩) m capb) m (u64s ys)) (hgg : gb ≠ g)
    (hLd : ∀ d ∈ L, d < 1000000000) (hYd : ∀ d ∈ ys, d < 1000000000) :
    Calls Tryd.prog 85 #[.slice (some ⟨g, i, none⟩) (m + 1) cap, .slice (some ⟨gb, 0, none⟩) m capb] w fun e w' =>
      ∃ (up : Bool) (L' : List Nat), e = .returned (.bool up) ∧ w'.ownsRow base 68 1 (.slice (some ⟨g, 0, none⟩) N N) N (u64s L') ∧ w.grownBy w' (some g) ∧ sameOut L L' i (m + 1) ∧
        win L' i (m + 1) + (if up then 1000000000 ^ (m + 1) else 0) = win L i (m + 1) + ofd 1000000000 ys := by
  have HLd := hide hLd
  have HYd := hide hYd
  have HL := hide hL
  have HY := hide hY
  clear hLd hYd hL hY
  go_enter Tryd.func85, Tryd.ntmps85
  go_wp2
  go_loopw [5, 10] (fun cy j wr => ∃ (k c : Nat) (L' : List Nat), k ≤ m ∧ cy = .int .u64 c ∧ c ≤ 1 ∧ j = .int .i64 k ∧ wr.ownsRow base 68 1 (.slice (some ⟨g, 0, none⟩) N N) N (u64s L') ∧ w.grownBy wr (some g) ∧
      Hid (sameOut L L' i k) ∧ Hid (win L' i k + c * 1000000000 ^ k = win L i k + ofd 1000000000 (ys.take k)))
    (fun _ j _ => m - (intOf j).toNat)
  case atStart =>
    exact ⟨0, 0, L, Nat.zero_le _, rfl, by omega, rfl, unhide HL, World.grownBy.refl _ _, hide (sameOut_refl (unhide HLd) _ _), hide (by simp [win_zero, ofd])⟩
  case round =>
    obtain ⟨k, c, L', hk, rfl, hc, rfl, hown, hgr, hso, hval⟩ := hrel
    by_cases hlt : k < m
    · have hL'l : L'.length = N := (unhide hso).1.trans hNl
      have hcy := (unhide HY).kept hgr (.inr (by simp [Value.ownBlock]; omega))
      have hcy := hcy.cellAt k (by omega)
      rw [u64s_get _ _ (by omega)] at hcy
      have hcx := hown.cellAt (i + k) (by omega)
      rw [u64s_get _ _ (by omega)] at hcx
      have hfr := hown.frozenAt (i + k)
      have hy9 : ys[k]'(by omega) < 1000000000 := unhide HYd _ (List.getElem_mem _)
      have hx9 : L'[i + k]'(by omega) < 1000000000 := (unhide hso).2.1 _ (List.getElem_mem _)
      have hxL : L[i + k]'(by omega) = L'[i + k]'(by omega) := ((unhide hso).2.2 (i + k) (by omega) (by omega) (.inr (Nat.le_refl _))).symm
      have hwin := win_succ L i k (by omega)
      have hofd : ofd 1000000000 (ys.take (k + 1)) = ofd 1000000000 (ys.take k) + 1000000000 ^ k * ys[k]'(by omega) := by
        rw [List.take_succ_eq_append_getElem (by omega), ofd_snoc, List.length_take, Nat.min_eq_left (by omega)]
      rw [hxL] at hwin
      generalize ys[k]'(by omega) = y at *
      generalize L'[i + k]'(by omega) = x at *
      have Hwin := hide hwin
      have Hofd := hide hofd
      have hstep := fun d c' => @putback_step (win L' i k) (ofd 1000000000 (ys.take k)) (win L i k) c c' y x d k (unhide hval)
      have Hstep := hide hstep
      clear hwin hofd hstep hxL
      obtain ⟨d, hd⟩ : ∃ d : Nat, ((c : Int) + (x + y)) % 1000000000 = d := ⟨(c + (x + y)) % 1000000000, by omega⟩
      obtain ⟨c2, hc2⟩ : ∃ d : Nat, ((c : Int) + (x + y)) / 1000000000 = d := ⟨(c + (x + y)) / 1000000000, by omega⟩
      have hkI : (k : Int) < (m : Int) + 1 := by omega
      have hkI2 : (k : Int) < (m : Int) := by omega
      have hdl : d < 1000000000 := by omega
      have hsum : Hid (d + 1000000000 * c2 = c + (x + y)) := by show _ = _; omega
      have hc21 : c2 ≤ 1 := by omega
      have hst := fun nq => store_u64 (own_drewN hown nq) (grownBy_drewN hgr nq) (i + k) d (d : Int) rfl
      have Hst := hide hst
      clear hst
      go_wp2
      go_quiet (fail)
      go_wp2
      go_roundw
      case rel =>
        refine ⟨k + 1, c2, L'.set (i + k) d, by omega, by rw [hc2], hc21, by go_num, (unhide Hst nq).1, (unhide Hst nq).2, hide (sameOut_set (unhide hso) hdl), ?_⟩
        show _ = _
        rw [win_put _ _ _ _ (by omega), unhide Hofd, unhide Hwin]
        exact unhide Hstep d c2 (unhide hsum)
      case measure => simp [intOf]; omega
    · have hkm : k = m := by omega
      subst hkm
      have hL'l : L'.length = N := (unhide hso).1.trans hNl
      have hcx := hown.cellAt (i + k) (by omega)
      rw [u64s_get _ _ (by omega)] at hcx
      have hfr := hown.frozenAt (i + k)
      have hx9 : L'[i + k]'(by omega) < 1000000000 := (unhide hso).2.1 _ (List.getElem_mem _)
      have hxL : L[i + k]'(by omega) = L'[i + k]'(by omega) := ((unhide hso).2.2 (i + k) (by omega) (by omega) (.inr (Nat.le_refl _))).symm
      have hwin := win_succ L i k (by omega)
      rw [hxL] at hwin
      generalize L'[i + k]'(by omega) = x at *
      have Hwin := hide hwin
      have hval' := unhide hval
      rw [← hm, List.take_length, hm] at hval'
      have Hval := hide hval'
      clear hwin hxL hval'
      have hkI : (k : Int) < (k : Int) + 1 := by omega
      obtain ⟨d, hd⟩ : ∃ d : Nat, ((c : Int) + x) % 1000000000 = d := ⟨(c + x) % 1000000000, by omega⟩
      have hdl : d < 1000000000 := by omega
      have hst := store_u64 hown hgr (i + k) d (d : Int) rfl
      have Hst := hide hst
      clear hst
      by_cases hup : c + x = 1000000000
      · have hq : ((c : Int) + x == 1000000000) = true := by rw [beq_iff_eq]; omega
        have Hup := hide hup
        clear hup
        go_wp2
        go_ret
        refine ⟨true, L'.set (i + k) d, rfl, (unhide Hst).1, (unhide Hst).2, sameOut_set (unhide hso) hdl, ?_⟩
        rw [win_put _ _ _ _ (by omega), unhide Hwin]
        have h1 := unhide Hval
        have h2 : d = 0 := by have := unhide Hup; omega
        have h3 := congrArg (1000000000 ^ k * ·) (unhide Hup)
        simp only [Nat.mul_add] at h3
        rw [Nat.mul_comm c] at h1
        rw [Nat.pow_succ, h2]
        simp only [if_true]
        omega
      · have hq : ((c : Int) + x == 1000000000) = false := by rw [beq_eq_false_iff_ne]; omega
        have Hup := hide hup
        clear hup
        go_wp2
        go_ret
        refine ⟨false, L'.set (i + k) d, rfl, (unhide Hst).1, (unhide Hst).2, sameOut_set (unhide hso) hdl, ?_⟩
        rw [win_put _ _ _ _ (by omega), unhide Hwin]
        have h1 := unhide Hval
        have h2 : d = c + x := by have := unhide Hup; omega
        rw [h2, Nat.mul_add]
        rw [Nat.mul_comm c] at h1
        simp only [Bool.false_eq_true, if_false]
        omega
end Go.Proofs.YtijgolgfcgkbiaaDoor
namespace Go.Proofs.YtijgolgfcgkbiaaDoor
open Go.RowKit Nt

theorem ofd_take_drop (b : Nat) (l : List Nat) (k : Nat) (h : k ≤ l.length) : ofd b l = ofd b (l.take k) + b ^ k * ofd b (l.drop k) := by
  conv => lhs; rw [← List.take_append_drop k l]
  rw [ofd_append, List.length_take, Nat.min_eq_left h]

theorem top_zero {l : List Nat} {m : Nat} (h : ofd 1000000000 l < 1000000000 ^ m) (hm : m ≤ l.length) : ofd 1000000000 (l.drop m) = 0 ∧ ofd 1000000000 l = ofd 1000000000 (l.take m) := by
  have e := ofd_take_drop 1000000000 l m hm
  rcases Nat.eq_zero_or_pos (ofd 1000000000 (l.drop m)) with h0 | h0
  · exact ⟨h0, by rw [e, h0]; simp⟩
  · have := Nat.mul_le_mul_left (1000000000 ^ m) h0
    omega

theorem guess_ge {V Y top yl p : Nat} (hV : V < (top + 1) * p) (hY : yl * p ≤ Y) (hyl : 0 < yl) : V / Y ≤ top / yl := by
  rw [Nat.le_div_iff_mul_le hyl]
  have h1 : V / Y * (yl * p) ≤ V := Nat.le_trans (Nat.mul_le_mul_left _ hY) (Nat.div_mul_le_self V Y)
  rw [← Nat.mul_assoc] at h1
  have h2 : V / Y * yl * p < (top + 1) * p := by omega
  have := Nat.lt_of_mul_lt_mul_right h2
  omega

/-- what stands at the window and above is below the window's room -/
theorem over_V {L : List Nat} {i m Y : Nat} (hl : i + m + 1 ≤ L.length) (hd : ∀ d ∈ L, d < 1000000000) (hR : ofd 1000000000 (L.drop (i + 1)) < Y) (hY : Y < 1000000000 ^ m) :
    ofd 1000000000 (L.drop i) = win L i (m + 1) ∧ ofd 1000000000 (L.drop (i + m + 1)) = 0 ∧ win L i (m + 1) < 1000000000 * Y := by
  have hi : i < L.length := by omega
  have e : L.drop i = L[i] :: L.drop (i + 1) := List.drop_eq_getElem_cons hi
  have hx : L[i] < 1000000000 := hd _ (List.getElem_mem hi)
  have hV : ofd 1000000000 (L.drop i) < 1000000000 * Y := by
    rw [e]; simp only [ofd]
    have := Nat.mul_le_mul_left 1000000000 (Nat.succ_le_of_lt hR)
    rw [Nat.mul_succ] at this
    omega
  have hV2 : ofd 1000000000 (L.drop i) < 1000000000 ^ (m + 1) := by
    rw [Nat.pow_succ, Nat.mul_comm]
    exact Nat.lt_of_lt_of_le hV (Nat.mul_le_mul_left _ (Nat.le_of_lt hY))
  have ht := top_zero hV2 (by simp; omega)
  rw [List.drop_drop] at ht
  refine ⟨ht.2, ?_, ?_⟩
  · rw [show i + m + 1 = i + (m + 1) from by omega]; exact ht.1
  · rw [← show ofd 1000000000 (L.drop i) = win L i (m + 1) from ht.2]; exact hV

theorem sameOut_take {L L' : List Nat} {i k : Nat} (h : sameOut L L' i k) : L'.take i = L.take i := by
  apply List.ext_getElem
  · simp [h.1]
  · intro t h1 h2
    simp only [List.getElem_take]
    have : t < i := by simp at h1; omega
    exact h.2.2 t _ _ (.inl this)
theorem sameOut_drop {L L' : List Nat} {i k : Nat} (h : sameOut L L' i k) : L'.drop (i + k) = L.drop (i + k) := by
  apply List.ext_getElem
  · simp [h.1]
  · intro t h1 h2
    simp only [List.getElem_drop]
    exact h.2.2 _ _ _ (.inr (by omega))

theorem over_core (b T p li Y D R W q : Nat) (h : li + b * R = W + q * Y) : T + p * li + p * b * (Y * D + R) = T + p * (Y * (q + b * D) + W) := by
  have key : li + b * (Y * D + R) = Y * (q + b * D) + W := by
    rw [Nat.mul_add, Nat.mul_add, Nat.mul_left_comm Y, Nat.mul_comm Y q]
    omega
  rw [← key, Nat.mul_add p, Nat.mul_assoc, Nat.add_assoc]

theorem over_step_b (b : Nat) {L L' O : List Nat} {i Y X q W V : Nat} (hi : i < L.length) (hO : i < O.length)
    (hinv : X = ofd b (L.take (i + 1)) + b ^ (i + 1) * (Y * ofd b (O.drop (i + 1)) + ofd b (L.drop (i + 1))))
    (hV : ofd b (L.drop i) = V) (htk : L'.take i = L.take i) (hW : ofd b (L'.drop i) = W) (hw : W + q * Y = V) :
    X = ofd b (L'.take i) + b ^ i * (Y * ofd b ((O.set i q).drop i) + ofd b (L'.drop i)) := by
  have e : L.drop i = L[i] :: L.drop (i + 1) := List.drop_eq_getElem_cons hi
  rw [e] at hV
  simp only [ofd] at hV
  rw [hW, htk, List.drop_eq_getElem_cons (l := O.set i q) (by simpa using hO), List.getElem_set_self, List.drop_set_of_lt (by omega)]
  simp only [ofd]
  rw [hinv, List.take_succ_eq_append_getElem hi, ofd_snoc, List.length_take, Nat.min_eq_left (by omega), Nat.pow_succ]
  exact over_core b _ _ _ _ _ _ _ _ (hV.trans hw.symm)

theorem over_rest (b : Nat) {L L' : List Nat} {i k : Nat} (hl : i + k ≤ L'.length) (hdr : L'.drop (i + k) = L.drop (i + k)) (h0 : ofd b (L.drop (i + k)) = 0) : ofd b (L'.drop i) = ofd b ((L'.drop i).take k) := by
  rw [ofd_take_drop b (L'.drop i) k (by simp; omega), List.drop_drop, hdr, h0, Nat.mul_zero, Nat.add_zero]

theorem over_step {L L' O : List Nat} {i m Y X q : Nat} (hl : i + m + 1 ≤ L.length) (hO : i < O.length) (hd : ∀ d ∈ L, d < 1000000000) (hY : Y < 1000000000 ^ m)
    (hinv : X = ofd 1000000000 (L.take (i + 1)) + 1000000000 ^ (i + 1) * (Y * ofd 1000000000 (O.drop (i + 1)) + ofd 1000000000 (L.drop (i + 1)))) (hR : ofd 1000000000 (L.drop (i + 1)) < Y)
    (hso : sameOut L L' i (m + 1)) (hw : win L' i (m + 1) + q * Y = win L i (m + 1)) (hlt : win L' i (m + 1) < Y) :
    X = ofd 1000000000 (L'.take i) + 1000000000 ^ i * (Y * ofd 1000000000 ((O.set i q).drop i) + ofd 1000000000 (L'.drop i)) ∧ ofd 1000000000 (L'.drop i) < Y := by
  obtain ⟨h1, h2, _⟩ := over_V hl hd hR hY
  have hL' : ofd 1000000000 (L'.drop i) = win L' i (m + 1) :=
    over_rest 1000000000 (by have := hso.1; omega) (sameOut_drop hso) h2
  have hi : i < L.length := Nat.lt_of_lt_of_le (Nat.lt_of_le_of_lt (Nat.le_add_right i m) (Nat.lt_succ_self _)) hl
  exact ⟨over_step_b 1000000000 hi hO hinv h1 (sameOut_take hso) hL' hw, hL' ▸ hlt⟩

/-- the guess, once it takes off no more than there is -/
theorem over_exact {V Y W q : Nat} (hw : W + q * Y = V) (hq : V / Y ≤ q) (hY : 0 < Y) : W < Y := by
  have h1 : q ≤ V / Y := by
    rw [Nat.le_div_iff_mul_le hY]; omega
  have : q = V / Y := by omega
  have h2 := Nat.div_add_mod V Y
  rw [← this, Nat.mul_comm] at h2
  have := Nat.mod_lt V hY
  omega

theorem over_more {V Y W q p : Nat} (hw : W + q * Y = V + p) (hW : W < p) : V / Y < q := by
  have hY : 0 < Y := by
    rcases Nat.eq_zero_or_pos Y with h | h
    · subst h; simp at hw; omega
    · exact h
  rw [Nat.div_lt_iff_lt_mul hY]
  omega

theorem win_lt {L : List Nat} (hd : ∀ d ∈ L, d < 1000000000) (i k : Nat) (h : i + k ≤ L.length) : win L i k < 1000000000 ^ k := by
  have := ofd_lt (b := 1000000000) ((L.drop i).take k) (fun d hd' => hd d (List.mem_of_mem_drop (List.mem_of_mem_take hd')))
  rw [List.length_take, List.length_drop, Nat.min_eq_left (by omega)] at this
  exact this

/-- the two groups ahead of a window, and what is below them -/
theorem win_top {L : List Nat} (hd : ∀ d ∈ L, d < 1000000000) (i m : Nat) (h : i + (m + 1) < L.length) :
    win L i (m + 1 + 1) < (L[i + (m + 1)] * 1000000000 + L[i + m] + 1) * 1000000000 ^ m := by
  rw [win_succ L i (m + 1) h, win_succ L i m (by omega), Nat.pow_succ]
  have := win_lt hd i m (by omega)
  generalize L[i + (m + 1)] = a
  generalize L[i + m] = b
  generalize 1000000000 ^ m = p at *
  rw [Nat.add_mul, Nat.add_mul, Nat.mul_assoc a, Nat.mul_comm p b, Nat.mul_comm p 1000000000, Nat.mul_comm (1000000000 * p) a]
  omega

theorem top_le {ys : List Nat} {m : Nat} (h : ys.length = m + 1) : ys[m] * 1000000000 ^ m ≤ ofd 1000000000 ys := by
  have := ofd_ge 1000000000 ys m (by omega)
  rw [Nat.mul_comm]; exact this

/-- the scale -/
theorem scale_pos {y : Nat} (h : y < 1000000000) : 0 < 1000000000 / (y + 1) := Nat.div_pos (by omega) (by omega)
theorem scale_lt {y : Nat} (h : 0 < y) : 1000000000 / (y + 1) < 1000000000 := Nat.div_lt_self (by omega) (by omega)

/-- made greater, it has as many groups -/
theorem scaled_len {y s m : Nat} {ys : List Nat} (hy : ys = gr y) (hm : ys.length = m + 1) (hs : 1000000000 / (ys[m] + 1) = s) (hs0 : 0 < s) : (gr (y * s)).length = m + 1 ∧ y * s < 1000000000 ^ (m + 1) := by
  have hyd : ∀ d ∈ ys, d < 1000000000 := by rw [hy]; exact gr_lt y
  have hyo : ofd 1000000000 ys = y := by rw [hy]; exact gr_ofd y
  have h1 : y < (ys[m] + 1) * 1000000000 ^ m := by
    have e := ofd_split 1000000000 ys m (by omega)
    rw [show ys.drop (m + 1) = [] from List.drop_eq_nil_of_le (by omega)] at e
    simp only [ofd, Nat.mul_zero, Nat.add_zero] at e
    have h2 := ofd_lt (b := 1000000000) (ys.take m) (fun d hd => hyd d (List.mem_of_mem_take hd))
    rw [List.length_take, Nat.min_eq_left (by omega)] at h2
    rw [hyo] at e
    rw [Nat.add_mul, e, Nat.mul_comm]
    omega
  have h3 : (ys[m] + 1) * s ≤ 1000000000 := by rw [← hs, Nat.mul_comm]; exact Nat.div_mul_le_self _ _
  have h4 : y * s < 1000000000 ^ (m + 1) := by
    have h5 : y * s < (ys[m] + 1) * 1000000000 ^ m * s := Nat.mul_lt_mul_of_pos_right h1 hs0
    rw [Nat.mul_right_comm] at h5
    have h6 : (ys[m] + 1) * s * 1000000000 ^ m ≤ 1000000000 * 1000000000 ^ m := Nat.mul_le_mul_right _ h3
    rw [Nat.pow_succ, Nat.mul_comm (1000000000 ^ m)]
    omega
  refine ⟨?_, h4⟩
  have h7 : (gr (y * s)).length ≤ m + 1 := dg_len_le (by omega) h4
  have h8 : (gr y).length ≤ (gr (y * s)).length := gr_len_le (Nat.le_mul_of_pos_right y hs0)
  rw [← hy] at h8
  omega

theorem pow_len_le {y m : Nat} (h : (gr y).length = m + 1) : 1000000000 ^ m ≤ y := by
  rcases Nat.lt_or_ge y (1000000000 ^ m) with h1 | h1
  · have := dg_len_le (b := 1000000000) (by omega) h1
    unfold gr at h; omega
  · exact h1

/-- the beginning: what is above the first window is below the divisor -/
theorem over_start {x y s n m : Nat} {L : List Nat} (hx : (gr x).length = n) (hy : (gr y).length = m + 1) (hmn : m + 1 ≤ n) (hL : ofd 1000000000 L = x * s) (hLl : L.length = n + 1) (hs0 : 0 < s) :
    ofd 1000000000 (L.drop (n - m)) < y * s := by
  have h1 : x < 1000000000 ^ n := by rw [← hx]; exact lt_pow_dg (by omega) x
  have h2 := pow_len_le hy
  have e := ofd_take_drop 1000000000 L (n - m) (by omega)
  rw [hL] at e
  have h3 : 1000000000 ^ (n - m) * ofd 1000000000 (L.drop (n - m)) ≤ x * s := by omega
  have h4 : x * s < 1000000000 ^ n * s := Nat.mul_lt_mul_of_pos_right h1 hs0
  have h5 : 1000000000 ^ n * s = 1000000000 ^ (n - m) * (1000000000 ^ m * s) := by
    rw [← Nat.mul_assoc, ← Nat.pow_add]; congr 2; omega
  have h6 : 1000000000 ^ (n - m) * (1000000000 ^ m * s) ≤ 1000000000 ^ (n - m) * (y * s) := Nat.mul_le_mul_left _ (Nat.mul_le_mul_right _ h2)
  have h7 : 1000000000 ^ (n - m) * ofd 1000000000 (L.drop (n - m)) < 1000000000 ^ (n - m) * (y * s) := by omega
  exact Nat.lt_of_mul_lt_mul_left h7

/-- the end -/
theorem over_end {x y s Q R : Nat} (h : x * s = y * s * Q + R) (hR : R < y * s) (hs : 0 < s) : x / y = Q ∧ R / s = x % y := by
  have hy : 0 < y := by
    rcases Nat.eq_zero_or_pos y with h0 | h0
    · subst h0; simp at hR
    · exact h0
  have hQ : x / y = Q := by
    have h1 : x * s / (y * s) = Q := (ow_end h hR).1
    rwa [Nat.mul_div_mul_right _ _ hs] at h1
  refine ⟨hQ, ?_⟩
  have h2 : x * s % (y * s) = R := (ow_end h hR).2
  rw [Nat.mul_mod_mul_right] at h2
  rw [← h2, Nat.mul_div_cancel _ hs]
end Go.Proofs.YtijgolgfcgkbiaaDoor
