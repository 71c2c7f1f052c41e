/- A part of the proof, put together out of smaller texts. -/
import Derived.Test.YtpbnmhnbkfnaeaaGreatDoorM9
import Derived.Handy
import Derived.Deep.RegionWith
import Derived.Deep.RegionLaw
import Derived.Shelf.LaysM
import Derived.Shelf.Strconv.Clone
import Derived.Deep.RegionHeldLaw
import Derived.Deep.Cut
import Derived.Deep.CutRange
import Derived.Deep.RegionHeld3
set_option linter.all false
set_option maxRecDepth 100000
set_option maxHeartbeats 32000000
namespace Go.Proofs.YtpbnmhnbkfnaeaaGreatDoor
open Go.RowKit Nt
theorem zbL (d : Nat) (h : d < 16) : ((⟨#[48, 49, 50, 51, 52, 53, 54, 55, 56, 57, 97, 98, 99, 100, 101, 102]⟩ : ByteArray)[d]'h).toNat = (sg d).toNat := by
 rcases d with _ | _ | _ | _ | _ | _ | _ | _ | _ | _ | _ | _ | _ | _ | _ | _ | d
 all_goals first | rfl | omega
theorem Jz (x b : Nat) (v : Value) (w : World) (hx : isNat w v x) (hs : (gr x).length ≤ 100000) (hb2 : 2 ≤ b) (hb16 : b ≤ 16) (hsd : (dg b x).length ≤ 1000000) :
  Calls Tryz.prog 251 #[.int .i64 b, v] w fun e w' => e = .returned (.string (txt b x)) ∧ Below w.heap.size w w' := by
 obtain ⟨i0, hi, hz0, hz1, hz2⟩ := info_parts Tryz.infoByte
 obtain ⟨p, cap, hv⟩ := zt hx
 subst hv
 by_cases hz : x = 0
 ·subst hz
  have h0 : txt b 0 = ⟨#[48]⟩ := by unfold txt; rw [qh]; rfl
  rw [ji, h0]
  clear hx hs
  go_enter Tryz.func251, Tryz.ntmps251
  go_wp2
  go_ret
  exact ⟨rfl, Below.refl _ _⟩
 ·have hn0 : 0 < (gr x).length := by have := mt vY.1 hz; omega
  have hnI : (((gr x).length : Int) == 0) = false := by rw [beq_eq_false_iff_ne]; omega
  have e1 := wu64 (b : Int) (by omega) (by omega)
  have Hx := hide hx
  have Hz := hide hz
  clear hx hz
  go_enter Tryz.func251, Tryz.ntmps251
  go_wp2
  go_loopw [1, 5, 6, 7] (fun n out _ _ wr => ∃ (k : Nat) (ls : List Nat), k ≤ x ∧ isNat wr n k ∧ wr.ownsRow w.heap.size 5 1 out ls.length ((ls.map sg).map u8v) ∧ Below w.heap.size w wr ∧ Hid (dg b x = ls ++ dg b k))
   (fun _ out _ _ _ => (dg b x).length - lenV out)
  case atStart =>
   exact ⟨x, [], Nat.le_refl _, zr (za Hx) ((Below.refl _ _).alloc (Nat.le_refl _) _), World.ownsRow_made w #[] 0 (Nat.le_refl _) (by decide) (by simp), (Below.refl _ _).alloc (Nat.le_refl _) _, hide (by simp)⟩
  case round =>
   obtain ⟨k, ls, hk, hnat, hown, hb, hdg⟩ := hrel
   obtain ⟨pk, ck, hvk⟩ := zt hnat
   subst hvk
   obtain ⟨po, co, hvo⟩ := zt hown
   subst hvo
   by_cases hk0 : k = 0
   ·have hl0 : ¬ (0 : Int) < ((gr k).length : Int) := by rw [hk0, ji]; simp
    have hfin : ls = dg b x := by rw [za hdg, hk0, qJ, List.append_nil]
    have hls : 0 < ls.length := by
     rcases Nat.eq_zero_or_pos ls.length with h | h
     ·have h' : ls = [] := List.eq_nil_of_length_eq_zero h
      rw [h'] at hfin
      exact absurd ((yU hb2).1 hfin.symm) (za Hz)
     ·exact h
    have hsl : ls.length ≤ 1000000 := by rw [hfin]; exact hsd
    obtain ⟨g, cap', hvv, hcc, hbg, hgw⟩ := qn hown hls
    simp only [Value.slice.injEq, true_and] at hvv
    obtain ⟨rfl, rfl⟩ := hvv
    have Hfin := hide hfin
    have hrv := QK (ls.map sg) g co w.heap.size wr (by rw [List.length_map]; omega) (by rw [List.length_map]; exact hown)
    rw [List.length_map] at hrv
    have Hrv := hide hrv
    clear hrv hown hfin
    go_wp2_with fail
    refine (za Hrv).mono ?_
    rintro e w3 ⟨rfl, hown3, hg3⟩
    have hbX := hb.grown hg3 hb.size (fun k hk => by cases hk; omega)
    have hconv := qx (dst := 9) Tryz.underlying22 Tryz.underlying5 Tryz.underlying9 hown3
    have hfin2 : B (ls.map sg).reverse = txt b x := by unfold txt; rw [ja (za Hz), ← za Hfin]
    rw [hfin2] at hconv
    clear hfin2 hown3 hg3 Hrv
    go_wp2
    go_ret
    exact ⟨rfl, hbX⟩
   ·have hl0 : (0 : Int) < ((gr k).length : Int) := by have := mt vY.1 hk0; omega
    have hgk := jc hk
    have hpos := jQ (b := b) hb2 (show 0 < k by omega)
    have hdl : k % b < 16 := Nat.lt_of_lt_of_le (Nat.mod_lt _ (by omega)) hb16
    have hqk : k / b ≤ x := Nat.le_trans (Nat.div_le_self _ _) hk
    have hdg2 : dg b x = (ls ++ [k % b]) ++ dg b (k / b) := by rw [za hdg, hpos]; simp
    have Hdg2 := hide hdg2
    have hll := congrArg List.length hdg2
    rw [List.length_append, List.length_append] at hll
    clear hpos hdg2
    go_wp2_with fail
    have h := xD k b _ wr hnat (by omega) (by omega) (by omega)
    refine h.mono ?_
    clear h
    rintro e w2 ⟨⟨v2, rfl, hv2⟩, hb2'⟩
    have hown2 := zr hown hb2'
    have hbw := hb.trans (hb2'.mono hb.size)
    have hhex := zbL (k % b) hdl
    unfold isNatB at hv2
    have hne : v2.ownBlock = none ∨ v2.ownBlock ≠ (Value.slice po ls.length co).ownBlock := by
     by_cases hh : v2.ownBlock = none
     ·exact .inl hh
     ·refine .inr (fun he => ?_)
      obtain ⟨g, hg⟩ := Option.ne_none_iff_exists'.1 hh
      have h1 := (hv2.lt g hg).1
      have h2 := (hown.lt g (he ▸ hg)).2
      omega
    have Hne := hide hne
    clear hne
    have Hv2 := hide hv2
    generalize k % b = d at *
    have hw := hbw.size
    have e8 : (sg d).toNat < 256 := (sg d).toNat_lt
    clear hv2 hnat hown
    go_wp2_with (at_builtin; refine wpList_append_own _ rfl (.tmp 22) (.tmp 25) 22 rfl w.heap.size 5 i0 (.int .u8 0) 1 1 Tryz.underlying22 hi hz0 hz1 hz2 rfl (by decide) _ _ _ rfl (hown2.alloc _) ⟨w2.heap.size, 0, none⟩ 1 1 [.int .u8 ((sg d).toNat : Int)] rfl rfl (cell_one_new _ _ _) (by intro u hu; simp at hu; subst hu; rfl) (by unfold maxLen; omega) (by omega) (by simp; omega) ?_; intro v3 w3 hown3 hg3 _)
    have hbX := zw (hbw.alloc hw _) (hown2.alloc _) hg3 (by simp <;> omega)
    obtain ⟨p3, c3, hv3⟩ := zt hown3
    subst hv3
    go_roundw
    case rel =>
     refine ⟨k / b, ls ++ [d], hqk, ?_, ?_, hbX, Hdg2⟩
     ·exact zK (((za Hv2).alloc _).kept hg3 (za Hne)) (Nat.zero_le _)
     ·rw [List.length_append, List.map_append, List.map_append]
      exact hown3
    case measure =>
     show (dg b x).length - (ls.length + 1) < (dg b x).length - ls.length
     simp at hll
     omega
theorem zaf (b x : Nat) : (dg b x).length ≤ (txl b x).length := by
 unfold txl
 by_cases h : x = 0
 ·rw [if_pos h, h, qJ]; simp
 ·rw [if_neg h]; simp
theorem xK (neg : Bool) (u d : List UInt8) (r : Int) (w : World) (hsu : u.length ≤ 1000000000) (hsd : d.length ≤ 1000000000) (h : (okM neg u d && zJ r) = false) (hT : Tens w) :
  Calls Tryz.prog 249 #[numB neg u d, .int .i64 r] w fun e w' => e = .returned (.string (B (zU neg u d r))) ∧ Below w.heap.size w w' := by
 have Hf : Hid (B (zU neg u d r) = ⟨#[]⟩) := by show _ = _; unfold zU; rw [h]; rfl
 have h1 := fun w hT => jm neg u d w hsu hsd hT
 have HT := hide hT
 unfold numB at *
 clear hT
 cases hr : zJ r with
 | false =>
  clear h h1
  go_enter Tryz.func249, Tryz.ntmps249
  go_wp2_with fail
  refine (vr r _).mono ?_
  rintro e w2 ⟨rfl, rfl⟩
  rw [hr]
  go_wp2
  go_ret
  exact ⟨zT (za Hf).symm, (Below.refl _ _).alloc (Nat.le_refl _) _⟩
 | true =>
  rw [hr, Bool.and_true] at h
  rw [h] at h1
  have H1 := hide h1
  clear h h1
  go_enter Tryz.func249, Tryz.ntmps249
  go_wp2_with fail
  refine (vr r _).mono ?_
  rintro e w2 ⟨rfl, rfl⟩
  rw [hr]
  go_wp2_with fail
  refine (za H1 _ ((za HT).below ((Below.refl _ _).alloc (Nat.le_refl _) _))).mono ?_
  rintro e w1 ⟨rfl, hb1⟩
  have hb0 := zn hb1
  go_wp2
  go_ret
  exact ⟨zT (za Hf).symm, zm hb0⟩
theorem xj (neg : Bool) (u d : List UInt8) (b : Nat) (w : World) (hok : okM neg u d = true) (hb4 : b = 2 ∨ b = 8 ∨ b = 10 ∨ b = 16) (hT : Tens w) :
  Calls Tryz.prog 249 #[numB neg u d, .int .i64 b] w fun e w' => e = .returned (.string (B (zU neg u d b))) ∧ Below w.heap.size w w' := by
 have hr : zJ (b : Int) = true := by rcases hb4 with rfl | rfl | rfl | rfl <;> rfl
 obtain ⟨h3, h4, hu, hd, hd0, hn0, _⟩ := qK hok
 have h1 := fun w hT => jm neg u d w (by omega) (by omega) hT
 rw [hok] at h1
 have Hf : Hid (zU neg u d b = prM neg (zy u) (zy d) b) := by show _ = _; unfold zU; rw [hok, hr]; simp
 have Bu : B u = dec (zy u) := by unfold dec txt; rw [← qj h3]
 have Bd : B d = dec (zy d) := by unfold dec txt; rw [← qj h4]
 have hau := zi u
 have had := zi d
 unfold numB at *
 rw [Bu, Bd] at h1
 rw [Bu] at hau
 rw [Bd] at had
 rw [Bu, Bd]
 generalize zy u = a at *
 generalize zy d = q at *
 have hau60 : (dec a).size ≤ 60 := by omega
 have had60 : (dec q).size ≤ 60 := by omega
 have hq1 := Jl q
 have hta := vJ (b := b) (by omega) hau60
 have htq := vJ (b := b) (by omega) had60
 have hta' : (txl b a).length ≤ 240 := by unfold txt at hta; rwa [zi] at hta
 have htq' : (txl b q).length ≤ 240 := by unfold txt at htq; rwa [zi] at htq
 have hda := zaf b a
 have hdq := zaf b q
 have hga := jS hau60
 have hgq := jS had60
 have H1 := hide h1
 have HT := hide hT
 clear h1 Bu Bd h3 h4 hok hau had hn0 hT
 go_enter Tryz.func249, Tryz.ntmps249
 go_wp2_with fail
 refine (vr b _).mono ?_
 rintro e w2 ⟨rfl, rfl⟩
 rw [hr]
 go_wp2_with fail
 refine (za H1 _ ((za HT).below ((Below.refl _ _).alloc (Nat.le_refl _) _))).mono ?_
 rintro e w1 ⟨rfl, hb1⟩
 have hb0 := zn hb1
 have hz0 : w.heap.size + 1 ≤ w1.heap.size := by have := hb1.size; simpa using this
 have c0 := zb hb0 0
 have c1 := zb hb0 1
 have c2 := zb hb0 2
 simp at c0 c1 c2
 go_wp2_with fail
 have h := jC a w1 (by omega) ((za HT).below (zm hb0))
 refine h.mono ?_
 clear h
 rintro e w2 ⟨⟨v2, rfl, hv2⟩, hb2⟩
 have hn2 := zk hb0 hz0 hb2
 have Hv2 := hide hv2
 clear hv2
 go_wp2_with fail
 have h := Jz a b v2 w2 (za Hv2) (by omega) (by omega) (by omega) (by omega)
 refine h.mono ?_
 clear h
 rintro e w3 ⟨rfl, hb3⟩
 have hn3 := zk hn2.1 hn2.2 hb3
 clear c0 c1 c2 hb1 hb0 hz0 hb2 hn2 hb3
 have c0 := zb hn3.1 0
 have c1 := zb hn3.1 1
 have c2 := zb hn3.1 2
 simp at c0 c1 c2
 have hs47 : (⟨#[47]⟩ ++ txt b q : ByteArray).size = 1 + (txt b q).size := by rw [ByteArray.size_append]; rfl
 by_cases hone : q = 1
 ·rw [decide_eq_true hone] at hq1
  cases neg with
  | false =>
   have Hf2 : Hid (B (zU false u d b) = txt b a) := by show _ = _; rw [za Hf]; simp [prM, hone, txt]
   clear hone
   go_wp2
   go_ret
   exact ⟨zT (za Hf2).symm, zm hn3.1⟩
  | true =>
   have Hf2 : Hid (B (zU true u d b) = ⟨#[45]⟩ ++ txt b a) := by
    show _ = _; rw [za Hf, show (⟨#[45]⟩ : ByteArray) = B [45] from rfl]; unfold txt; rw [zN]; simp [prM, hone]
   have hns : ¬ 9223372036854775807 < 1 + (txt b a).size := by omega
   clear hone
   go_wp2
   go_ret
   exact ⟨zT (za Hf2).symm, zm hn3.1⟩
 ·rw [decide_eq_false hone] at hq1
  cases neg with
  | false =>
   have Hf2 : Hid (B (zU false u d b) = txt b a ++ (⟨#[47]⟩ ++ txt b q)) := by
    show _ = _; rw [za Hf, show (⟨#[47]⟩ : ByteArray) = B [47] from rfl]; unfold txt; rw [zN, zN]; simp [prM, hone]
   clear hone
   go_wp2_with fail
   have h := jC q w3 (by omega) ((za HT).below (zm hn3.1))
   refine h.mono ?_
   clear h
   rintro e w4 ⟨⟨v4, rfl, hv4⟩, hb4'⟩
   have hn4 := zk hn3.1 hn3.2 hb4'
   have Hv4 := hide hv4
   clear hv4
   go_wp2_with fail
   have h := Jz q b v4 w4 (za Hv4) (by omega) (by omega) (by omega) (by omega)
   refine h.mono ?_
   clear h
   rintro e w5 ⟨rfl, hb5⟩
   have hn5 := zk hn4.1 hn4.2 hb5
   go_wp2
   go_ret
   exact ⟨zT (za Hf2).symm, zm hn5.1⟩
  | true =>
   have Hf2 : Hid (B (zU true u d b) = (⟨#[45]⟩ ++ txt b a) ++ (⟨#[47]⟩ ++ txt b q)) := by
    show _ = _; rw [za Hf, show (⟨#[47]⟩ : ByteArray) = B [47] from rfl, show (⟨#[45]⟩ : ByteArray) = B [45] from rfl]; unfold txt; rw [zN, zN, zN]; simp [prM, hone]
   have hns : ¬ 9223372036854775807 < 1 + (txt b a).size := by omega
   clear hone
   go_wp2_with fail
   have h := jC q w3 (by omega) ((za HT).below (zm hn3.1))
   refine h.mono ?_
   clear h
   rintro e w4 ⟨⟨v4, rfl, hv4⟩, hb4'⟩
   have hn4 := zk hn3.1 hn3.2 hb4'
   have Hv4 := hide hv4
   clear hv4
   go_wp2_with fail
   have h := Jz q b v4 w4 (za Hv4) (by omega) (by omega) (by omega) (by omega)
   refine h.mono ?_
   clear h
   rintro e w5 ⟨rfl, hb5⟩
   have hn5 := zk hn4.1 hn4.2 hb5
   go_wp2
   go_ret
   exact ⟨zT (za Hf2).symm, zm hn5.1⟩
theorem ZJ (neg : Bool) (u d : List UInt8) (r : Int) (w : World) (hsu : u.length ≤ 1000000000) (hsd : d.length ≤ 1000000000) (hT : Tens w) :
  Calls Tryz.prog 249 #[numB neg u d, .int .i64 r] w fun e w' => e = .returned (.string (B (zU neg u d r))) ∧ Below w.heap.size w w' := by
 cases h : okM neg u d && zJ r with
 | false => exact xK neg u d r w hsu hsd h hT
 | true =>
  simp only [Bool.and_eq_true] at h
  obtain ⟨b, rfl, hb4⟩ := jN h.2
  exact xj neg u d b w h.1 hb4 hT
def tokM (l : List UInt8) : (Int × Int × List UInt8) × Bool :=
 if l = [46] then ((3, 0, []), true) else match zu l 10 with
  | some p => ((10, 1, jA p), true)
  | none => ((10, 2, l), wordM l)
theorem V8 (s : Int) (t : List UInt8) : ju s t = ((tokM (headW t)).2 && decide ((tokM (headW t)).1 = (10, s, t))) := by
 unfold ju tokM
 by_cases h : headW t = [46]
 ·rw [if_pos h, if_pos h]
  simp
 ·rw [if_neg h, if_neg h]
  cases zu (headW t) 10 with
  | some p =>
   simp only [Bool.true_and]
   rw [Bool.eq_iff_iff]
   simp only [Bool.and_eq_true, decide_eq_true_eq, Prod.mk.injEq, true_and]
   constructor
   ·rintro ⟨h1, h2⟩; exact ⟨h1.symm, h2⟩
   ·rintro ⟨h1, h2⟩; exact ⟨h1.symm, h2⟩
  | none =>
   rw [Bool.eq_iff_iff]
   simp only [Bool.and_eq_true, decide_eq_true_eq, Prod.mk.injEq, true_and]
   constructor
   ·rintro ⟨⟨h1, h2⟩, h3⟩; exact ⟨h3, h1.symm, h2⟩
   ·rintro ⟨h3, h1, h2⟩; exact ⟨⟨h1.symm, h2⟩, h3⟩
def tokV (k : Int × Int × List UInt8) : Value := .agg #[.int .i64 k.1, .int .i64 k.2.1, .string (B k.2.2), .int .i64 0]
theorem Kz (W : World) (x y : Operand) (xs ys : Array Value) : (eqGuard .eql 192 x y (.agg xs) (.agg ys)).run Tryz.prog W = .ok () W := run_eqGuard_agg W .eql 192 x y xs ys (by kernel_rfl)
theorem zbW (W : World) (k k' : Int × Int × List UInt8) : (binOp .eql 192 (tokV k) (tokV k')).run Tryz.prog W = .ok (.bool (decide (k = k'))) W := by
 obtain ⟨a, b, l⟩ := k
 obtain ⟨a', b', l'⟩ := k'
 have hp : Tryz.prog.stoodInHeld 192 = false := by kernel_rfl
 unfold tokV
 rw [run_eql_struct]
 rw [show (10000 : Nat) = 9999 + 1 from rfl, run_equalIn_agg W 9999 192 _ _ (by kernel_rfl) hp]
 simp [go_sem, Op.eqFields, Program.fieldsOf, Tryz.underlying192, part, Tryz.underlying3, Tryz.underlying9, B_tl]
 by_cases h1 : a = a' <;> by_cases h2 : b = b' <;> by_cases h3 : l = l' <;> simp [h1, h2, h3]
theorem y6 (s : Int) (t : List UInt8) (w : World) :
  Calls Tryz.prog 166 #[.int .i64 s, .string (B t)] w fun e w' => e = .returned (tokV (10, s, t)) ∧ Below w.heap.size w w' := by
 have HB := hide (zf (Below.refl w.heap.size w) (.cells #[.int .i64 10, .int .i64 s, .string (B t), .int .i64 0] 192))
 go_enter Tryz.func166, Tryz.ntmps166
 go_wp2_with fail
 refine bodyPost_ret (v := tokV (10, s, t)) (by simp [results, Tryz.results166, go_sem, tokV]) rfl ⟨rfl, ?_⟩
 exact za HB
theorem za1 (l : List UInt8) (w : World) (hs : l.length ≤ 1048576) (hT : Tabz w) (hN : Tens w) (h2 : 3 < w.heap.size) :
  Calls Tryz.prog 248 #[.agg #[.string (B l)]] w fun e w' => e = .returned (.tuple #[tokV (tokM l).1, .bool (tokM l).2]) ∧ Below w.heap.size w w' := by
 have hb0 := zf (zf (Below.refl w.heap.size w) (.cells #[.string (B l)] 222)) (.cells #[.int .i64 0, .int .i64 0, .string ⟨#[]⟩, .int .i64 0] 192)
 have HB0 := hide hb0
 have HC0 := hide (AtC.new (w.alloc (.cells #[.string (B l)] 222)) #[.int .i64 0, .int .i64 0, .string ⟨#[]⟩, .int .i64 0] 192)
 rw [World.size_alloc] at HC0
 by_cases h46 : l = [46]
 ·have e1 : ((B l).toList == [46]) = true := by rw [h46]; exact (by rw [B_tl]; rfl)
  have HQ : Hid (tokM l = ((3, 0, []), true)) := hide (by unfold tokM; rw [if_pos h46])
  have HBB := hide (zf (zf (Below.refl w.heap.size w) (.cells #[.string (B l)] 222)) (.cells #[.int .i64 3, .int .i64 0, .string ⟨#[]⟩, .int .i64 0] 192))
  clear h46 hb0
  go_enter Tryz.func248, Tryz.ntmps248
  go_wp2_with fail
  refine bodyPost_ret (v := .tuple #[tokV (3, 0, []), .bool true]) (by simp [results, Tryz.results248, go_sem, tokV]; rfl) rfl ⟨by rw [za HQ], ?_⟩
  exact za HBB
 ·have e1 : ((B l).toList == [46]) = false := by rw [B_tl, beq_eq_false_iff_ne]; exact h46
  have HNP := hide (fun W h => vh l 10 W (by omega) h)
  cases hp : zu l 10 with
  | none =>
   have HQ : Hid (tokM l = ((10, 2, l), wordM l)) := hide (by unfold tokM; rw [if_neg h46, hp])
   rw [hp, show zg none = .tuple #[.agg #[.bool false, .string ⟨#[]⟩, .string ⟨#[]⟩], .bool false] from rfl] at HNP
   clear h46 hp
   go_enter Tryz.func248, Tryz.ntmps248
   go_wp2_with fail
   obtain ⟨W, hW⟩ : ∃ W, (w.alloc (.cells #[.string (B l)] 222)).alloc (.cells #[.int .i64 0, .int .i64 0, .string ⟨#[]⟩, .int .i64 0] 192) = W := ⟨_, rfl⟩
   rw [hW] at hb0 HB0 HC0 ⊢
   clear hW
   refine (za HNP W (hN.belowB hb0 (by omega))).mono ?_
   rintro e w1 ⟨rfl, hb1⟩
   have hb2 := zf hb1 (.cells #[.bool false, .string ⟨#[]⟩, .string ⟨#[]⟩] 79)
   have HB2 := hide (zj (za HB0) hb2)
   have HC2 := hide ((za HC0).below hb2)
   clear hb1 hb2 HB0 HC0
   go_wp2_with fail
   refine (y6 2 l _).mono ?_
   rintro e w3 ⟨rfl, hb3⟩
   have HB3 := hide (zj (za HB2) hb3)
   have HC3 := hide ((za HC2).below hb3)
   clear hb3 HB2 HC2
   go_wp2_with fail
   have h := y9 l w3 hs (hT.below (by omega) (za HB3))
   refine h.mono ?_
   clear h
   rintro e w4 ⟨rfl, hb4⟩
   have HB4 := hide (zj (za HB3) hb4)
   have HC := hide ((za HC3).below hb4)
   clear hb4 HB3 HC3
   have c0 : (w4).cell? ⟨w.heap.size + 1, 0, none⟩ = some (.int .i64 0) := (za HC).c 0
   have c1 : (w4).cell? ⟨w.heap.size + 1, 1, none⟩ = some (.int .i64 0) := (za HC).c 1
   have c2 : (w4).cell? ⟨w.heap.size + 1, 2, none⟩ = some (.string ⟨#[]⟩) := (za HC).c 2
   have c3 : (w4).cell? ⟨w.heap.size + 1, 3, none⟩ = some (.int .i64 0) := (za HC).c 3
   have cf := (za HC).f
   have hlc := (za HC).lt
   unfold tokV
   go_wp2_with fail
   have hcc := And.intro c0 (And.intro c1 (And.intro c2 c3))
   refine bodyPost_ret (v := .tuple #[tokV (10, 2, l), .bool (wordM l)]) (by simp [results, Tryz.results248, go_sem, hcc, tokV]) rfl ⟨?_, ?_⟩
   ·rw [za HQ]
   ·exact ((((za HB4).setCell (by show w.heap.size ≤ w.heap.size + 1; omega) _).setCell (by show w.heap.size ≤ w.heap.size + 1; omega) _).setCell (by show w.heap.size ≤ w.heap.size + 1; omega) _).setCell (by show w.heap.size ≤ w.heap.size + 1; omega) _
  | some p =>
   obtain ⟨n, u, d⟩ := p
   have hok := kP hp
   obtain ⟨_, _, hl1, hl2, _⟩ := qK hok
   have HQ : Hid (tokM l = ((10, 1, zU n (txl 10 u) (txl 10 d) 10), true)) := hide (by unfold tokM; rw [if_neg h46, hp]; rfl)
   rw [hp, show zg (some (n, u, d)) = .tuple #[.agg #[.bool n, .string (B (txl 10 u)), .string (B (txl 10 d))], .bool true] from rfl] at HNP
   clear h46 hp hok
   go_enter Tryz.func248, Tryz.ntmps248
   go_wp2_with fail
   obtain ⟨W, hW⟩ : ∃ W, (w.alloc (.cells #[.string (B l)] 222)).alloc (.cells #[.int .i64 0, .int .i64 0, .string ⟨#[]⟩, .int .i64 0] 192) = W := ⟨_, rfl⟩
   rw [hW] at hb0 HB0 HC0 ⊢
   clear hW
   refine (za HNP W (hN.belowB hb0 (by omega))).mono ?_
   rintro e w1 ⟨rfl, hb1⟩
   have hb2 := zf hb1 (.cells #[.bool n, .string (B (txl 10 u)), .string (B (txl 10 d))] 79)
   have HB2 := hide (zj (za HB0) hb2)
   have HC2 := hide ((za HC0).below hb2)
   clear hb1 hb2 HB0 HC0
   go_wp2_with fail
   have h := ZJ n (txl 10 u) (txl 10 d) 10 (w1.alloc (.cells #[.bool n, .string (B (txl 10 u)), .string (B (txl 10 d))] 79)) (by omega) (by omega) (hN.belowB (za HB2) (by omega))
   refine h.mono ?_
   clear h
   rintro e w3 ⟨rfl, hb3⟩
   have HB3 := hide (zj (za HB2) hb3)
   have HC3 := hide ((za HC2).below hb3)
   clear hb3 HB2 HC2
   obtain ⟨P, hP⟩ : ∃ P, zU n (txl 10 u) (txl 10 d) 10 = P := ⟨_, rfl⟩
   rw [hP] at HQ ⊢
   clear hP
   go_wp2_with fail
   refine (y6 1 P _).mono ?_
   rintro e w4 ⟨rfl, hb4⟩
   have HB4 := hide (zj (za HB3) hb4)
   have HC := hide ((za HC3).below hb4)
   clear hb4 HB3 HC3
   have c0 : (w4).cell? ⟨w.heap.size + 1, 0, none⟩ = some (.int .i64 0) := (za HC).c 0
   have c1 : (w4).cell? ⟨w.heap.size + 1, 1, none⟩ = some (.int .i64 0) := (za HC).c 1
   have c2 : (w4).cell? ⟨w.heap.size + 1, 2, none⟩ = some (.string ⟨#[]⟩) := (za HC).c 2
   have c3 : (w4).cell? ⟨w.heap.size + 1, 3, none⟩ = some (.int .i64 0) := (za HC).c 3
   have cf := (za HC).f
   have hlc := (za HC).lt
   unfold tokV
   go_wp2_with fail
   have hcc := And.intro c0 (And.intro c1 (And.intro c2 c3))
   refine bodyPost_ret (v := .tuple #[tokV (10, 1, P), .bool true]) (by simp [results, Tryz.results248, go_sem, hcc, tokV]) rfl ⟨?_, ?_⟩
   ·rw [za HQ]
   ·exact ((((za HB4).setCell (by show w.heap.size ≤ w.heap.size + 1; omega) _).setCell (by show w.heap.size ≤ w.heap.size + 1; omega) _).setCell (by show w.heap.size ≤ w.heap.size + 1; omega) _).setCell (by show w.heap.size ≤ w.heap.size + 1; omega) _
theorem kH (s : Int) (t : List UInt8) (w : World) (hs : t.length ≤ 1048576) (hT : Tabz w) (hN : Tens w) (h2 : 3 < w.heap.size) :
  Calls Tryz.prog 135 #[.int .i64 s, .string (B t)] w fun e w' => e = .returned (.bool (ju s t)) ∧ Below w.heap.size w w' := by
 have hle : (headW t).length ≤ 1048576 := by
  have : (headW t).length ≤ t.length := (List.takeWhile_prefix _).length_le
  omega
 have HQ := hide (V8 s t)
 have HW := hide (QP t w hs)
 have HTK := hide (fun W hT hN h => za1 (headW t) W hle hT hN h)
 obtain ⟨K, hK⟩ : ∃ K, tokM (headW t) = K := ⟨_, rfl⟩
 rw [hK] at HQ HTK
 obtain ⟨⟨k1, k2, k3⟩, ok⟩ := K
 simp only at HQ HTK
 have hte := fun W => zbW W (k1, k2, k3) (10, s, t)
 obtain ⟨D, hD⟩ : ∃ D, decide ((k1, k2, k3) = (10, s, t)) = D := ⟨_, rfl⟩
 rw [hD] at HQ hte
 unfold tokV at hte HTK
 simp only at hte HTK
 have htg := Kz
 clear hK hle hD
 have HAT := hide (fun W => y6 s t W)
 unfold tokV at HAT
 simp only at HAT
 go_enter Tryz.func135, Tryz.ntmps135
 go_wp2_with fail
 refine (za HW).mono ?_
 rintro e w1 ⟨rfl, hb1⟩
 have HB1 := hide hb1
 have hsz1 := hb1.size
 clear hb1
 go_wp2_with fail
 refine (za HTK w1 (hT.below (by omega) (za HB1)) (hN.belowB (za HB1) (by omega)) (by omega)).mono ?_
 rintro e w2 ⟨rfl, hb2⟩
 have HB2 := hide (zf (zj (za HB1) hb2) (.cells #[.int .i64 k1, .int .i64 k2, .string (B k3), .int .i64 0] 192))
 have HC := hide (AtC.new w2 #[.int .i64 k1, .int .i64 k2, .string (B k3), .int .i64 0] 192)
 clear hb2
 go_wp2_with fail
 obtain ⟨W, hW⟩ : ∃ W, w2.alloc (.cells #[.int .i64 k1, .int .i64 k2, .string (B k3), .int .i64 0] 192) = W := ⟨_, rfl⟩
 rw [hW] at HB2 HC ⊢
 clear hW
 have c0 : W.cell? ⟨w2.heap.size, 0, none⟩ = some (.int .i64 k1) := (za HC).c 0
 have c1 : W.cell? ⟨w2.heap.size, 1, none⟩ = some (.int .i64 k2) := (za HC).c 1
 have c2 : W.cell? ⟨w2.heap.size, 2, none⟩ = some (.string (B k3)) := (za HC).c 2
 have c3 : W.cell? ⟨w2.heap.size, 3, none⟩ = some (.int .i64 0) := (za HC).c 3
 cases ok with
 | false =>
  have HQ2 : Hid (ju s t = false) := hide (by rw [za HQ]; rfl)
  go_region
  all_goals
   go_wp2_with fail
   go_ret
   exact ⟨by rw [za HQ2]; rfl, by first | exact qO (za HB2) _ | exact (za HB2).drew | exact za HB2⟩
 | true =>
  have HQ2 : Hid (ju s t = D) := hide (by rw [za HQ]; rfl)
  go_region_with ((go_at_call 166; refine (za HAT W.drew).mono ?_; rintro e w3 ⟨rfl, hb3⟩; have HB3 : Hid (Below W.heap.size W w3) := (Below.refl _ _).drew.trans hb3; have HC3 := hide ((za HC).below (za HB3)); have d0 : w3.cell? ⟨w2.heap.size, 0, none⟩ = some (.int .i64 k1) := (za HC3).c 0; have d1 : w3.cell? ⟨w2.heap.size, 1, none⟩ = some (.int .i64 k2) := (za HC3).c 1; have d2 : w3.cell? ⟨w2.heap.size, 2, none⟩ = some (.string (B k3)) := (za HC3).c 2; have d3 : w3.cell? ⟨w2.heap.size, 3, none⟩ = some (.int .i64 0) := (za HC3).c 3; clear hb3))
  all_goals
   go_wp2_with fail
   go_ret
   exact ⟨by rw [za HQ2]; rfl, zj (za HB2) (za HB3)⟩
end Go.Proofs.YtpbnmhnbkfnaeaaGreatDoor
namespace Go.Proofs.YtpbnmhnbkfnaeaaGreatDoor
open Go.RowKit Go.Shelf Nt
def yZ (d : Dt) : Bool := d.1.all fun nd => cntOk nd.1 nd.2.2.length
theorem xH {ns : List Nd} {p : Nd → Bool} {j : Nat} {x : Nd} (h : ns[j]? = some x) : (ns.take (j + 1)).all p = ((ns.take j).all p && p x) := by
 rw [List.take_add_one, h, List.all_append]; simp
theorem ki {ns : List Nd} {p : Nd → Bool} {j : Nat} {x : Nd} (h : ns[j]? = some x) (hp : p x = false) : ns.all p = false := by
 rw [List.all_eq_false]; exact ⟨x, List.mem_of_getElem? h, by simp [hp]⟩
theorem Z0 (nv rv : Value) (d : Dt) (w : World) (h : DataAt w (.agg #[nv, rv]) d) (hs : d.1.length ≤ 1048576 ∧ d.2.length ≤ 1048576 ∧ zM d.1) :
  Calls Tryz.prog 71 #[.agg #[nv, rv]] w fun e w' => e = .returned (.bool (yZ d)) ∧ Below w.heap.size w w' := by
 obtain ⟨nv', rv', e, hn0, hr0⟩ := h
 simp only [Value.agg.injEq, Array.mk.injEq, List.cons.injEq, and_true] at e
 obtain ⟨rfl, rfl⟩ := e
 have HN := hide hn0
 obtain ⟨na, nc, rfl, hn1, hn2, _⟩ := hn0
 obtain ⟨ra, rc, rfl, hr1, hr2, _⟩ := hr0
 obtain ⟨s1, s2, s3⟩ := hs
 have HS3 := hide s3
 clear s3
 unfold maxLen at hn2 hr2
 have HB := hide (zf (Below.refl w.heap.size w) (.cells #[.slice na d.1.length nc, .slice ra d.2.length rc] 26))
 have HD := hide (AtC2.new w (.slice na d.1.length nc) (.slice ra d.2.length rc) 26)
 go_enter Tryz.func71, Tryz.ntmps71
 go_wp2_with fail
 go_loopw [8] (fun i wr => ∃ k : Nat, k ≤ d.1.length ∧ i = .int .i64 k ∧ ((d.1.take k).all fun nd => cntOk nd.1 nd.2.2.length) = true ∧ Below w.heap.size w wr)
  (fun i _ => d.1.length - (intOf i).toNat)
 case atStart => exact ⟨0, by omega, rfl, by simp, za HB⟩
 case round =>
  obtain ⟨k, hk, rfl, hall, hbl⟩ := hrel
  by_cases hlt : k < d.1.length
  ·obtain ⟨nd, hnd⟩ : ∃ nd, d.1[k]? = some nd := ⟨_, List.getElem?_eq_getElem hlt⟩
   obtain ⟨b, off, cap, e1, _, _, hb⟩ := ((za HN).below hbl).form (by omega)
   injection e1 with e2 e3 e4
   subst e2
   obtain ⟨kv, c0, c1, c2, htl, hki⟩ := ((za HN).below hbl).node hnd
   obtain ⟨ka, kc, rfl, hk1, hk2, _⟩ := hki
   have hks := (za HS3) nd (List.mem_of_getElem? hnd)
   have HT := hide (xH (p := fun nd => cntOk nd.1 nd.2.2.length) hnd)
   have HL := hide hall
   clear e4 hall
   go_wp2_with fail
   have h := Ko nd.1 (B nd.2.1) ka nd.2.2.length kc (wr.alloc (.cells #[.int .i64 nd.1, .string (B nd.2.1), .slice ka nd.2.2.length kc] 56)) hks.2
   refine h.mono ?_
   clear h
   rintro e w1 ⟨rfl, hb1⟩
   have HB1 := hide (zj (zf hbl (.cells #[.int .i64 nd.1, .string (B nd.2.1), .slice ka nd.2.2.length kc] 56)) hb1)
   cases hr : cntOk nd.1 nd.2.2.length with
   | true =>
    go_wp2_with fail
    go_roundw
    case rel => exact ⟨k + 1, by omega, by go_num, by rw [za HT, za HL, hr]; rfl, za HB1⟩
    case measure => simp [intOf]; omega
   | false =>
    have HP : Hid (yZ d = false) := hide (by unfold yZ; exact ki hnd hr)
    go_wp2_with fail
    go_ret
    exact ⟨by rw [za HP]; rfl, za HB1⟩
  ·obtain rfl : k = d.1.length := by omega
   rw [List.take_of_length_le (Nat.le_refl _)] at hall
   have HP : Hid (yZ d = true) := hide hall
   clear hall
   go_wp2_with fail
   go_ret
   exact ⟨by rw [za HP]; rfl, hbl⟩
end Go.Proofs.YtpbnmhnbkfnaeaaGreatDoor
namespace Go.Proofs.YtpbnmhnbkfnaeaaGreatDoor
open Go.RowKit Nt
def fitM (s : Int) (t : List UInt8) : Bool := (decide (1 ≤ s) && decide (s ≤ 9)) && textM s t
theorem vW {s : Int} {t : List UInt8} (h1 : 1 ≤ s) (h2 : s ≤ 9) : fitM s t = textM s t := by unfold fitM; rw [decide_eq_true h1, decide_eq_true h2]; rfl
theorem Yf (s : Int) (t : List UInt8) (ka : Option Addr) (kn kc : Nat) (w : World) (hs : t.length ≤ 1048576) (hT : Tabz w) (hN : Tens w) (h2 : 3 < w.heap.size) :
  Calls Tryz.prog 111 #[.agg #[.int .i64 s, .string (B t), .slice ka kn kc]] w fun e w' => e = .returned (.bool (fitM s t)) ∧ Below w.heap.size w w' := by
 have HB := hide (zf (Below.refl w.heap.size w) (.cells #[.int .i64 s, .string (B t), .slice ka kn kc] 56))
 obtain ⟨R, hR⟩ : ∃ R, fitM s t = R := ⟨_, rfl⟩
 rw [hR]
 have HR := hide hR
 clear hR
 by_cases h1 : s = 1
 ·subst h1
  have HQ : Hid (ju 1 t = R) := hide (by rw [← za HR, vW (by omega) (by omega)]; exact (VY t))
  go_enter Tryz.func111, Tryz.ntmps111
  go_wp2_with fail
  have h := kH 1 t (w.alloc (.cells #[.int .i64 1, .string (B t), .slice ka kn kc] 56)) hs (hT.below (by omega) (za HB)) (hN.belowB (za HB) (by omega)) (by simp; omega)
  refine h.mono ?_
  clear h
  rintro e w1 ⟨rfl, hb1⟩
  have HB1 := hide (zj (za HB) hb1)
  rw [za HQ]
  clear hb1
  go_wp2_with fail
  go_ret
  exact ⟨rfl, za HB1⟩
 ·have e1 : (s == 1) = false := beq_eq_false_iff_ne.2 h1
  by_cases h2' : s = 2
  ·subst h2'
   have HQ : Hid (ju 2 t = R) := hide (by rw [← za HR, vW (by omega) (by omega)]; exact (VC t))
   go_enter Tryz.func111, Tryz.ntmps111
   go_wp2_with fail
   have h := kH 2 t (w.alloc (.cells #[.int .i64 2, .string (B t), .slice ka kn kc] 56)) hs (hT.below (by omega) (za HB)) (hN.belowB (za HB) (by omega)) (by simp; omega)
   refine h.mono ?_
   clear h
   rintro e w1 ⟨rfl, hb1⟩
   have HB1 := hide (zj (za HB) hb1)
   rw [za HQ]
   clear hb1
   go_wp2_with fail
   go_ret
   exact ⟨rfl, za HB1⟩
  ·have e2 : (s == 2) = false := beq_eq_false_iff_ne.2 h2'
   by_cases h3 : s = 3
   ·subst h3
    have HQ : Hid ((decide (t.length ≤ 200) && Lib.validD t) = R) := hide (by rw [← za HR, vW (by omega) (by omega)]; rfl)
    go_enter Tryz.func111, Tryz.ntmps111
    go_wp2_with fail
    have h := kg t (w.alloc (.cells #[.int .i64 3, .string (B t), .slice ka kn kc] 56)) hs (hT.below (by omega) (za HB))
    refine h.mono ?_
    clear h
    rintro e w1 ⟨rfl, hb1⟩
    have HB1 := hide (zj (za HB) hb1)
    rw [za HQ]
    clear hb1
    go_wp2_with fail
    go_ret
    exact ⟨rfl, za HB1⟩
   ·have e3 : (s == 3) = false := beq_eq_false_iff_ne.2 h3
    by_cases h4 : s = 4
    ·subst h4
     have HQ : Hid (oneM t = R) := hide (by rw [← za HR, vW (by omega) (by omega)]; rfl)
     go_enter Tryz.func111, Tryz.ntmps111
     go_wp2_with fail
     have h := kB t (w.alloc (.cells #[.int .i64 4, .string (B t), .slice ka kn kc] 56)) hs (hT.below (by omega) (za HB))
     refine h.mono ?_
     clear h
     rintro e w1 ⟨rfl, hb1⟩
     have HB1 := hide (zj (za HB) hb1)
     rw [za HQ]
     clear hb1
     go_wp2_with fail
     go_ret
     exact ⟨rfl, za HB1⟩
    ·have e4 : (s == 4) = false := beq_eq_false_iff_ne.2 h4
     by_cases h5 : s = 5
     ·subst h5
      have HQ : Hid ((decide (t = [116]) || decide (t = [102])) = R) := hide (by rw [← za HR, vW (by omega) (by omega)]; rfl)
      by_cases ht : t = [116]
      ·have f0 : ((B t).toList == [116]) = true := by rw [ht, B_tl]; rfl
       have HQ2 : Hid (R = true) := hide (by rw [← za HQ, decide_eq_true ht, Bool.true_or])
       clear ht
       go_enter Tryz.func111, Tryz.ntmps111
       go_wp2_with fail
       go_ret
       exact ⟨by rw [za HQ2]; rfl, za HB⟩
      ·have f0 : ((B t).toList == [116]) = false := by rw [B_tl, beq_eq_false_iff_ne]; exact ht
       have HQ2 : Hid (((B t).toList == [102]) = R) := hide (by
        rw [← za HQ, decide_eq_false ht, Bool.false_or, B_tl]
        by_cases h : t = [102]
        ·subst h; rfl
        ·rw [decide_eq_false h, beq_eq_false_iff_ne.2 h])
       clear ht
       go_enter Tryz.func111, Tryz.ntmps111
       go_wp2_with fail
       go_ret
       exact ⟨by rw [← za HQ2]; rfl, za HB⟩
     ·have e5 : (s == 5) = false := beq_eq_false_iff_ne.2 h5
      by_cases h6 : s = 6
      ·subst h6
       have HQ : Hid ((B t).toList.isEmpty = R) := hide (by
        rw [← za HR, vW (by omega) (by omega), B_tl]
        show _ = decide (t = [])
        cases t <;> rfl)
       go_enter Tryz.func111, Tryz.ntmps111
       go_wp2_with fail
       go_ret
       exact ⟨by rw [← za HQ]; rfl, za HB⟩
      ·have e6 : (s == 6) = false := beq_eq_false_iff_ne.2 h6
       by_cases h7 : s = 7
       ·subst h7
        have HQ : Hid ((B t).toList.isEmpty = R) := hide (by
         rw [← za HR, vW (by omega) (by omega), B_tl]
         show _ = decide (t = [])
         cases t <;> rfl)
        go_enter Tryz.func111, Tryz.ntmps111
        go_wp2_with fail
        go_ret
        exact ⟨by rw [← za HQ]; rfl, za HB⟩
       ·have e7 : (s == 7) = false := beq_eq_false_iff_ne.2 h7
        by_cases h8 : s = 8
        ·subst h8
         have HQ : Hid ((B t).toList.isEmpty = R) := hide (by
          rw [← za HR, vW (by omega) (by omega), B_tl]
          show _ = decide (t = [])
          cases t <;> rfl)
         go_enter Tryz.func111, Tryz.ntmps111
         go_wp2_with fail
         go_ret
         exact ⟨by rw [← za HQ]; rfl, za HB⟩
        ·have e8 : (s == 8) = false := beq_eq_false_iff_ne.2 h8
         by_cases h9 : s = 9
         ·subst h9
          have HQ : Hid (decide (((B t).size : Int) ≤ 200) = R) := hide (by
           rw [← za HR, vW (by omega) (by omega), zi]
           show _ = decide (t.length ≤ 200)
           congr 1; rw [eq_iff_iff]; omega)
          go_enter Tryz.func111, Tryz.ntmps111
          go_wp2_with fail
          go_ret
          exact ⟨by rw [← za HQ]; rfl, za HB⟩
         ·have e9 : (s == 9) = false := beq_eq_false_iff_ne.2 h9
          have HQ : Hid (R = false) := hide (by
           rw [← za HR]
           unfold fitM
           by_cases a : 1 ≤ s
           ·rw [decide_eq_false (show ¬ s ≤ 9 by omega), Bool.and_false, Bool.false_and]
           ·rw [decide_eq_false a, Bool.false_and, Bool.false_and])
          go_enter Tryz.func111, Tryz.ntmps111
          go_wp2_with fail
          go_ret
          exact ⟨by rw [za HQ]; rfl, za HB⟩
def yf (d : Dt) : Bool := d.1.all fun nd => fitM nd.1 nd.2.1
theorem Zv (d : Dt) : okD d = (qG d && plcOk d && yZ d && yf d) := by
 have h : ∀ ns : List Nd, ns.all (ndOk d.1.length) = (ns.all (vb d.1.length) && (ns.all fun nd => cntOk nd.1 nd.2.2.length) && ns.all fun nd => fitM nd.1 nd.2.1) := by
  intro ns
  induction ns with
  | nil => rfl
  | cons x r ih =>
   simp only [List.all_cons, ih]
   have hx : ndOk d.1.length x = (vb d.1.length x && cntOk x.1 x.2.2.length && fitM x.1 x.2.1) := by
    unfold ndOk qT vb fitM
    cases decide (1 ≤ x.1) && decide (x.1 ≤ 9) <;> cases textM x.1 x.2.1 <;> cases cntOk x.1 x.2.2.length <;> cases x.2.2.all (inR · d.1.length) <;> rfl
   rw [hx]
   cases vb d.1.length x <;> cases cntOk x.1 x.2.2.length <;> cases fitM x.1 x.2.1 <;> simp
 unfold okD plcOk yZ yf
 rw [h]
 cases qG d <;> cases d.1.all (vb d.1.length) <;> cases (d.1.all fun nd => cntOk nd.1 nd.2.2.length) <;> cases (d.1.all fun nd => fitM nd.1 nd.2.1) <;> cases d.2.all (inR · d.1.length) <;> rfl
theorem Zo (nv rv : Value) (d : Dt) (w : World) (h : DataAt w (.agg #[nv, rv]) d) (hs : d.1.length ≤ 1048576 ∧ d.2.length ≤ 1048576 ∧ zM d.1) (hT : Tabz w) (hN : Tens w) (h3 : 3 < w.heap.size) :
  Calls Tryz.prog 72 #[.agg #[nv, rv]] w fun e w' => e = .returned (.bool (yf d)) ∧ Below w.heap.size w w' := by
 obtain ⟨nv', rv', e, hn0, hr0⟩ := h
 simp only [Value.agg.injEq, Array.mk.injEq, List.cons.injEq, and_true] at e
 obtain ⟨rfl, rfl⟩ := e
 have HN := hide hn0
 obtain ⟨na, nc, rfl, hn1, hn2, _⟩ := hn0
 obtain ⟨ra, rc, rfl, hr1, hr2, _⟩ := hr0
 obtain ⟨s1, s2, s3⟩ := hs
 have HS3 := hide s3
 clear s3
 unfold maxLen at hn2 hr2
 have HB := hide (zf (Below.refl w.heap.size w) (.cells #[.slice na d.1.length nc, .slice ra d.2.length rc] 26))
 have HD := hide (AtC2.new w (.slice na d.1.length nc) (.slice ra d.2.length rc) 26)
 go_enter Tryz.func72, Tryz.ntmps72
 go_wp2_with fail
 go_loopw [8] (fun i wr => ∃ k : Nat, k ≤ d.1.length ∧ i = .int .i64 k ∧ ((d.1.take k).all fun nd => fitM nd.1 nd.2.1) = true ∧ Below w.heap.size w wr)
  (fun i _ => d.1.length - (intOf i).toNat)
 case atStart => exact ⟨0, by omega, rfl, by simp, za HB⟩
 case round =>
  obtain ⟨k, hk, rfl, hall, hbl⟩ := hrel
  by_cases hlt : k < d.1.length
  ·obtain ⟨nd, hnd⟩ : ∃ nd, d.1[k]? = some nd := ⟨_, List.getElem?_eq_getElem hlt⟩
   obtain ⟨b, off, cap, e1, _, _, hb⟩ := ((za HN).below hbl).form (by omega)
   injection e1 with e2 e3 e4
   subst e2
   obtain ⟨kv, c0, c1, c2, htl, hki⟩ := ((za HN).below hbl).node hnd
   obtain ⟨ka, kc, rfl, hk1, hk2, _⟩ := hki
   have hks := (za HS3) nd (List.mem_of_getElem? hnd)
   have HT := hide (xH (p := fun nd => fitM nd.1 nd.2.1) hnd)
   have HL := hide hall
   clear e4 hall
   go_wp2_with fail
   have hbx := zf hbl (.cells #[.int .i64 nd.1, .string (B nd.2.1), .slice ka nd.2.2.length kc] 56)
   have h := Yf nd.1 nd.2.1 ka nd.2.2.length kc (wr.alloc (.cells #[.int .i64 nd.1, .string (B nd.2.1), .slice ka nd.2.2.length kc] 56)) hks.1 (hT.below (by omega) hbx) (hN.belowB hbx (by omega)) (by have := hbx.size; omega)
   refine h.mono ?_
   clear h
   rintro e w1 ⟨rfl, hb1⟩
   have HB1 := hide (zj (zf hbl (.cells #[.int .i64 nd.1, .string (B nd.2.1), .slice ka nd.2.2.length kc] 56)) hb1)
   cases hr : fitM nd.1 nd.2.1 with
   | true =>
    go_wp2_with fail
    go_roundw
    case rel => exact ⟨k + 1, by omega, by go_num, by rw [za HT, za HL, hr]; rfl, za HB1⟩
    case measure => simp [intOf]; omega
   | false =>
    have HP : Hid (yf d = false) := hide (by unfold yf; exact ki hnd hr)
    go_wp2_with fail
    go_ret
    exact ⟨by rw [za HP]; rfl, za HB1⟩
  ·obtain rfl : k = d.1.length := by omega
   rw [List.take_of_length_le (Nat.le_refl _)] at hall
   have HP : Hid (yf d = true) := hide hall
   clear hall
   go_wp2_with fail
   go_ret
   exact ⟨by rw [za HP]; rfl, hbl⟩
theorem Z6 (nv rv : Value) (d : Dt) (w : World) (h : DataAt w (.agg #[nv, rv]) d) :
  Calls Tryz.prog 69 #[.agg #[nv, rv]] w fun e w' => e = .returned (.bool (qG d)) ∧ Below w.heap.size w w' := by
 obtain ⟨nv', rv', e, hn0, hr0⟩ := h
 simp only [Value.agg.injEq, Array.mk.injEq, List.cons.injEq, and_true] at e
 obtain ⟨rfl, rfl⟩ := e
 obtain ⟨na, nc, rfl, hn1, hn2, _⟩ := hn0
 obtain ⟨ra, rc, rfl, hr1, hr2, _⟩ := hr0
 unfold maxLen at hn2 hr2
 have HB := hide (zf (Below.refl w.heap.size w) (.cells #[.slice na d.1.length nc, .slice ra d.2.length rc] 26))
 by_cases h8 : d.1.length ≤ 80
 ·have h8' : (d.1.length : Int) ≤ 80 := by omega
  have HQ : Hid (decide ((d.2.length : Int) ≤ 12) = qG d) := hide (by unfold qG; rw [decide_eq_true h8, Bool.true_and]; congr 1; rw [eq_iff_iff]; omega)
  clear h8
  go_enter Tryz.func69, Tryz.ntmps69
  go_wp2_with fail
  go_ret
  exact ⟨by rw [← za HQ]; rfl, za HB⟩
 ·have h8' : ¬ (d.1.length : Int) ≤ 80 := by omega
  have HQ : Hid (qG d = false) := hide (by unfold qG; rw [decide_eq_false h8, Bool.false_and])
  clear h8
  go_enter Tryz.func69, Tryz.ntmps69
  go_wp2_with fail
  go_ret
  exact ⟨by rw [za HQ]; rfl, za HB⟩
def Q7 : Array Value := #[.func (.func 69) #[] #[], .func (.func 70) #[] #[], .func (.func 71) #[] #[], .func (.func 72) #[] #[]]
theorem Q5 (nv rv : Value) (d : Dt) (g : Nat) (T : TypeId) (w : World) (h : DataAt w (.agg #[nv, rv]) d) (hs : d.1.length ≤ 1048576 ∧ d.2.length ≤ 1048576 ∧ zM d.1)
  (hg : AtC w g Q7 T) (hT : Tabz w) (hN : Tens w) (h3 : 3 < w.heap.size) :
  Calls Tryz.prog 68 #[.agg #[nv, rv], .slice (some ⟨g, 0, none⟩) 4 4] w fun e w' => e = .returned (.bool (okD d)) ∧ Below w.heap.size w w' := by
 have HDT := hide h
 obtain ⟨nv', rv', e, hn0, hr0⟩ := h
 simp only [Value.agg.injEq, Array.mk.injEq, List.cons.injEq, and_true] at e
 obtain ⟨rfl, rfl⟩ := e
 obtain ⟨na, nc, rfl, hn1, hn2, _⟩ := hn0
 obtain ⟨ra, rc, rfl, hr1, hr2, _⟩ := hr0
 have HS := hide hs
 unfold maxLen at hn2 hr2
 have HB0 := hide (zf (Below.refl w.heap.size w) (.cells #[.slice na d.1.length nc, .slice ra d.2.length rc] 26))
 have HD0 := hide (AtC2.new w (.slice na d.1.length nc) (.slice ra d.2.length rc) 26)
 have HG0 := hide (hg.alloc (.cells #[.slice na d.1.length nc, .slice ra d.2.length rc] 26))
 clear hs hg
 go_enter Tryz.func68, Tryz.ntmps68
 go_wp2_with fail
 obtain ⟨wk0, hwk⟩ : ∃ wk0, w.alloc (.cells #[.slice na d.1.length nc, .slice ra d.2.length rc] 26) = wk0 := ⟨_, rfl⟩
 rw [hwk] at HB0 HD0 HG0 ⊢
 clear hwk
 refine wp_loop_rounds 5 ?_
 rw [rounds_succ]
 have g0 : wk0.cell? ⟨g, 0, none⟩ = some (.func (.func 69) #[] #[]) := (za HG0).c 0
 have d0 := (za HD0).n0
 have d1 := (za HD0).n1
 go_wp2_with fail
 have h := Z6 _ _ d wk0 ((za HDT).below (za HB0))
 refine h.mono ?_
 clear h
 rintro e wk1 ⟨rfl, hbn⟩
 have HB1 := hide (zj (za HB0) hbn)
 have HG1 := hide ((za HG0).below hbn)
 have HD1 := hide ((za HD0).below hbn)
 clear hbn g0 d0 d1 HB0 HG0 HD0
 rcases Bool.eq_false_or_eq_true (qG d) with hv | hv
 rotate_left
 ·have HP : Hid (okD d = false) := hide (by rw [Zv, hv]; simp)
  rw [hv]
  clear hv
  go_wp2_with fail
  go_ret
  exact ⟨by rw [za HP]; rfl, za HB1⟩
 rw [hv]
 have HV0 := hide hv
 clear hv
 go_wp2_with fail
 rw [rounds_succ]
 have g0 : wk1.cell? ⟨g, 1, none⟩ = some (.func (.func 70) #[] #[]) := (za HG1).c 1
 have d0 := (za HD1).n0
 have d1 := (za HD1).n1
 go_wp2_with fail
 have h := ZA _ _ d wk1 ((za HDT).below (za HB1)) (za HS)
 refine h.mono ?_
 clear h
 rintro e wk2 ⟨rfl, hbn⟩
 have HB2 := hide (zj (za HB1) hbn)
 have HG2 := hide ((za HG1).below hbn)
 have HD2 := hide ((za HD1).below hbn)
 clear hbn g0 d0 d1 HB1 HG1 HD1
 rcases Bool.eq_false_or_eq_true (plcOk d) with hv | hv
 rotate_left
 ·have HP : Hid (okD d = false) := hide (by rw [Zv, hv]; simp)
  rw [hv]
  clear hv
  go_wp2_with fail
  go_ret
  exact ⟨by rw [za HP]; rfl, za HB2⟩
 rw [hv]
 have HV1 := hide hv
 clear hv
 go_wp2_with fail
 rw [rounds_succ]
 have g0 : wk2.cell? ⟨g, 2, none⟩ = some (.func (.func 71) #[] #[]) := (za HG2).c 2
 have d0 := (za HD2).n0
 have d1 := (za HD2).n1
 go_wp2_with fail
 have h := Z0 _ _ d wk2 ((za HDT).below (za HB2)) (za HS)
 refine h.mono ?_
 clear h
 rintro e wk3 ⟨rfl, hbn⟩
 have HB3 := hide (zj (za HB2) hbn)
 have HG3 := hide ((za HG2).below hbn)
 have HD3 := hide ((za HD2).below hbn)
 clear hbn g0 d0 d1 HB2 HG2 HD2
 rcases Bool.eq_false_or_eq_true (yZ d) with hv | hv
 rotate_left
 ·have HP : Hid (okD d = false) := hide (by rw [Zv, hv]; simp)
  rw [hv]
  clear hv
  go_wp2_with fail
  go_ret
  exact ⟨by rw [za HP]; rfl, za HB3⟩
 rw [hv]
 have HV2 := hide hv
 clear hv
 go_wp2_with fail
 rw [rounds_succ]
 have g0 : wk3.cell? ⟨g, 3, none⟩ = some (.func (.func 72) #[] #[]) := (za HG3).c 3
 have d0 := (za HD3).n0
 have d1 := (za HD3).n1
 go_wp2_with fail
 have h := Zo _ _ d wk3 ((za HDT).below (za HB3)) (za HS) (hT.below (by omega) (za HB3)) (hN.belowB (za HB3) (by omega)) (by have := (za HB3).size; omega)
 refine h.mono ?_
 clear h
 rintro e wk4 ⟨rfl, hbn⟩
 have HB4 := hide (zj (za HB3) hbn)
 have HG4 := hide ((za HG3).below hbn)
 have HD4 := hide ((za HD3).below hbn)
 clear hbn g0 d0 d1 HB3 HG3 HD3
 rcases Bool.eq_false_or_eq_true (yf d) with hv | hv
 rotate_left
 ·have HP : Hid (okD d = false) := hide (by rw [Zv, hv]; simp)
  rw [hv]
  clear hv
  go_wp2_with fail
  go_ret
  exact ⟨by rw [za HP]; rfl, za HB4⟩
 rw [hv]
 have HV3 := hide hv
 clear hv
 go_wp2_with fail
 rw [rounds_succ]
 have HP : Hid (okD d = true) := hide (by rw [Zv, za HV0, za HV1, za HV2, za HV3]; rfl)
 go_wp2_with fail
 go_ret
 exact ⟨by rw [za HP]; rfl, za HB4⟩
theorem kj (nv rv : Value) (d : Dt) (w : World) (h : DataAt w (.agg #[nv, rv]) d) (hs : d.1.length ≤ 1048576 ∧ d.2.length ≤ 1048576 ∧ zM d.1) (hT : Tabz w) (hN : Tens w) (h3 : 3 < w.heap.size) :
  Calls Tryz.prog 37 #[.agg #[nv, rv]] w fun e w' => e = .returned (.bool (okD d)) ∧ Below w.heap.size w w' := by
 have HDT := hide h
 obtain ⟨nv', rv', e, hn0, hr0⟩ := h
 simp only [Value.agg.injEq, Array.mk.injEq, List.cons.injEq, and_true] at e
 obtain ⟨rfl, rfl⟩ := e
 obtain ⟨na, nc, rfl, hn1, hn2, _⟩ := hn0
 obtain ⟨ra, rc, rfl, hr1, hr2, _⟩ := hr0
 have HS := hide hs
 have hb0 := zf (zf (Below.refl w.heap.size w) (.cells #[.slice na d.1.length nc, .slice ra d.2.length rc] 26)) (.cells Q7 30)
 have HB := hide hb0
 go_enter Tryz.func37, Tryz.ntmps37
 go_wp2_with fail
 have h := Q5 _ _ d (w.heap.size + 1) 30 _ ((za HDT).below (za HB)) (za HS) (by have := AtC.new (w.alloc (.cells #[.slice na d.1.length nc, .slice ra d.2.length rc] 26)) Q7 30; rw [World.size_alloc] at this; exact this) (hT.below (by omega) (za HB)) (hN.belowB (za HB) (by omega)) (by simp; omega)
 refine h.mono ?_
 clear h
 rintro e w1 ⟨rfl, hb1⟩
 have HB1 := hide (zj (za HB) hb1)
 clear hb1
 go_wp2_with fail
 go_ret
 exact ⟨rfl, za HB1⟩
theorem kT (nv rv : Value) (d : Dt) (w : World) (h : DataAt w (.agg #[nv, rv]) d) (hs : d.1.length ≤ 1048576 ∧ d.2.length ≤ 1048576 ∧ zM d.1) (hT : Tabz w) (hN : Tens w) (h3 : 3 < w.heap.size) :
  Calls Tryz.prog 31 #[.agg #[nv, rv]] w fun e w' => e = .returned (.bool (okD d && decide (0 < d.2.length))) ∧ Below w.heap.size w w' := by
 have HD := hide h
 have HT := hide (And.intro hT (And.intro hN h3))
 have HS := hide hs
 obtain ⟨nv', rv', e, hn0, hr0⟩ := h
 simp only [Value.agg.injEq, Array.mk.injEq, List.cons.injEq, and_true] at e
 obtain ⟨rfl, rfl⟩ := e
 obtain ⟨na, nc, rfl, _⟩ := hn0
 obtain ⟨ra, rc, rfl, _⟩ := hr0
 obtain ⟨ln, hln⟩ : ∃ n, d.1.length = n := ⟨_, rfl⟩
 obtain ⟨lr, hlr⟩ : ∃ n, d.2.length = n := ⟨_, rfl⟩
 rw [hln, hlr] at HD ⊢
 rw [hln, hlr] at HS
 have HB := hide (zf (Below.refl w.heap.size w) (.cells #[.slice na ln nc, .slice ra lr rc] 26))
 have HA := hide (AtC2.new w (.slice na ln nc) (.slice ra lr rc) 26)
 have HC : Hid (∀ W, Below w.heap.size w W → Calls Tryz.prog 37 #[.agg #[.slice na ln nc, .slice ra lr rc]] W fun e w' => e = .returned (.bool (okD d)) ∧ Below W.heap.size W w') := hide (fun W hb => kj _ _ d W ((za HD).below hb) (by rw [hln, hlr]; exact za HS) ((za HT).1.below (by have := (za HT).2.2; omega) hb) ((za HT).2.1.belowB hb (za HT).2.2) (Nat.lt_of_lt_of_le (za HT).2.2 hb.size))
 clear hs hT hN h3 hln hlr
 obtain ⟨ok, hok⟩ : ∃ b, okD d = b := ⟨_, rfl⟩
 rw [hok] at HC ⊢
 clear hok HT HS HD
 go_enter Tryz.func31, Tryz.ntmps31
 go_wp2_with fail
 refine (za HC _ (za HB)).mono ?_
 rintro e w1 ⟨rfl, hb1⟩
 have HB1 := hide (zj (za HB) hb1)
 have a1 := ((za HA).below hb1).n1
 clear hb1
 cases ok with
 | false =>
  go_wp2_with fail
  go_ret
  exact ⟨rfl, za HB1⟩
 | true =>
  go_wp2_with fail
  go_ret
  exact ⟨by simp, za HB1⟩
theorem ZS (d : Dt) (u : Value) (most : Int) (w : World) (hd : DataAt w u d) (hsd : d.1.length ≤ 1048576 ∧ d.2.length ≤ 1048576 ∧ zM d.1) (hT : Tabz w) (hNt : Tens w) (h3 : 3 < w.heap.size) :
  Calls Tryz.prog 13 #[u, .int .i64 most] w fun r W' => r = .returned (.int .i64 (hashM d most)) ∧ Below w.heap.size w W' := by
 obtain ⟨ns, rs⟩ := d
 have HD := hide hd
 obtain ⟨nv, rv, rfl, hn, hr⟩ := hd
 simp only at hn hr hsd
 have HN := hide hn
 have HR := hide hr
 obtain ⟨an, cn, rfl, hn1, hn2⟩ := hn.form0
 obtain ⟨ar, cr, rfl, hr1, hr2⟩ := hr.form
 unfold maxLen at hn2 hr2
 have HSD := hide hsd
 obtain ⟨R, hR⟩ : ∃ R, hashM (ns, rs) most = R := ⟨_, rfl⟩
 rw [hR]
 have HTR := hide hR
 have HB := hide (zf (Below.refl w.heap.size w) (.cells #[.slice an ns.length cn, .slice ar rs.length cr] 26))
 have HP := hide (AtC2.new w (.slice an ns.length cn) (.slice ar rs.length cr) 26)
 have HRO : Hid (∀ W, Below w.heap.size w W → Calls Tryz.prog 31 #[.agg #[.slice an ns.length cn, .slice ar rs.length cr]] W fun e w' => e = .returned (.bool (okD (ns, rs) && decide (0 < rs.length))) ∧ Below W.heap.size W w') := hide (fun W hb => kT _ _ (ns, rs) W ((za HD).below hb) (za HSD) (hT.below (by omega) hb) (hNt.belowB hb h3) (Nat.lt_of_lt_of_le h3 hb.size))
 clear hn hr hsd hR hT hNt h3
 go_enter Tryz.func13, Tryz.ntmps13
 go_wp2_with fail
 obtain ⟨W, hW⟩ : ∃ W, w.alloc (.cells #[.slice an ns.length cn, .slice ar rs.length cr] 26) = W := ⟨_, rfl⟩
 rw [hW] at HB HP ⊢
 clear hW
 refine (za HRO W (za HB)).mono ?_
 rintro e' W1 ⟨rfl, hb1⟩
 have HB1 := hide (zj (za HB) hb1)
 have HP1 := hide ((za HP).below hb1)
 clear hb1 HB HP HRO
 have p0 := (za HP1).n0
 have p1 := (za HP1).n1
 rcases Bool.eq_false_or_eq_true (okD (ns, rs)) with ho | ho
 ·rw [ho]
  have HO1 := hide ho
  clear ho
  by_cases hr0 : rs = []
  ·have HZ : Hid (R = 0) := hide (by rw [← za HTR]; exact Qh hr0)
   rw [show (true && decide (0 < rs.length)) = false from by rw [hr0]; rfl]
   clear hr0
   go_wp2_with fail
   go_ret
   exact ⟨zF (za HZ).symm, za HB1⟩
  ·obtain ⟨a, rt, har⟩ : ∃ a t, rs = a :: t := by cases rs with | nil => exact absurd rfl hr0 | cons a t => exact ⟨a, t, rfl⟩
   have hrl : 0 < rs.length := List.length_pos_iff.2 hr0
   rw [show (true && decide (0 < rs.length)) = true from by simp [hrl]]
   by_cases hm : most < 1
   ·have HZ : Hid (R = 0) := hide (by rw [← za HTR]; exact Ql hm)
    clear hr0 har hrl
    go_wp2_with fail
    go_ret
    exact ⟨zF (za HZ).symm, za HB1⟩
   ·obtain ⟨l1, _, k1, j1⟩ := qt (za HO1)
    have ha := j1 a (by rw [har]; exact List.mem_cons_self)
    obtain ⟨an', rfl⟩ : ∃ n : Nat, a = (n : Int) := ⟨a.toNat, by omega⟩
    obtain ⟨M, hM⟩ : ∃ M, hashD ns 3 (an' : Int) = M := ⟨_, rfl⟩
    have HZ : Hid (((M : Nat) : Int).tmod most = R) := hide (by rw [← za HTR, ← hM]; have h1 := za HO1; rw [har] at h1 ⊢; exact (Qc h1 (by omega)).symm)
    obtain ⟨ga, oa, rfl, _, u0⟩ := ((za HR).below (za HB1)).cell (k := 0) (x := (an' : Int)) (by rw [har]; rfl)
    rw [Nat.add_zero] at u0
    have HC : Hid (∀ X, Below W1.heap.size W1 X → Calls Tryz.prog 40 #[.slice an ns.length cn, .int .i64 3] X fun r W' => (∃ g, r = .returned (.slice (some ⟨g, 0, none⟩) ns.length ns.length) ∧ W'.cell? ⟨g, an', none⟩ = some (.int .i64 (M : Int))) ∧ Below X.heap.size X W') := hide (fun X hX => by
     refine (Jb ns an cn 3 X ((za HN).below (zj (za HB1) hX)) k1 (za HSD).2.2 l1 (by omega) (Nat.le_refl _)).mono ?_
     rintro r W' ⟨⟨g, rfl, hg⟩, hb⟩
     have hc := hg.cell (j := an') (by omega)
     rw [hM] at hc
     exact ⟨⟨g, rfl, hc⟩, hb⟩)
    have t0 : (0 : Int) < (rs.length : Int) := by omega
    have tn : (an' : Int) < (ns.length : Int) := by omega
    have z0 := za HZ
    have m0 : ¬ most = 0 := by omega
    clear k1 j1 ha hr0 har hM l1
    have d0 : W1.drew.cell? ⟨w.heap.size, 0, none⟩ = _ := p0
    have d1 : W1.drew.cell? ⟨w.heap.size, 1, none⟩ = _ := p1
    have d2 : W1.drew.cell? ⟨ga, oa, none⟩ = _ := u0
    go_wp2_with fail
    go_region_law (first | (go_simp; go_at_call 40; refine (za HC W1.drew (Below.refl _ _).drew).mono ?_; rintro e w5 ⟨⟨gg, rfl, v0⟩, hb5⟩; have HB5 : Hid (Below W1.heap.size W1 w5) := (Below.refl _ _).drew.trans hb5; have c1 := zd (za HB5) p0; have c2 := zd (za HB5) p1; have c3 := zd (za HB5) u0; clear hb5; (try dsimp only)))
    all_goals
     go_wp2_with fail
     go_ret
     exact ⟨rfl, zj (za HB1) (za HB5)⟩
 ·rw [ho]
  have HZ : Hid (R = 0) := hide (by rw [← za HTR]; exact Qr ho)
  rw [Bool.false_and]
  clear ho
  go_wp2_with fail
  go_ret
  exact ⟨zF (za HZ).symm, za HB1⟩
end Go.Proofs.YtpbnmhnbkfnaeaaGreatDoor
namespace Go.Proofs.YtpbnmhnbkfnaeaaGreatDoor
open Go.Shelf
def Tryz.laysM316_ren : Go.Shelf.Ren := ⟨fun | 316 => 120 | n => n, fun | 9 => 9 | 3 => 3 | 4 => 4 | 37 => 22 | 0 => 0 | 127 => 174 | 5 => 5 | n => n, fun | n => n⟩
theorem Tryz.laysM316 : Go.Proofs.LaysM.n316 Tryz.prog Tryz.laysM316_ren := {
 mixed := by kernel_rfl
 f316 := Tryz.func120.trans (congrArg some (by kernel_rfl))
 t0 := Tryz.underlying0
 a0 := Tryz.isAgg0
 z0 := Tryz.sizeOf0
 v0 := Tryz.zeroValue0
 t3 := Tryz.underlying3
 a3 := Tryz.isAgg3
 z3 := Tryz.sizeOf3
 v3 := Tryz.zeroValue3
 t4 := Tryz.underlying4
 a4 := Tryz.isAgg4
 z4 := Tryz.sizeOf4
 v4 := Tryz.zeroValue4
 t9 := Tryz.underlying9
 a9 := Tryz.isAgg9
 z9 := Tryz.sizeOf9
 v9 := Tryz.zeroValue9
 t37 := Tryz.underlying22
 a37 := Tryz.isAgg22
 z37 := Tryz.sizeOf22
 v37 := Tryz.zeroValue22
 t127 := Tryz.underlying174
 a127 := Tryz.isAgg174
 z127 := Tryz.sizeOf174
 v127 := Tryz.zeroValue174
 t5 := Tryz.underlying5
 a5 := Tryz.isAgg5
 z5 := Tryz.sizeOf5
 v5 := Tryz.zeroValue5
 i0 := by kernel_rfl
 i3 := by kernel_rfl
 i4 := by kernel_rfl
 i5 := by kernel_rfl
 i9 := by kernel_rfl
 i37 := by kernel_rfl
 i127 := by kernel_rfl }
open Go.RowKit in
theorem Tryz.stringslite_Clone (s : ByteArray) (w : World) (hlim : s.size ≤ 281474976710656) :
  Calls Tryz.prog 120 #[.string s] w fun e w' => e = .returned (.string s) ∧ Below w.heap.size w w' := Any.stringslite_Clone Tryz.laysM316 s w hlim
end Go.Proofs.YtpbnmhnbkfnaeaaGreatDoor
namespace Go.Proofs.YtpbnmhnbkfnaeaaGreatDoor
open Go.RowKit Nt
theorem zaX (t : List UInt8) (w : World) (h : t.length ≤ 1048576) :
  Calls Tryz.prog 86 #[.string (B t)] w fun e w' => e = .returned (.string (B t)) ∧ Below w.heap.size w w' := by
 have hs : (B t).size ≤ 281474976710656 := by rw [show (B t).size = t.length from by simp [B, ByteArray.size]]; omega
 go_enter Tryz.func86, Tryz.ntmps86
 go_wp2_with fail
 refine (Tryz.stringslite_Clone (B t) w hs).mono ?_
 rintro e w' ⟨rfl, hb⟩
 go_wp2_with fail
 go_ret
 exact ⟨rfl, hb⟩
theorem QW {w : World} {b i : Nat} {cs : Array Value} {T : TypeId} (h : w.heap[b]? = some (.cells cs T (0, 0))) (u : Value) : (w.setCell ⟨b, i, none⟩ u).heap[b]? = some (.cells (cs.setIfInBounds i u) T (0, 0)) := by
 show (w.heap.modify b _)[b]? = _
 rw [Array.getElem?_modify, if_pos rfl, h]; rfl
theorem YZ {w : World} {b : Nat} {x y z : Value} {T : TypeId} (h : AtC3 w b x y z T) (u v t : Value) : AtC3 (((w.setCell ⟨b, 0, none⟩ u).setCell ⟨b, 1, none⟩ v).setCell ⟨b, 2, none⟩ t) b u v t T :=
 QW (i := 2) (QW (i := 1) (QW (i := 0) h u) v) t
theorem za4 {w : World} {b : Nat} {u0 u1 u2 v : Value} {a : Addr} (h : w.cell? a = some v) (hne : a.block ≠ b) : (((w.setCell ⟨b, 0, none⟩ u0).setCell ⟨b, 1, none⟩ u1).setCell ⟨b, 2, none⟩ u2).cell? a = some v := by
 rw [World.cell?_setCell_far _ _ _ _ (Ne.symm hne), World.cell?_setCell_far _ _ _ _ (Ne.symm hne), World.cell?_setCell_far _ _ _ _ (Ne.symm hne)]
 exact h
theorem Xp (nd : Nd) (ka : Option Addr) (kc : Nat) (w : World) (hk : IntsAt w (.slice ka nd.2.2.length kc) nd.2.2) (hs : nd.2.2.length ≤ 1048576) (ht : nd.2.1.length ≤ 1048576) :
  Calls Tryz.prog 44 #[.agg #[.int .i64 nd.1, .string (B nd.2.1), .slice ka nd.2.2.length kc]] w fun e w' =>
   (∃ ga gc, e = .returned (.agg #[.int .i64 nd.1, .string (B nd.2.1), .slice ga nd.2.2.length gc]) ∧ RowI w' w.heap.size (.slice ga nd.2.2.length gc) nd.2.2) ∧ Below w.heap.size w w' := by
 obtain ⟨s, t, k⟩ := nd
 simp only at *
 have HB := hide (zf (zf (Below.refl w.heap.size w) (.cells #[.int .i64 s, .string (B t), .slice ka k.length kc] 56)) (.cells #[.int .i64 0, .string ⟨#[]⟩, .slice none 0 0] 56))
 have HA := hide ((AtC3.new w (.int .i64 s) (.string (B t)) (.slice ka k.length kc) 56).below (zf (Below.refl _ _) (.cells #[.int .i64 0, .string ⟨#[]⟩, .slice none 0 0] 56)))
 have HR := hide (AtC3.new (w.alloc (.cells #[.int .i64 s, .string (B t), .slice ka k.length kc] 56)) (.int .i64 0) (.string ⟨#[]⟩) (.slice none 0 0) 56)
 rw [World.size_alloc] at HR
 have HK := hide hk
 have HC := hide (fun W => zaX t W ht)
 clear hk ht
 go_enter Tryz.func44, Tryz.ntmps44
 go_wp2_with fail
 obtain ⟨W, hW⟩ : ∃ W, (w.alloc (.cells #[.int .i64 s, .string (B t), .slice ka k.length kc] 56)).alloc (.cells #[.int .i64 0, .string ⟨#[]⟩, .slice none 0 0] 56) = W := ⟨_, rfl⟩
 rw [hW] at HB HA HR ⊢
 clear hW
 have a0 := (za HA).n0
 have a1 := (za HA).n1
 have a2 := (za HA).n2
 have d0 : W.drew.cell? ⟨w.heap.size, 0, none⟩ = some (.int .i64 s) := a0
 have d1 : W.drew.cell? ⟨w.heap.size, 1, none⟩ = some (.string (B t)) := a1
 have d2 : W.drew.cell? ⟨w.heap.size, 2, none⟩ = some (.slice ka k.length kc) := a2
 have BA : Hid (Below W.heap.size W (W.alloc (.cells #[] 3)).drew) := hide (zf (Below.refl W.heap.size W) _).drew
 have RA : Hid (RowI (W.alloc (.cells #[] 3)).drew W.heap.size (.slice (some ⟨W.heap.size, 0, none⟩) 0 0) []) := hide (jp W)
 have g0 := ((za HA).below (za BA)).n0
 have g1 := ((za HA).below (za BA)).n1
 have g2 := ((za HA).below (za BA)).n2
 go_region_held_law (fun w' => w'.cell? ⟨w.heap.size, 0, none⟩ = some (.int .i64 s) ∧ w'.cell? ⟨w.heap.size, 1, none⟩ = some (.string (B t)) ∧ w'.cell? ⟨w.heap.size, 2, none⟩ = some (.slice ka k.length kc)) (((try dsimp only); (repeat' apply And.intro) <;> (first | with_reducible assumption | (refine za4 (by with_reducible assumption) (by show w.heap.size ≠ w.heap.size + 1; omega)))))
  ((first
   | (refine zG (by rfl) _ _ (by rfl) W.heap.size (.slice (some ⟨W.heap.size, 0, none⟩) 0 0) (.slice ka k.length kc) [] k (by rfl) (by rfl) (by with_reducible exact za RA) (((za HK).below (za HB)).below (za BA)) (by simp; omega) (za BA).size (some 11) (by rfl) ?_; intro v6 w6 hr6 hg6 _; obtain ⟨ra, rc, rfl⟩ := z7 hr6; have HR6 := hide hr6; have HB6 : Hid (Below W.heap.size W w6) := hide (zw (za BA) (za RA) hg6 (za BA).size); have h0 := ((za HA).below (za HB6)).n0; have h1 := ((za HA).below (za HB6)).n1; have h2 := ((za HA).below (za HB6)).n2; have i0 := ((za HR).below (za HB6)).n0; have i1 := ((za HR).below (za HB6)).n1; have i2 := ((za HR).below (za HB6)).n2; have jf := ((za HR).below (za HB6)).f; clear hr6 hg6)
   | (refine zG (by rfl) _ _ (by rfl) W.heap.size (.slice (some ⟨W.heap.size, 0, none⟩) 0 0) (.slice ka k.length kc) [] k (by rfl) (by rfl) (by with_reducible exact (za RB5)) (((za HK).below (za HB)).below (za HB5)) (by simp; omega) (za HB5).size (some 11) (by rfl) ?_; intro v6 w6 hr6 hg6 _; obtain ⟨ra, rc, rfl⟩ := z7 hr6; have HR6 := hide hr6; have HB6 : Hid (Below W.heap.size W w6) := hide (zw (za HB5) (za RB5) hg6 (za HB5).size); have h0 := ((za HA).below (za HB6)).n0; have h1 := ((za HA).below (za HB6)).n1; have h2 := ((za HA).below (za HB6)).n2; have i0 := ((za HR).below (za HB6)).n0; have i1 := ((za HR).below (za HB6)).n1; have i2 := ((za HR).below (za HB6)).n2; have jf := ((za HR).below (za HB6)).f; clear hr6 hg6)
   | (refine zG (by rfl) _ _ (by rfl) W.heap.size (.slice (some ⟨w5.heap.size, 0, none⟩) 0 0) (.slice ka k.length kc) [] k (by rfl) (by rfl) (by with_reducible exact (za RC5)) (((za HK).below (za HB)).below (zf (za HB5) _)) (by simp; omega) (zf (za HB5) _).size (some 11) (by rfl) ?_; intro v6 w6 hr6 hg6 _; obtain ⟨ra, rc, rfl⟩ := z7 hr6; have HR6 := hide hr6; have HB6 : Hid (Below W.heap.size W w6) := hide (zw (zf (za HB5) _) (za RC5) hg6 (zf (za HB5) _).size); have h0 := ((za HA).below (za HB6)).n0; have h1 := ((za HA).below (za HB6)).n1; have h2 := ((za HA).below (za HB6)).n2; have i0 := ((za HR).below (za HB6)).n0; have i1 := ((za HR).below (za HB6)).n1; have i2 := ((za HR).below (za HB6)).n2; have jf := ((za HR).below (za HB6)).f; clear hr6 hg6)
   | (go_simp; go_at_call 86; refine (za HC _).mono ?_; rintro e w5 ⟨rfl, hb5⟩; have HB5 : Hid (Below W.heap.size W w5) := hide (by first | (with_reducible exact zj (za HB6) hb5) | (with_reducible exact zj (za BA) hb5) | exact (Below.refl W.heap.size W).drew.trans hb5); have RB5 := (by first | (with_reducible exact hide (zr (za HR6) hb5)) | (with_reducible exact hide (zr (za RA) hb5)) | exact True.intro : _); have RC5 : Hid (RowI (w5.alloc (.cells #[] 3)) W.heap.size (.slice (some ⟨w5.heap.size, 0, none⟩) 0 0) []) := hide (zK (jp w5) (za HB5).size); have e0 := ((za HA).below (za HB5)).n0; have e1 := ((za HA).below (za HB5)).n1; have e2 := ((za HA).below (za HB5)).n2; have f0 := ((za HA).below (zf (za HB5) (.cells #[] 3))).n0; have f1 := ((za HA).below (zf (za HB5) (.cells #[] 3))).n1; have f2 := ((za HA).below (zf (za HB5) (.cells #[] 3))).n2; have i0' := ((za HR).below (za HB5)).n0; have i1' := ((za HR).below (za HB5)).n1; have i2' := ((za HR).below (za HB5)).n2; have jf' := ((za HR).below (za HB5)).f; clear hb5; (try dsimp only))))
 ·
  have hR := (za HR).below (za HB6)
  have hne := xQ hR (za HR6) (by decide)
  have hX := YZ hR (.int .i64 s) (.string (B t)) (.slice ra k.length rc)
  have x0 := hX.n0
  have x1 := hX.n1
  have x2 := hX.n2
  have HO := hide (zK (kC (i := 0) (u := .int .i64 s) (v := .string (B t)) (t := .slice ra k.length rc) (za HR6) hne) (za HB).size)
  have HE := hide ((((zj (za HB) (za HB6)).setCell (p := ⟨w.heap.size + 1, 0, none⟩) (by show w.heap.size ≤ w.heap.size + 1; omega) (.int .i64 s)).setCell (p := ⟨w.heap.size + 1, 1, none⟩) (by show w.heap.size ≤ w.heap.size + 1; omega) (.string (B t))).setCell (p := ⟨w.heap.size + 1, 2, none⟩) (by show w.heap.size ≤ w.heap.size + 1; omega) (.slice ra k.length rc))
  clear hne hX hR
  go_wp2_with fail
  refine bodyPost_ret (v := .agg #[.int .i64 s, .string (B t), .slice ra k.length rc]) (by simp [results, Tryz.results44, go_sem, x0, x1, x2]) rfl ⟨⟨_, _, rfl, za HO⟩, za HE⟩
 ·
  have hR := (za HR).below (za HB6)
  have hne := xQ hR (za HR6) (by decide)
  have hX := YZ hR (.int .i64 s) (.string (B t)) (.slice ra k.length rc)
  have x0 := hX.n0
  have x1 := hX.n1
  have x2 := hX.n2
  have HO := hide (zK (kC (i := 0) (u := .int .i64 s) (v := .string (B t)) (t := .slice ra k.length rc) (za HR6) hne) (za HB).size)
  have HE := hide ((((zj (za HB) (za HB6)).setCell (p := ⟨w.heap.size + 1, 0, none⟩) (by show w.heap.size ≤ w.heap.size + 1; omega) (.int .i64 s)).setCell (p := ⟨w.heap.size + 1, 1, none⟩) (by show w.heap.size ≤ w.heap.size + 1; omega) (.string (B t))).setCell (p := ⟨w.heap.size + 1, 2, none⟩) (by show w.heap.size ≤ w.heap.size + 1; omega) (.slice ra k.length rc))
  clear hne hX hR
  go_wp2_with fail
  refine bodyPost_ret (v := .agg #[.int .i64 s, .string (B t), .slice ra k.length rc]) (by simp [results, Tryz.results44, go_sem, x0, x1, x2]) rfl ⟨⟨_, _, rfl, za HO⟩, za HE⟩
end Go.Proofs.YtpbnmhnbkfnaeaaGreatDoor
namespace Go.Proofs.YtpbnmhnbkfnaeaaGreatDoor
structure Pre {L : Type} (cmp : L → L → Int) : Prop where
 neg : ∀ x y, cmp y x = - cmp x y
 le : ∀ x y z, cmp x y ≤ 0 → cmp y z ≤ 0 → cmp x z ≤ 0
theorem Pre.zero {L : Type} {cmp : L → L → Int} (h : Pre cmp) {x y z : L} (h1 : cmp x y = 0) (h2 : cmp y z = 0) : cmp x z = 0 := by
 have a := h.le x y z (by omega) (by omega)
 have b := h.le z y x (by have := h.neg y z; omega) (by have := h.neg x y; omega)
 have := h.neg x z
 omega
theorem Pre.lt {L : Type} {cmp : L → L → Int} (h : Pre cmp) {x y z : L} (h1 : cmp x y ≤ 0) (h2 : cmp y z ≤ 0) (hs : cmp x y < 0 ∨ cmp y z < 0) : cmp x z < 0 := by
 have a := h.le x y z h1 h2
 rcases Int.lt_or_eq_of_le a with e | e
 ·exact e
 ·exfalso
  have n1 := h.neg x z
  rcases hs with hs | hs
  ·have := h.le y z x h2 (by omega)
   have := h.neg x y
   omega
  ·have := h.le z x y (by omega) h1
   have := h.neg y z
   omega
section
variable {L : Type} {cmp : L → L → Int} {ar : L → Nat} {D E F : Dat L} {a b d : Int}
theorem YK {t : Nat} (hl : (D.que a t).length = (E.que b t).length) : (D.lb a t = none ∧ E.lb b t = none) ∨ ∃ x y, D.lb a t = some x ∧ E.lb b t = some y := by
 unfold Dat.lb
 cases e : (D.que a t)[t]? with
 | none =>
  have : (E.que b t)[t]? = none := by rw [List.getElem?_eq_none_iff] at e ⊢; omega
  rw [this]
  exact .inl ⟨rfl, rfl⟩
 | some x =>
  have hlt := (List.getElem?_eq_some_iff.1 e).1
  rw [List.getElem?_eq_getElem (show t < (E.que b t).length by omega)]
  exact .inr ⟨_, _, rfl, rfl⟩
theorem point (hp : Pre cmp) (hD : ∀ x, (D.kids x).length = ar (D.lab x)) (hE : ∀ x, (E.kids x).length = ar (E.lab x)) (hF : ∀ x, (F.kids x).length = ar (F.lab x)) (hc : ∀ x y, cmp x y = 0 → ar x = ar y) {t : Nat}
  (h1 : ∀ s, s < t → cO cmp (D.lb a s) (E.lb b s) = 0) (h2 : ∀ s, s < t → cO cmp (E.lb b s) (F.lb d s) = 0) (l1 : cO cmp (D.lb a t) (E.lb b t) ≤ 0) (l2 : cO cmp (E.lb b t) (F.lb d t) ≤ 0) :
  (cO cmp (D.lb a t) (E.lb b t) = 0 → cO cmp (E.lb b t) (F.lb d t) = 0 → cO cmp (D.lb a t) (F.lb d t) = 0) ∧
  (cO cmp (D.lb a t) (E.lb b t) < 0 ∨ cO cmp (E.lb b t) (F.lb d t) < 0 → cO cmp (D.lb a t) (F.lb d t) < 0) := by
 rcases YK (xP hD hE hc t h1) with ⟨e1, e2⟩ | ⟨x, y, e1, e2⟩
 ·rw [e1, e2]
  exact ⟨fun _ _ => rfl, fun h => by rcases h with h | h <;> exact absurd h (by simp [cO])⟩
 ·rcases YK (xP hE hF hc t h2) with ⟨e3, e4⟩ | ⟨y', z, e3, e4⟩
  ·rw [e2] at e3; cases e3
  ·rw [e2] at e3
   obtain rfl := Option.some.inj e3
   rw [e1, e2] at l1
   rw [e2, e4] at l2
   rw [e1, e2, e4]
   exact ⟨fun g1 g2 => hp.zero g1 g2, fun g => hp.lt l1 l2 g⟩
theorem J3 (hp : Pre cmp) (hD : ∀ x, (D.kids x).length = ar (D.lab x)) (hE : ∀ x, (E.kids x).length = ar (E.lab x)) (hF : ∀ x, (F.kids x).length = ar (F.lab x)) (hc : ∀ x y, cmp x y = 0 → ar x = ar y) {t : Nat}
  (h1 : ∀ s, s < t → cO cmp (D.lb a s) (E.lb b s) = 0) (h2 : ∀ s, s < t → cO cmp (E.lb b s) (F.lb d s) = 0) : ∀ s, s < t → cO cmp (D.lb a s) (F.lb d s) = 0 := fun s hs =>
 (point hp hD hE hF hc (t := s) (fun u hu => h1 u (by omega)) (fun u hu => h2 u (by omega)) (by rw [h1 s hs]; omega) (by rw [h2 s hs]; omega)).1 (h1 s hs) (h2 s hs)
theorem zbh (hp : Pre cmp) (hD : ∀ x, (D.kids x).length = ar (D.lab x)) (hE : ∀ x, (E.kids x).length = ar (E.lab x)) (hF : ∀ x, (F.kids x).length = ar (F.lab x)) (hc : ∀ x y, cmp x y = 0 → ar x = ar y) {r1 r2 r3 : Int}
  (i1 : IsFirst (fun s => cO cmp (D.lb a s) (E.lb b s)) r1) (i2 : IsFirst (fun s => cO cmp (E.lb b s) (F.lb d s)) r2) (i3 : IsFirst (fun s => cO cmp (D.lb a s) (F.lb d s)) r3) (l1 : r1 ≤ 0) (l2 : r2 ≤ 0) :
  r3 ≤ 0 ∧ (r1 < 0 ∨ r2 < 0 → r3 < 0) := by
 have key : ∀ t, (∀ s, s < t → cO cmp (D.lb a s) (E.lb b s) = 0) → (∀ s, s < t → cO cmp (E.lb b s) (F.lb d s) = 0) → cO cmp (D.lb a t) (E.lb b t) ≠ 0 ∨ cO cmp (E.lb b t) (F.lb d t) ≠ 0 → r3 < 0 := by
  intro t h1 h2 hne
  have m1 : cO cmp (D.lb a t) (E.lb b t) ≤ 0 := by
   by_cases e : cO cmp (D.lb a t) (E.lb b t) = 0
   ·omega
   ·have := i1.at h1 e; omega
  have m2 : cO cmp (E.lb b t) (F.lb d t) ≤ 0 := by
   by_cases e : cO cmp (E.lb b t) (F.lb d t) = 0
   ·omega
   ·have := i2.at h2 e; omega
  have h3 := (point hp hD hE hF hc h1 h2 m1 m2).2 (by omega)
  have := i3.at (J3 hp hD hE hF hc h1 h2) (by omega)
  omega
 rcases i1 with ⟨e1, z1⟩ | ⟨t1, g1, n1, e1⟩
 ·rcases i2 with ⟨e2, z2⟩ | ⟨t2, g2, n2, e2⟩
  ·have h3 := i3.zero (fun s => J3 hp hD hE hF hc (t := s + 1) (fun u _ => z1 u) (fun u _ => z2 u) s (by omega))
   omega
  ·have := key t2 (fun s _ => z1 s) g2 (.inr n2)
   omega
 ·rcases i2 with ⟨e2, z2⟩ | ⟨t2, g2, n2, e2⟩
  ·have := key t1 g1 (fun s _ => z2 s) (.inl n1)
   omega
  ·by_cases h : t1 ≤ t2
   ·have := key t1 g1 (fun s hs => g2 s (by omega)) (.inl n1)
    omega
   ·have := key t2 (fun s hs => g1 s (by omega)) g2 (.inr n2)
    omega
theorem Xs (hp : Pre cmp) {r1 r2 : Int} (i1 : IsFirst (fun s => cO cmp (D.lb a s) (E.lb b s)) r1) (i2 : IsFirst (fun s => cO cmp (E.lb b s) (D.lb a s)) r2) : r2 = - r1 := by
 have hn : ∀ s, cO cmp (E.lb b s) (D.lb a s) = - cO cmp (D.lb a s) (E.lb b s) := fun s => by
  cases D.lb a s with
  | none => cases E.lb b s <;> rfl
  | some x => cases E.lb b s with
   | none => rfl
   | some y => exact hp.neg x y
 rcases i1 with ⟨e1, z1⟩ | ⟨t1, g1, n1, e1⟩
 ·rw [i2.zero (fun s => by simp only [hn, z1 s]; rfl), e1]; rfl
 ·simp only at g1 n1 e1
  rw [i2.at (t := t1) (fun s hs => by simp only [hn, g1 s hs]; rfl) (by simp only [hn]; omega), hn, e1]
end
end Go.Proofs.YtpbnmhnbkfnaeaaGreatDoor
namespace Go.Proofs.YtpbnmhnbkfnaeaaGreatDoor
theorem Zi {α : Type} {r : α → α → Int} (hp : Pre r) : ∀ {l m : List α}, l.Pairwise (fun x y => r x y ≤ 0) → m.Pairwise (fun x y => r x y ≤ 0) → (∀ x, l.filter (fun y => decide (r x y = 0)) = m.filter (fun y => decide (r x y = 0))) → l = m := by
 have h0 : ∀ x, r x x = 0 := fun x => by have := hp.neg x x; omega
 have hmem : ∀ {l m : List α}, (∀ x, l.filter (fun y => decide (r x y = 0)) = m.filter (fun y => decide (r x y = 0))) → ∀ x ∈ l, x ∈ m := fun {l m} h x hx => by
  have h1 : x ∈ l.filter (fun y => decide (r x y = 0)) := List.mem_filter.2 ⟨hx, by simp [h0]⟩
  rw [h x] at h1
  exact (List.mem_filter.1 h1).1
 intro l
 induction l with
 | nil =>
  intro m _ _ h
  cases m with
  | nil => rfl
  | cons b t => exact absurd (hmem (fun x => (h x).symm) b List.mem_cons_self) (by simp)
 | cons a t ih =>
  intro m hl hm h
  cases m with
  | nil => exact absurd (hmem h a List.mem_cons_self) (by simp)
  | cons b u =>
   have hb := hmem (fun x => (h x).symm) b List.mem_cons_self
   have ha := hmem h a List.mem_cons_self
   rw [List.pairwise_cons] at hl hm
   have l1 : r a b ≤ 0 := by
    rcases List.mem_cons.1 hb with e | e
    ·rw [e, h0]; omega
    ·exact hl.1 b e
   have l2 : r b a ≤ 0 := by
    rcases List.mem_cons.1 ha with e | e
    ·rw [e, h0]; omega
    ·exact hm.1 a e
   have e0 : r a b = 0 := by have := hp.neg a b; omega
   have h1 := h a
   rw [List.filter_cons_of_pos (by simp [h0]), List.filter_cons_of_pos (by simp [e0])] at h1
   injection h1 with e1 _
   subst e1
   rw [ih hl.2 hm.2 (fun x => ?_)]
   have h2 := h x
   rw [List.filter_cons, List.filter_cons] at h2
   split at h2
   ·injection h2
   ·exact h2
def insF {α : Type} (r : α → α → Int) (x : α) : List α → List α
 | [] => [x]
 | y :: t => if r y x ≤ 0 then y :: insF r x t else x :: y :: t
theorem Ze {α : Type} {r : α → α → Int} {x z : α} : ∀ {l : List α}, z ∈ insF r x l ↔ z = x ∨ z ∈ l
 | [] => by simp [insF]
 | y :: t => by
  unfold insF
  split
  ·rw [List.mem_cons, Ze, List.mem_cons]
   constructor
   ·rintro (h | h | h)
    ·exact .inr (.inl h)
    ·exact .inl h
    ·exact .inr (.inr h)
   ·rintro (h | h | h)
    ·exact .inr (.inl h)
    ·exact .inl h
    ·exact .inr (.inr h)
  ·rw [List.mem_cons]
theorem xy {α : Type} {r : α → α → Int} (hp : Pre r) {x : α} : ∀ {l : List α}, l.Pairwise (fun x y => r x y ≤ 0) → (insF r x l).Pairwise (fun x y => r x y ≤ 0)
 | [], _ => by simp [insF]
 | y :: t, h => by
  rw [List.pairwise_cons] at h
  unfold insF
  split
  ·rename_i e
   rw [List.pairwise_cons]
   refine ⟨fun z hz => ?_, xy hp h.2⟩
   rcases Ze.1 hz with hz | hz
   ·rw [hz]; exact e
   ·exact h.1 z hz
  ·rename_i e
   have hxy : r x y ≤ 0 := by have := hp.neg y x; omega
   rw [List.pairwise_cons, List.pairwise_cons]
   refine ⟨fun z hz => ?_, h⟩
   rcases List.mem_cons.1 hz with hz | hz
   ·rw [hz]; exact hxy
   ·exact hp.le x y z hxy (h.1 z hz)
theorem Qd {α : Type} {r : α → α → Int} (hp : Pre r) {x z : α} : ∀ {l : List α}, l.Pairwise (fun x y => r x y ≤ 0) →
  (insF r x l).filter (fun y => decide (r z y = 0)) = l.filter (fun y => decide (r z y = 0)) ++ [x].filter (fun y => decide (r z y = 0))
 | [], _ => by simp [insF]
 | y :: t, h => by
  rw [List.pairwise_cons] at h
  unfold insF
  split
  ·rw [List.filter_cons, List.filter_cons (xs := t), Qd hp h.2]
   split <;> rfl
  ·rename_i e
   by_cases hz : r z x = 0
   ·have hno : ∀ u ∈ y :: t, r z u ≠ 0 := fun u hu hzu => by
     have h1 : r y u ≤ 0 := by
      rcases List.mem_cons.1 hu with hu | hu
      ·have := hp.neg y y; rw [hu]; omega
      ·exact h.1 u hu
     have h2 : r u x ≤ 0 := hp.le u z x (by have := hp.neg z u; omega) (by omega)
     exact e (hp.le y u x h1 h2)
    have : (y :: t).filter (fun y => decide (r z y = 0)) = [] := by
     rw [List.filter_eq_nil_iff]
     intro u hu
     simpa using hno u hu
    rw [List.filter_cons, this]
    simp [hz]
   ·rw [List.filter_cons]
    simp [hz]
def mrg {α : Type} (r : α → α → Int) : Nat → List α → List α → List α
 | 0, a, b => a ++ b
 | _ + 1, [], b => b
 | _ + 1, x :: a, [] => x :: a
 | f + 1, x :: a, y :: b => if r x y ≤ 0 then x :: mrg r f a (y :: b) else y :: mrg r f (x :: a) b
theorem xX {α : Type} {r : α → α → Int} {z : α} : ∀ {f : Nat} {a b : List α}, z ∈ mrg r f a b ↔ z ∈ a ∨ z ∈ b
 | 0, a, b => by simp [mrg]
 | _ + 1, [], b => by simp [mrg]
 | _ + 1, x :: a, [] => by simp [mrg]
 | f + 1, x :: a, y :: b => by
  unfold mrg
  split
  ·rw [List.mem_cons, xX, List.mem_cons (b := x)]
   exact ⟨fun h => by rcases h with h | h | h <;> simp [h], fun h => by rcases h with (h | h) | h <;> simp [h]⟩
  ·rw [List.mem_cons, xX, List.mem_cons (b := y)]
   exact ⟨fun h => by rcases h with h | h | h <;> simp [h], fun h => by rcases h with h | h | h <;> simp [h]⟩
theorem ke {α : Type} {r : α → α → Int} (hp : Pre r) : ∀ {f : Nat} {a b : List α}, a.length + b.length ≤ f → a.Pairwise (fun x y => r x y ≤ 0) → b.Pairwise (fun x y => r x y ≤ 0) → (mrg r f a b).Pairwise (fun x y => r x y ≤ 0)
 | 0, a, b, hf, ha, hb => by
  have : a = [] := List.eq_nil_of_length_eq_zero (by omega)
  subst this
  simpa [mrg] using hb
 | _ + 1, [], b, _, _, hb => by simpa [mrg] using hb
 | _ + 1, x :: a, [], _, ha, _ => by simpa [mrg] using ha
 | f + 1, x :: a, y :: b, hf, ha, hb => by
  simp only [List.length_cons] at hf
  unfold mrg
  have ha' := List.pairwise_cons.1 ha
  have hb' := List.pairwise_cons.1 hb
  split
  ·rename_i e
   rw [List.pairwise_cons]
   refine ⟨fun z hz => ?_, ke hp (by simp; omega) ha'.2 hb⟩
   rcases xX.1 hz with hz | hz
   ·exact ha'.1 z hz
   ·rcases List.mem_cons.1 hz with hz | hz
    ·rw [hz]; exact e
    ·exact hp.le x y z e (hb'.1 z hz)
  ·rename_i e
   have hyx : r y x ≤ 0 := by have := hp.neg x y; omega
   rw [List.pairwise_cons]
   refine ⟨fun z hz => ?_, ke hp (by simp; omega) ha hb'.2⟩
   rcases xX.1 hz with hz | hz
   ·rcases List.mem_cons.1 hz with hz | hz
    ·rw [hz]; exact hyx
    ·exact hp.le y x z hyx (ha'.1 z hz)
   ·exact hb'.1 z hz
theorem ZF {α : Type} {r : α → α → Int} (hp : Pre r) {z : α} : ∀ {f : Nat} {a b : List α}, a.Pairwise (fun x y => r x y ≤ 0) →
  (mrg r f a b).filter (fun y => decide (r z y = 0)) = a.filter (fun y => decide (r z y = 0)) ++ b.filter (fun y => decide (r z y = 0))
 | 0, a, b, _ => by simp [mrg]
 | _ + 1, [], b, _ => by simp [mrg]
 | _ + 1, x :: a, [], _ => by simp [mrg]
 | f + 1, x :: a, y :: b, ha => by
  have ha' := List.pairwise_cons.1 ha
  unfold mrg
  split
  ·rw [List.filter_cons, ZF hp ha'.2, List.filter_cons (xs := a)]
   split <;> rfl
  ·rename_i e
   rw [List.filter_cons, ZF hp ha, List.filter_cons (xs := b)]
   by_cases hz : r z y = 0
   ·have hno : (x :: a).filter (fun y => decide (r z y = 0)) = [] := by
     rw [List.filter_eq_nil_iff]
     intro u hu hzu
     have hzu : r z u = 0 := by simpa using hzu
     have h1 : r x u ≤ 0 := by
      rcases List.mem_cons.1 hu with hu | hu
      ·have := hp.neg x x; rw [hu]; omega
      ·exact ha'.1 u hu
     exact e (hp.le x u y h1 (hp.le u z y (by have := hp.neg z u; omega) (by omega)))
    rw [hno]
    simp [hz]
   ·simp [hz]
end Go.Proofs.YtpbnmhnbkfnaeaaGreatDoor
namespace Go.Proofs.YtpbnmhnbkfnaeaaGreatDoor
def srt {α : Type} (r : α → α → Int) (l : List α) : List α := l.foldl (fun m x => insF r x m) []
section
variable {α : Type} {r : α → α → Int}
theorem kG (hp : Pre r) : ∀ {l m : List α}, m.Pairwise (fun x y => r x y ≤ 0) → (l.foldl (fun m x => insF r x m) m).Pairwise (fun x y => r x y ≤ 0) ∧
  (∀ z, (l.foldl (fun m x => insF r x m) m).filter (fun y => decide (r z y = 0)) = m.filter (fun y => decide (r z y = 0)) ++ l.filter (fun y => decide (r z y = 0))) ∧ (∀ z, z ∈ l.foldl (fun m x => insF r x m) m ↔ z ∈ m ∨ z ∈ l)
 | [], m, h => ⟨h, fun z => by simp, fun z => by simp⟩
 | x :: l, m, h => by
  obtain ⟨h1, h2, h3⟩ := kG hp (l := l) (xy hp (x := x) h)
  refine ⟨h1, fun z => ?_, fun z => ?_⟩
  ·show (l.foldl (fun m x => insF r x m) (insF r x m)).filter _ = _
   rw [h2, Qd hp h, List.append_assoc, ← List.filter_append]
   rfl
  ·show z ∈ l.foldl (fun m x => insF r x m) (insF r x m) ↔ _
   rw [h3, Ze, List.mem_cons]
   constructor
   ·rintro ((h | h) | h) <;> simp [h]
   ·rintro (h | h | h) <;> simp [h]
theorem qL (hp : Pre r) (l : List α) : (srt r l).Pairwise (fun x y => r x y ≤ 0) := (kG hp List.Pairwise.nil).1
theorem kA (hp : Pre r) (l : List α) (z : α) : (srt r l).filter (fun y => decide (r z y = 0)) = l.filter (fun y => decide (r z y = 0)) := by
 have := (kG hp (l := l) List.Pairwise.nil).2.1 z
 simpa [srt] using this
theorem yM (hp : Pre r) (l : List α) (z : α) : z ∈ srt r l ↔ z ∈ l := by
 have := (kG hp (l := l) List.Pairwise.nil).2.2 z
 simpa [srt] using this
theorem Vh {x : α} : ∀ {l : List α}, (insF r x l).length = l.length + 1
 | [] => rfl
 | y :: t => by
  unfold insF
  split
  ·simp [Vh (l := t)]
  ·simp
theorem Vy : ∀ {l m : List α}, (l.foldl (fun m x => insF r x m) m).length = m.length + l.length
 | [], m => by simp
 | x :: l, m => by
  show (l.foldl (fun m x => insF r x m) (insF r x m)).length = _
  rw [Vy, Vh, List.length_cons]
  omega
theorem jh (l : List α) : (srt r l).length = l.length := by simp [srt, Vy]
theorem X3 (l : List α) (x : α) : srt r (l ++ [x]) = insF r x (srt r l) := by simp [srt]
theorem QH {l : List α} (h : l.length < 2) : srt r l = l := by
 match l, h with
 | [], _ => rfl
 | [x], _ => rfl
theorem zaR (hp : Pre r) (a b : List α) {f : Nat} (hf : a.length + b.length ≤ f) : mrg r f (srt r a) (srt r b) = srt r (a ++ b) := by
 refine Zi hp (ke hp (by rw [jh, jh]; exact hf) (qL hp a) (qL hp b)) (qL hp _) (fun x => ?_)
 rw [ZF hp (qL hp a), kA hp, kA hp, kA hp, List.filter_append]
theorem YP (hp : Pre r) {x : α} : ∀ {l : List α} {k : Nat}, l.Pairwise (fun x y => r x y ≤ 0) → k ≤ l.length → (∀ j y, l[j]? = some y → k ≤ j → 0 < r y x) → (∀ y, l[k - 1]? = some y → 0 < k → r y x ≤ 0) → insF r x l = l.take k ++ [x] ++ l.drop k
 | [], k, _, hk, _, _ => by simp [insF]
 | y :: t, 0, _, _, h1, _ => by
  have := h1 0 y rfl (Nat.le_refl _)
  unfold insF
  rw [if_neg (by omega)]
  rfl
 | y :: t, k + 1, hs, hk, h1, h2 => by
  rw [List.pairwise_cons] at hs
  have hy : r y x ≤ 0 := by
   by_cases e : k = 0
   ·subst e; exact h2 y rfl (by omega)
   ·obtain ⟨z, hz⟩ : ∃ z, (y :: t)[k]? = some z := ⟨_, List.getElem?_eq_getElem (by simp at hk ⊢; omega)⟩
    have hzx := h2 z hz (by omega)
    obtain ⟨k', rfl⟩ : ∃ k', k = k' + 1 := ⟨k - 1, by omega⟩
    have hzt : z ∈ t := List.mem_of_getElem? (i := k') (by simpa using hz)
    exact hp.le y z x (hs.1 z hzt) hzx
  unfold insF
  rw [if_pos hy, YP hp (k := k) hs.2 (by simp at hk; omega) (fun j z hj hkj => h1 (j + 1) z (by simpa using hj) (by omega)) (fun z hz h0 => by
   obtain ⟨k', rfl⟩ : ∃ k', k = k' + 1 := ⟨k - 1, by omega⟩
   exact h2 z (by simpa using hz) (by omega))]
  rfl
end
end Go.Proofs.YtpbnmhnbkfnaeaaGreatDoor
namespace Go.Proofs.YtpbnmhnbkfnaeaaGreatDoor
open Go.RowKit Nt
theorem zO {w w' : World} (k : Below w.heap.size w w') {a : Addr} {v : Value} (h : w.cell? a = some v) : w'.cell? a = some v := (k.cell (World.block_lt_of_cell? _ _ h)).trans h
theorem zbF (n : Bool) (v : Value) (x : Nat) (w : World) (hx : isNat w v x) :
  Calls Tryz.prog 190 #[zS n v] w fun e w' => (∃ p c, e = .returned (.agg #[.bool (!n), .slice p (gr x).length c]) ∧ isNat w' (.slice p (gr x).length c) x) ∧ Below w.heap.size w w' := by
 refine (zbM n v x w hx).mono ?_
 rintro e w' ⟨⟨_, rfl, v1, rfl, hv⟩, hb⟩
 obtain ⟨p, c, rfl⟩ := zt hv
 exact ⟨⟨p, c, rfl, hv⟩, hb⟩
theorem zbn (n m : Bool) (v u : Value) (x y : Nat) (R : Bool × Nat) (hR : plusW (n, x) (m, y) = R) (w : World) (hx : isNat w v x) (hy : isNat w u y) (hsx : (gr x).length ≤ 1000000) (hsy : (gr y).length ≤ 1000000) :
  Calls Tryz.prog 189 #[zS n v, zS m u] w fun e w' => (∃ p c, e = .returned (.agg #[.bool R.1, .slice p (gr R.2).length c])) ∧ Below w.heap.size w w' := by
 refine (zaA n m v u x y w hx hy hsx hsy).mono ?_
 rintro e w' ⟨⟨_, rfl, v1, rfl, hv⟩, hb⟩
 obtain ⟨p, c, rfl⟩ := zt hv
 rw [hR]
 exact ⟨⟨p, c, rfl⟩, hb⟩
theorem Vi (n m : Bool) (v u : Value) (x y : Nat) (w : World) (hx : isNat w v x) (hy : isNat w u y) (hsx : (gr x).length ≤ 1000000) (hsy : (gr y).length ≤ 1000000) :
  Calls Tryz.prog 161 #[zS n v, zS m u] w fun e w' => (∃ p c, e = .returned (.agg #[.bool (n != m), .slice p (gr (x * y)).length c]) ∧ isNat w' (.slice p (gr (x * y)).length c) (x * y)) ∧ Below w.heap.size w w' := by
 refine (zap n m v u x y w hx hy hsx hsy).mono ?_
 rintro e w' ⟨⟨_, rfl, v1, rfl, hv⟩, hb⟩
 obtain ⟨p, c, rfl⟩ := zt hv
 exact ⟨⟨p, c, rfl, isNatB.nat hv⟩, hb⟩
def sgW (R : Bool × Nat) : Int := if R.2 = 0 then 0 else if R.1 then -1 else 1
theorem zaJ (R : Bool × Nat) : sgW R = sgI (sgn R) := by
 obtain ⟨n, x⟩ := R
 unfold sgW sgI sgn
 by_cases hx : x = 0
 ·subst hx; cases n <;> simp
 ·cases n
  ·simp [hx]
   try omega
  ·simp [hx]
   try omega
def MadeW (W : World) (R : Bool × Nat) (s : Value) (wx : World) : Prop :=
 ∃ g p c, s = .pointer (some ⟨g, 0, none⟩) ∧ AtC2 wx g (.bool R.1) (.slice p (gr R.2).length c) 183 ∧ Below W.heap.size W wx
abbrev noWh : Obj := .cells #[.bool false, .slice none 0 0] 183
theorem K2 {W w2 : World} {R : Bool × Nat} {p : Option Addr} {c : Nat} (hK : Below W.heap.size W w2) : MadeW W R (.pointer (some ⟨w2.heap.size, 0, none⟩)) (w2.alloc (.cells #[.bool R.1, .slice p (gr R.2).length c] 183)) :=
 ⟨_, p, c, rfl, AtC2.new _ _ _ _, zf hK _⟩
theorem Qn {W w2 : World} {R : Bool × Nat} {b : Nat} {p : Option Addr} {c : Nat} {x y : Value} (hM : AtC2 w2 b x y 183) (hb : W.heap.size ≤ b) (hK : Below W.heap.size W w2) :
  MadeW W R (.pointer (some ⟨b, 0, none⟩)) ((w2.setCell ⟨b, 0, none⟩ (.bool R.1)).setCell ⟨b, 1, none⟩ (.slice p (gr R.2).length c)) :=
 ⟨b, p, c, rfl, (hM.st0 _).st1 _, (hK.setCell (p := ⟨b, 0, none⟩) hb _).setCell (p := ⟨b, 1, none⟩) hb _⟩
theorem zbK (n m : Bool) (v u : Value) (x y : Nat) (w : World) (hx : isNat w v x) (hy : isNat w u y) (hsx : (gr x).length ≤ 1000000) (hsy : (gr y).length ≤ 1000000) :
  Calls Tryz.prog 162 #[zS n v, zS m u] w fun e w' => e = .returned (.int .i64 (sgW (plusW (n, x) (!m, y)))) ∧ Below w.heap.size w w' := by
 obtain ⟨p, cap, rfl⟩ := zt hx
 obtain ⟨q, cap2, rfl⟩ := zt hy
 obtain ⟨R, hR⟩ : ∃ R, plusW (n, x) (!m, y) = R := ⟨_, rfl⟩
 rw [hR]
 obtain ⟨lx, hlx⟩ : ∃ l, (gr x).length = l := ⟨_, rfl⟩
 obtain ⟨ly, hly⟩ : ∃ l, (gr y).length = l := ⟨_, rfl⟩
 have HNS := hide (fun W h => zbF m (.slice q ly cap2) y W h)
 have HPS := hide (fun W p1 c1 h1 h2 => zbn n (!m) (.slice p lx cap) (.slice p1 ly c1) x y R hR W h1 h2 hsx hsy)
 rw [hly] at HNS hy
 rw [hlx] at hx
 unfold zS at HNS HPS ⊢
 rw [hlx, hly]
 have HX := hide hx
 have HY := hide hy
 have HB := hide (zf (zf (Below.refl w.heap.size w) (.cells #[.bool n, .slice p lx cap] 183)) (.cells #[.bool m, .slice q ly cap2] 183))
 have HA1 := hide ((AtC2.new w (.bool n) (.slice p lx cap) 183).alloc (.cells #[.bool m, .slice q ly cap2] 183))
 have HA2 := hide (AtC2.new (w.alloc (.cells #[.bool n, .slice p lx cap] 183)) (.bool m) (.slice q ly cap2) 183)
 rw [World.size_alloc] at HA2
 clear hx hy hR hlx hly hsx hsy
 go_enter Tryz.func162, Tryz.ntmps162
 go_wp2_with fail
 obtain ⟨W, hW⟩ : ∃ W, (w.alloc (.cells #[.bool n, .slice p lx cap] 183)).alloc (.cells #[.bool m, .slice q ly cap2] 183) = W := ⟨_, rfl⟩
 rw [hW] at HB HA1 HA2 ⊢
 clear hW
 have HX := hide (zo (za HX) (za HB))
 have HY := hide (zo (za HY) (za HB))
 have a0 := (za HA1).n0
 have a1 := (za HA1).n1
 have b0 := (za HA2).n0
 have b1 := (za HA2).n1
 have hWk := zf (Below.refl W.heap.size W) noWh
 have a0' := zO hWk a0
 have a1' := zO hWk a1
 have b0' := zO hWk b0
 have b1' := zO hWk b1
 have HWK := hide hWk
 have HM0 := hide (AtC2.new W (.bool false) (.slice none 0 0) 183)
 clear hWk
 go_cut [5] from 6 to 9 (fun s wx => MadeW W R s wx)
 case first =>
  go_region_with (first
   | (go_at_call 190; refine (za HNS (W.alloc noWh).drew (zo (za HY) (za HWK).drew)).mono ?_; rintro e w1 ⟨⟨p1, c1, rfl, hv1⟩, hb1⟩; have HK1 : Hid (Below W.heap.size W w1) := hide ((za HWK).drew.trans (hb1.mono (za HWK).size)); have HM1 := hide ((za HM0).below ((Below.refl _ _).drew.trans hb1)); have HV1 := hide hv1; have k0 := zO (za HK1) a0; have k1 := zO (za HK1) a1; have k2 := zO (za HK1) b0; have k3 := zO (za HK1) b1; clear hb1 hv1)
   | (go_at_call 190; refine (za HNS W.drew (zo (za HY) (Below.refl _ _).drew)).mono ?_; rintro e w1 ⟨⟨p1, c1, rfl, hv1⟩, hb1⟩; have HK1 : Hid (Below W.heap.size W w1) := (Below.refl _ _).drew.trans hb1; have HV1 := hide hv1; have k0 := zO (za HK1) a0; have k1 := zO (za HK1) a1; have k2 := zO (za HK1) b0; have k3 := zO (za HK1) b1; have hal := zf (Below.refl w1.heap.size w1) noWh; have k0' := zO hal k0; have k1' := zO hal k1; have k2' := zO hal k2; have k3' := zO hal k3; have HAL := hide hal; clear hb1 hv1 hal)
   | (go_at_call 189; refine (za HPS w1 p1 c1 (zo (za HX) (za HK1)) (za HV1)).mono ?_; rintro e w2 ⟨⟨p2, c2, rfl⟩, hb2⟩; have HK2 := hide (zj (za HK1) hb2); have HM2 := hide ((za HM1).below hb2); have m0 := (za HM2).n0; have m1 := (za HM2).n1; have mf := (za HM2).f; clear hb2)
   | (go_at_call 189; refine (za HPS w1 p1 c1 (zo (za HX) (za HK1)) (za HV1)).mono ?_; rintro e w2 ⟨⟨p2, c2, rfl⟩, hb2⟩; have HK2 := hide (zj (za HK1) hb2); clear hb2)
   | (go_at_call 189; refine (za HPS (w1.alloc noWh) p1 c1 (zo (za HX) (zj (za HK1) (za HAL))) (zo (za HV1) (za HAL))).mono ?_; rintro e w2 ⟨⟨p2, c2, rfl⟩, hb2⟩; have HK2 := hide (zj (zj (za HK1) (za HAL)) hb2); have HM2 := hide ((AtC2.new w1 (.bool false) (.slice none 0 0) 183).below hb2); have m0 := (za HM2).n0; have m1 := (za HM2).n1; have mf := (za HM2).f; clear hb2))
  all_goals
   go_wp2_with fail
   go_meet
   first
    | exact K2 (za HK2)
    | exact Qn (za HM2) (Nat.le_refl _) (za HK2)
    | exact Qn (za HM2) (za HK1).size (za HK2)
 case rest =>
 obtain ⟨g, p3, c3, rfl, hM, hb⟩ := hcut
 rename World => w4
 have HB4 := hide (zj (za HB) hb)
 have m0 := hM.n0
 have m1 := hM.n1
 obtain ⟨n3, x3⟩ := R
 simp only at m0 m1
 clear hM hb a0 a1 b0 b1 a0' a1' b0' b1'
 by_cases hx0 : x3 = 0
 ·have hl : (((gr x3).length : Int) == 0) = true := by rw [hx0, ji]; rfl
  have HQ : Hid (sgW (n3, x3) = 0) := hide (by unfold sgW; rw [if_pos hx0])
  clear hx0
  go_wp2_with fail
  go_ret
  exact ⟨zF (za HQ).symm, za HB4⟩
 ·have hl : (((gr x3).length : Int) == 0) = false := by
   rw [beq_eq_false_iff_ne]
   intro e
   have h1 : gr x3 = [] := List.eq_nil_of_length_eq_zero (by omega)
   have h2 := yB (b := 1000000000) (by omega) x3
   unfold gr at h1
   rw [h1] at h2
   exact hx0 h2.symm
  cases n3 with
  | true =>
   have HQ : Hid (sgW (true, x3) = -1) := hide (by unfold sgW; rw [if_neg hx0, if_pos rfl])
   clear hx0
   go_wp2_with fail
   go_ret
   exact ⟨zF (za HQ).symm, za HB4⟩
  | false =>
   have HQ : Hid (sgW (false, x3) = 1) := hide (by unfold sgW; rw [if_neg hx0, if_neg (by simp)])
   clear hx0
   go_wp2_with fail
   go_ret
   exact ⟨zF (za HQ).symm, za HB4⟩
end Go.Proofs.YtpbnmhnbkfnaeaaGreatDoor
namespace Go.Proofs.YtpbnmhnbkfnaeaaGreatDoor
open Go.RowKit Nt
abbrev yI : Array Value := #[.bool false, .slice none 0 0, .bool false, .slice none 0 0]
abbrev noFr : Obj := .cells #[.bool false, .slice none 0 0, .bool false, .slice none 0 0] 185
abbrev st4 (w : World) (b : Nat) (u0 u1 u2 u3 : Value) : World := (((w.setCell ⟨b, 0, none⟩ u0).setCell ⟨b, 1, none⟩ u1).setCell ⟨b, 2, none⟩ u2).setCell ⟨b, 3, none⟩ u3
theorem AtC.m0 {w : World} {b : Nat} {x y z s : Value} {T : TypeId} (h : AtC w b #[x, y, z, s] T) : w.cell? ⟨b, 0, none⟩ = some x := h.c 0
theorem AtC.m1 {w : World} {b : Nat} {x y z s : Value} {T : TypeId} (h : AtC w b #[x, y, z, s] T) : w.cell? ⟨b, 1, none⟩ = some y := h.c 1
theorem AtC.m2 {w : World} {b : Nat} {x y z s : Value} {T : TypeId} (h : AtC w b #[x, y, z, s] T) : w.cell? ⟨b, 2, none⟩ = some z := h.c 2
theorem AtC.m3 {w : World} {b : Nat} {x y z s : Value} {T : TypeId} (h : AtC w b #[x, y, z, s] T) : w.cell? ⟨b, 3, none⟩ = some s := h.c 3
theorem AtC.set4 {w : World} {b : Nat} {x y z s : Value} {T : TypeId} (h : AtC w b #[x, y, z, s] T) (u v t r : Value) : AtC (st4 w b u v t r) b #[u, v, t, r] T := by
 have e : ∀ (w : World) (i : Nat) (cs : Array Value) (u : Value), AtC w b cs T → AtC (w.setCell ⟨b, i, none⟩ u) b (cs.setIfInBounds i u) T := by
  intro w i cs u h
  show (w.heap.modify b _)[b]? = _
  rw [Array.getElem?_modify, if_pos rfl, show w.heap[b]? = _ from h]; rfl
 exact e _ 3 _ _ (e _ 2 _ _ (e _ 1 _ _ (e _ 0 _ _ h)))
theorem AtC.far1 {w : World} {b g i : Nat} {cs : Array Value} {T : TypeId} (h : AtC w g cs T) (hne : g ≠ b) (u : Value) : AtC (w.setCell ⟨b, i, none⟩ u) g cs T := by
 unfold AtC
 rw [Below.heap_setCell _ _ _ _ hne]
 exact h
theorem AtC.far4' {w : World} {b g : Nat} {cs : Array Value} {T : TypeId} (h : AtC w g cs T) (hne : g ≠ b) (u v t r : Value) : AtC (st4 w b u v t r) g cs T :=
 (((h.far1 hne u).far1 hne v).far1 hne t).far1 hne r
theorem xe {w : World} {b x : Nat} {v : Value} {cs : Array Value} {T : TypeId} (h : isNat w v x) (hM : AtC w b cs T) (hT : T ≠ 173) : v.ownBlock ≠ some b := by
 unfold AtC at hM
 rcases h.2 with ⟨rfl, _⟩ | ⟨g1, c1, k1, rfl, _, hg1, _⟩
 ·intro e; simp [Value.ownBlock] at e
 ·intro e
  simp [Value.ownBlock] at e
  subst e
  rw [hg1] at hM
  simp at hM
  exact hT hM.2.symm
theorem kE {w : World} {b i x : Nat} {v : Value} (h : isNat w v x) (hne : v.ownBlock ≠ some b) (u : Value) : isNat (w.setCell ⟨b, i, none⟩ u) v x := by
 rcases h.2 with ⟨rfl, h0⟩ | ⟨g1, c1, k1, rfl, hb, hg1, r⟩
 ·exact ⟨h.1, .inl ⟨rfl, h0⟩⟩
 ·refine ⟨h.1, .inr ⟨g1, c1, k1, rfl, hb, ?_, r⟩⟩
  have : g1 ≠ b := fun e => hne (by rw [e]; rfl)
  rw [Below.heap_setCell _ _ _ _ this]
  exact hg1
theorem vL {w : World} {b x : Nat} {v : Value} (h : isNat w v x) (hne : v.ownBlock ≠ some b) (u0 u1 u2 u3 : Value) : isNat (st4 w b u0 u1 u2 u3) v x :=
 kE (kE (kE (kE h hne u0) hne u1) hne u2) hne u3
theorem QG {B : Nat} {a w : World} (h : Below B a w) {b : Nat} (hb : B ≤ b) (u v t r : Value) : Below B a (st4 w b u v t r) :=
 (((h.setCell (p := ⟨b, 0, none⟩) hb u).setCell (p := ⟨b, 1, none⟩) hb v).setCell (p := ⟨b, 2, none⟩) hb t).setCell (p := ⟨b, 3, none⟩) hb r
abbrev FT : TypeId := 185
def Fin' (w : World) (g : Nat) (n : Bool) (x q : Nat) : Prop := ∃ p c p' c', AtC w g #[.bool n, .slice p (gr x).length c, .bool false, .slice p' (gr q).length c'] FT ∧ isNat w (.slice p (gr x).length c) x ∧ isNat w (.slice p' (gr q).length c') q
section
variable {w : World} {n m : Bool} {x q y r : Nat} {p p' p2 p3 : Option Addr} {c c' c2 c3 : Nat}
theorem YI {b : Nat} (hM : AtC w b yI FT) (h1 : isNat w (.slice p (gr x).length c) x) (h2 : isNat w (.slice p' (gr q).length c') q) : Fin' (st4 w b (.bool n) (.slice p (gr x).length c) (.bool false) (.slice p' (gr q).length c')) b n x q :=
 ⟨p, c, p', c', hM.set4 _ _ _ _, vL h1 (xe h1 hM (by decide)) _ _ _ _, vL h2 (xe h2 hM (by decide)) _ _ _ _⟩
theorem za2 {g b : Nat} (h : Fin' w g n x q) (hM : AtC w b yI FT) (hne : g ≠ b) (u0 u1 u2 u3 : Value) : Fin' (st4 w b u0 u1 u2 u3) g n x q := by
 obtain ⟨p, c, p', c', h1, h2, h3⟩ := h
 exact ⟨p, c, p', c', h1.far4' hne _ _ _ _, vL h2 (xe h2 hM (by decide)) _ _ _ _, vL h3 (xe h3 hM (by decide)) _ _ _ _⟩
def MadeF (W : World) (n m : Bool) (x q y r : Nat) (s5 s6 : Value) (wx : World) : Prop :=
 ∃ g h, s5 = .pointer (some ⟨g, 0, none⟩) ∧ s6 = .pointer (some ⟨h, 0, none⟩) ∧ Fin' wx g n x q ∧ Fin' wx h m y r ∧ Below W.heap.size W wx
end
end Go.Proofs.YtpbnmhnbkfnaeaaGreatDoor
namespace Go.Proofs.YtpbnmhnbkfnaeaaGreatDoor
open Go.RowKit Nt
def FrV (w : World) (n : Bool) (x q : Nat) (v : Value) : Prop := ∃ p c p' c', v = .agg #[.bool n, .slice p (gr x).length c, .bool false, .slice p' (gr q).length c'] ∧ isNat w (.slice p (gr x).length c) x ∧ isNat w (.slice p' (gr q).length c') q
theorem FrV.below {w w' : World} {n : Bool} {x q : Nat} {v : Value} (h : FrV w n x q v) (hb : Below w.heap.size w w') : FrV w' n x q v := by
 obtain ⟨p, c, p', c', e, h1, h2⟩ := h
 exact ⟨p, c, p', c', e, zo h1 hb, zo h2 hb⟩
theorem FrV.st4 {w : World} {b : Nat} {n : Bool} {x q : Nat} {v : Value} (h : FrV w n x q v) (hM : AtC w b yI FT) (u0 u1 u2 u3 : Value) : FrV (st4 w b u0 u1 u2 u3) n x q v := by
 obtain ⟨p, c, p', c', e, h1, h2⟩ := h
 exact ⟨p, c, p', c', e, vL h1 (xe h1 hM (by decide)) _ _ _ _, vL h2 (xe h2 hM (by decide)) _ _ _ _⟩
theorem K8 {w w' : World} {g : Nat} {n : Bool} {x q : Nat} (h : Fin' w g n x q) (hb : Below w.heap.size w w') : Fin' w' g n x q := by
 obtain ⟨p, c, p', c', h1, h2, h3⟩ := h
 exact ⟨p, c, p', c', h1.below hb, zo h2 hb, zo h3 hb⟩
def Box (l : Array Bool) (k : Nat) (w : World) (g : Nat) (n : Bool) (x q : Nat) : Prop := (¬ LL l k ∧ AtC w g yI FT) ∨ (LL l k ∧ Fin' w g n x q)
theorem Box.lt {l : Array Bool} {k g : Nat} {w : World} {n : Bool} {x q : Nat} (h : Box l k w g n x q) : g < w.heap.size := by
 rcases h with ⟨_, h⟩ | ⟨_, _, _, _, _, h, _⟩ <;> exact h.lt
theorem Box.below {l : Array Bool} {k g : Nat} {w w' : World} {n : Bool} {x q : Nat} (h : Box l k w g n x q) (hb : Below w.heap.size w w') : Box l k w' g n x q := by
 rcases h with ⟨e, h⟩ | ⟨e, h⟩
 ·exact .inl ⟨e, h.below hb⟩
 ·exact .inr ⟨e, K8 h hb⟩
theorem Box.far {l : Array Bool} {k g b : Nat} {w : World} {n : Bool} {x q : Nat} (h : Box l k w g n x q) (hM : AtC w b yI FT) (hne : g ≠ b) (u0 u1 u2 u3 : Value) : Box l k (st4 w b u0 u1 u2 u3) g n x q := by
 rcases h with ⟨e, h⟩ | ⟨e, h⟩
 ·exact .inl ⟨e, h.far4' hne _ _ _ _⟩
 ·exact .inr ⟨e, za2 h hM hne _ _ _ _⟩
theorem Box.step {l l' : Array Bool} {k g : Nat} {w : World} {n : Bool} {x q : Nat} (h : Box l k w g n x q) (hk : LL l' k ↔ LL l k) : Box l' k w g n x q := by
 unfold Box at h ⊢
 rw [hk]; exact h
structure NStep (W : World) (n1 n2 : Bool) (x1 y1 x2 y2 : Nat) (t0 t2 : Value) (l : Array Bool) (x : Nat → Value) (w : World) : Prop where
 sz : l.size = 8
 bl : Below W.heap.size W w
 v0 : LL l 0 → x 0 = t0
 v2 : LL l 2 → x 2 = t2
 f1 : LL l 1 → FrV w n1 x1 y1 (x 1)
 f3 : LL l 3 → FrV w n2 x2 y2 (x 3)
 c6 : LL l 6 → LL l 4
 c7 : LL l 7 → LL l 5
 b4 : LL l 4 → ∃ g, x 4 = .pointer (some ⟨g, 0, none⟩) ∧ W.heap.size ≤ g ∧ Box l 6 w g n1 x1 y1
 b5 : LL l 5 → ∃ g, x 5 = .pointer (some ⟨g, 0, none⟩) ∧ W.heap.size ≤ g ∧ Box l 7 w g n2 x2 y2
 ne : LL l 4 → LL l 5 → x 4 ≠ x 5
section
variable {W w w' : World} {n1 n2 : Bool} {x1 y1 x2 y2 : Nat} {t0 t2 u : Value} {l : Array Bool} {x : Nat → Value}
theorem NStep.start (n : l = Array.replicate 8 false) (h : Below W.heap.size W w) : NStep W n1 n2 x1 y1 x2 y2 t0 t2 l x w := by
 subst n
 have hn : ∀ j, ¬ LL (Array.replicate 8 false) j := fun j h => by unfold LL at h; simp [Array.getElem?_replicate] at h
 exact ⟨by simp, h, fun h => absurd h (hn _), fun h => absurd h (hn _), fun h => absurd h (hn _), fun h => absurd h (hn _), fun h => absurd h (hn _), fun h => absurd h (hn _), fun h => absurd h (hn _), fun h => absurd h (hn _), fun h => absurd h (hn _)⟩
theorem NStep.next (h : NStep W n1 n2 x1 y1 x2 y2 t0 t2 l x w) (i : Nat) (hi : i < 6) (hl : ¬ LL l i) (u : Value) (hb : Below w.heap.size w w')
  (h0 : i = 0 → u = t0) (h2 : i = 2 → u = t2) (h1 : i = 1 → FrV w' n1 x1 y1 u) (h3 : i = 3 → FrV w' n2 x2 y2 u)
  (h4 : (i = 4 ∨ i = 5) → u = .pointer (some ⟨w.heap.size, 0, none⟩) ∧ AtC w' w.heap.size yI FT) :
  NStep W n1 n2 x1 y1 x2 y2 t0 t2 (l.setIfInBounds i true) (fun j => if j = i then u else x j) w' := by
 have hs := fun j => vG (l := l) (i := i) (by rw [h.sz]; omega) j
 have hk : ∀ {j}, j ≠ i → (LL (l.setIfInBounds i true) j ↔ LL l j) := fun {j} e => by rw [hs]; simp [e]
 have hx : ∀ {j}, j ≠ i → (if j = i then u else x j) = x j := fun {j} e => if_neg e
 have hB : Below W.heap.size W w' := zj h.bl hb
 refine ⟨by simp [h.sz], hB, fun e => ?_, fun e => ?_, fun e => ?_, fun e => ?_, fun e => ?_, fun e => ?_, fun e => ?_, fun e => ?_, fun e e' => ?_⟩
 ·by_cases c : i = 0
  ·subst c; exact h0 rfl
  ·rw [hx (Ne.symm c)]; exact h.v0 ((hk (Ne.symm c)).1 e)
 ·by_cases c : i = 2
  ·subst c; exact h2 rfl
  ·rw [hx (Ne.symm c)]; exact h.v2 ((hk (Ne.symm c)).1 e)
 ·by_cases c : i = 1
  ·subst c; exact h1 rfl
  ·rw [hx (Ne.symm c)]; exact (h.f1 ((hk (Ne.symm c)).1 e)).below hb
 ·by_cases c : i = 3
  ·subst c; exact h3 rfl
  ·rw [hx (Ne.symm c)]; exact (h.f3 ((hk (Ne.symm c)).1 e)).below hb
 ·exact (hs 4).2 (.inr (h.c6 ((hk (by omega)).1 e)))
 ·exact (hs 5).2 (.inr (h.c7 ((hk (by omega)).1 e)))
 ·by_cases c : i = 4
  ·subst c
   obtain ⟨e1, e2⟩ := h4 (.inl rfl)
   exact ⟨w.heap.size, e1, h.bl.size, .inl ⟨fun q => hl (h.c6 ((hk (by omega)).1 q)), e2⟩⟩
  ·rw [hx (Ne.symm c)]
   obtain ⟨g, e1, e2, e3⟩ := h.b4 ((hk (Ne.symm c)).1 e)
   exact ⟨g, e1, e2, (e3.below hb).step (hk (by omega))⟩
 ·by_cases c : i = 5
  ·subst c
   obtain ⟨e1, e2⟩ := h4 (.inr rfl)
   exact ⟨w.heap.size, e1, h.bl.size, .inl ⟨fun q => hl (h.c7 ((hk (by omega)).1 q)), e2⟩⟩
  ·rw [hx (Ne.symm c)]
   obtain ⟨g, e1, e2, e3⟩ := h.b5 ((hk (Ne.symm c)).1 e)
   exact ⟨g, e1, e2, (e3.below hb).step (hk (by omega))⟩
 ·by_cases c : i = 4
  ·subst c
   obtain ⟨e1, _⟩ := h4 (.inl rfl)
   rw [hx (j := 5) (by omega)]
   obtain ⟨g, q1, _, q3⟩ := h.b5 ((hk (by omega)).1 e')
   rw [q1, if_pos rfl, e1]
   intro q; simp at q; have := q3.lt; omega
  ·by_cases c' : i = 5
   ·subst c'
    obtain ⟨e1, _⟩ := h4 (.inr rfl)
    rw [hx (j := 4) (by omega)]
    obtain ⟨g, q1, _, q3⟩ := h.b4 ((hk (by omega)).1 e)
    rw [q1, if_pos rfl, e1]
    intro q; simp at q; have := q3.lt; omega
   ·rw [hx (Ne.symm c), hx (Ne.symm c')]
    exact h.ne ((hk (Ne.symm c)).1 e) ((hk (Ne.symm c')).1 e')
theorem NStep.do6 (h : NStep W n1 n2 x1 y1 x2 y2 t0 t2 l x w) (hl : ¬ LL l 6) (h1 : LL l 1) (h4 : LL l 4) : ∃ g p c p' c', x 4 = .pointer (some ⟨g, 0, none⟩) ∧ AtC w g yI FT ∧ x 1 = .agg #[.bool n1, .slice p (gr x1).length c, .bool false, .slice p' (gr y1).length c'] ∧
  NStep W n1 n2 x1 y1 x2 y2 t0 t2 (l.setIfInBounds 6 true) x (st4 w g (.bool n1) (.slice p (gr x1).length c) (.bool false) (.slice p' (gr y1).length c')) := by
 obtain ⟨g, e1, e2, e3⟩ := h.b4 h4
 obtain ⟨p, c, p', c', q1, q2, q3⟩ := h.f1 h1
 rcases e3 with ⟨_, e3⟩ | ⟨e, _⟩
 ·have hs := fun j => vG (l := l) (i := 6) (by rw [h.sz]; omega) j
  have hk : ∀ {j}, j ≠ 6 → (LL (l.setIfInBounds 6 true) j ↔ LL l j) := fun {j} e => by rw [hs]; simp [e]
  refine ⟨g, p, c, p', c', e1, e3, q1, by simp [h.sz], QG h.bl e2 _ _ _ _, fun e => h.v0 ((hk (by omega)).1 e), fun e => h.v2 ((hk (by omega)).1 e), fun e => (h.f1 ((hk (by omega)).1 e)).st4 e3 _ _ _ _, fun e => (h.f3 ((hk (by omega)).1 e)).st4 e3 _ _ _ _, fun _ => (hk (by omega)).2 h4, fun e => (hk (by omega)).2 (h.c7 ((hk (by omega)).1 e)), fun _ => ⟨g, e1, e2, .inr ⟨(hs 6).2 (.inl rfl), YI e3 q2 q3⟩⟩, fun e => ?_, fun e e' => h.ne ((hk (by omega)).1 e) ((hk (by omega)).1 e')⟩
  obtain ⟨g', r1, r2, r3⟩ := h.b5 ((hk (by omega)).1 e)
  exact ⟨g', r1, r2, (r3.far e3 (fun q => h.ne h4 ((hk (by omega)).1 e) (by rw [e1, r1, q])) _ _ _ _).step (hk (by omega))⟩
 ·exact absurd e hl
theorem NStep.do7 (h : NStep W n1 n2 x1 y1 x2 y2 t0 t2 l x w) (hl : ¬ LL l 7) (h3 : LL l 3) (h5 : LL l 5) : ∃ g p c p' c', x 5 = .pointer (some ⟨g, 0, none⟩) ∧ AtC w g yI FT ∧ x 3 = .agg #[.bool n2, .slice p (gr x2).length c, .bool false, .slice p' (gr y2).length c'] ∧
  NStep W n1 n2 x1 y1 x2 y2 t0 t2 (l.setIfInBounds 7 true) x (st4 w g (.bool n2) (.slice p (gr x2).length c) (.bool false) (.slice p' (gr y2).length c')) := by
 obtain ⟨g, e1, e2, e3⟩ := h.b5 h5
 obtain ⟨p, c, p', c', q1, q2, q3⟩ := h.f3 h3
 rcases e3 with ⟨_, e3⟩ | ⟨e, _⟩
 ·have hs := fun j => vG (l := l) (i := 7) (by rw [h.sz]; omega) j
  have hk : ∀ {j}, j ≠ 7 → (LL (l.setIfInBounds 7 true) j ↔ LL l j) := fun {j} e => by rw [hs]; simp [e]
  refine ⟨g, p, c, p', c', e1, e3, q1, by simp [h.sz], QG h.bl e2 _ _ _ _, fun e => h.v0 ((hk (by omega)).1 e), fun e => h.v2 ((hk (by omega)).1 e), fun e => (h.f1 ((hk (by omega)).1 e)).st4 e3 _ _ _ _, fun e => (h.f3 ((hk (by omega)).1 e)).st4 e3 _ _ _ _, fun e => (hk (by omega)).2 (h.c6 ((hk (by omega)).1 e)), fun _ => (hk (by omega)).2 h5, fun e => ?_, fun _ => ⟨g, e1, e2, .inr ⟨(hs 7).2 (.inl rfl), YI e3 q2 q3⟩⟩, fun e e' => h.ne ((hk (by omega)).1 e) ((hk (by omega)).1 e')⟩
  obtain ⟨g', r1, r2, r3⟩ := h.b4 ((hk (by omega)).1 e)
  exact ⟨g', r1, r2, (r3.far e3 (fun q => h.ne ((hk (by omega)).1 e) h5 (by rw [e1, r1, q])) _ _ _ _).step (hk (by omega))⟩
 ·exact absurd e hl
theorem NStep.done (h : NStep W n1 n2 x1 y1 x2 y2 t0 t2 l x w) (h6 : LL l 6) (h7 : LL l 7) : MadeF W n1 n2 x1 y1 x2 y2 (x 4) (x 5) w := by
 obtain ⟨g, e1, _, e3⟩ := h.b4 (h.c6 h6)
 obtain ⟨g', r1, _, r3⟩ := h.b5 (h.c7 h7)
 rcases e3 with ⟨e, _⟩ | ⟨_, e3⟩
 ·exact absurd h6 e
 rcases r3 with ⟨e, _⟩ | ⟨_, r3⟩
 ·exact absurd h7 e
 exact ⟨g, g', e1, r1, e3, r3, h.bl⟩
end
end Go.Proofs.YtpbnmhnbkfnaeaaGreatDoor
namespace Go.Proofs.YtpbnmhnbkfnaeaaGreatDoor
open Go.RowKit Nt
theorem XW (neg : Bool) (a q : Nat) (w : World) (ha : (dec a).size ≤ 60) (hq : (dec q).size ≤ 60) (hT : Tens w) :
  Calls Tryz.prog 160 #[.agg #[.bool neg, .string (dec a), .string (dec q)]] w fun e w' => (∃ p c p' c', e = .returned (.agg #[.bool neg, .slice p (gr a).length c, .bool false, .slice p' (gr q).length c']) ∧ isNat w' (.slice p (gr a).length c) a ∧ isNat w' (.slice p' (gr q).length c') q) ∧ Below w.heap.size w w' := by
 refine (QV neg a q w ha hq hT).mono ?_
 rintro e w' ⟨⟨v, u, rfl, hv, hu⟩, hb⟩
 obtain ⟨p, c, rfl⟩ := zt hv
 obtain ⟨p', c', rfl⟩ := zt hu
 exact ⟨⟨p, c, p', c', rfl, hv.nat, hu.nat⟩, hb⟩
theorem KR (n1 n2 : Bool) (x1 y1 x2 y2 : Nat) : sgW (plusW (n1, x1 * y2) (!n2, x2 * y1)) = cmpRt (n1, x1, y1) (n2, x2, y2) := by
 rw [zaJ, KK, Y1, Y1, zbs, Int.neg_mul]
 rfl
theorem VU (n1 n2 : Bool) (x1 y1 x2 y2 : Nat) (w : World) (sx1 : (dec x1).size ≤ 60) (sy1 : (dec y1).size ≤ 60) (sx2 : (dec x2).size ≤ 60) (sy2 : (dec y2).size ≤ 60) (hT : Tens w) (h3 : 3 < w.heap.size)
  (ho1 : okM n1 (txl 10 x1) (txl 10 y1) = true) (ho2 : okM n2 (txl 10 x2) (txl 10 y2) = true) :
  Calls Tryz.prog 129 #[.agg #[.bool n1, .string (dec x1), .string (dec y1)], .agg #[.bool n2, .string (dec x2), .string (dec y2)]] w fun e w' => e = .returned (.int .i64 (cmpRt (n1, x1, y1) (n2, x2, y2))) ∧ Below w.heap.size w w' := by
 obtain ⟨R, hR⟩ : ∃ R, cmpRt (n1, x1, y1) (n2, x2, y2) = R := ⟨_, rfl⟩
 rw [hR]
 have HCR := hide hR
 clear hR
 have HO1 := hide (fun W h => (by have := jm n1 (txl 10 x1) (txl 10 y1) W (by rw [← zH]; omega) (by rw [← zH]; omega) h; rw [ho1] at this; exact this : Calls Tryz.prog 159 #[.agg #[.bool n1, .string (dec x1), .string (dec y1)]] W fun e w' => e = .returned (.bool true) ∧ Below W.heap.size W w'))
 have HO2 := hide (fun W h => (by have := jm n2 (txl 10 x2) (txl 10 y2) W (by rw [← zH]; omega) (by rw [← zH]; omega) h; rw [ho2] at this; exact this : Calls Tryz.prog 159 #[.agg #[.bool n2, .string (dec x2), .string (dec y2)]] W fun e w' => e = .returned (.bool true) ∧ Below W.heap.size W w'))
 have HF1 := hide (fun W h => XW n1 x1 y1 W sx1 sy1 h)
 have HF2 := hide (fun W h => XW n2 x2 y2 W sx2 sy2 h)
 have HSX := hide (And.intro sx1 (And.intro sy1 (And.intro sx2 sy2)))
 have HTL := hide h3
 have hb00 := qF w (.bool n1) (.string (dec x1)) (.string (dec y1)) (.bool n2) (.string (dec x2)) (.string (dec y2)) 79
 have HB0 := hide hb00
 have HA10 := hide ((AtC3.new w (.bool n1) (.string (dec x1)) (.string (dec y1)) 79).below (zf (Below.refl _ _) (.cells #[.bool n2, .string (dec x2), .string (dec y2)] 79)))
 have HA20 := hide (AtC3.new (w.alloc (.cells #[.bool n1, .string (dec x1), .string (dec y1)] 79)) (.bool n2) (.string (dec x2)) (.string (dec y2)) 79)
 rw [World.size_alloc] at HA20
 clear ho1 ho2 sx1 sy1 sx2 sy2 hb00
 go_enter Tryz.func129, Tryz.ntmps129
 go_wp2_with fail
 obtain ⟨W0, hW⟩ : ∃ W, (w.alloc (.cells #[.bool n1, .string (dec x1), .string (dec y1)] 79)).alloc (.cells #[.bool n2, .string (dec x2), .string (dec y2)] 79) = W := ⟨_, rfl⟩
 rw [hW] at HB0 HA10 HA20 ⊢
 clear hW
 refine (za HO1 W0 (hT.belowB (za HB0) h3)).mono ?_
 rintro e Wa ⟨rfl, hba⟩
 have HBa := hide (zj (za HB0) hba)
 have HA1a := hide ((za HA10).below hba)
 have HA2a := hide ((za HA20).below hba)
 have r0 := (za HA2a).n0
 have r1 := (za HA2a).n1
 have r2 := (za HA2a).n2
 clear hba
 go_wp2_with fail
 refine (za HO2 Wa (hT.belowB (za HBa) h3)).mono ?_
 rintro e W ⟨rfl, hbb⟩
 have HB := hide (zj (za HBa) hbb)
 have HA1 := hide ((za HA1a).below hbb)
 have HA2 := hide ((za HA2a).below hbb)
 have HT := hide (hT.belowB (za HB) h3)
 have HTL2 : Hid (3 < W.heap.size) := hide (by have := (za HB).size; omega)
 clear hbb r0 r1 r2 HTL hT h3 HBa HA1a HA2a HB0 HA10 HA20
 have HTL := HTL2
 have a0 := (za HA1).n0
 have a1 := (za HA1).n1
 have a2 := (za HA1).n2
 have a3 := (za HA2).n0
 have a4 := (za HA2).n1
 have a5 := (za HA2).n2
 have HSIX : Hid (∀ w', Below W.heap.size W w' → w'.cell? ⟨w.heap.size, 0, none⟩ = some (.bool n1) ∧ w'.cell? ⟨w.heap.size, 1, none⟩ = some (.string (dec x1)) ∧ w'.cell? ⟨w.heap.size, 2, none⟩ = some (.string (dec y1)) ∧ w'.cell? ⟨w.heap.size + 1, 0, none⟩ = some (.bool n2) ∧ w'.cell? ⟨w.heap.size + 1, 1, none⟩ = some (.string (dec x2)) ∧ w'.cell? ⟨w.heap.size + 1, 2, none⟩ = some (.string (dec y2))) := hide (fun w' h => ⟨((za HA1).below h).n0, ((za HA1).below h).n1, ((za HA1).below h).n2, ((za HA2).below h).n0, ((za HA2).below h).n1, ((za HA2).below h).n2⟩)
 go_wp2_with fail
 go_cut [5, 6] from 15 to 18 (fun s5 s6 wx => MadeF W n1 n2 x1 y1 x2 y2 s5 s6 wx)
 case first =>
  refine wp_region_any (by kernel_rfl) ?_
  change wpAny _ _ _ _ _ _ _ (World.drew _)
  refine vM (fun l a w' => ∃ x : Nat → Value, a = ⟨#[.agg #[.bool n1, .string (dec x1), .string (dec y1)], .agg #[.bool n2, .string (dec x2), .string (dec y2)], .pointer (some ⟨w.heap.size, 0, none⟩), .pointer (some ⟨w.heap.size + 1, 0, none⟩), .int .i64 0, x 4, x 5, .agg #[.bool n1, .string (dec x1), .string (dec y1)], .bool true, .bool false, .bool false, .agg #[.bool n2, .string (dec x2), .string (dec y2)], .bool true, .bool false, .bool false, x 0, x 1, x 2, x 3, undef, undef, undef, undef, undef, undef, undef, undef, undef, undef, undef], []⟩ ∧ NStep W n1 n2 x1 y1 x2 y2 (.agg #[.bool n1, .string (dec x1), .string (dec y1)]) (.agg #[.bool n2, .string (dec x2), .string (dec y2)]) l x w') ?hsz ?hend ?hstep ?hgo _ _ _ _ ?h0 ?hc
  case hsz =>
   rintro l a w' ⟨x, _, h⟩
   exact h.sz
  case h0 => exact ⟨fun _ => undef, rfl, NStep.start rfl (Below.refl _ _).drew⟩
  case hc => exact Nat.le_of_eq rfl
  case hgo =>
   rintro l a w' ⟨x, rfl, h⟩ hr j hj
   have k0 : l[0]? = some true := ze hr 0 (by simp) (by rw [h.sz]; rfl) (by simp [Region.binds, Array.getD_eq_getD_getElem?])
   have k2 : l[2]? = some true := ze hr 2 (by simp) (by rw [h.sz]; rfl) (by simp [Region.binds, Array.getD_eq_getD_getElem?])
   have k4 : l[4]? = some true := ze hr 4 (by simp) (by rw [h.sz]; rfl) (by simp [Region.binds, Array.getD_eq_getD_getElem?])
   have k5 : l[5]? = some true := ze hr 5 (by simp) (by rw [h.sz]; rfl) (by simp [Region.binds, Array.getD_eq_getD_getElem?])
   have k1 : l[1]? = some true := ze hr 1 (by simp) (by rw [h.sz]; rfl) (by simp [Region.binds, Array.getD_eq_getD_getElem?, k0])
   have k3 : l[3]? = some true := ze hr 3 (by simp) (by rw [h.sz]; rfl) (by simp [Region.binds, Array.getD_eq_getD_getElem?, k2, k1])
   have k6 : l[6]? = some true := ze hr 6 (by simp) (by rw [h.sz]; rfl) (by simp [Region.binds, Array.getD_eq_getD_getElem?, k0, k2, k4, k5, k1, k3])
   have k7 : l[7]? = some true := ze hr 7 (by simp) (by rw [h.sz]; rfl) (by simp [Region.binds, Array.getD_eq_getD_getElem?, k0, k2, k4, k5, k1, k3, k6])
   have hj : j < 8 := by simpa using hj
   rcases (by omega : j = 0 ∨ j = 1 ∨ j = 2 ∨ j = 3 ∨ j = 4 ∨ j = 5 ∨ j = 6 ∨ j = 7) with rfl | rfl | rfl | rfl | rfl | rfl | rfl | rfl
   all_goals assumption
  case hstep =>
   rintro l a w' j ⟨x, rfl, h⟩ hi
   have hi2 := hi
   unfold Region.ready at hi2
   rw [List.mem_filter] at hi2
   obtain ⟨hjj, hi3⟩ := hi2
   have hjj : j < 8 := by simpa using hjj
   have hjl : ¬ LL l j := fun e => by
    unfold LL at e
    simp [Array.getD_eq_getD_getElem?, e] at hi3
   clear hi
   rcases (by omega : j = 0 ∨ j = 1 ∨ j = 2 ∨ j = 3 ∨ j = 4 ∨ j = 5 ∨ j = 6 ∨ j = 7) with rfl | rfl | rfl | rfl | rfl | rfl | rfl | rfl
   ·clear hi3
    obtain ⟨y0, y1', y2', z0, z1, z2⟩ := (za HSIX) w' h.bl
    refine wpOp_step rfl (fun K hK => ?_)
    go_simp
    exact hK _ _ ⟨_, by simp, h.next 0 (by omega) hjl (.agg #[.bool n1, .string (dec x1), .string (dec y1)]) (Below.refl _ _) (fun _ => rfl) (fun e => by omega) (fun e => by omega) (fun e => by omega) (fun e => by omega)⟩
   ·have l0 : LL l 0 := LL_of (by simp [Region.binds, Array.getD_eq_getD_getElem?] at hi3; simp [hi3])
    clear hi3
    have x0' := h.v0 l0
    refine wpOp_step rfl (fun K hK => ?_)
    go_simp
    go_at_call 160
    refine (za HF1 w' ((za HT).belowB h.bl (za HTL))).mono ?_
    rintro e w1 ⟨⟨p, c, p', c', rfl, hv, hu⟩, hb⟩
    (try dsimp only)
    exact hK _ _ ⟨_, by simp [x0'], h.next 1 (by omega) hjl _ hb (fun e => by omega) (fun e => by omega) (fun _ => ⟨p, c, p', c', rfl, hv, hu⟩) (fun e => by omega) (fun e => by omega)⟩
   ·clear hi3
    obtain ⟨y0, y1', y2', z0, z1, z2⟩ := (za HSIX) w' h.bl
    refine wpOp_step rfl (fun K hK => ?_)
    go_simp
    exact hK _ _ ⟨_, by simp, h.next 2 (by omega) hjl (.agg #[.bool n2, .string (dec x2), .string (dec y2)]) (Below.refl _ _) (fun e => by omega) (fun _ => rfl) (fun e => by omega) (fun e => by omega) (fun e => by omega)⟩
   ·have l2 : LL l 2 := LL_of (by simp [Region.binds, Array.getD_eq_getD_getElem?] at hi3; simp [hi3])
    clear hi3
    have x2' := h.v2 l2
    refine wpOp_step rfl (fun K hK => ?_)
    go_simp
    go_at_call 160
    refine (za HF2 w' ((za HT).belowB h.bl (za HTL))).mono ?_
    rintro e w1 ⟨⟨p, c, p', c', rfl, hv, hu⟩, hb⟩
    (try dsimp only)
    exact hK _ _ ⟨_, by simp [x2'], h.next 3 (by omega) hjl _ hb (fun e => by omega) (fun e => by omega) (fun e => by omega) (fun _ => ⟨p, c, p', c', rfl, hv, hu⟩) (fun e => by omega)⟩
   ·clear hi3
    refine wpOp_step rfl (fun K hK => ?_)
    go_simp
    exact hK _ _ ⟨_, by simp, h.next 4 (by omega) hjl (.pointer (some ⟨w'.heap.size, 0, none⟩)) (zf (Below.refl _ _) noFr) (fun e => by omega) (fun e => by omega) (fun e => by omega) (fun e => by omega) (fun _ => ⟨rfl, AtC.new _ _ _⟩)⟩
   ·clear hi3
    refine wpOp_step rfl (fun K hK => ?_)
    go_simp
    exact hK _ _ ⟨_, by simp, h.next 5 (by omega) hjl (.pointer (some ⟨w'.heap.size, 0, none⟩)) (zf (Below.refl _ _) noFr) (fun e => by omega) (fun e => by omega) (fun e => by omega) (fun e => by omega) (fun _ => ⟨rfl, AtC.new _ _ _⟩)⟩
   ·have l1 : LL l 1 := LL_of (by simp [Region.binds, Array.getD_eq_getD_getElem?] at hi3; simp [hi3])
    have l4 : LL l 4 := LL_of (by simp [Region.binds, Array.getD_eq_getD_getElem?] at hi3; simp [hi3])
    clear hi3
    obtain ⟨g, p, c, p', c', e5, hM, e1, hn⟩ := h.do6 hjl l1 l4
    have m0 := hM.m0
    have m1 := hM.m1
    have m2 := hM.m2
    have m3 := hM.m3
    have mf := hM.f
    have HN := hide hn
    clear hM hn
    refine wpOp_step rfl (fun K hK => ?_)
    go_simp
    exact hK _ _ ⟨_, by simp [e1, e5], za HN⟩
   ·have l3 : LL l 3 := LL_of (by simp [Region.binds, Array.getD_eq_getD_getElem?] at hi3; simp [hi3])
    have l5 : LL l 5 := LL_of (by simp [Region.binds, Array.getD_eq_getD_getElem?] at hi3; simp [hi3])
    clear hi3
    obtain ⟨g, p, c, p', c', e5, hM, e1, hn⟩ := h.do7 hjl l3 l5
    have m0 := hM.m0
    have m1 := hM.m1
    have m2 := hM.m2
    have m3 := hM.m3
    have mf := hM.f
    have HN := hide hn
    clear hM hn
    refine wpOp_step rfl (fun K hK => ?_)
    go_simp
    exact hK _ _ ⟨_, by simp [e1, e5], za HN⟩
  case hend =>
   rintro l a w' ⟨x, rfl, h⟩ hall
   have HD := hide (h.done (hall 6 (by simp)) (hall 7 (by simp)))
   clear h hall
   go_wp2_with fail
   go_meet
   exact za HD
 case rest =>
 obtain ⟨g, h, rfl, rfl, ⟨p1, c1, q1, e1, hM1, v1, u1⟩, ⟨p2, c2, q2, e2, hM2, v2, u2⟩, hb⟩ := hcut
 rename World => w3
 have HB3 := hide (zj (za HB) hb)
 have HG := hide hM1
 have HH := hide hM2
 have HV1 := hide v1
 have HU1 := hide u1
 have HV2 := hide v2
 have HU2 := hide u2
 have a0 := hM1.m0
 have a1 := hM1.m1
 have a2 := hM1.m2
 have a3 := hM1.m3
 have b0 := hM2.m0
 have b1 := hM2.m1
 have b2 := hM2.m2
 have b3 := hM2.m3
 have HE8 : Hid (∀ w', Below w3.heap.size w3 w' → w'.cell? ⟨g, 0, none⟩ = some (.bool n1) ∧ w'.cell? ⟨g, 1, none⟩ = some (.slice p1 (gr x1).length c1) ∧ w'.cell? ⟨g, 2, none⟩ = some (.bool false) ∧ w'.cell? ⟨g, 3, none⟩ = some (.slice q1 (gr y1).length e1) ∧ w'.cell? ⟨h, 0, none⟩ = some (.bool n2) ∧ w'.cell? ⟨h, 1, none⟩ = some (.slice p2 (gr x2).length c2) ∧ w'.cell? ⟨h, 2, none⟩ = some (.bool false) ∧ w'.cell? ⟨h, 3, none⟩ = some (.slice q2 (gr y2).length e2)) := hide (fun w' hb => ⟨(hM1.below hb).m0, (hM1.below hb).m1, (hM1.below hb).m2, (hM1.below hb).m3, (hM2.below hb).m0, (hM2.below hb).m1, (hM2.below hb).m2, (hM2.below hb).m3⟩)
 obtain ⟨sx1, sy1, sx2, sy2⟩ := za HSX
 have d1 := jS (kt sx1 sy2)
 have d2 := jS (kt sx2 sy1)
 have g1 := jS sx1
 have g2 := jS sy1
 have g3 := jS sx2
 have g4 := jS sy2
 have HT1 : Hid (∀ W, Below w3.heap.size w3 W → Calls Tryz.prog 161 #[zS n1 (.slice p1 (gr x1).length c1), zS false (.slice q2 (gr y2).length e2)] W fun e w' => (∃ p c, e = .returned (.agg #[.bool n1, .slice p (gr (x1 * y2)).length c]) ∧ isNat w' (.slice p (gr (x1 * y2)).length c) (x1 * y2)) ∧ Below W.heap.size W w') := hide (fun W hb => by have := Vi n1 false _ _ x1 y2 W (zo v1 hb) (zo u2 hb) (by omega) (by omega); simpa only [Bool.bne_false] using this)
 have HT2 : Hid (∀ W, Below w3.heap.size w3 W → Calls Tryz.prog 161 #[zS n2 (.slice p2 (gr x2).length c2), zS false (.slice q1 (gr y1).length e1)] W fun e w' => (∃ p c, e = .returned (.agg #[.bool n2, .slice p (gr (x2 * y1)).length c]) ∧ isNat w' (.slice p (gr (x2 * y1)).length c) (x2 * y1)) ∧ Below W.heap.size W w') := hide (fun W hb => by have := Vi n2 false _ _ x2 y1 W (zo v2 hb) (zo u1 hb) (by omega) (by omega); simpa only [Bool.bne_false] using this)
 have HWC : Hid (∀ W v u, isNat W v (x1 * y2) → isNat W u (x2 * y1) → Calls Tryz.prog 162 #[zS n1 v, zS n2 u] W fun e w' => e = .returned (.int .i64 R) ∧ Below W.heap.size W w') := hide (fun W v u hv hu => by rw [← za HCR, ← KR]; exact zbK n1 n2 v u (x1 * y2) (x2 * y1) W hv hu (by omega) (by omega))
 clear hb hM1 hM2 v1 u1 v2 u2 sx1 sy1 sx2 sy2 d1 d2 g1 g2 g3 g4 HSX HSIX HCR
 obtain ⟨lx1, hl1⟩ : ∃ l, (gr x1).length = l := ⟨_, rfl⟩
 obtain ⟨ly1, hl2⟩ : ∃ l, (gr y1).length = l := ⟨_, rfl⟩
 obtain ⟨lx2, hl3⟩ : ∃ l, (gr x2).length = l := ⟨_, rfl⟩
 obtain ⟨ly2, hl4⟩ : ∃ l, (gr y2).length = l := ⟨_, rfl⟩
 obtain ⟨lm1, hl5⟩ : ∃ l, (gr (x1 * y2)).length = l := ⟨_, rfl⟩
 obtain ⟨lm2, hl6⟩ : ∃ l, (gr (x2 * y1)).length = l := ⟨_, rfl⟩
 rw [hl1] at HE8 HT1 a1
 rw [hl2] at HE8 HT2 a3
 rw [hl3] at HE8 HT2 b1
 rw [hl4] at HE8 HT1 b3
 rw [hl5] at HT1
 rw [hl6] at HT2
 clear hl1 hl2 hl3 hl4 hl5 hl6 HG HH HV1 HU1 HV2 HU2
 go_wp2_with fail
 go_region_held3 (fun w' => w'.cell? ⟨g, 0, none⟩ = some (.bool n1) ∧ w'.cell? ⟨g, 1, none⟩ = some (.slice p1 lx1 c1) ∧ w'.cell? ⟨g, 2, none⟩ = some (.bool false) ∧ w'.cell? ⟨g, 3, none⟩ = some (.slice q1 ly1 e1) ∧ w'.cell? ⟨h, 0, none⟩ = some (.bool n2) ∧ w'.cell? ⟨h, 1, none⟩ = some (.slice p2 lx2 c2) ∧ w'.cell? ⟨h, 2, none⟩ = some (.bool false) ∧ w'.cell? ⟨h, 3, none⟩ = some (.slice q2 ly2 e2)) ((refine za HE8 _ ?_; first | with_reducible exact za HK3 | with_reducible exact za HK2 | with_reducible exact za HK1 | exact (Below.refl _ _).drew | exact Below.refl _ _)) (first
  | (go_at_call_of 161 (Value.slice p1 lx1 c1); refine (za HT1 w3.drew (Below.refl _ _).drew).mono ?_; rintro e w4 ⟨⟨r1, k1, rfl, hv1⟩, hb1⟩; have HK1 : Hid (Below w3.heap.size w3 w4) := hide ((Below.refl _ _).drew.trans hb1); have HV1 := hide hv1; clear hb1 hv1)
  | (go_at_call_of 161 (Value.slice p2 lx2 c2); refine (za HT2 w4 (za HK1)).mono ?_; rintro e w5 ⟨⟨r2, k2, rfl, hv2⟩, hb2⟩; have HK2 : Hid (Below w3.heap.size w3 w5) := hide (zj (za HK1) hb2); have HV2 := hide hv2; have HV1' := hide (zo (za HV1) hb2); clear hb2 hv2)
  | (go_at_call 162; refine (za HWC w5 _ _ (za HV1') (za HV2)).mono ?_; rintro e w6 ⟨rfl, hb3⟩; have HK3 : Hid (Below w3.heap.size w3 w6) := hide (zj (za HK2) hb3); clear hb3))
 all_goals
  go_wp2_with fail
  go_ret
  exact ⟨rfl, zj (za HB3) (za HK3)⟩
end Go.Proofs.YtpbnmhnbkfnaeaaGreatDoor
