/- A part of the proof, put together out of smaller texts. -/
import Derived.Test.YtpbnmhnbkfnaeaaGreatDoorM2
import Derived.Deep.RegionLaw
import Derived.Deep.AppendLies
import Derived.Deep.RegionHeldLaw
import Derived.Deep.RegionHeld3
import Derived.RegionIn
import Derived.Maps.AppendAt
set_option linter.all false
set_option maxRecDepth 100000
set_option maxHeartbeats 32000000
namespace Go.Proofs.YtpbnmhnbkfnaeaaGreatDoor
open Go.RowKit Nt
def prM (neg : Bool) (a d b : Nat) : List UInt8 := (if neg then [45] else []) ++ txl b a ++ (if d = 1 then [] else 47 :: txl b d)
def zU (neg : Bool) (u d : List UInt8) (r : Int) : List UInt8 := if okM neg u d && zJ r then prM neg (zy u) (zy d) r.toNat else []
theorem qK {neg : Bool} {u d : List UInt8} (h : okM neg u d = true) : isDec u = true ∧ isDec d = true ∧ u.length ≤ 60 ∧ d.length ≤ 60 ∧ zy d ≠ 0 ∧ (neg = true → zy u ≠ 0) ∧ Nat.gcd (zy u) (zy d) = 1 := by
 unfold okM at h
 simp only [Bool.and_eq_true, decide_eq_true_eq, Bool.not_eq_true', Bool.and_eq_false_iff, decide_eq_false_iff_not] at h
 obtain ⟨⟨⟨⟨⟨⟨h1, h2⟩, h3⟩, h4⟩, h5⟩, h6⟩, h7⟩ := h
 exact ⟨h3, h4, h1, h2, h5, fun hn => by rcases h6 with h6 | h6; rw [hn] at h6; cases h6; exact h6, h7⟩
theorem vJ {b n : Nat} (hb2 : 2 ≤ b) (h : (dec n).size ≤ 60) : (txt b n).size ≤ 240 := by
 unfold txt; rw [zi]
 apply qk hb2 (by omega)
 have h1 := qH n
 have h2 : (10 : Nat) ^ (dec n).size ≤ 16 ^ 60 := Nat.le_trans (Nat.pow_le_pow_left (by omega) _) (Nat.pow_le_pow_right (by omega) h)
 have h3 : (16 : Nat) ^ 60 = 2 ^ 240 := by rw [show (16 : Nat) = 2 ^ 4 from rfl, ← Nat.pow_mul]
 have h4 : (2 : Nat) ^ 240 ≤ b ^ 240 := Nat.pow_le_pow_left hb2 _
 omega
theorem xL (neg : Bool) (u d : List UInt8) (r : Int) (w : World) (hsu : u.length ≤ 1000000000) (hsd : d.length ≤ 1000000000) (h : (okM neg u d && zJ r) = false) :
  Calls Tryz.prog 57 #[numB neg u d, .int .i64 r] w fun e w' => e = .returned (.string (B (zU neg u d r))) ∧ Below w.heap.size w w' := by
 have Hf : Hid (B (zU neg u d r) = ⟨#[]⟩) := by show _ = _; unfold zU; rw [h]; rfl
 have h1 := fun w => vn neg u d w hsu hsd
 have H1 := hide h1
 clear h1
 unfold numB at *
 cases hok : okM neg u d with
 | false =>
  rw [hok] at H1
  clear h hok
  go_enter Tryz.func57, Tryz.ntmps57
  go_wp2_with fail
  refine (za H1 _).mono ?_
  rintro e w1 ⟨rfl, hb1⟩
  have hb0 := zn hb1
  have hz0 : w.heap.size + 1 ≤ w1.heap.size := by have := hb1.size; simpa using this
  have c0 := zb hb0 0
  have c1 := zb hb0 1
  have c2 := zb hb0 2
  simp at c0 c1 c2
  go_wp2
  go_ret
  exact ⟨zT (za Hf).symm, zm hb0⟩
 | true =>
  rw [hok] at H1 h
  have hr : zJ r = false := by simpa using h
  clear h hok
  go_enter Tryz.func57, Tryz.ntmps57
  go_wp2_with fail
  refine (za H1 _).mono ?_
  rintro e w1 ⟨rfl, hb1⟩
  have hb0 := zn hb1
  have hz0 : w.heap.size + 1 ≤ w1.heap.size := by have := hb1.size; simpa using this
  have c0 := zb hb0 0
  have c1 := zb hb0 1
  have c2 := zb hb0 2
  simp at c0 c1 c2
  go_wp2_with fail
  refine (jn r _).mono ?_
  rintro e w2 ⟨rfl, rfl⟩
  rw [hr]
  go_wp2
  go_ret
  exact ⟨zT (za Hf).symm, zm hb0⟩
theorem xl (neg : Bool) (u d : List UInt8) (b : Nat) (w : World) (hok : okM neg u d = true) (hb4 : b = 2 ∨ b = 8 ∨ b = 10 ∨ b = 16) :
  Calls Tryz.prog 57 #[numB neg u d, .int .i64 b] w fun e w' => e = .returned (.string (B (zU neg u d b))) ∧ Below w.heap.size w w' := by
 have hr : zJ (b : Int) = true := by rcases hb4 with rfl | rfl | rfl | rfl <;> rfl
 obtain ⟨h3, h4, hu, hd, hd0, hn0, _⟩ := qK hok
 have h1 := fun w => vn neg u d w (by omega) (by omega)
 rw [hok] at h1
 have Hf : Hid (zU neg u d b = prM neg (zy u) (zy d) b) := by show _ = _; unfold zU; rw [hok, hr]; simp
 have Bu : B u = dec (zy u) := by unfold dec txt; rw [← qj h3]
 have Bd : B d = dec (zy d) := by unfold dec txt; rw [← qj h4]
 have hau := zi u
 have had := zi d
 unfold numB at *
 rw [Bu, Bd] at h1
 rw [Bu] at hau
 rw [Bd] at had
 rw [Bu, Bd]
 generalize zy u = a at *
 generalize zy d = q at *
 have hau60 : (dec a).size ≤ 60 := by omega
 have had60 : (dec q).size ≤ 60 := by omega
 have hq1 := Jl q
 have hta := vJ (b := b) (by omega) hau60
 have htq := vJ (b := b) (by omega) had60
 have hta' : (txl b a).length ≤ 240 := by unfold txt at hta; rwa [zi] at hta
 have htq' : (txl b q).length ≤ 240 := by unfold txt at htq; rwa [zi] at htq
 have H1 := hide h1
 clear h1 Bu Bd h3 h4 hok hau had hn0
 go_enter Tryz.func57, Tryz.ntmps57
 go_wp2_with fail
 refine (za H1 _).mono ?_
 rintro e w1 ⟨rfl, hb1⟩
 have hb0 := zn hb1
 have hz0 : w.heap.size + 1 ≤ w1.heap.size := by have := hb1.size; simpa using this
 have c0 := zb hb0 0
 have c1 := zb hb0 1
 have c2 := zb hb0 2
 simp at c0 c1 c2
 go_wp2_with fail
 refine (jn b _).mono ?_
 rintro e w2 ⟨rfl, rfl⟩
 rw [hr]
 go_wp2_with fail
 refine (Jq a b _ (by omega) (by omega) (by omega) (by omega)).mono ?_
 rintro e w3 ⟨rfl, hb3⟩
 have hn3 := zk hb0 hz0 hb3
 clear c0 c1 c2 hb1 hb0 hz0 hb3
 have c0 := zb hn3.1 0
 have c1 := zb hn3.1 1
 have c2 := zb hn3.1 2
 simp at c0 c1 c2
 by_cases hone : q = 1
 ·rw [decide_eq_true hone] at hq1
  cases neg with
  | false =>
   have Hf2 : Hid (B (zU false u d b) = txt b a) := by show _ = _; rw [za Hf]; simp [prM, hone, txt]
   clear hone
   go_wp2
   go_ret
   exact ⟨zT (za Hf2).symm, zm hn3.1⟩
  | true =>
   have Hf2 : Hid (B (zU true u d b) = ⟨#[45]⟩ ++ txt b a) := by
    show _ = _; rw [za Hf, show (⟨#[45]⟩ : ByteArray) = B [45] from rfl]; unfold txt; rw [zN]; simp [prM, hone]
   have hns : ¬ 9223372036854775807 < 1 + (txt b a).size := by omega
   clear hone
   go_wp2
   go_ret
   exact ⟨zT (za Hf2).symm, zm hn3.1⟩
 ·rw [decide_eq_false hone] at hq1
  cases neg with
  | false =>
   have Hf2 : Hid (B (zU false u d b) = (txt b a ++ ⟨#[47]⟩) ++ txt b q) := by
    show _ = _; rw [za Hf, show (⟨#[47]⟩ : ByteArray) = B [47] from rfl]; unfold txt; rw [zN, zN]; simp [prM, hone]
   clear hone
   go_wp2_with fail
   refine (Jq q b _ (by omega) (by omega) (by omega) (by omega)).mono ?_
   rintro e w4 ⟨rfl, hb4'⟩
   have hn4 := zk hn3.1 hn3.2 hb4'
   go_wp2
   go_ret
   exact ⟨zT (za Hf2).symm, zm hn4.1⟩
  | true =>
   have Hf2 : Hid (B (zU true u d b) = ((⟨#[45]⟩ ++ txt b a) ++ ⟨#[47]⟩) ++ txt b q) := by
    show _ = _; rw [za Hf, show (⟨#[47]⟩ : ByteArray) = B [47] from rfl, show (⟨#[45]⟩ : ByteArray) = B [45] from rfl]; unfold txt; rw [zN, zN, zN]; simp [prM, hone]
   have hns : ¬ 9223372036854775807 < 1 + (txt b a).size := by omega
   clear hone
   go_wp2_with fail
   refine (Jq q b _ (by omega) (by omega) (by omega) (by omega)).mono ?_
   rintro e w4 ⟨rfl, hb4'⟩
   have hn4 := zk hn3.1 hn3.2 hb4'
   go_wp2
   go_ret
   exact ⟨zT (za Hf2).symm, zm hn4.1⟩
theorem vf (neg : Bool) (u d : List UInt8) (r : Int) (w : World) (hsu : u.length ≤ 1000000000) (hsd : d.length ≤ 1000000000) :
  Calls Tryz.prog 57 #[numB neg u d, .int .i64 r] w fun e w' => e = .returned (.string (B (zU neg u d r))) ∧ Below w.heap.size w w' := by
 cases h : okM neg u d && zJ r with
 | false => exact xL neg u d r w hsu hsd h
 | true =>
  simp only [Bool.and_eq_true] at h
  obtain ⟨b, rfl, hb4⟩ := jN h.2
  exact xl neg u d b w h.1 hb4
theorem zbN {neg : Bool} {u d : List UInt8} (h1 : u.length ≤ 60) (h2 : d.length ≤ 60) (h3 : isDec u = true) (h4 : isDec d = true) (h5 : zy d ≠ 0) (h6 : neg = true → zy u ≠ 0) (h7 : Nat.gcd (zy u) (zy d) = 1) : okM neg u d = true := by
 unfold okM
 simp only [Bool.and_eq_true, decide_eq_true_eq, Bool.not_eq_true', Bool.and_eq_false_iff, decide_eq_false_iff_not]
 refine ⟨⟨⟨⟨⟨⟨h1, h2⟩, h3⟩, h4⟩, h5⟩, ?_⟩, h7⟩
 cases neg with
 | false => exact .inl rfl
 | true => exact .inr (h6 rfl)
theorem kR {neg n : Bool} {u d x y : Nat} (h : zE neg u d = some (n, x, y)) : okM n (txl 10 x) (txl 10 y) = true := by
 unfold zE at h
 split at h
 ·cases h
 ·rename_i hh
  simp only [Option.some.injEq, Prod.mk.injEq] at h
  obtain ⟨rfl, rfl, rfl⟩ := h
  have hd : d ≠ 0 := fun hd => hh (.inl hd)
  have h1 : ¬ 60 < (dec (u / Nat.gcd u d)).size := fun k => hh (.inr (.inl k))
  have h2 : ¬ 60 < (dec (d / Nat.gcd u d)).size := fun k => hh (.inr (.inr k))
  rw [zH] at h1 h2
  have hgp : 0 < Nat.gcd u d := Nat.gcd_pos_of_pos_right _ (by omega)
  have hdd : d / Nat.gcd u d ≠ 0 := by
   have := Nat.div_pos (Nat.le_of_dvd (by omega) (Nat.gcd_dvd_right u d)) hgp
   omega
  have hco : Nat.gcd (u / Nat.gcd u d) (d / Nat.gcd u d) = 1 := Nat.coprime_div_gcd_div_gcd hgp
  refine zbN (by omega) (by omega) (yL _) (yL _) (by rw [qs]; exact hdd) ?_ (by rw [qs, qs]; exact hco)
  intro hh
  rw [qs]
  intro h0
  rw [h0] at hh
  simp at hh
theorem JS {neg : Bool} {b : Nat} {l : List UInt8} {p : Bool × Nat × Nat} (h : bodyM neg b l = some p) : ∃ u d, zE neg u d = some p := by
 unfold bodyM overM jt jw at h
 split at h
 ·split at h
  ·exact ⟨_, _, h⟩
  ·cases h
 ·split at h
  ·split at h
   ·split at h
    ·exact ⟨_, _, h⟩
    ·cases h
   ·split at h
    ·exact ⟨_, _, h⟩
    ·cases h
  ·split at h
   ·exact ⟨_, _, h⟩
   ·cases h
theorem kP {l : List UInt8} {r : Int} {n : Bool} {x y : Nat} (h : zu l r = some (n, x, y)) : okM n (txl 10 x) (txl 10 y) = true := by
 have key : ∀ neg b l, bodyM neg b l = some (n, x, y) → okM n (txl 10 x) (txl 10 y) = true := by
  intro neg b l h
  obtain ⟨u, d, h⟩ := JS h
  exact kR h
 unfold zu at h
 split at h
 ·unfold signB at h
  split at h
  ·exact key _ _ _ h
  ·split at h
   ·exact key _ _ _ h
   ·split at h
    ·exact key _ _ _ h
    ·exact key _ _ _ h
 ·cases h
def ansN (o : Option (Bool × Nat × Nat)) : Bool := match o with | some (n, _, _) => n | none => false
def ansU (o : Option (Bool × Nat × Nat)) : List UInt8 := match o with | some (_, u, _) => txl 10 u | none => []
def ansD (o : Option (Bool × Nat × Nat)) : List UInt8 := match o with | some (_, _, d) => txl 10 d | none => []
theorem zbc (l : List UInt8) (r : Int) : (ansU (zu l r)).length ≤ 60 ∧ (ansD (zu l r)).length ≤ 60 := by
 cases h : zu l r with
 | none => exact ⟨by simp [ansU], by simp [ansD]⟩
 | some p =>
  obtain ⟨n, x, y⟩ := p
  have := qK (kP h)
  exact ⟨this.2.2.1, this.2.2.2.1⟩
theorem zas : dec 0 = ⟨#[48]⟩ ∧ dec 1 = ⟨#[49]⟩ ∧ dec 2 = ⟨#[50]⟩ ∧ dec 10 = ⟨#[49, 48]⟩ ∧ dec 100 = ⟨#[49, 48, 48]⟩ ∧ dec 999 = ⟨#[57, 57, 57]⟩ ∧ dec 1000 = ⟨#[49, 48, 48, 48]⟩ := by
 refine ⟨rfl, rfl, rfl, rfl, rfl, rfl, rfl⟩
theorem y4 (g p n cap : Nat) (a : Option Addr) (w : World) (h : Rd w g p a n cap) (hp : p ≤ 900000000) :
  Calls Tryz.prog 95 #[.pointer (some ⟨g, 0, none⟩)] w fun e w' => (∃ x, e = .returned (.string (dec x)) ∧ (dec x).size ≤ 60) ∧ Drawn w g p n cap a 100 w' := by
 unfold Drawn
 have H := hide h
 clear h
 go_enter Tryz.func95, Tryz.ntmps95
 go_wp2_with fail
 refine (vV g p n cap a 4 _ (za H) (by omega) (by omega)).mono ?_
 rintro e w1 ⟨⟨i1, rfl, hi1⟩, hr1, hk1⟩
 have hi1' : i1 < 4 := by rcases hi1 with h | h <;> omega
 have HR1 := hide hr1
 have HK1 := hide hk1
 clear hr1 hk1 hi1
 go_wp2_with fail
 refine (vV g (p + 1) n cap a 8 _ (za HR1) (by omega) (by omega)).mono ?_
 rintro e w2 ⟨⟨i2, rfl, hi2⟩, hr2, hk2⟩
 have HR2 := hide hr2
 have HK2 := hide ((za HK1).trans hk2)
 clear hr2 hk2 hi2
 by_cases h0 : i2 = 0
 ·subst h0
  go_wp2_with fail
  refine (vV g (p + 1 + 1) n cap a 30 _ (za HR2) (by omega) (by omega)).mono ?_
  rintro e w2' ⟨⟨i3, rfl, hi3⟩, hr3, hk3⟩
  have hi3' : i3 < 30 := by rcases hi3 with h | h <;> omega
  have HR3 := hide hr3
  have HK3 := hide ((za HK2).trans hk3)
  clear hr3 hk3 hi3
  go_wp2
  go_loopw [4, 5] (fun vo vi wr => ∃ (xs : List Nat) (p' : Nat), vi = .int .i64 (xs.length : Int) ∧ vo = .string (B ((xs.map sg).reverse)) ∧ Hid (∀ d ∈ xs, d < 10) ∧ (xs.length : Int) ≤ (1 + (i3 : Int)) ∧ p' ≤ (p + 1 + 1 + 1) + xs.length ∧ Rd wr g p' a n cap ∧ Keeps g w wr) (fun _ vi _ => ((1 + (i3 : Int)) - intOf vi).toNat)
  case atStart => exact ⟨[], (p + 1 + 1 + 1), rfl, rfl, hide (by simp), by simp; omega, by simp, (za HR3), (za HK3)⟩
  case round =>
   obtain ⟨xs, p', rfl, rfl, hd, hle, hp', hr', hk'⟩ := hrel
   have HR' := hide hr'
   have HK' := hide hk'
   clear hr' hk'
   have hBx := zi ((xs.map sg).reverse)
   simp only [List.length_reverse, List.length_map] at hBx
   by_cases hlt : (xs.length : Int) < (1 + (i3 : Int))
   ·go_wp2_with fail
    refine (vV g p' n cap a 10 _ (za HR') (by omega) (by omega)).mono ?_
    rintro e w3 ⟨⟨d, rfl, hd10⟩, hr3, hk3⟩
    have hd9 : d < 10 := by rcases hd10 with h | h <;> omega
    have HR3 := hide hr3
    have HK3 := hide hk3
    clear hr3 hk3 hd10
    go_wp2_with fail
    refine (jV d (by omega) _).mono ?_
    rintro e w4 ⟨rfl, hb4⟩
    have hds : (dec d).size = 1 := by unfold dec txt; rw [jG 10 (by omega) d hd9, zi]; rfl
    have happ : Hid (B ((xs.map sg).reverse) ++ dec d = B (((d :: xs).map sg).reverse)) := by
     show _ = _; unfold dec txt; rw [jG 10 (by omega) d hd9, zN]; simp
    go_wp2
    go_roundw
    case rel => exact ⟨d :: xs, p' + 1, by simp, by rw [za happ], hide (by intro x hx; rcases List.mem_cons.1 hx with rfl | hx; exact hd9; exact za hd x hx), by simp; omega, by simp; omega, (za HR3).keep hb4, ((za HK').trans (za HK3)).trans (Keeps.of_below hb4)⟩
    case measure => simp [intOf]; omega
   ·have hne : xs ≠ [] := by intro h; subst h; simp at hlt; omega
    have htr := vl xs (za hd) hne
    have hlen : (xs.map sg).reverse.length ≤ 60 := by simp; omega
    have htl := vv ((xs.map sg).reverse)
    rw [htr] at htl
    have Htr := hide htr
    clear htr
    go_wp2_with fail
    refine (yx ((xs.map sg).reverse) _ (by omega)).mono ?_
    rintro e w3 ⟨rfl, rfl⟩
    go_wp2
    go_ret
    exact ⟨⟨ofd 10 xs, zT (by rw [za Htr]; rfl), by rw [zH]; omega⟩, ⟨p', by omega, za HR'⟩, za HK'⟩
 ·by_cases h1 : i2 = 1
  ·subst h1
   go_wp2_with fail
   refine (vV g (p + 1 + 1) n cap a 3 _ (za HR2) (by omega) (by omega)).mono ?_
   rintro e w2' ⟨⟨i3, rfl, hi3⟩, hr3, hk3⟩
   have hi3' : i3 < 3 := by rcases hi3 with h | h <;> omega
   have HR3 := hide hr3
   have HK3 := hide ((za HK2).trans hk3)
   clear hr3 hk3 hi3
   go_wp2
   go_loopw [4, 5] (fun vo vi wr => ∃ (xs : List Nat) (p' : Nat), vi = .int .i64 (xs.length : Int) ∧ vo = .string (B ((xs.map sg).reverse)) ∧ Hid (∀ d ∈ xs, d < 10) ∧ (xs.length : Int) ≤ (60 - (i3 : Int)) ∧ p' ≤ (p + 1 + 1 + 1) + xs.length ∧ Rd wr g p' a n cap ∧ Keeps g w wr) (fun _ vi _ => ((60 - (i3 : Int)) - intOf vi).toNat)
   case atStart => exact ⟨[], (p + 1 + 1 + 1), rfl, rfl, hide (by simp), by simp; omega, by simp, (za HR3), (za HK3)⟩
   case round =>
    obtain ⟨xs, p', rfl, rfl, hd, hle, hp', hr', hk'⟩ := hrel
    have HR' := hide hr'
    have HK' := hide hk'
    clear hr' hk'
    have hBx := zi ((xs.map sg).reverse)
    simp only [List.length_reverse, List.length_map] at hBx
    by_cases hlt : (xs.length : Int) < (60 - (i3 : Int))
    ·go_wp2_with fail
     refine (vV g p' n cap a 10 _ (za HR') (by omega) (by omega)).mono ?_
     rintro e w3 ⟨⟨d, rfl, hd10⟩, hr3, hk3⟩
     have hd9 : d < 10 := by rcases hd10 with h | h <;> omega
     have HR3 := hide hr3
     have HK3 := hide hk3
     clear hr3 hk3 hd10
     go_wp2_with fail
     refine (jV d (by omega) _).mono ?_
     rintro e w4 ⟨rfl, hb4⟩
     have hds : (dec d).size = 1 := by unfold dec txt; rw [jG 10 (by omega) d hd9, zi]; rfl
     have happ : Hid (B ((xs.map sg).reverse) ++ dec d = B (((d :: xs).map sg).reverse)) := by
      show _ = _; unfold dec txt; rw [jG 10 (by omega) d hd9, zN]; simp
     go_wp2
     go_roundw
     case rel => exact ⟨d :: xs, p' + 1, by simp, by rw [za happ], hide (by intro x hx; rcases List.mem_cons.1 hx with rfl | hx; exact hd9; exact za hd x hx), by simp; omega, by simp; omega, (za HR3).keep hb4, ((za HK').trans (za HK3)).trans (Keeps.of_below hb4)⟩
     case measure => simp [intOf]; omega
    ·have hne : xs ≠ [] := by intro h; subst h; simp at hlt; omega
     have htr := vl xs (za hd) hne
     have hlen : (xs.map sg).reverse.length ≤ 60 := by simp; omega
     have htl := vv ((xs.map sg).reverse)
     rw [htr] at htl
     have Htr := hide htr
     clear htr
     go_wp2_with fail
     refine (yx ((xs.map sg).reverse) _ (by omega)).mono ?_
     rintro e w3 ⟨rfl, rfl⟩
     go_wp2
     go_ret
     exact ⟨⟨ofd 10 xs, zT (by rw [za Htr]; rfl), by rw [zH]; omega⟩, ⟨p', by omega, za HR'⟩, za HK'⟩
  ·have z0 : ((i2 : Int) == 0) = false := by rw [beq_eq_false_iff_ne]; omega
   have z1 : ((i2 : Int) == 1) = false := by rw [beq_eq_false_iff_ne]; omega
   by_cases h2 : i2 = 2
   ·subst h2
    have hr2 := (za HR2)
    have hlt := hr2.lt
    go_wp2_with fail
    refine (of_c g (p + 1 + 1) n cap w2.heap.size a #[.string ⟨#[48]⟩, .string ⟨#[49]⟩, .string ⟨#[50]⟩, .string ⟨#[49, 48]⟩, .string ⟨#[49, 48, 48]⟩, .string ⟨#[57, 57, 57]⟩, .string ⟨#[49, 48, 48, 48]⟩] 7 _ (hr2.keep ((Below.refl _ _).alloc (Nat.le_refl _) _)) (by omega) rfl (by omega) (by omega) (by show (w2.heap.push _)[w2.heap.size]? = _; rw [Array.getElem?_push, if_pos rfl]) (by omega)).mono ?_
    rintro e w3 ⟨⟨v, rfl, hv⟩, ⟨p3, hp3, hr3⟩, hk3⟩
    have hx : ∃ x, v = .string (dec x) ∧ (dec x).size ≤ 60 := by
     obtain ⟨d0, d1, d2, d3, d4, d5, d6⟩ := zas
     simp at hv
     rcases hv with rfl | rfl | rfl | rfl | rfl | rfl | rfl
     ·exact ⟨0, by rw [d0], by rw [d0]; decide⟩
     ·exact ⟨1, by rw [d1], by rw [d1]; decide⟩
     ·exact ⟨2, by rw [d2], by rw [d2]; decide⟩
     ·exact ⟨10, by rw [d3], by rw [d3]; decide⟩
     ·exact ⟨100, by rw [d4], by rw [d4]; decide⟩
     ·exact ⟨999, by rw [d5], by rw [d5]; decide⟩
     ·exact ⟨1000, by rw [d6], by rw [d6]; decide⟩
    obtain ⟨x, rfl, hx60⟩ := hx
    have HR3 := hide hr3
    have HK3 := hide ((za HK2).trans ((Keeps.refl _ _).alloc _ |>.trans hk3))
    clear hr3 hk3 hr2 hv
    go_wp2
    go_ret
    exact ⟨⟨x, rfl, hx60⟩, ⟨p3, by omega, za HR3⟩, za HK3⟩
   ·have z2 : ((i2 : Int) == 2) = false := by rw [beq_eq_false_iff_ne]; omega
    go_wp2
    go_loopw [4, 5] (fun vo vi wr => ∃ (xs : List Nat) (p' : Nat), vi = .int .i64 (xs.length : Int) ∧ vo = .string (B ((xs.map sg).reverse)) ∧ Hid (∀ d ∈ xs, d < 10) ∧ (xs.length : Int) ≤ (1 + (i1 : Int)) ∧ p' ≤ (p + 1 + 1) + xs.length ∧ Rd wr g p' a n cap ∧ Keeps g w wr) (fun _ vi _ => ((1 + (i1 : Int)) - intOf vi).toNat)
    case atStart => exact ⟨[], (p + 1 + 1), rfl, rfl, hide (by simp), by simp; omega, by simp, (za HR2), (za HK2)⟩
    case round =>
     obtain ⟨xs, p', rfl, rfl, hd, hle, hp', hr', hk'⟩ := hrel
     have HR' := hide hr'
     have HK' := hide hk'
     clear hr' hk'
     have hBx := zi ((xs.map sg).reverse)
     simp only [List.length_reverse, List.length_map] at hBx
     by_cases hlt : (xs.length : Int) < (1 + (i1 : Int))
     ·go_wp2_with fail
      refine (vV g p' n cap a 10 _ (za HR') (by omega) (by omega)).mono ?_
      rintro e w3 ⟨⟨d, rfl, hd10⟩, hr3, hk3⟩
      have hd9 : d < 10 := by rcases hd10 with h | h <;> omega
      have HR3 := hide hr3
      have HK3 := hide hk3
      clear hr3 hk3 hd10
      go_wp2_with fail
      refine (jV d (by omega) _).mono ?_
      rintro e w4 ⟨rfl, hb4⟩
      have hds : (dec d).size = 1 := by unfold dec txt; rw [jG 10 (by omega) d hd9, zi]; rfl
      have happ : Hid (B ((xs.map sg).reverse) ++ dec d = B (((d :: xs).map sg).reverse)) := by
       show _ = _; unfold dec txt; rw [jG 10 (by omega) d hd9, zN]; simp
      go_wp2
      go_roundw
      case rel => exact ⟨d :: xs, p' + 1, by simp, by rw [za happ], hide (by intro x hx; rcases List.mem_cons.1 hx with rfl | hx; exact hd9; exact za hd x hx), by simp; omega, by simp; omega, (za HR3).keep hb4, ((za HK').trans (za HK3)).trans (Keeps.of_below hb4)⟩
      case measure => simp [intOf]; omega
     ·have hne : xs ≠ [] := by intro h; subst h; simp at hlt; omega
      have htr := vl xs (za hd) hne
      have hlen : (xs.map sg).reverse.length ≤ 60 := by simp; omega
      have htl := vv ((xs.map sg).reverse)
      rw [htr] at htl
      have Htr := hide htr
      clear htr
      go_wp2_with fail
      refine (yx ((xs.map sg).reverse) _ (by omega)).mono ?_
      rintro e w3 ⟨rfl, rfl⟩
      go_wp2
      go_ret
      exact ⟨⟨ofd 10 xs, zT (by rw [za Htr]; rfl), by rw [zH]; omega⟩, ⟨p', by omega, za HR'⟩, za HK'⟩
theorem Y4 (g p n cap : Nat) (a : Option Addr) (w : World) (h : Rd w g p a n cap) (hp : p ≤ 800000000) :
  Calls Tryz.prog 58 #[.pointer (some ⟨g, 0, none⟩)] w fun e w' => (∃ neg x y, e = .returned (numV neg (dec x) (dec y)) ∧ (dec x).size ≤ 60 ∧ (dec y).size ≤ 60) ∧ Drawn w g p n cap a 300 w' := by
 have hlt := h.lt
 have Hlt := hide hlt
 have HR := hide (h.alloc (.cells #[.bool false, .string ⟨#[]⟩, .string ⟨#[]⟩] 79))
 clear h
 go_enter Tryz.func58, Tryz.ntmps58
 go_wp2_with fail
 refine (zX g p n cap a 2 _ (za HR) (by omega) (by omega)).mono ?_
 rintro e w1 ⟨⟨i, rfl, hi⟩, ⟨p1, hp1, hr1⟩, hk1⟩
 have HR1 := hide hr1
 have HK1 := hide hk1
 clear hr1 hk1 hi
 by_cases hi0 : i = 0
 ·have z0 : ((i : Int) == 0) = true := by rw [beq_iff_eq]; omega
  have HK := hide hi0
  clear hi0
  go_wp2_with fail
  have h := y4 g p1 n cap a w1 (za HR1) (by omega)
  refine h.mono ?_
  clear h
  rintro e w2 ⟨⟨d, rfl, hd60⟩, ⟨p2, hp2, hr2⟩, hk2⟩
  have HR2 := hide hr2
  have HK2 := hide ((za HK1).trans hk2)
  clear hr2 hk2
  go_wp2_with fail
  refine (zX g p2 n cap a 2 _ (za HR2) (by omega) (by omega)).mono ?_
  rintro e w3 ⟨⟨j, rfl, hj⟩, ⟨p3, hp3, hr3⟩, hk3⟩
  have HR3 := hide hr3
  have HK3 := hide (((za HK2)).trans hk3)
  clear hr3 hk3 hj
  go_wp2_with fail
  have h := y4 g p3 n cap a w3 (za HR3) (by omega)
  refine h.mono ?_
  clear h
  rintro e w4 ⟨⟨u, rfl, hu60⟩, ⟨p4, hp4, hr4⟩, hk4⟩
  have HR4 := hide hr4
  have HK4 := hide ((za HK3).trans hk4)
  clear hr4 hk4
  go_wp2_with fail
  have h := qz ((j : Int) == 0) u d w4 (by omega) (by omega)
  refine h.mono ?_
  clear h
  rintro e w5 ⟨rfl, hb5⟩
  have hr5 := (za HR4).keep hb5
  have hk5 := (za HK4).trans (Keeps.of_below hb5)
  have hA := (At3.new w (.bool false) (.string ⟨#[]⟩) (.string ⟨#[]⟩)).keeps hk5 (by omega)
  have hsz := hA.lt
  have c0 := hA.c0
  have c1 := hA.c1
  have c2 := hA.c2
  have f := hA.f
  have Hfin : Hid (Drawn w g p n cap a 300 w5) := ⟨⟨p4, by omega, hr5⟩, ((Keeps.refl g w).alloc _).trans hk5⟩
  clear hr5 hk5 hA HR3 HK3 HR4 HK4 HR1 HK1 HR2 HK2 HR HK
  have hne : w5.heap.size ≠ w.heap.size := by omega
  cases hl : zE ((j : Int) == 0) u d with
  | none =>
   unfold zg numO noNum numV
   go_wp2
   refine bodyPost_ret (v := .agg #[.bool false, .string ⟨#[55]⟩, .string ⟨#[49]⟩]) (by simp [results, Tryz.results58, go_sem, c0, c1, c2, hsz]) rfl ⟨⟨false, 7, 1, rfl, by decide, by decide⟩, ?_⟩
   exact (za Hfin).more (za Hlt) ((zq (Below.refl _ _) w.heap.size (by omega) _ _ _).alloc (by simp; omega) _)
  | some r =>
   obtain ⟨nn, x, y⟩ := r
   have hok := qK (kR hl)
   have hx60 : (dec x).size ≤ 60 := by rw [zH]; exact hok.2.2.1
   have hy60 : (dec y).size ≤ 60 := by rw [zH]; exact hok.2.2.2.1
   clear hok
   unfold zg numO numV
   go_wp2
   refine bodyPost_ret (v := numV nn (dec x) (dec y)) (by simp [results, Tryz.results58, go_sem, numV, c0, c1, c2, hsz]) rfl ⟨⟨nn, x, y, rfl, hx60, hy60⟩, ?_⟩
   exact (za Hfin).more (za Hlt) ((zq (Below.refl _ _) w.heap.size (by omega) _ _ _).alloc (by simp; omega) _)
 ·have z0 : ((i : Int) == 0) = false := by rw [beq_eq_false_iff_ne]; omega
  have HK := hide hi0
  have HR2 := HK
  have HK2 := HK
  clear hi0
  have hd60 : (dec 1).size ≤ 60 := by decide
  rw [show (Value.string ⟨#[49]⟩) = .string (dec 1) from rfl]
  go_wp2_with fail
  refine (zX g p1 n cap a 2 _ (za HR1) (by omega) (by omega)).mono ?_
  rintro e w3 ⟨⟨j, rfl, hj⟩, ⟨p3, hp3, hr3⟩, hk3⟩
  have HR3 := hide hr3
  have HK3 := hide (((za HK1)).trans hk3)
  clear hr3 hk3 hj
  go_wp2_with fail
  have h := y4 g p3 n cap a w3 (za HR3) (by omega)
  refine h.mono ?_
  clear h
  rintro e w4 ⟨⟨u, rfl, hu60⟩, ⟨p4, hp4, hr4⟩, hk4⟩
  have HR4 := hide hr4
  have HK4 := hide ((za HK3).trans hk4)
  clear hr4 hk4
  go_wp2_with fail
  have h := qz ((j : Int) == 0) u 1 w4 (by omega) (by omega)
  refine h.mono ?_
  clear h
  rintro e w5 ⟨rfl, hb5⟩
  have hr5 := (za HR4).keep hb5
  have hk5 := (za HK4).trans (Keeps.of_below hb5)
  have hA := (At3.new w (.bool false) (.string ⟨#[]⟩) (.string ⟨#[]⟩)).keeps hk5 (by omega)
  have hsz := hA.lt
  have c0 := hA.c0
  have c1 := hA.c1
  have c2 := hA.c2
  have f := hA.f
  have Hfin : Hid (Drawn w g p n cap a 300 w5) := ⟨⟨p4, by omega, hr5⟩, ((Keeps.refl g w).alloc _).trans hk5⟩
  clear hr5 hk5 hA HR3 HK3 HR4 HK4 HR1 HK1 HR2 HK2 HR HK
  have hne : w5.heap.size ≠ w.heap.size := by omega
  cases hl : zE ((j : Int) == 0) u 1 with
  | none =>
   unfold zg numO noNum numV
   go_wp2
   refine bodyPost_ret (v := .agg #[.bool false, .string ⟨#[55]⟩, .string ⟨#[49]⟩]) (by simp [results, Tryz.results58, go_sem, c0, c1, c2, hsz]) rfl ⟨⟨false, 7, 1, rfl, by decide, by decide⟩, ?_⟩
   exact (za Hfin).more (za Hlt) ((zq (Below.refl _ _) w.heap.size (by omega) _ _ _).alloc (by simp; omega) _)
  | some r =>
   obtain ⟨nn, x, y⟩ := r
   have hok := qK (kR hl)
   have hx60 : (dec x).size ≤ 60 := by rw [zH]; exact hok.2.2.1
   have hy60 : (dec y).size ≤ 60 := by rw [zH]; exact hok.2.2.2.1
   clear hok
   unfold zg numO numV
   go_wp2
   refine bodyPost_ret (v := numV nn (dec x) (dec y)) (by simp [results, Tryz.results58, go_sem, numV, c0, c1, c2, hsz]) rfl ⟨⟨nn, x, y, rfl, hx60, hy60⟩, ?_⟩
   exact (za Hfin).more (za Hlt) ((zq (Below.refl _ _) w.heap.size (by omega) _ _ _).alloc (by simp; omega) _)
theorem YS (neg : Bool) (u d : List UInt8) (r : Int) : (zU neg u d r).length ≤ 482 := by
 unfold zU
 split
 ·rename_i h
  simp only [Bool.and_eq_true] at h
  obtain ⟨b, rfl, hb4⟩ := jN h.2
  obtain ⟨h3, h4, hu, hd, _⟩ := qK h.1
  have e1 := vJ (b := b) (n := zy u) (by omega) (by rw [zH, ← qj h3]; exact hu)
  have e2 := vJ (b := b) (n := zy d) (by omega) (by rw [zH, ← qj h4]; exact hd)
  unfold txt at e1 e2
  rw [zi] at e1
  rw [zi] at e2
  unfold prM
  rw [Int.toNat_natCast]
  cases neg <;> by_cases h1 : zy d = 1 <;> simp [h1] <;> omega
 ·simp
theorem zbU {l : List Value} {v : Value} {M : Nat} (h : l.all (isS M) = true) (hv : v ∈ l) : ∃ s, v = .string s ∧ s.size ≤ M := zaD (List.all_eq_true.1 h v hv)
theorem ofs_c (g p n cap : Nat) (a : Option Addr) (cs : Array Value) (L M : Nat) (w : World) (h : Rd w g p a n cap) (hp : p ≤ 1000000000) (hL : L = cs.size) (hL0 : 0 < L) (hL9 : L ≤ 1000000) (hM : cs.toList.all (isS M) = true) :
  Calls Tryz.prog 119 #[.pointer (some ⟨g, 0, none⟩), .slice (some ⟨w.heap.size, 0, none⟩) L L] (w.alloc (.cells cs 9)) fun e w' => (∃ s, e = .returned (.string s) ∧ s.size ≤ M) ∧ Drawn w g p n cap a 1 w' := by
 have hlt := h.lt
 refine (of_c g p n cap w.heap.size a cs L _ (h.alloc _) hp hL hL0 hL9 (heap_alloc_new w _) (by omega)).mono ?_
 rintro e w' ⟨⟨v, rfl, hv⟩, hd⟩
 obtain ⟨s, rfl, hs⟩ := zbU hM hv
 exact ⟨⟨s, rfl, hs⟩, hd.made⟩
theorem KP (g p n cap : Nat) (a : Option Addr) (w : World) (h : Rd w g p a n cap) (hp : p ≤ 900000000) :
  Calls Tryz.prog 151 #[.pointer (some ⟨g, 0, none⟩)] w fun e w' => (∃ s, e = .returned (.string s) ∧ s.size ≤ 10) ∧ Drawn w g p n cap a 1 w' := by
 have hlt := h.lt
 have HR := hide h
 clear h
 go_enter Tryz.func151, Tryz.ntmps151
 go_wp2_with fail
 refine (ofs_c g p n cap a _ _ 10 w (za HR) (by omega) (by rfl) (by omega) (by omega) (by rfl)).mono ?_
 rintro e w1 ⟨⟨s, rfl, hs⟩, hd⟩
 have HD := hide hd
 clear hd
 go_wp2_with fail
 go_ret
 exact ⟨⟨s, rfl, hs⟩, za HD⟩
theorem KJ (g p n cap : Nat) (a : Option Addr) (m : Int) (w : World) (h : Rd w g p a n cap) (hp : p ≤ 700000000) (hm : m ≤ 1000000) :
  Calls Tryz.prog 118 #[.pointer (some ⟨g, 0, none⟩), .int .i64 m] w fun e w' => (∃ x s kv k, e = .returned (.agg #[.int .i64 x, .string s, kv]) ∧ s.size ≤ 1000 ∧ k ≤ 4 ∧ SI w' w.heap.size kv k) ∧ Drawn w g p n cap a 500 w' := by
 have hlt := h.lt
 have Hlt := hide hlt
 have HR := hide (h.alloc (.cells #[.int .i64 0, .string ⟨#[]⟩, .slice none 0 0] 56))
 have HA := hide (AtC3.new w (.int .i64 0) (.string ⟨#[]⟩) (.slice none 0 0) 56)
 clear h
 go_enter Tryz.func118, Tryz.ntmps118
 go_wp2_with fail
 refine (zX g p n cap a 12 _ (za HR) (by omega) (by omega)).mono ?_
 rintro e w1 ⟨⟨i, rfl, hi⟩, ⟨p1, hp1, hr1⟩, hk1⟩
 have HR1 := hide hr1
 have HK1 := hide hk1
 clear hr1 hk1
 have hi12 : i < 12 := by rcases hi with h | h <;> omega
 clear hi
 have hcs : i = 0 ∨ i = 1 ∨ i = 2 ∨ i = 3 ∨ i = 4 ∨ i = 5 ∨ i = 6 ∨ i = 7 ∨ i = 8 ∨ 9 ≤ i := by omega
 rcases hcs with rfl | rfl | rfl | rfl | rfl | rfl | rfl | rfl | rfl | h9
 ·go_wp2_with fail
  have h := Y4 g p1 n cap a w1 (za HR1) (by omega)
  refine h.mono ?_
  clear h
  rintro e w2 ⟨⟨neg, x, y, rfl, hx, hy⟩, ⟨p2, hp2, hr2⟩, hk2⟩
  have HR2 := hide hr2
  have HK2 := hide ((za HK1).trans hk2)
  clear hr2 hk2
  go_wp2_with fail
  have h := vf neg (txl 10 x) (txl 10 y) 10 w2 (by rw [← zH]; omega) (by rw [← zH]; omega)
  refine h.mono ?_
  clear h
  rintro e w3 ⟨rfl, hb3⟩
  have HR3 := hide ((za HR2).keep hb3)
  have HK3 := hide ((za HK2).trans (Keeps.of_below hb3))
  have hl := YS neg (txl 10 x) (txl 10 y) 10
  rw [← zi] at hl
  obtain ⟨t, ht⟩ : ∃ t, B (zU neg (txl 10 x) (txl 10 y) 10) = t := ⟨_, rfl⟩
  rw [ht] at hl ⊢
  clear hb3 ht
  have hA := (za HA).keeps (za HK3) (by omega)
  have c0 := hA.n0
  have c1 := hA.n1
  have c2 := hA.n2
  have f := hA.f
  have hZ := hA.put3 (.int .i64 1) (.string t) (.slice none 0 0)
  have z0 := hZ.n0
  have z1 := hZ.n1
  have z2 := hZ.n2
  have HSI := hide (SI.put3 (jd w3 w.heap.size) hA (by decide) (.int .i64 1) (.string t) (.slice none 0 0))
  have HZ := hide (And.intro z0 (And.intro z1 z2))
  have hD : Drawn w g p n cap a 500 w3 := ⟨⟨p2, by omega, (za HR3)⟩, ((Keeps.refl g w).alloc _).trans (za HK3)⟩
  have HD := hide (hD.more (za Hlt) (((((Below.refl w.heap.size w3).setCell (p := ⟨w.heap.size, 0, none⟩) (Nat.le_refl _) (.int .i64 1)).setCell (p := ⟨w.heap.size, 1, none⟩) (Nat.le_refl _) (.string t)).setCell (p := ⟨w.heap.size, 2, none⟩) (Nat.le_refl _) (.slice none 0 0))))
  clear z0 z1 z2 hZ hD hA
  go_wp2_with fail
  have hz := za HZ
  refine bodyPost_ret (v := .agg #[.int .i64 1, .string t, (.slice none 0 0)]) (by simp [results, Tryz.results118, go_sem, hz]) rfl ⟨⟨1, t, (.slice none 0 0), 0, rfl, by omega, by omega, za HSI⟩, za HD⟩
 ·
  go_wp2_with fail
  refine (ofs_c g p1 n cap a #[.string ⟨#[97]⟩, .string ⟨#[98]⟩, .string ⟨#[102, 111, 111]⟩, .string ⟨#[43]⟩, .string ⟨#[46, 46, 46]⟩, .string ⟨#[97, 46, 98]⟩, .string ⟨#[115, 101, 116, 33]⟩, .string ⟨#[206, 187]⟩, .string ⟨#[113, 117, 111, 116, 101]⟩, .string ⟨#[45, 120]⟩, .string ⟨#[45, 62, 121]⟩] 11 10 w1 (za HR1) (by omega) (by rfl) (by omega) (by omega) (by rfl)).mono ?_
  rintro e w2 ⟨⟨s, rfl, hs⟩, ⟨p2, hp2, hr2⟩, hk2⟩
  have HR2 := hide hr2
  have HK2 := hide ((za HK1).trans hk2)
  clear hr2 hk2
  have hA := (za HA).keeps (za HK2) (by omega)
  have c0 := hA.n0
  have c1 := hA.n1
  have c2 := hA.n2
  have f := hA.f
  have hZ := hA.put3 (.int .i64 2) (.string s) (.slice none 0 0)
  have z0 := hZ.n0
  have z1 := hZ.n1
  have z2 := hZ.n2
  have HSI := hide (SI.put3 (jd w2 w.heap.size) hA (by decide) (.int .i64 2) (.string s) (.slice none 0 0))
  have HZ := hide (And.intro z0 (And.intro z1 z2))
  have hD : Drawn w g p n cap a 500 w2 := ⟨⟨p2, by omega, (za HR2)⟩, ((Keeps.refl g w).alloc _).trans (za HK2)⟩
  have HD := hide (hD.more (za Hlt) (((((Below.refl w.heap.size w2).setCell (p := ⟨w.heap.size, 0, none⟩) (Nat.le_refl _) (.int .i64 2)).setCell (p := ⟨w.heap.size, 1, none⟩) (Nat.le_refl _) (.string s)).setCell (p := ⟨w.heap.size, 2, none⟩) (Nat.le_refl _) (.slice none 0 0))))
  clear z0 z1 z2 hZ hD hA
  go_wp2_with fail
  have hz := za HZ
  refine bodyPost_ret (v := .agg #[.int .i64 2, .string s, (.slice none 0 0)]) (by simp [results, Tryz.results118, go_sem, hz]) rfl ⟨⟨2, s, (.slice none 0 0), 0, rfl, by omega, by omega, za HSI⟩, za HD⟩
 ·
  go_wp2_with fail
  refine (ofs_c g p1 n cap a #[.string ⟨#[97]⟩, .string ⟨#[98]⟩, .string ⟨#[102, 111, 111]⟩, .string ⟨#[43]⟩, .string ⟨#[46, 46, 46]⟩, .string ⟨#[97, 46, 98]⟩, .string ⟨#[115, 101, 116, 33]⟩, .string ⟨#[206, 187]⟩, .string ⟨#[113, 117, 111, 116, 101]⟩, .string ⟨#[45, 120]⟩, .string ⟨#[45, 62, 121]⟩] 11 10 w1 (za HR1) (by omega) (by rfl) (by omega) (by omega) (by rfl)).mono ?_
  rintro e w2 ⟨⟨s, rfl, hs⟩, ⟨p2, hp2, hr2⟩, hk2⟩
  have HR2 := hide hr2
  have HK2 := hide ((za HK1).trans hk2)
  clear hr2 hk2
  have hA := (za HA).keeps (za HK2) (by omega)
  have c0 := hA.n0
  have c1 := hA.n1
  have c2 := hA.n2
  have f := hA.f
  have hZ := hA.put3 (.int .i64 2) (.string s) (.slice none 0 0)
  have z0 := hZ.n0
  have z1 := hZ.n1
  have z2 := hZ.n2
  have HSI := hide (SI.put3 (jd w2 w.heap.size) hA (by decide) (.int .i64 2) (.string s) (.slice none 0 0))
  have HZ := hide (And.intro z0 (And.intro z1 z2))
  have hD : Drawn w g p n cap a 500 w2 := ⟨⟨p2, by omega, (za HR2)⟩, ((Keeps.refl g w).alloc _).trans (za HK2)⟩
  have HD := hide (hD.more (za Hlt) (((((Below.refl w.heap.size w2).setCell (p := ⟨w.heap.size, 0, none⟩) (Nat.le_refl _) (.int .i64 2)).setCell (p := ⟨w.heap.size, 1, none⟩) (Nat.le_refl _) (.string s)).setCell (p := ⟨w.heap.size, 2, none⟩) (Nat.le_refl _) (.slice none 0 0))))
  clear z0 z1 z2 hZ hD hA
  go_wp2_with fail
  have hz := za HZ
  refine bodyPost_ret (v := .agg #[.int .i64 2, .string s, (.slice none 0 0)]) (by simp [results, Tryz.results118, go_sem, hz]) rfl ⟨⟨2, s, (.slice none 0 0), 0, rfl, by omega, by omega, za HSI⟩, za HD⟩
 ·go_wp2_with fail
  have h := KP g p1 n cap a w1 (za HR1) (by omega)
  refine h.mono ?_
  clear h
  rintro e w2 ⟨⟨s, rfl, hs⟩, ⟨p2, hp2, hr2⟩, hk2⟩
  have HR2 := hide hr2
  have HK2 := hide ((za HK1).trans hk2)
  clear hr2 hk2
  have hA := (za HA).keeps (za HK2) (by omega)
  have c0 := hA.n0
  have c1 := hA.n1
  have c2 := hA.n2
  have f := hA.f
  have hZ := hA.put3 (.int .i64 3) (.string s) (.slice none 0 0)
  have z0 := hZ.n0
  have z1 := hZ.n1
  have z2 := hZ.n2
  have HSI := hide (SI.put3 (jd w2 w.heap.size) hA (by decide) (.int .i64 3) (.string s) (.slice none 0 0))
  have HZ := hide (And.intro z0 (And.intro z1 z2))
  have hD : Drawn w g p n cap a 500 w2 := ⟨⟨p2, by omega, (za HR2)⟩, ((Keeps.refl g w).alloc _).trans (za HK2)⟩
  have HD := hide (hD.more (za Hlt) (((((Below.refl w.heap.size w2).setCell (p := ⟨w.heap.size, 0, none⟩) (Nat.le_refl _) (.int .i64 3)).setCell (p := ⟨w.heap.size, 1, none⟩) (Nat.le_refl _) (.string s)).setCell (p := ⟨w.heap.size, 2, none⟩) (Nat.le_refl _) (.slice none 0 0))))
  clear z0 z1 z2 hZ hD hA
  go_wp2_with fail
  have hz := za HZ
  refine bodyPost_ret (v := .agg #[.int .i64 3, .string s, (.slice none 0 0)]) (by simp [results, Tryz.results118, go_sem, hz]) rfl ⟨⟨3, s, (.slice none 0 0), 0, rfl, by omega, by omega, za HSI⟩, za HD⟩
 ·
  go_wp2_with fail
  refine (ofs_c g p1 n cap a #[.string ⟨#[97]⟩, .string ⟨#[32]⟩, .string ⟨#[10]⟩, .string ⟨#[40]⟩, .string ⟨#[41]⟩, .string ⟨#[59]⟩, .string ⟨#[34]⟩, .string ⟨#[39]⟩, .string ⟨#[120]⟩, .string ⟨#[195, 169]⟩, .string ⟨#[0]⟩, .string ⟨#[127]⟩, .string ⟨#[35]⟩, .string ⟨#[92]⟩, .string ⟨#[124]⟩] 15 10 w1 (za HR1) (by omega) (by rfl) (by omega) (by omega) (by rfl)).mono ?_
  rintro e w2 ⟨⟨s, rfl, hs⟩, ⟨p2, hp2, hr2⟩, hk2⟩
  have HR2 := hide hr2
  have HK2 := hide ((za HK1).trans hk2)
  clear hr2 hk2
  have hA := (za HA).keeps (za HK2) (by omega)
  have c0 := hA.n0
  have c1 := hA.n1
  have c2 := hA.n2
  have f := hA.f
  have hZ := hA.put3 (.int .i64 4) (.string s) (.slice none 0 0)
  have z0 := hZ.n0
  have z1 := hZ.n1
  have z2 := hZ.n2
  have HSI := hide (SI.put3 (jd w2 w.heap.size) hA (by decide) (.int .i64 4) (.string s) (.slice none 0 0))
  have HZ := hide (And.intro z0 (And.intro z1 z2))
  have hD : Drawn w g p n cap a 500 w2 := ⟨⟨p2, by omega, (za HR2)⟩, ((Keeps.refl g w).alloc _).trans (za HK2)⟩
  have HD := hide (hD.more (za Hlt) (((((Below.refl w.heap.size w2).setCell (p := ⟨w.heap.size, 0, none⟩) (Nat.le_refl _) (.int .i64 4)).setCell (p := ⟨w.heap.size, 1, none⟩) (Nat.le_refl _) (.string s)).setCell (p := ⟨w.heap.size, 2, none⟩) (Nat.le_refl _) (.slice none 0 0))))
  clear z0 z1 z2 hZ hD hA
  go_wp2_with fail
  have hz := za HZ
  refine bodyPost_ret (v := .agg #[.int .i64 4, .string s, (.slice none 0 0)]) (by simp [results, Tryz.results118, go_sem, hz]) rfl ⟨⟨4, s, (.slice none 0 0), 0, rfl, by omega, by omega, za HSI⟩, za HD⟩
 ·
  go_wp2_with fail
  refine (ofs_c g p1 n cap a #[.string ⟨#[116]⟩, .string ⟨#[102]⟩] 2 10 w1 (za HR1) (by omega) (by rfl) (by omega) (by omega) (by rfl)).mono ?_
  rintro e w2 ⟨⟨s, rfl, hs⟩, ⟨p2, hp2, hr2⟩, hk2⟩
  have HR2 := hide hr2
  have HK2 := hide ((za HK1).trans hk2)
  clear hr2 hk2
  have hA := (za HA).keeps (za HK2) (by omega)
  have c0 := hA.n0
  have c1 := hA.n1
  have c2 := hA.n2
  have f := hA.f
  have hZ := hA.put3 (.int .i64 5) (.string s) (.slice none 0 0)
  have z0 := hZ.n0
  have z1 := hZ.n1
  have z2 := hZ.n2
  have HSI := hide (SI.put3 (jd w2 w.heap.size) hA (by decide) (.int .i64 5) (.string s) (.slice none 0 0))
  have HZ := hide (And.intro z0 (And.intro z1 z2))
  have hD : Drawn w g p n cap a 500 w2 := ⟨⟨p2, by omega, (za HR2)⟩, ((Keeps.refl g w).alloc _).trans (za HK2)⟩
  have HD := hide (hD.more (za Hlt) (((((Below.refl w.heap.size w2).setCell (p := ⟨w.heap.size, 0, none⟩) (Nat.le_refl _) (.int .i64 5)).setCell (p := ⟨w.heap.size, 1, none⟩) (Nat.le_refl _) (.string s)).setCell (p := ⟨w.heap.size, 2, none⟩) (Nat.le_refl _) (.slice none 0 0))))
  clear z0 z1 z2 hZ hD hA
  go_wp2_with fail
  have hz := za HZ
  refine bodyPost_ret (v := .agg #[.int .i64 5, .string s, (.slice none 0 0)]) (by simp [results, Tryz.results118, go_sem, hz]) rfl ⟨⟨5, s, (.slice none 0 0), 0, rfl, by omega, by omega, za HSI⟩, za HD⟩
 ·
  go_wp2_with fail
  refine (ofs_c g p1 n cap a #[.string ⟨#[]⟩, .string ⟨#[0]⟩, .string ⟨#[97, 98]⟩, .string ⟨#[255, 254]⟩] 4 10 w1 (za HR1) (by omega) (by rfl) (by omega) (by omega) (by rfl)).mono ?_
  rintro e w2 ⟨⟨s, rfl, hs⟩, ⟨p2, hp2, hr2⟩, hk2⟩
  have HR2 := hide hr2
  have HK2 := hide ((za HK1).trans hk2)
  clear hr2 hk2
  have hA := (za HA).keeps (za HK2) (by omega)
  have c0 := hA.n0
  have c1 := hA.n1
  have c2 := hA.n2
  have f := hA.f
  have hZ := hA.put3 (.int .i64 9) (.string s) (.slice none 0 0)
  have z0 := hZ.n0
  have z1 := hZ.n1
  have z2 := hZ.n2
  have HSI := hide (SI.put3 (jd w2 w.heap.size) hA (by decide) (.int .i64 9) (.string s) (.slice none 0 0))
  have HZ := hide (And.intro z0 (And.intro z1 z2))
  have hD : Drawn w g p n cap a 500 w2 := ⟨⟨p2, by omega, (za HR2)⟩, ((Keeps.refl g w).alloc _).trans (za HK2)⟩
  have HD := hide (hD.more (za Hlt) (((((Below.refl w.heap.size w2).setCell (p := ⟨w.heap.size, 0, none⟩) (Nat.le_refl _) (.int .i64 9)).setCell (p := ⟨w.heap.size, 1, none⟩) (Nat.le_refl _) (.string s)).setCell (p := ⟨w.heap.size, 2, none⟩) (Nat.le_refl _) (.slice none 0 0))))
  clear z0 z1 z2 hZ hD hA
  go_wp2_with fail
  have hz := za HZ
  refine bodyPost_ret (v := .agg #[.int .i64 9, .string s, (.slice none 0 0)]) (by simp [results, Tryz.results118, go_sem, hz]) rfl ⟨⟨9, s, (.slice none 0 0), 0, rfl, by omega, by omega, za HSI⟩, za HD⟩
 ·go_wp2_with fail
  have hA1 := AtC3.new w1 (.int .i64 8) (.string ⟨#[]⟩) (.slice none 0 0) 56
  refine (zX g p1 n cap a 4 _ ((za HR1).alloc _) (by omega) (by omega)).mono ?_
  rintro e w2 ⟨⟨k0, rfl, hk0⟩, ⟨p2, hp2, hr2⟩, hk2⟩
  have hk4 : k0 < 4 := by rcases hk0 with h | h <;> omega
  have hs1 : w.heap.size + 1 ≤ w1.heap.size := by have := (za HK1).size; simpa using this
  have HR2 := hide hr2
  have HK2 := hide (((za HK1).alloc _).trans hk2)
  have HA2 := hide (hA1.keeps hk2 (by omega))
  have HGB : Hid (g < w1.heap.size) := hide (by omega)
  have HB1 : Hid (w.heap.size + 1 ≤ w1.heap.size) := hide hs1
  clear hr2 hk2 hk0 hA1 hs1
  go_wp2_with fail
  obtain ⟨B1, hB1⟩ : ∃ B, w1.heap.size = B := ⟨_, rfl⟩
  rw [hB1] at HA2 HGB HB1 ⊢
  clear hB1
  go_loopw [6] (fun v wr => ∃ (k j p' : Nat) (kv : Value), v = .int .i64 k ∧ j + k ≤ 4 ∧ p' ≤ p2 + j ∧ AtC3 wr B1 (.int .i64 8) (.string ⟨#[]⟩) kv 56 ∧ SI wr B1 kv j ∧ B1 < wr.heap.size ∧ Rd wr g p' a n cap ∧ Keeps g (w.alloc (.cells #[.int .i64 0, .string ⟨#[]⟩, .slice none 0 0] 56)) wr) (fun v _ => (intOf v).toNat)
  case atStart => exact ⟨k0, 0, p2, _, rfl, by omega, by omega, za HA2, jd _ _, (za HA2).lt, za HR2, za HK2⟩
  case round =>
   obtain ⟨k, j, p', kv, rfl, hjk, hp', hA, hS, hlt', hR, hK⟩ := hrel
   have HAr := hide hA
   have HSr := hide hS
   have HRr := hide hR
   have HKr := hide hK
   have HLr := hide hlt'
   clear hA hR hK hlt'
   obtain ⟨ka, kc, rfl, _, _⟩ := hS.form
   clear hS
   by_cases hk : 0 < k
   ·have a2 := (za HAr).n2
    go_wp2_with fail
    go_region_law (first | ((refine qX (by rfl) _ _ (by rfl) 1000 B1 (.slice ka j kc) j w5.heap.size (x : Int) (by rfl) (by rfl) (za HS5) (by with_reducible exact q5) (by omega) (za HL5) (some 60) (by rfl) ?_; intro g6 c6 w6 hs6 hg6; have HS6 := hide hs6; have HG6 := hide hg6; have f2 := ((za HA5).gr hg6 (by decide)).n2; have f3 := ((za HA5).gr hg6 (by decide)).f; clear hs6 hg6)) | (go_simp; go_at_call 27; refine (zX g p' n cap a m wr.drew (by exact (za HRr).drew) (by omega) (by omega)).mono ?_; rintro e w5 ⟨⟨x, rfl, _⟩, ⟨p5, hp5, hr5⟩, hk5⟩; have hk5 := (Keeps.refl g wr).drew.trans hk5; have HR5 := hide (hr5.alloc (.cells #[.int .i64 (x : Int)] 3)); have HK5 := hide (((za HKr).trans hk5).alloc (.cells #[.int .i64 (x : Int)] 3)); have HA5 := hide (((za HAr).keeps hk5 (by have := za HGB; omega)).below (zf (Below.refl _ _) (.cells #[.int .i64 (x : Int)] 3))); have HS5 := hide (((za HSr).ty (Ty.keeps (K := 1000) hk5 (za HGB))).ty (Ty.below (K := 1000) (zf (Below.refl w5.heap.size w5) (.cells #[.int .i64 (x : Int)] 3)))); have HL5 : Hid (B1 ≤ (w5.alloc (.cells #[.int .i64 (x : Int)] 3)).heap.size) := hide (by have h1 := hk5.size; have h2 := za HLr; rw [World.size_alloc]; omega); have e2 := ((za HAr).keeps hk5 (by have := za HGB; omega)).n2; have e3 := (za HA5).n2; have q5 : (w5.alloc (.cells #[.int .i64 (x : Int)] 3)).cell? ⟨w5.heap.size, 0, none⟩ = some (.int .i64 (x : Int)) := World.news_of_block (heap_alloc_new w5 (.cells #[.int .i64 (x : Int)] 3)) 0 _ rfl; clear hr5 hk5; (try dsimp only)))
    ·
     have hZ := ((za HA5).gr (za HG6) (by decide)).put2 (.slice (some ⟨g6, 0, none⟩) (j + 1) c6)
     have hl6 : B1 < (w6.setCell ⟨B1, 2, none⟩ (.slice (some ⟨g6, 0, none⟩) (j + 1) c6)).heap.size := hZ.lt
     have HS7 := hide ((za HS6).oth (i := 2) ((za HA5).gr (za HG6) (by decide)) (by decide) (.slice (some ⟨g6, 0, none⟩) (j + 1) c6))
     have HB7 : Hid (Below B1 (w5.alloc (.cells #[.int .i64 (x : Int)] 3)) (w6.setCell ⟨B1, 2, none⟩ (.slice (some ⟨g6, 0, none⟩) (j + 1) c6))) := hide ((za HG6).low.setCell (p := ⟨B1, 2, none⟩) (Nat.le_refl _) _)
     have HR7 := hide ((za HR5).below ((za HB7).mono (by have := za HGB; omega)))
     have HK7 := hide ((za HK5).more ((za HB7).mono (by rw [World.size_alloc]; exact za HB1)))
     have HZ := hide hZ
     have HL7 := hide hl6
     clear hZ hl6 f2 f3 e2 e3 a2
     go_wp2_with fail
     go_roundw
     case rel => exact ⟨k - 1, j + 1, p5, _, by go_num, by omega, by omega, za HZ, za HS7, za HL7, za HR7, za HK7⟩
     case measure => simp [intOf]; omega
    ·
     have hZ := ((za HA5).gr (za HG6) (by decide)).put2 (.slice (some ⟨g6, 0, none⟩) (j + 1) c6)
     have hl6 : B1 < (w6.setCell ⟨B1, 2, none⟩ (.slice (some ⟨g6, 0, none⟩) (j + 1) c6)).heap.size := hZ.lt
     have HS7 := hide ((za HS6).oth (i := 2) ((za HA5).gr (za HG6) (by decide)) (by decide) (.slice (some ⟨g6, 0, none⟩) (j + 1) c6))
     have HB7 : Hid (Below B1 (w5.alloc (.cells #[.int .i64 (x : Int)] 3)) (w6.setCell ⟨B1, 2, none⟩ (.slice (some ⟨g6, 0, none⟩) (j + 1) c6))) := hide ((za HG6).low.setCell (p := ⟨B1, 2, none⟩) (Nat.le_refl _) _)
     have HR7 := hide ((za HR5).below ((za HB7).mono (by have := za HGB; omega)))
     have HK7 := hide ((za HK5).more ((za HB7).mono (by rw [World.size_alloc]; exact za HB1)))
     have HZ := hide hZ
     have HL7 := hide hl6
     clear hZ hl6 f2 f3 e2 e3 a2
     go_wp2_with fail
     go_roundw
     case rel => exact ⟨k - 1, j + 1, p5, _, by go_num, by omega, by omega, za HZ, za HS7, za HL7, za HR7, za HK7⟩
     case measure => simp [intOf]; omega
    ·
     have hZ := ((za HA5).gr (za HG6) (by decide)).put2 (.slice (some ⟨g6, 0, none⟩) (j + 1) c6)
     have hl6 : B1 < (w6.setCell ⟨B1, 2, none⟩ (.slice (some ⟨g6, 0, none⟩) (j + 1) c6)).heap.size := hZ.lt
     have HS7 := hide ((za HS6).oth (i := 2) ((za HA5).gr (za HG6) (by decide)) (by decide) (.slice (some ⟨g6, 0, none⟩) (j + 1) c6))
     have HB7 : Hid (Below B1 (w5.alloc (.cells #[.int .i64 (x : Int)] 3)) (w6.setCell ⟨B1, 2, none⟩ (.slice (some ⟨g6, 0, none⟩) (j + 1) c6))) := hide ((za HG6).low.setCell (p := ⟨B1, 2, none⟩) (Nat.le_refl _) _)
     have HR7 := hide ((za HR5).below ((za HB7).mono (by have := za HGB; omega)))
     have HK7 := hide ((za HK5).more ((za HB7).mono (by rw [World.size_alloc]; exact za HB1)))
     have HZ := hide hZ
     have HL7 := hide hl6
     clear hZ hl6 f2 f3 e2 e3 a2
     go_wp2_with fail
     go_roundw
     case rel => exact ⟨k - 1, j + 1, p5, _, by go_num, by omega, by omega, za HZ, za HS7, za HL7, za HR7, za HK7⟩
     case measure => simp [intOf]; omega
   ·obtain rfl : k = 0 := by omega
    have a0 := (za HAr).n0
    have a1 := (za HAr).n1
    have a2 := (za HAr).n2
    have HSw : Hid (SI wr w.heap.size (.slice ka j kc) j) := hide ((za HSr).base (by have := za HB1; omega))
    have hA := (za HA).keeps (za HKr) (by omega)
    have c0 := hA.n0
    have c1 := hA.n1
    have c2 := hA.n2
    have f := hA.f
    have hZ := hA.put3 (.int .i64 8) (.string ⟨#[]⟩) (.slice ka j kc)
    have z0 := hZ.n0
    have z1 := hZ.n1
    have z2 := hZ.n2
    have HSI := hide (SI.put3 (za HSw) hA (by decide) (.int .i64 8) (.string ⟨#[]⟩) (.slice ka j kc))
    have HZ := hide (And.intro z0 (And.intro z1 z2))
    have hD : Drawn w g p n cap a 500 wr := ⟨⟨p', by omega, (za HRr)⟩, ((Keeps.refl g w).alloc _).trans (za HKr)⟩
    have HD := hide (hD.more (za Hlt) (((((Below.refl w.heap.size wr).setCell (p := ⟨w.heap.size, 0, none⟩) (Nat.le_refl _) (.int .i64 8)).setCell (p := ⟨w.heap.size, 1, none⟩) (Nat.le_refl _) (.string ⟨#[]⟩)).setCell (p := ⟨w.heap.size, 2, none⟩) (Nat.le_refl _) (.slice ka j kc))))
    clear z0 z1 z2 hZ hD hA
    go_wp2_with fail
    have hz := za HZ
    refine bodyPost_ret (v := .agg #[.int .i64 8, .string ⟨#[]⟩, (.slice ka j kc)]) (by simp [results, Tryz.results118, go_sem, hz]) rfl ⟨⟨8, ⟨#[]⟩, (.slice ka j kc), j, rfl, by decide, by omega, za HSI⟩, za HD⟩
 ·
  have hA := (za HA).keeps (za HK1) (by omega)
  have c0 := hA.n0
  have c1 := hA.n1
  have c2 := hA.n2
  have f := hA.f
  have hZ := hA.put3 (.int .i64 6) (.string ⟨#[]⟩) (.slice none 0 0)
  have z0 := hZ.n0
  have z1 := hZ.n1
  have z2 := hZ.n2
  have HSI := hide (SI.put3 (jd w1 w.heap.size) hA (by decide) (.int .i64 6) (.string ⟨#[]⟩) (.slice none 0 0))
  have HZ := hide (And.intro z0 (And.intro z1 z2))
  have hD : Drawn w g p n cap a 500 w1 := ⟨⟨p1, by omega, (za HR1)⟩, ((Keeps.refl g w).alloc _).trans (za HK1)⟩
  have HD := hide (hD.more (za Hlt) (((((Below.refl w.heap.size w1).setCell (p := ⟨w.heap.size, 0, none⟩) (Nat.le_refl _) (.int .i64 6)).setCell (p := ⟨w.heap.size, 1, none⟩) (Nat.le_refl _) (.string ⟨#[]⟩)).setCell (p := ⟨w.heap.size, 2, none⟩) (Nat.le_refl _) (.slice none 0 0))))
  clear z0 z1 z2 hZ hD hA
  go_wp2_with fail
  have hz := za HZ
  refine bodyPost_ret (v := .agg #[.int .i64 6, .string ⟨#[]⟩, (.slice none 0 0)]) (by simp [results, Tryz.results118, go_sem, hz]) rfl ⟨⟨6, ⟨#[]⟩, (.slice none 0 0), 0, rfl, by decide, by omega, za HSI⟩, za HD⟩
 ·have e0 : ((i : Int) == 0) = false := by rw [beq_eq_false_iff_ne]; omega
  have e1 : ((i : Int) == 1) = false := by rw [beq_eq_false_iff_ne]; omega
  have e2 : ((i : Int) == 2) = false := by rw [beq_eq_false_iff_ne]; omega
  have e3 : ((i : Int) == 3) = false := by rw [beq_eq_false_iff_ne]; omega
  have e4 : ((i : Int) == 4) = false := by rw [beq_eq_false_iff_ne]; omega
  have e5 : ((i : Int) == 5) = false := by rw [beq_eq_false_iff_ne]; omega
  have e6 : ((i : Int) == 6) = false := by rw [beq_eq_false_iff_ne]; omega
  have e7 : ((i : Int) == 7) = false := by rw [beq_eq_false_iff_ne]; omega
  have e8 : ((i : Int) == 8) = false := by rw [beq_eq_false_iff_ne]; omega
  go_wp2_with fail
  refine (zX g p1 n cap a m _ (za HR1) (by omega) (by omega)).mono ?_
  rintro e w2 ⟨⟨k1, rfl, _⟩, ⟨p2, hp2, hr2⟩, hk2⟩
  have HR2 := hide hr2
  have HK2 := hide ((za HK1).trans hk2)
  clear hr2 hk2
  go_wp2_with fail
  refine (zX g p2 n cap a m _ (za HR2) (by omega) (by omega)).mono ?_
  rintro e w3 ⟨⟨k2, rfl, _⟩, ⟨p3, hp3, hr3⟩, hk3⟩
  have HR3 := hide (hr3.alloc (.cells #[.int .i64 (k1 : Int), .int .i64 (k2 : Int)] 3))
  have HK3 := hide (((za HK2).trans hk3).alloc (.cells #[.int .i64 (k1 : Int), .int .i64 (k2 : Int)] 3))
  have HS3 := hide (SI.base (zby w3 #[.int .i64 (k1 : Int), .int .i64 (k2 : Int)] 2 rfl (by decide) (by intro u hu; simp at hu; rcases hu with rfl | rfl <;> exact ⟨_, rfl⟩)) (show w.heap.size ≤ w3.heap.size from Nat.le_trans (by simp) ((za HK2).trans hk3).size))
  clear hr3 hk3 e0 e1 e2 e3 e4 e5 e6 e7 e8
  have hA := (za HA).keeps (za HK3) (by omega)
  have c0 := hA.n0
  have c1 := hA.n1
  have c2 := hA.n2
  have f := hA.f
  have hZ := hA.put3 (.int .i64 7) (.string ⟨#[]⟩) (.slice (some ⟨w3.heap.size, 0, none⟩) 2 2)
  have z0 := hZ.n0
  have z1 := hZ.n1
  have z2 := hZ.n2
  have HSI := hide (SI.put3 (za HS3) hA (by decide) (.int .i64 7) (.string ⟨#[]⟩) (.slice (some ⟨w3.heap.size, 0, none⟩) 2 2))
  have HZ := hide (And.intro z0 (And.intro z1 z2))
  have hD : Drawn w g p n cap a 500 (w3.alloc (.cells #[.int .i64 (k1 : Int), .int .i64 (k2 : Int)] 3)) := ⟨⟨p3, by omega, (za HR3)⟩, ((Keeps.refl g w).alloc _).trans (za HK3)⟩
  have HD := hide (hD.more (za Hlt) (((((Below.refl w.heap.size (w3.alloc (.cells #[.int .i64 (k1 : Int), .int .i64 (k2 : Int)] 3))).setCell (p := ⟨w.heap.size, 0, none⟩) (Nat.le_refl _) (.int .i64 7)).setCell (p := ⟨w.heap.size, 1, none⟩) (Nat.le_refl _) (.string ⟨#[]⟩)).setCell (p := ⟨w.heap.size, 2, none⟩) (Nat.le_refl _) (.slice (some ⟨w3.heap.size, 0, none⟩) 2 2))))
  clear z0 z1 z2 hZ hD hA
  go_wp2_with fail
  have hz := za HZ
  refine bodyPost_ret (v := .agg #[.int .i64 7, .string ⟨#[]⟩, (.slice (some ⟨w3.heap.size, 0, none⟩) 2 2)]) (by simp [results, Tryz.results118, go_sem, hz]) rfl ⟨⟨7, ⟨#[]⟩, (.slice (some ⟨w3.heap.size, 0, none⟩) 2 2), 2, rfl, by decide, by omega, za HSI⟩, za HD⟩
end Go.Proofs.YtpbnmhnbkfnaeaaGreatDoor
namespace Go.Proofs.YtpbnmhnbkfnaeaaGreatDoor
open Go.RowKit Nt
structure DSt (K g B b : Nat) (W0 : World) (nv rv : Value) (i m : Nat) (w : World) : Prop where
 box : AtC2 w b nv rv 26
 nodes : SN K w B nv i
 roots : SI w B rv m
 keep : Keeps g W0 w
 low : W0.heap.size ≤ B ∧ W0.heap.size ≤ b ∧ g < B ∧ b ≠ g ∧ B ≤ w.heap.size
variable {K g B b i m : Nat} {W0 w w' : World} {nv rv : Value}
theorem DSt.keeps (h : DSt K g B b W0 nv rv i m w) (k : Keeps g w w') : DSt K g B b W0 nv rv i m w' :=
 have t := Ty.keeps (K := K) k h.low.2.2.1
 ⟨h.box.keeps k h.low.2.2.2.1, h.nodes.ty t, h.roots.ty t, h.keep.trans k, h.low.1, h.low.2.1, h.low.2.2.1, h.low.2.2.2.1, Nat.le_trans h.low.2.2.2.2 k.size⟩
theorem DSt.below (h : DSt K g B b W0 nv rv i m w) (k : Below w.heap.size w w') : DSt K g B b W0 nv rv i m w' := h.keeps (Keeps.of_below k)
theorem DSt.alloc (h : DSt K g B b W0 nv rv i m w) (o : Obj) : DSt K g B b W0 nv rv i m (w.alloc o) := h.below (zf (Below.refl _ _) o)
theorem DSt.setI {q c k j : Nat} {x : Int} (h : DSt K g B b W0 nv rv i m w) (hq : BI w q c k) (hB : B ≤ q) : DSt K g B b W0 nv rv i m (w.setCell ⟨q, j, none⟩ (.int .i64 x)) := by
 have t : Ty K B w (w.setCell ⟨q, j, none⟩ (.int .i64 x)) := Ty.setI hq
 refine ⟨h.box.far (a := ⟨q, j, none⟩) (fun e => ?_) _, h.nodes.ty t, h.roots.ty t, h.keep.more ((Below.refl _ _).setCell (Nat.le_trans h.low.1 hB) _), h.low.1, h.low.2.1, h.low.2.2.1, h.low.2.2.2.1, by rw [show (w.setCell ⟨q, j, none⟩ (.int .i64 x)).heap.size = w.heap.size from by simp [World.setCell]]; exact h.low.2.2.2.2⟩
 obtain ⟨cs, k1, _⟩ := hq
 have k2 := h.box
 unfold AtC2 at k2
 simp only at e
 rw [e] at k1
 rw [k1] at k2
 simp only [Option.some.injEq, Obj.cells.injEq] at k2
 exact absurd k2.2.1 (by decide)
theorem jg (w : World) (a : Addr) (u : Value) : (w.setCell a u).heap.size = w.heap.size := by simp [World.setCell]
theorem DSt.setN {q c k j : Nat} {x : Value} (h : DSt K g B b W0 nv rv i m w) (hq : BN K w B q c k) (hB : B ≤ q) (hx : qN K w B (j % 3) x) : DSt K g B b W0 nv rv i m (w.setCell ⟨q, j, none⟩ x) := by
 have t : Ty K B w (w.setCell ⟨q, j, none⟩ x) := Ty.setN hq hx
 refine ⟨h.box.far (a := ⟨q, j, none⟩) (fun e => ?_) _, h.nodes.ty t, h.roots.ty t, h.keep.more ((Below.refl _ _).setCell (Nat.le_trans h.low.1 hB) _), h.low.1, h.low.2.1, h.low.2.2.1, h.low.2.2.2.1, by rw [jg]; exact h.low.2.2.2.2⟩
 obtain ⟨cs, k1, _⟩ := hq
 have k2 := h.box
 unfold AtC2 at k2
 simp only at e
 rw [e] at k1
 rw [k1] at k2
 simp only [Option.some.injEq, Obj.cells.injEq] at k2
 exact absurd k2.2.1 (by decide)
theorem DSt.appN {v' : Value} {j : Nat} (h : DSt K g B b W0 nv rv i m w) (hg : Grown 56 K B w w') (hv : SN K w' B v' j) : DSt K g B b W0 v' rv j m (w'.setCell ⟨b, 0, none⟩ v') := by
 have hb' := h.box.gr hg (by decide)
 have t : Ty K B w' (w'.setCell ⟨b, 0, none⟩ v') := Ty.box hb' (by decide) (by decide) _
 exact ⟨hb'.st0 _, hv.ty t, (h.roots.ty hg.ty).ty t, (h.keep.more (hg.low.mono h.low.1)).more ((Below.refl _ _).setCell h.low.2.1 _), h.low.1, h.low.2.1, h.low.2.2.1, h.low.2.2.2.1, by rw [jg]; exact Nat.le_trans h.low.2.2.2.2 hg.low.size⟩
theorem DSt.appI {v' : Value} {j : Nat} (h : DSt K g B b W0 nv rv i m w) (hg : Grown 3 K B w w') (hv : SI w' B v' j) : DSt K g B b W0 nv v' i j (w'.setCell ⟨b, 1, none⟩ v') := by
 have hb' := h.box.gr hg (by decide)
 have t : Ty K B w' (w'.setCell ⟨b, 1, none⟩ v') := Ty.box hb' (by decide) (by decide) _
 exact ⟨hb'.st1 _, (h.nodes.ty hg.ty).ty t, hv.ty t, (h.keep.more (hg.low.mono h.low.1)).more ((Below.refl _ _).setCell h.low.2.1 _), h.low.1, h.low.2.1, h.low.2.2.1, h.low.2.2.2.1, by rw [jg]; exact Nat.le_trans h.low.2.2.2.2 hg.low.size⟩
theorem DSt.grI (h : DSt K g B b W0 nv rv i m w) (hg : Grown 3 K B w w') : DSt K g B b W0 nv rv i m w' :=
 ⟨h.box.gr hg (by decide), h.nodes.ty hg.ty, h.roots.ty hg.ty, h.keep.more (hg.low.mono h.low.1), h.low.1, h.low.2.1, h.low.2.2.1, h.low.2.2.2.1, Nat.le_trans h.low.2.2.2.2 hg.low.size⟩
theorem Rd.from {p n cap : Nat} {a : Option Addr} (h : Rd w g p a n cap) (hg : g < B) (hb : Below B w w') : Rd w' g p a n cap := h.below (hb.mono hg)
structure NSt (K B q : Nat) (x : Int) (s : ByteArray) (kv : Value) (kl : Nat) (w : World) : Prop where
 box : AtC3 w q (.int .i64 x) (.string s) kv 56
 kids : SI w B kv kl
 small : s.size ≤ K ∧ kl ≤ K
 low : B ≤ q
variable {q kl : Nat} {x : Int} {s : ByteArray} {kv : Value}
theorem NSt.keeps (h : NSt K B q x s kv kl w) (k : Keeps g w w') (hg : g < B) : NSt K B q x s kv kl w' :=
 ⟨h.box.keeps k (by have := h.low; omega), h.kids.ty (Ty.keeps (K := K) k hg), h.small, h.low⟩
theorem NSt.bn (h : NSt K B q x s kv kl w) : BN K w B q 1 1 := zbu w q x s kv kl h.small.1 h.small.2 h.box h.kids
theorem NSt.setI {c k j o : Nat} {y : Int} (h : NSt K B q x s kv kl w) (hq : BI w o c k) : NSt K B q x s kv kl (w.setCell ⟨o, j, none⟩ (.int .i64 y)) := by
 have hne : q ≠ o := Row.ne h.bn hq (by decide)
 refine ⟨?_, h.kids.ty (Ty.setI (K := K) (base := B) hq), h.small, h.low⟩
 have hb := h.box
 unfold AtC3 at hb ⊢
 rw [Below.heap_setCell _ _ _ _ hne]
 exact hb
theorem NSt.put {y : Int} {t : ByteArray} {lv : Value} {ll : Nat} (h : NSt K B q x s kv kl w) (ht : t.size ≤ K) (hl : ll ≤ K) (hv : SI w B lv ll) : NSt K B q y t lv ll (((w.setCell ⟨q, 0, none⟩ (.int .i64 y)).setCell ⟨q, 1, none⟩ (.string t)).setCell ⟨q, 2, none⟩ lv) :=
 ⟨h.box.put3 _ _ _, hv.put3 h.box (by decide) _ _ _, ⟨ht, hl⟩, h.low⟩
theorem DSt.put {y : Int} {t : ByteArray} {lv : Value} {ll : Nat} (h : DSt K g B b W0 nv rv i m w) (hx : NSt K B q x s kv kl w) (ht : t.size ≤ K) (hl : ll ≤ K) (hv : SI w B lv ll) : DSt K g B b W0 nv rv i m (((w.setCell ⟨q, 0, none⟩ (.int .i64 y)).setCell ⟨q, 1, none⟩ (.string t)).setCell ⟨q, 2, none⟩ lv) := by
 have h1 := h.setN hx.bn hx.low (j := 0) (x := .int .i64 y) ⟨fun _ => ⟨y, rfl⟩, fun e => by simp at e, fun e => by simp at e⟩
 have b1 : BN K (w.setCell ⟨q, 0, none⟩ (.int .i64 y)) B q 1 1 := (Ty.setN (K := K) (base := B) hx.bn (i := 0) (x := .int .i64 y) ⟨fun _ => ⟨y, rfl⟩, fun e => by simp at e, fun e => by simp at e⟩).bn _ _ _ hx.low hx.bn
 have h2 := h1.setN b1 hx.low (j := 1) (x := .string t) ⟨fun e => by simp at e, fun _ => ⟨t, rfl, ht⟩, fun e => by simp at e⟩
 have b2 := (Ty.setN (K := K) (base := B) b1 (i := 1) (x := .string t) ⟨fun e => by simp at e, fun _ => ⟨t, rfl, ht⟩, fun e => by simp at e⟩).bn _ _ _ hx.low b1
 have hv2 := (hv.oth (i := 0) hx.box (by decide) (.int .i64 y)).oth (i := 1) (vw (i := 0) hx.box (.int .i64 y)) (by decide) (.string t)
 exact h2.setN b2 hx.low (j := 2) ⟨fun e => by simp at e, fun e => by simp at e, fun _ => ⟨ll, hl, hv2⟩⟩
end Go.Proofs.YtpbnmhnbkfnaeaaGreatDoor
namespace Go.Proofs.YtpbnmhnbkfnaeaaGreatDoor
open Go.RowKit Nt
theorem AtC3.new' (w : World) (b : Nat) (x y z : Value) (T : TypeId) (hb : w.heap.size = b) : AtC3 (w.alloc (.cells #[x, y, z] T)) b x y z T := by subst hb; exact AtC3.new ..
theorem Kb (g p n cap : Nat) (a : Option Addr) (w : World) (h : Rd w g p a n cap) (hp : p ≤ 600000000) :
  Calls Tryz.prog 84 #[.pointer (some ⟨g, 0, none⟩)] w fun e w' => (∃ nv rv k m, e = .returned (.agg #[nv, rv]) ∧ 1 ≤ k ∧ k ≤ 9 ∧ m ≤ 4 ∧ SN 1000 w' w.heap.size nv k ∧ SI w' w.heap.size rv m) ∧ Drawn w g p n cap a 10000 w' := by
 have hlt := h.lt
 have Hlt := hide hlt
 have HR := hide (h.alloc (.cells #[.slice none 0 0, .slice none 0 0] 26))
 have HA := hide (AtC2.new w (.slice none 0 0) (.slice none 0 0) 26)
 clear h
 go_enter Tryz.func84, Tryz.ntmps84
 go_wp2_with fail
 refine (zX g p n cap a 9 _ (za HR) (by omega) (by omega)).mono ?_
 rintro e w1 ⟨⟨n0, rfl, hn0⟩, ⟨p1, hp1, hr1⟩, hk1⟩
 have hn9 : n0 < 9 := by rcases hn0 with h | h <;> omega
 have e1 : wrap64 (1 + (n0 : Int)) = ((n0 + 1 : Nat) : Int) := by unfold wrap64; omega
 have hs1 : w.heap.size + 1 ≤ w1.heap.size := by have := hk1.size; simpa using this
 obtain ⟨W0, hW0⟩ : ∃ W0, w.alloc (.cells #[.slice none 0 0, .slice none 0 0] 26) = W0 := ⟨_, rfl⟩
 have hz0 : W0.heap.size = w.heap.size + 1 := by rw [← hW0]; simp
 rw [hW0] at hk1 HA
 obtain ⟨B, hB⟩ : ∃ B, w1.heap.size = B := ⟨_, rfl⟩
 have HD1 : Hid (DSt 1000 g B B W0 (.slice none 0 0) (.slice none 0 0) 0 0 (w1.alloc (.cells #[.slice none 0 0, .slice none 0 0] 26))) := hide (by
  subst hB
  exact ⟨AtC2.new w1 _ _ _, zbR _ _ _, jd _ _, hk1.alloc _, by omega, by omega, by omega, by omega, by simp⟩)
 have HR1 := hide (hr1.alloc (.cells #[.slice none 0 0, .slice none 0 0] 26))
 clear hr1 hk1 hn0
 go_wp2_with fail
 clear hs1 hB
 have e1 : wrap64 (1 + (n0 : Int)) = 1 + (n0 : Int) := by unfold wrap64; omega
 go_loopw [5] (fun vi wr => ∃ (i p' : Nat) (nv : Value), vi = .int .i64 i ∧ i ≤ n0 + 1 ∧ p' ≤ p1 + 600 * i ∧ DSt 1000 g B B W0 nv (.slice none 0 0) i 0 wr ∧ Rd wr g p' a n cap) (fun vi _ => (n0 + 1) - (intOf vi).toNat)
 case atStart => exact ⟨0, p1, _, rfl, by omega, by omega, za HD1, za HR1⟩
 case round =>
  obtain ⟨i, p', nv, rfl, hi, hp', hD, hR⟩ := hrel
  have HD := hide hD
  have HRr := hide hR
  obtain ⟨na, nc, rfl, _, _⟩ := hD.nodes.form
  clear hD hR
  by_cases hlt' : (i : Int) < 1 + (n0 : Int)
  ·go_wp2_with fail
   have h := KJ g p' n cap a (1 + (n0 : Int)) wr (za HRr) (by omega) (by omega)
   refine h.mono ?_
   clear h
   rintro e w2 ⟨⟨xs, s, kv, kl, rfl, hs, hkl, hkv⟩, ⟨p2, hp2, hr2⟩, hk2⟩
   obtain ⟨ka, kc, rfl, hkc, hkm⟩ := hkv.form
   unfold maxLen at hkm
   have HR2 := hide (hr2.alloc (.cells #[.int .i64 xs, .string s, .slice ka kl kc] 56))
   have HD2 := hide (((za HD).keeps hk2).alloc (.cells #[.int .i64 xs, .string s, .slice ka kl kc] 56))
   have hB2 : B ≤ w2.heap.size := Nat.le_trans (za HD).low.2.2.2.2 hk2.size
   have HN2 : Hid (NSt 1000 B w2.heap.size xs s (.slice ka kl kc) kl (w2.alloc (.cells #[.int .i64 xs, .string s, .slice ka kl kc] 56))) := hide ⟨AtC3.new w2 _ _ _ _, (hkv.base (by have := (za HD).low.2.2.2.2; omega)).ty (Ty.below (K := 1000) (zf (Below.refl _ _) _)), ⟨hs, by omega⟩, hB2⟩
   clear hr2 hk2 hkv
   go_wp2_with fail
   obtain ⟨q, hq⟩ : ∃ q, w2.heap.size = q := ⟨_, rfl⟩
   rw [hq] at HN2 ⊢
   clear hq hB2
   have hkl9 : kl ≤ 1000 := by omega
   go_loopw [7] (fun vk wk => ∃ (k p'' : Nat), vk = .int .i64 k ∧ k ≤ kl ∧ p'' ≤ p2 + 2 * k ∧ DSt 1000 g B B W0 (.slice na i nc) (.slice none 0 0) i 0 wk ∧ NSt 1000 B q xs s (.slice ka kl kc) kl wk ∧ Rd wk g p'' a n cap) (fun vk _ => kl - (intOf vk).toNat)
   case atStart => exact ⟨0, p2, rfl, by omega, by omega, za HD2, za HN2, za HR2⟩
   case round =>
    obtain ⟨k, p3, rfl, hk, hp3, hD, hN, hR⟩ := hrel
    obtain ⟨wk, hwk⟩ : ∃ wk, wk = wr := ⟨_, rfl⟩
    subst hwk
    have HDk := hide hD
    have HNk := hide hN
    have HRk := hide hR
    have a2 := hN.box.n2
    clear hD hN hR
    by_cases hkk : k < kl
    ·go_wp2_with fail
     refine (zX g p3 n cap a 3 _ (za HRk) (by omega) (by omega)).mono ?_
     rintro e w3 ⟨⟨z, rfl, _⟩, ⟨p4, hp4, hr4⟩, hk4⟩
     have HR3 := hide hr4
     have HD3 := hide ((za HDk).keeps hk4)
     have HN3 := hide ((za HNk).keeps hk4 (za HDk).low.2.2.1)
     clear hr4 hk4 a2
     have a2 := (za HN3).box.n2
     by_cases hz : 0 < (z : Int)
     ·by_cases hin : (i : Int) + 1 < 1 + (n0 : Int)
      ·obtain ⟨kb, rfl, hkb, hbi⟩ : ∃ kb, ka = some ⟨kb, 0, none⟩ ∧ B ≤ kb ∧ BI w3 kb kc kl := by
        rcases (za HN3).kids with ⟨e, e0⟩ | ⟨kb, c', e, h1, _, _, h4⟩
        ·omega
        ·cases e; exact ⟨kb, rfl, h1, h4⟩
       have HBI := hide hbi
       have HKB := hide hkb
       obtain ⟨N, hN⟩ : ∃ N : Int, 1 + (n0 : Int) - (i : Int) - 1 = N := ⟨_, rfl⟩
       have w2' : IntKind.i64.wrap (IntKind.i64.wrap (1 + (n0 : Int) - (i : Int)) - 1) = N := by rw [wi64 (1 + (n0 : Int) - (i : Int)) (by omega) (by omega), wi64 _ (by omega) (by omega)]; exact hN
       have w3' : IntKind.i64.wrap ((i : Int) + 1) = ((i + 1 : Nat) : Int) := by rw [wi64 _ (by omega) (by omega)]; omega
       have HNN := hide hN
       clear hbi hkb hN
       go_wp2_with fail
       go_region_law (first | (go_simp; go_at_call 27; refine (zX g p4 n cap a N w3.drew (by exact (za HR3).drew) (by omega) (by have := za HNN; omega)).mono ?_; rintro e w5 ⟨⟨y, rfl, hy⟩, ⟨p5, hp5, hr5⟩, hk5⟩; have hk5 := (Keeps.refl g w3).drew.trans hk5; have HR5 := hide hr5; have HD5 := hide ((za HD3).keeps hk5); have HN5 := hide ((za HN3).keeps hk5 (za HD3).low.2.2.1); have HB5 := hide ((Ty.keeps (K := 1000) hk5 (za HD3).low.2.2.1).bi _ _ _ (za HKB) (za HBI)); have e2 := (za HN5).box.n2; have hy9 : (y : Int) ≤ 1000000000 := (by rcases hy with h | h <;> (have := za HNN; omega)); have w4' : IntKind.i64.wrap (((i + 1 : Nat) : Int) + (y : Int)) = ((i + 1 : Nat) : Int) + (y : Int) := (by rw [wi64 _ (by omega) (by omega)]); obtain ⟨u5, f5, u5', hu5⟩ := (za HB5).cell (by omega) (show k < kl * 1 by omega); have f6 := (za HB5).frozen k; clear hr5 hk5 hy; (try dsimp only)))
       ·
        have HD7 := hide ((za HD5).setI (j := k) (x := ((i + 1 : Nat) : Int) + (y : Int)) (za HB5) (za HKB))
        have HN7 := hide ((za HN5).setI (j := k) (y := ((i + 1 : Nat) : Int) + (y : Int)) (za HB5))
        have HR7 := hide ((za HR5).from (za HD5).low.2.2.1 ((Below.refl B w5).setCell (p := ⟨kb, k, none⟩) (za HKB) (.int .i64 (((i + 1 : Nat) : Int) + (y : Int)))))
        clear hu5 f6 w2' w3' w4' e2 a2
        go_wp2_with fail
        go_roundw
        case rel => exact ⟨k + 1, p5, by go_num, by omega, by omega, za HD7, za HN7, za HR7⟩
        case measure => simp [intOf]; omega
       ·
        have HD7 := hide ((za HD5).setI (j := k) (x := ((i + 1 : Nat) : Int) + (y : Int)) (za HB5) (za HKB))
        have HN7 := hide ((za HN5).setI (j := k) (y := ((i + 1 : Nat) : Int) + (y : Int)) (za HB5))
        have HR7 := hide ((za HR5).from (za HD5).low.2.2.1 ((Below.refl B w5).setCell (p := ⟨kb, k, none⟩) (za HKB) (.int .i64 (((i + 1 : Nat) : Int) + (y : Int)))))
        clear hu5 f6 w2' w3' w4' e2 a2
        go_wp2_with fail
        go_roundw
        case rel => exact ⟨k + 1, p5, by go_num, by omega, by omega, za HD7, za HN7, za HR7⟩
        case measure => simp [intOf]; omega
      ·go_wp2_with fail
       go_roundw
       case rel => exact ⟨k + 1, p4, by go_num, by omega, by omega, za HD3, za HN3, za HR3⟩
       case measure => simp [intOf]; omega
     ·clear a2
      by_cases hl : (i : Int) + 1 = 1 + (n0 : Int)
      ·have hl' : ((i : Int) + 1 == 1 + (n0 : Int)) = true := by rw [beq_iff_eq]; exact hl
       go_wp2_with fail
       refine (zX g p4 n cap a 3 _ (za HR3) (by omega) (by omega)).mono ?_
       rintro e w8 ⟨⟨z8, rfl, _⟩, ⟨p8, hp8, hr8⟩, hk8⟩
       have HR8 := hide hr8
       have HD8 := hide ((za HD3).keeps hk8)
       have HN8 := hide ((za HN3).keeps hk8 (za HD3).low.2.2.1)
       clear hr8 hk8 hl'
       by_cases hz8 : 0 < (z8 : Int)
       ·have a0 := (za HN8).box.n0
        have a1 := (za HN8).box.n1
        have a2 := (za HN8).box.n2
        have af := (za HN8).box.f
        have HR9 := hide ((za HR8).from (za HD8).low.2.2.1 ((((Below.refl B w8).setCell (p := ⟨q, 0, none⟩) (za HN8).low (.int .i64 6)).setCell (p := ⟨q, 1, none⟩) (za HN8).low (.string ⟨#[]⟩)).setCell (p := ⟨q, 2, none⟩) (za HN8).low (.slice none 0 0)))
        have HD9 := hide ((za HD8).put (y := 6) (t := ⟨#[]⟩) (za HN8) (by decide) (by decide) (jd w8 B))
        have HN9 := hide ((za HN8).put (y := 6) (t := ⟨#[]⟩) (by decide) (by decide) (jd w8 B))
        have b0 := (za HD9).box.n0
        have c0 := (za HN9).box.n0
        have c1 := (za HN9).box.n1
        have c2 := (za HN9).box.n2
        have HRA := hide ((za HR9).alloc (.cells #[.int .i64 6, .string ⟨#[]⟩, (.slice none 0 0)] 56))
        have HDA := hide ((za HD9).alloc (.cells #[.int .i64 6, .string ⟨#[]⟩, (.slice none 0 0)] 56))
        have HKA := hide ((za HN9).kids.ty (Ty.below (K := 1000) (zf (Below.refl (((w8.setCell ⟨q, 0, none⟩ (.int .i64 6)).setCell ⟨q, 1, none⟩ (.string ⟨#[]⟩)).setCell ⟨q, 2, none⟩ (.slice none 0 0)).heap.size (((w8.setCell ⟨q, 0, none⟩ (.int .i64 6)).setCell ⟨q, 1, none⟩ (.string ⟨#[]⟩)).setCell ⟨q, 2, none⟩ (.slice none 0 0))) (.cells #[.int .i64 6, .string ⟨#[]⟩, (.slice none 0 0)] 56))))
        have HSM := hide (za HN9).small
        have HNW := hide (AtC3.new' (((w8.setCell ⟨q, 0, none⟩ (.int .i64 6)).setCell ⟨q, 1, none⟩ (.string ⟨#[]⟩)).setCell ⟨q, 2, none⟩ (.slice none 0 0)) w8.heap.size (.int .i64 6) (.string ⟨#[]⟩) (.slice none 0 0) 56 (by simp [jg]))
        go_wp2_with (at_builtin; refine qe (by rfl) (.tmp 61) (.tmp 63) (by rfl) 1000 B (.slice na i nc) i w8.heap.size 6 ⟨#[]⟩ (.slice none 0 0) 0 (by rfl) (by rfl) (za HDA).nodes (za HNW).n0 (za HNW).n1 (za HNW).n2 (za HSM).1 (za HSM).2 (za HKA) (by omega) (za HDA).low.2.2.2.2 ?_; intro g6 c6 w6 hs6 hg6; have HS6 := hide hs6; have HG6 := hide hg6; have f0 := ((za HDA).box.gr hg6 (by decide)).n0; have f1 := ((za HDA).box.gr hg6 (by decide)).f; clear hs6 hg6 b0 c0 c1 c2)
        have HD7 := hide ((za HDA).appN (za HG6) (za HS6))
        have HR7 := hide ((za HRA).from (za HDA).low.2.2.1 ((za HG6).low.setCell (p := ⟨B, 0, none⟩) (Nat.le_refl _) (.slice (some ⟨g6, 0, none⟩) (i + 1) c6)))
        clear f0 f1
        go_wp2_with fail
        go_roundw
        case rel => exact ⟨i + 1, p8, _, by go_num, by omega, by omega, za HD7, za HR7⟩
        case measure => simp [intOf]; omega
       ·
        have b0 := (za HD8).box.n0
        have c0 := (za HN8).box.n0
        have c1 := (za HN8).box.n1
        have c2 := (za HN8).box.n2
        have HRA := hide ((za HR8).alloc (.cells #[.int .i64 xs, .string s, (.slice ka kl kc)] 56))
        have HDA := hide ((za HD8).alloc (.cells #[.int .i64 xs, .string s, (.slice ka kl kc)] 56))
        have HKA := hide ((za HN8).kids.ty (Ty.below (K := 1000) (zf (Below.refl w8.heap.size w8) (.cells #[.int .i64 xs, .string s, (.slice ka kl kc)] 56))))
        have HSM := hide (za HN8).small
        have HNW := hide (AtC3.new' w8 w8.heap.size (.int .i64 xs) (.string s) (.slice ka kl kc) 56 (by simp [jg]))
        go_wp2_with (at_builtin; refine qe (by rfl) (.tmp 61) (.tmp 63) (by rfl) 1000 B (.slice na i nc) i w8.heap.size xs s (.slice ka kl kc) kl (by rfl) (by rfl) (za HDA).nodes (za HNW).n0 (za HNW).n1 (za HNW).n2 (za HSM).1 (za HSM).2 (za HKA) (by omega) (za HDA).low.2.2.2.2 ?_; intro g6 c6 w6 hs6 hg6; have HS6 := hide hs6; have HG6 := hide hg6; have f0 := ((za HDA).box.gr hg6 (by decide)).n0; have f1 := ((za HDA).box.gr hg6 (by decide)).f; clear hs6 hg6 b0 c0 c1 c2)
        have HD7 := hide ((za HDA).appN (za HG6) (za HS6))
        have HR7 := hide ((za HRA).from (za HDA).low.2.2.1 ((za HG6).low.setCell (p := ⟨B, 0, none⟩) (Nat.le_refl _) (.slice (some ⟨g6, 0, none⟩) (i + 1) c6)))
        clear f0 f1
        go_wp2_with fail
        go_roundw
        case rel => exact ⟨i + 1, p8, _, by go_num, by omega, by omega, za HD7, za HR7⟩
        case measure => simp [intOf]; omega
      ·have hl' : ((i : Int) + 1 == 1 + (n0 : Int)) = false := by rw [beq_eq_false_iff_ne]; exact hl
       have b0 := (za HD3).box.n0
       have c0 := (za HN3).box.n0
       have c1 := (za HN3).box.n1
       have c2 := (za HN3).box.n2
       have HRA := hide ((za HR3).alloc (.cells #[.int .i64 xs, .string s, (.slice ka kl kc)] 56))
       have HDA := hide ((za HD3).alloc (.cells #[.int .i64 xs, .string s, (.slice ka kl kc)] 56))
       have HKA := hide ((za HN3).kids.ty (Ty.below (K := 1000) (zf (Below.refl w3.heap.size w3) (.cells #[.int .i64 xs, .string s, (.slice ka kl kc)] 56))))
       have HSM := hide (za HN3).small
       have HNW := hide (AtC3.new' w3 w3.heap.size (.int .i64 xs) (.string s) (.slice ka kl kc) 56 (by simp [jg]))
       go_wp2_with (at_builtin; refine qe (by rfl) (.tmp 61) (.tmp 63) (by rfl) 1000 B (.slice na i nc) i w3.heap.size xs s (.slice ka kl kc) kl (by rfl) (by rfl) (za HDA).nodes (za HNW).n0 (za HNW).n1 (za HNW).n2 (za HSM).1 (za HSM).2 (za HKA) (by omega) (za HDA).low.2.2.2.2 ?_; intro g6 c6 w6 hs6 hg6; have HS6 := hide hs6; have HG6 := hide hg6; have f0 := ((za HDA).box.gr hg6 (by decide)).n0; have f1 := ((za HDA).box.gr hg6 (by decide)).f; clear hs6 hg6 b0 c0 c1 c2)
       have HD7 := hide ((za HDA).appN (za HG6) (za HS6))
       have HR7 := hide ((za HRA).from (za HDA).low.2.2.1 ((za HG6).low.setCell (p := ⟨B, 0, none⟩) (Nat.le_refl _) (.slice (some ⟨g6, 0, none⟩) (i + 1) c6)))
       clear f0 f1
       go_wp2_with fail
       go_roundw
       case rel => exact ⟨i + 1, p4, _, by go_num, by omega, by omega, za HD7, za HR7⟩
       case measure => simp [intOf]; omega
    ·obtain rfl : kl = k := by omega
     clear a2
     have a2 := (za HNk).box.n2
     by_cases hl : (i : Int) + 1 = 1 + (n0 : Int)
     ·have hl' : ((i : Int) + 1 == 1 + (n0 : Int)) = true := by rw [beq_iff_eq]; exact hl
      go_wp2_with fail
      refine (zX g p3 n cap a 3 _ (za HRk) (by omega) (by omega)).mono ?_
      rintro e w8 ⟨⟨z8, rfl, _⟩, ⟨p8, hp8, hr8⟩, hk8⟩
      have HR8 := hide hr8
      have HD8 := hide ((za HDk).keeps hk8)
      have HN8 := hide ((za HNk).keeps hk8 (za HDk).low.2.2.1)
      clear hr8 hk8 hl'
      by_cases hz8 : 0 < (z8 : Int)
      ·have a0 := (za HN8).box.n0
       have a1 := (za HN8).box.n1
       have a2 := (za HN8).box.n2
       have af := (za HN8).box.f
       have HR9 := hide ((za HR8).from (za HD8).low.2.2.1 ((((Below.refl B w8).setCell (p := ⟨q, 0, none⟩) (za HN8).low (.int .i64 6)).setCell (p := ⟨q, 1, none⟩) (za HN8).low (.string ⟨#[]⟩)).setCell (p := ⟨q, 2, none⟩) (za HN8).low (.slice none 0 0)))
       have HD9 := hide ((za HD8).put (y := 6) (t := ⟨#[]⟩) (za HN8) (by decide) (by decide) (jd w8 B))
       have HN9 := hide ((za HN8).put (y := 6) (t := ⟨#[]⟩) (by decide) (by decide) (jd w8 B))
       have b0 := (za HD9).box.n0
       have c0 := (za HN9).box.n0
       have c1 := (za HN9).box.n1
       have c2 := (za HN9).box.n2
       have HRA := hide ((za HR9).alloc (.cells #[.int .i64 6, .string ⟨#[]⟩, (.slice none 0 0)] 56))
       have HDA := hide ((za HD9).alloc (.cells #[.int .i64 6, .string ⟨#[]⟩, (.slice none 0 0)] 56))
       have HKA := hide ((za HN9).kids.ty (Ty.below (K := 1000) (zf (Below.refl (((w8.setCell ⟨q, 0, none⟩ (.int .i64 6)).setCell ⟨q, 1, none⟩ (.string ⟨#[]⟩)).setCell ⟨q, 2, none⟩ (.slice none 0 0)).heap.size (((w8.setCell ⟨q, 0, none⟩ (.int .i64 6)).setCell ⟨q, 1, none⟩ (.string ⟨#[]⟩)).setCell ⟨q, 2, none⟩ (.slice none 0 0))) (.cells #[.int .i64 6, .string ⟨#[]⟩, (.slice none 0 0)] 56))))
       have HSM := hide (za HN9).small
       have HNW := hide (AtC3.new' (((w8.setCell ⟨q, 0, none⟩ (.int .i64 6)).setCell ⟨q, 1, none⟩ (.string ⟨#[]⟩)).setCell ⟨q, 2, none⟩ (.slice none 0 0)) w8.heap.size (.int .i64 6) (.string ⟨#[]⟩) (.slice none 0 0) 56 (by simp [jg]))
       go_wp2_with (at_builtin; refine qe (by rfl) (.tmp 61) (.tmp 63) (by rfl) 1000 B (.slice na i nc) i w8.heap.size 6 ⟨#[]⟩ (.slice none 0 0) 0 (by rfl) (by rfl) (za HDA).nodes (za HNW).n0 (za HNW).n1 (za HNW).n2 (za HSM).1 (za HSM).2 (za HKA) (by omega) (za HDA).low.2.2.2.2 ?_; intro g6 c6 w6 hs6 hg6; have HS6 := hide hs6; have HG6 := hide hg6; have f0 := ((za HDA).box.gr hg6 (by decide)).n0; have f1 := ((za HDA).box.gr hg6 (by decide)).f; clear hs6 hg6 b0 c0 c1 c2)
       have HD7 := hide ((za HDA).appN (za HG6) (za HS6))
       have HR7 := hide ((za HRA).from (za HDA).low.2.2.1 ((za HG6).low.setCell (p := ⟨B, 0, none⟩) (Nat.le_refl _) (.slice (some ⟨g6, 0, none⟩) (i + 1) c6)))
       clear f0 f1
       go_wp2_with fail
       go_roundw
       case rel => exact ⟨i + 1, p8, _, by go_num, by omega, by omega, za HD7, za HR7⟩
       case measure => simp [intOf]; omega
      ·
       have b0 := (za HD8).box.n0
       have c0 := (za HN8).box.n0
       have c1 := (za HN8).box.n1
       have c2 := (za HN8).box.n2
       have HRA := hide ((za HR8).alloc (.cells #[.int .i64 xs, .string s, (.slice ka kl kc)] 56))
       have HDA := hide ((za HD8).alloc (.cells #[.int .i64 xs, .string s, (.slice ka kl kc)] 56))
       have HKA := hide ((za HN8).kids.ty (Ty.below (K := 1000) (zf (Below.refl w8.heap.size w8) (.cells #[.int .i64 xs, .string s, (.slice ka kl kc)] 56))))
       have HSM := hide (za HN8).small
       have HNW := hide (AtC3.new' w8 w8.heap.size (.int .i64 xs) (.string s) (.slice ka kl kc) 56 (by simp [jg]))
       go_wp2_with (at_builtin; refine qe (by rfl) (.tmp 61) (.tmp 63) (by rfl) 1000 B (.slice na i nc) i w8.heap.size xs s (.slice ka kl kc) kl (by rfl) (by rfl) (za HDA).nodes (za HNW).n0 (za HNW).n1 (za HNW).n2 (za HSM).1 (za HSM).2 (za HKA) (by omega) (za HDA).low.2.2.2.2 ?_; intro g6 c6 w6 hs6 hg6; have HS6 := hide hs6; have HG6 := hide hg6; have f0 := ((za HDA).box.gr hg6 (by decide)).n0; have f1 := ((za HDA).box.gr hg6 (by decide)).f; clear hs6 hg6 b0 c0 c1 c2)
       have HD7 := hide ((za HDA).appN (za HG6) (za HS6))
       have HR7 := hide ((za HRA).from (za HDA).low.2.2.1 ((za HG6).low.setCell (p := ⟨B, 0, none⟩) (Nat.le_refl _) (.slice (some ⟨g6, 0, none⟩) (i + 1) c6)))
       clear f0 f1
       go_wp2_with fail
       go_roundw
       case rel => exact ⟨i + 1, p8, _, by go_num, by omega, by omega, za HD7, za HR7⟩
       case measure => simp [intOf]; omega
     ·have hl' : ((i : Int) + 1 == 1 + (n0 : Int)) = false := by rw [beq_eq_false_iff_ne]; exact hl
      have b0 := (za HDk).box.n0
      have c0 := (za HNk).box.n0
      have c1 := (za HNk).box.n1
      have c2 := (za HNk).box.n2
      have HRA := hide ((za HRk).alloc (.cells #[.int .i64 xs, .string s, (.slice ka kl kc)] 56))
      have HDA := hide ((za HDk).alloc (.cells #[.int .i64 xs, .string s, (.slice ka kl kc)] 56))
      have HKA := hide ((za HNk).kids.ty (Ty.below (K := 1000) (zf (Below.refl wk.heap.size wk) (.cells #[.int .i64 xs, .string s, (.slice ka kl kc)] 56))))
      have HSM := hide (za HNk).small
      have HNW := hide (AtC3.new' wk wk.heap.size (.int .i64 xs) (.string s) (.slice ka kl kc) 56 (by simp [jg]))
      go_wp2_with (at_builtin; refine qe (by rfl) (.tmp 61) (.tmp 63) (by rfl) 1000 B (.slice na i nc) i wk.heap.size xs s (.slice ka kl kc) kl (by rfl) (by rfl) (za HDA).nodes (za HNW).n0 (za HNW).n1 (za HNW).n2 (za HSM).1 (za HSM).2 (za HKA) (by omega) (za HDA).low.2.2.2.2 ?_; intro g6 c6 w6 hs6 hg6; have HS6 := hide hs6; have HG6 := hide hg6; have f0 := ((za HDA).box.gr hg6 (by decide)).n0; have f1 := ((za HDA).box.gr hg6 (by decide)).f; clear hs6 hg6 b0 c0 c1 c2)
      have HD7 := hide ((za HDA).appN (za HG6) (za HS6))
      have HR7 := hide ((za HRA).from (za HDA).low.2.2.1 ((za HG6).low.setCell (p := ⟨B, 0, none⟩) (Nat.le_refl _) (.slice (some ⟨g6, 0, none⟩) (i + 1) c6)))
      clear f0 f1
      go_wp2_with fail
      go_roundw
      case rel => exact ⟨i + 1, p3, _, by go_num, by omega, by omega, za HD7, za HR7⟩
      case measure => simp [intOf]; omega
  ·obtain rfl : i = n0 + 1 := by omega
   go_wp2_with fail
   refine (zX g p' n cap a 4 _ (za HRr) (by omega) (by omega)).mono ?_
   rintro e w2 ⟨⟨k0, rfl, hk0⟩, ⟨p2, hp2, hr2⟩, hk2⟩
   have hk4 : k0 < 4 := by rcases hk0 with h | h <;> omega
   have HD2 := hide ((za HD).keeps hk2)
   have HR2 := hide hr2
   clear hr2 hk2 hk0
   go_wp2_with fail
   go_loopw [8] (fun v wk => ∃ (k j p3 : Nat) (rv : Value), v = .int .i64 k ∧ j + k ≤ 4 ∧ p3 ≤ p2 + j ∧ DSt 1000 g B B W0 (.slice na (n0 + 1) nc) rv (n0 + 1) j wk ∧ Rd wk g p3 a n cap) (fun v _ => (intOf v).toNat)
   case atStart => exact ⟨k0, 0, p2, _, rfl, by omega, by omega, za HD2, za HR2⟩
   case round =>
    obtain ⟨k, j, p3, rv, rfl, hjk, hp3, hD3, hR3⟩ := hrel
    obtain ⟨wk, hwk⟩ : ∃ wk, wk = wr := ⟨_, rfl⟩
    subst hwk
    obtain ⟨ra, rc, rfl, _, _⟩ := hD3.roots.form
    have HD3 := hide hD3
    have HR3 := hide hR3
    have HLOW := hide hD3.low
    clear hD3 hR3
    by_cases hk : 0 < k
    ·have a1 := (za HD3).box.n1
     go_wp2_with fail
     go_region_law (first | ((refine qX (by rfl) _ _ (by rfl) 1000 B (.slice ra j rc) j w5.heap.size (x : Int) (by rfl) (by rfl) (za HD5).roots (by with_reducible exact q5) (by omega) (za HD5).low.2.2.2.2 (some 78) (by rfl) ?_; intro g6 c6 w6 hs6 hg6; have HS6 := hide hs6; have HG6 := hide hg6; have f2 := ((za HD5).box.gr hg6 (by decide)).n1; have f3 := ((za HD5).box.gr hg6 (by decide)).f; clear hs6 hg6)) | (go_simp; go_at_call 27; refine (zX g p3 n cap a (1 + (n0 : Int)) wk.drew (by exact (za HR3).drew) (by omega) (by omega)).mono ?_; rintro e w5 ⟨⟨x, rfl, _⟩, ⟨p5, hp5, hr5⟩, hk5⟩; have hk5 := (Keeps.refl g wk).drew.trans hk5; have HR5 := hide (hr5.alloc (.cells #[.int .i64 (x : Int)] 3)); have HD5 := hide (((za HD3).keeps hk5).alloc (.cells #[.int .i64 (x : Int)] 3)); have e2 := ((za HD3).keeps hk5).box.n1; have e3 := (za HD5).box.n1; have q5 : (w5.alloc (.cells #[.int .i64 (x : Int)] 3)).cell? ⟨w5.heap.size, 0, none⟩ = some (.int .i64 (x : Int)) := World.news_of_block (heap_alloc_new w5 (.cells #[.int .i64 (x : Int)] 3)) 0 _ rfl; clear hr5 hk5; (try dsimp only)))
     ·
      have HD7 := hide ((za HD5).appI (za HG6) (za HS6))
      have HR7 := hide ((za HR5).from (za HLOW).2.2.1 ((za HG6).low.setCell (p := ⟨B, 1, none⟩) (Nat.le_refl _) (.slice (some ⟨g6, 0, none⟩) (j + 1) c6)))
      clear f2 f3 e2 e3 a1
      go_wp2_with fail
      go_roundw
      case rel => exact ⟨k - 1, j + 1, p5, _, by go_num, by omega, by omega, za HD7, za HR7⟩
      case measure => simp [intOf]; omega
     ·
      have HD7 := hide ((za HD5).appI (za HG6) (za HS6))
      have HR7 := hide ((za HR5).from (za HLOW).2.2.1 ((za HG6).low.setCell (p := ⟨B, 1, none⟩) (Nat.le_refl _) (.slice (some ⟨g6, 0, none⟩) (j + 1) c6)))
      clear f2 f3 e2 e3 a1
      go_wp2_with fail
      go_roundw
      case rel => exact ⟨k - 1, j + 1, p5, _, by go_num, by omega, by omega, za HD7, za HR7⟩
      case measure => simp [intOf]; omega
     ·
      have HD7 := hide ((za HD5).appI (za HG6) (za HS6))
      have HR7 := hide ((za HR5).from (za HLOW).2.2.1 ((za HG6).low.setCell (p := ⟨B, 1, none⟩) (Nat.le_refl _) (.slice (some ⟨g6, 0, none⟩) (j + 1) c6)))
      clear f2 f3 e2 e3 a1
      go_wp2_with fail
      go_roundw
      case rel => exact ⟨k - 1, j + 1, p5, _, by go_num, by omega, by omega, za HD7, za HR7⟩
      case measure => simp [intOf]; omega
    ·obtain rfl : k = 0 := by omega
     have a0 := (za HD3).box.n0
     have a1 := (za HD3).box.n1
     have hA := (za HA).keeps (za HD3).keep (by have := (za HLOW).1; omega)
     have b0 := hA.n0
     have b1 := hA.n1
     have bf := hA.f
     have hZ := (hA.st0 (.slice na (n0 + 1) nc)).st1 (.slice ra j rc)
     have z0 := hZ.n0
     have z1 := hZ.n1
     have HZ := hide (And.intro z0 z1)
     have hty : Ty 1000 B wk ((wk.setCell ⟨w.heap.size, 0, none⟩ (.slice na (n0 + 1) nc)).setCell ⟨w.heap.size, 1, none⟩ (.slice ra j rc)) := (Ty.box hA (by decide) (by decide) _).trans (Ty.box (hA.st0 _) (by decide) (by decide) _)
     have HSN := hide ((za HD3).nodes.ty hty)
     have HSI := hide ((za HD3).roots.ty hty)
     have hKW : Keeps g w W0 := by rw [← hW0]; exact (Keeps.refl g w).alloc _
     have hD : Drawn w g p n cap a 10000 wk := ⟨⟨p3, by omega, za HR3⟩, hKW.trans (za HD3).keep⟩
     have HDR := hide (hD.more (za Hlt) (((Below.refl w.heap.size wk).setCell (p := ⟨w.heap.size, 0, none⟩) (Nat.le_refl _) (.slice na (n0 + 1) nc)).setCell (p := ⟨w.heap.size, 1, none⟩) (Nat.le_refl _) (.slice ra j rc)))
     have HBB : Hid (w.heap.size ≤ B) := hide (by have := (za HLOW).1; omega)
     clear hD hKW hty z0 z1 hZ hA
     go_wp2_with fail
     have hz := za HZ
     refine bodyPost_ret (v := .agg #[.slice na (n0 + 1) nc, .slice ra j rc]) (by simp [results, Tryz.results84, go_sem, hz]) rfl ⟨⟨_, _, n0 + 1, j, rfl, by omega, by omega, by omega, (za HSN).base (za HBB), (za HSI).base (za HBB)⟩, za HDR⟩
def nd3 (nd : Nd) (kv : Value) : List Value := [.int .i64 nd.1, .string (B nd.2.1), kv]
def flatN : List Nd → List Value → List Value
 | nd :: ns, kv :: kvs => nd3 nd kv ++ flatN ns kvs
 | _, _ => []
theorem V4 {ns : List Nd} {kvs : List Value} {nd : Nd} {kv : Value} (h : ns.length = kvs.length) : flatN (ns ++ [nd]) (kvs ++ [kv]) = flatN ns kvs ++ nd3 nd kv := by
 induction ns generalizing kvs with
 | nil =>
  cases kvs with
  | nil => simp [flatN]
  | cons a b => simp at h
 | cons x r ih =>
  cases kvs with
  | nil => simp at h
  | cons a b =>
   simp only [List.cons_append, flatN]
   rw [ih (by simpa using h), List.append_assoc]
theorem Qz {ns : List Nd} {kvs : List Value} {j : Nat} {nd : Nd} {kv : Value} (h1 : ns[j]? = some nd) (h2 : kvs[j]? = some kv) :
  (flatN ns kvs)[j * 3]? = some (.int .i64 nd.1) ∧ (flatN ns kvs)[j * 3 + 1]? = some (.string (B nd.2.1)) ∧ (flatN ns kvs)[j * 3 + 2]? = some kv := by
 induction ns generalizing kvs j with
 | nil => simp at h1
 | cons x r ih =>
  cases kvs with
  | nil => simp at h2
  | cons a b =>
   cases j with
   | zero =>
    simp at h1 h2
    subst h1 h2
    simp [flatN, nd3]
   | succ j =>
    simp only [List.getElem?_cons_succ] at h1 h2
    obtain ⟨c0, c1, c2⟩ := ih h1 h2
    have key : ∀ i, (flatN (x :: r) (a :: b))[(j + 1) * 3 + i]? = (flatN r b)[j * 3 + i]? := by
     intro i
     show (nd3 x a ++ flatN r b)[(j + 1) * 3 + i]? = _
     rw [List.getElem?_append_right (by simp [nd3]; omega)]
     congr 1
     simp [nd3]; omega
    exact ⟨by have := key 0; simp only [Nat.add_zero] at this; rw [this]; exact c0, by rw [key]; exact c1, by rw [key]; exact c2⟩
def RowN (w : World) (base : Nat) (v : Value) (ns : List Nd) (kvs : List Value) : Prop :=
 kvs.length = ns.length ∧ w.ownsRow base 56 3 v ns.length (flatN ns kvs) ∧ ∀ (j : Nat) (nd : Nd) (kv : Value), ns[j]? = some nd → kvs[j]? = some kv → nd.2.1.length ≤ maxLen ∧ w.ownsRow base 3 1 kv nd.2.2.length (iv nd.2.2)
theorem RowN.at {w : World} {base : Nat} {v : Value} {ns : List Nd} {kvs : List Value} (h : RowN w base v ns kvs) : NodesAt w v ns := by
 obtain ⟨hl, hr, hk⟩ := h
 rcases hr.2 with ⟨rfl, h0⟩ | ⟨g, cap, cur, rfl, hb, hg, h1, h2, h3, h4⟩
 ·exact ⟨none, 0, by rw [h0], by omega, by unfold maxLen; omega, fun h => absurd h (by omega)⟩
 ·refine ⟨_, cap, rfl, h1, h2, fun _ => ⟨g, 0, rfl, (Array.getElem?_eq_some_iff.1 hg).1, fun j nd e1 => ?_⟩⟩
  have hj := (List.getElem?_eq_some_iff.1 e1).1
  have e2 : kvs[j]? = some (kvs[j]'(by omega)) := List.getElem?_eq_getElem _
  obtain ⟨f0, f1, f2⟩ := Qz e1 e2
  obtain ⟨hl2, ho⟩ := hk j nd _ e1 e2
  refine ⟨?_, ?_, hl2, _, ?_, qD ho⟩
  ·rw [Nat.zero_add, hr.cellAt (j * 3) (by omega)]; exact f0
  ·rw [Nat.zero_add, hr.cellAt (j * 3 + 1) (by omega)]; exact f1
  ·rw [Nat.zero_add, hr.cellAt (j * 3 + 2) (by omega)]; exact f2
theorem RowN.below {w w' : World} {base : Nat} {v : Value} {ns : List Nd} {kvs : List Value} (h : RowN w base v ns kvs) (k : Below w.heap.size w w') : RowN w' base v ns kvs :=
 ⟨h.1, zr h.2.1 k, fun j nd kv e1 e2 => ⟨(h.2.2 j nd kv e1 e2).1, zr (h.2.2 j nd kv e1 e2).2 k⟩⟩
theorem zam {w : World} {b1 b2 s1 s2 n1 n2 : Nat} {e1 e2 : TypeId} {v1 v2 : Value} {x1 x2 : List Value} (h1 : w.ownsRow b1 e1 s1 v1 n1 x1) (h2 : w.ownsRow b2 e2 s2 v2 n2 x2) (hne : e1 ≠ e2) : v1.ownBlock = none ∨ v1.ownBlock ≠ v2.ownBlock := by
 rcases h1.2 with ⟨rfl, _⟩ | ⟨g1, c1, k1, rfl, _, hg1, _⟩
 ·exact .inl rfl
 ·right
  rcases h2.2 with ⟨rfl, _⟩ | ⟨g2, c2, k2, rfl, _, hg2, _⟩
  ·intro e; simp [Value.ownBlock] at e
  ·intro e
   simp [Value.ownBlock] at e
   subst e
   rw [hg1] at hg2
   simp at hg2
   exact hne hg2.2
theorem RowN.push {w w' : World} {base : Nat} {v v' : Value} {ns : List Nd} {kvs : List Value} {nd : Nd} {kv : Value} (h : RowN w base v ns kvs) (ht : nd.2.1.length ≤ maxLen) (ho : w.ownsRow base 3 1 kv nd.2.2.length (iv nd.2.2))
  (hr : w'.ownsRow base 56 3 v' (ns.length + 1) (flatN ns kvs ++ nd3 nd kv)) (hg : w.grownBy w' v.ownBlock) : RowN w' base v' (ns ++ [nd]) (kvs ++ [kv]) := by
 obtain ⟨hl, hrow, hk⟩ := h
 have hne : 3 ≠ 56 := by decide
 refine ⟨by simp [hl], ?_, fun j nd' kv' e1 e2 => ?_⟩
 ·rw [V4 hl.symm]; simpa using hr
 ·by_cases hj : j < ns.length
  ·rw [List.getElem?_append_left hj] at e1
   rw [List.getElem?_append_left (by omega)] at e2
   obtain ⟨a1, a2⟩ := hk j nd' kv' e1 e2
   exact ⟨a1, a2.kept hg (zam a2 hrow hne)⟩
  ·have hj2 : j = ns.length := by
    have := (List.getElem?_eq_some_iff.1 e1).1
    simp at this; omega
   subst hj2
   rw [List.getElem?_append_right (Nat.le_refl _)] at e1
   rw [List.getElem?_append_right (by omega), hl] at e2
   simp at e1 e2
   subst e1 e2
   exact ⟨ht, ho.kept hg (zam ho hrow hne)⟩
theorem xx {l : List Bool} {i : Nat} (h : l[i]? = some false) : (l.set i true).count false + 1 = l.count false := by
 induction l generalizing i with
 | nil => simp at h
 | cons a r ih =>
  cases i with
  | zero => simp at h; subst h; simp
  | succ i => rw [List.getElem?_cons_succ] at h; have := ih h; simp only [List.set_cons_succ, List.count_cons]; omega
def LL (l : Array Bool) (i : Nat) : Prop := l[i]? = some true
theorem vG {l : Array Bool} {i : Nat} (h : i < l.size) (j : Nat) : LL (l.setIfInBounds i true) j ↔ j = i ∨ LL l j := by
 unfold LL
 rw [Array.getElem?_setIfInBounds]
 by_cases e : i = j
 ·subst e; rw [if_pos rfl, if_pos h]; simp
 ·rw [if_neg e]; constructor
  ·exact .inr
  ·rintro (h | h)
   ·exact absurd h.symm e
   ·exact h
theorem LL_of {l : Array Bool} {k : Nat} (h : l[k]?.getD false = true) : LL l k := by
 unfold LL
 cases e : l[k]? with
 | none => rw [e] at h; simp at h
 | some b => rw [e] at h; simp at h; rw [h]
theorem vM {P : Program} {ops : Array Oper} {Q : Exit → Act → World → Prop} {md : Region.Mode} (Inv : Array Bool → Act → World → Prop)
  (hsz : ∀ l a w, Inv l a w → l.size = ops.size) (hend : ∀ l a w, Inv l a w → (∀ i, i < ops.size → l[i]? = some true) → Q .normal a w)
  (hstep : ∀ l a w i, Inv l a w → i ∈ Region.ready md ops l → wpOp P ops Q i (fun a' w' => Inv (l.setIfInBounds i true) a' w') a w)
  (hgo : ∀ l a w, Inv l a w → Region.ready md ops l = [] → ∀ i, i < ops.size → l[i]? = some true) :
  ∀ fuel l a w, Inv l a w → l.toList.count false ≤ fuel → wpAny P md ops Q fuel l a w := by
 intro fuel
 induction fuel with
 | zero =>
  intro l a w hI hc
  have hall : ∀ i, i < ops.size → l[i]? = some true := fun i hi => by
   have h1 : l[i]? = some (l[i]'(by rw [hsz l a w hI]; exact hi)) := Array.getElem?_eq_getElem _
   cases hv : l[i]'(by rw [hsz l a w hI]; exact hi) with
   | true => rw [h1, hv]
   | false =>
    have : false ∈ l.toList := by rw [← hv]; simp
    have := List.count_pos_iff.2 this
    omega
  refine ⟨?_, hend l a w hI hall⟩
  unfold Region.ready
  rw [List.filter_eq_nil_iff]
  intro i hi
  have := hall i (by simpa using hi)
  simp [Array.getD_eq_getD_getElem?, this]
 | succ fuel ih =>
  intro l a w hI hc
  refine ⟨fun hr => hend l a w hI (hgo l a w hI hr), fun i hi => ?_⟩
  have hi2 := hi
  unfold Region.ready at hi2
  rw [List.mem_filter] at hi2
  have hlt : i < ops.size := by simpa using hi2.1
  have hlf : l[i]? = some false := by
   have h1 : l[i]? = some (l[i]'(by rw [hsz l a w hI]; exact hlt)) := Array.getElem?_eq_getElem _
   have h2 := hi2.2
   simp [Array.getD_eq_getD_getElem?, h1] at h2
   rw [h1, h2.1]
  refine wpOp_mono (fun a' w' h => ih _ a' w' h ?_) (hstep l a w i hI hi)
  have h3 := xx (l := l.toList) (i := i) (by simpa using hlf)
  simp only [Array.toList_setIfInBounds]
  omega
theorem yD {F : Fence} {n : Nat} {P : Program} {ops : Array Oper} {Q : Exit → Act → World → Prop} {md : Region.Mode} (Inv : Array Bool → Act → World → Prop)
  (hsz : ∀ l a w, Inv l a w → l.size = ops.size) (hend : ∀ l a w, Inv l a w → (∀ i, i < ops.size → l[i]? = some true) → Q .normal a w)
  (hstep : ∀ l a w i, Inv l a w → i ∈ Region.ready md ops l → wpOpIn F n P ops Q i (fun a' w' => Inv (l.setIfInBounds i true) a' w') a w)
  (hgo : ∀ l a w, Inv l a w → Region.ready md ops l = [] → ∀ i, i < ops.size → l[i]? = some true) :
  ∀ fuel l a w, Inv l a w → l.toList.count false ≤ fuel → wpAnyIn F n P md ops Q fuel l a w := by
 intro fuel
 induction fuel with
 | zero =>
  intro l a w hI hc
  have hall : ∀ i, i < ops.size → l[i]? = some true := fun i hi => by
   have h1 : l[i]? = some (l[i]'(by rw [hsz l a w hI]; exact hi)) := Array.getElem?_eq_getElem _
   cases hv : l[i]'(by rw [hsz l a w hI]; exact hi) with
   | true => rw [h1, hv]
   | false =>
    have : false ∈ l.toList := by rw [← hv]; simp
    have := List.count_pos_iff.2 this
    omega
  refine ⟨?_, hend l a w hI hall⟩
  unfold Region.ready
  rw [List.filter_eq_nil_iff]
  intro i hi
  have := hall i (by simpa using hi)
  simp [Array.getD_eq_getD_getElem?, this]
 | succ fuel ih =>
  intro l a w hI hc
  refine ⟨fun hr => hend l a w hI (hgo l a w hI hr), fun i hi => ?_⟩
  have hi2 := hi
  unfold Region.ready at hi2
  rw [List.mem_filter] at hi2
  have hlt : i < ops.size := by simpa using hi2.1
  have hlf : l[i]? = some false := by
   have h1 : l[i]? = some (l[i]'(by rw [hsz l a w hI]; exact hlt)) := Array.getElem?_eq_getElem _
   have h2 := hi2.2
   simp [Array.getD_eq_getD_getElem?, h1] at h2
   rw [h1, h2.1]
  refine wpOpIn_mono (fun a' w' h => ih _ a' w' h ?_) (hstep l a w i hI hi)
  have h3 := xx (l := l.toList) (i := i) (by simpa using hlf)
  simp only [Array.toList_setIfInBounds]
  omega
theorem ze {md : Region.Mode} {ops : Array Oper} {l : Array Bool} (hr : Region.ready md ops l = []) (i : Nat) (hi : i < ops.size) (hs : l.size = ops.size) (h : ((ops[i]?).map (·.after.all fun e => !Region.binds md e || l.getD e.on false)).getD false = true) : l[i]? = some true := by
 apply Classical.byContradiction
 intro hne
 have hf : l[i]? = some false := by
  have e : l[i]? = some (l[i]'(by omega)) := Array.getElem?_eq_getElem _
  cases hb : l[i]'(by omega) with
  | true => rw [hb] at e; exact absurd e hne
  | false => rw [hb] at e; exact e
 apply List.not_mem_nil (a := i)
 rw [← hr]
 unfold Region.ready
 rw [List.mem_filter]
 refine ⟨by simpa using hi, ?_⟩
 rw [h]
 simp [Array.getD_eq_getD_getElem?, hf]
abbrev RowI (w : World) (base : Nat) (v : Value) (xs : List Int) : Prop := w.ownsRow base 3 1 v xs.length (iv xs)
theorem zbJ (xs ys : List Int) : iv (xs ++ ys) = iv xs ++ iv ys := by simp [iv]
theorem jp (w : World) : RowI (w.alloc (.cells #[] 3)) w.heap.size (.slice (some ⟨w.heap.size, 0, none⟩) 0 0) [] :=
 ⟨rfl, .inr ⟨w.heap.size, 0, #[], rfl, Nat.le_refl _, heap_alloc_new w _, Nat.le_refl _, by unfold maxLen; omega, rfl, rfl⟩⟩
theorem xJ {P : Program} (w : World) (base : Nat) (t ty e : TypeId) (i : TypeInfo) (size : Nat) (ht : P.underlying t = some (.slice e)) (hi : P.info? e = some i)
  (v : Value) (n c : Nat) (xs : List Value) (hown : w.ownsRow base e size v n xs) : (Builtin.append_ #[t, t] ty #[v, .slice none 0 c]).run P w = .ok v w := by
 rcases hown.2 with ⟨rfl, rfl⟩ | ⟨g, cap, cur, rfl, _, hg, hnc, _⟩
 ·simp [Builtin.append_, run_underlying ht, sizeOf, typeInfo, hi, Builtin.lenOf, Builtin.firstCells]
 ·simp [Builtin.append_, run_underlying ht, sizeOf, typeInfo, hi, Builtin.lenOf, Builtin.firstCells, storeCells, hnc]
theorem Xv {w : World} {b off j : Nat} {v : Value} (h : w.cell? ⟨b, off + j, none⟩ = some v) : w.cell? ((⟨b, off, none⟩ : Addr).add j) = some v := by
 have e : (⟨b, off, none⟩ : Addr).add j = ⟨b, off + j, none⟩ := by unfold Addr.add; split <;> simp_all
 rw [e]; exact h
theorem yg (w : World) (base : Nat) (ty : TypeId) (v x : Value) (l xs : List Int) (hown : RowI w base v l) (hx : IntsAt w x xs) (hn : l.length + xs.length ≤ 10000000) (hbase : base ≤ w.heap.size) :
  ∃ v' w', (Builtin.append_ #[24, 24] ty #[v, x]).run Tryz.prog w = .ok v' w' ∧ RowI w' base v' (l ++ xs) ∧ w.grownBy w' v.ownBlock ∧ (v'.ownBlock = v.ownBlock ∨ v'.ownBlock = some w.heap.size) := by
 obtain ⟨i0, hi, hz0, hz1, hz2⟩ := info_parts Tryz.infoInt
 obtain ⟨a, c, rfl, h1, h2, h3⟩ := hx
 by_cases h0 : xs.length = 0
 ·have hxs : xs = [] := List.length_eq_zero_iff.1 h0
  subst hxs
  cases a with
  | none =>
   refine ⟨v, w, xJ w base _ _ _ i0 1 Tryz.underlying24 hi v l.length c _ hown, by simpa using hown, ⟨rfl, rfl, rfl, Nat.le_refl _, fun _ _ _ => rfl⟩, .inl rfl⟩
  | some ad =>
   obtain ⟨v', w', hr, k1, k2, _, k3⟩ := run_append_own_at (P := Tryz.prog) w base 24 ty 3 i0 (.int .i64 0) 1 8 Tryz.underlying24 hi hz0 hz1 hz2 rfl (by decide) v l.length _ hown ad 0 c [] rfl (fun j u h => by simp at h) (fun u h => by simp at h) (by unfold maxLen; simp at hn; omega) (by simp at hn; omega) hbase
   exact ⟨v', w', hr, by simpa using k1, k2, k3⟩
 ·obtain ⟨b, off, rfl, hb, hc⟩ := h3 (by omega)
  obtain ⟨v', w', hr, k1, k2, _, k3⟩ := run_append_own_at (P := Tryz.prog) w base 24 ty 3 i0 (.int .i64 0) 1 8 Tryz.underlying24 hi hz0 hz1 hz2 rfl (by decide) v l.length _ hown ⟨b, off, none⟩ xs.length c (iv xs) (by simp [iv])
   (fun j u h => by
    rw [Yb] at h
    cases e : xs[j]? with
    | none => rw [e] at h; simp at h
    | some y =>
     rw [e] at h
     simp at h
     subst h
     exact Xv (hc j y e))
   (fun u h => by
    unfold iv at h
    obtain ⟨y, _, rfl⟩ := List.mem_map.1 h
    rfl) (by unfold maxLen; omega) (by omega) hbase
  exact ⟨v', w', hr, by unfold RowI; rw [List.length_append, zbJ]; exact k1, k2, k3⟩
theorem zV {w : World} {ops : Array Oper} {rest : List Oper} {o : Oper} {a : Act} {Q : Exit → Act → World → Prop} (hgd : o.guard = none) (s x : Operand)
  (ho : o.op = .call { callee := .builtin .append, args := #[s, x], argTypes := #[24, 24] })
  (base : Nat) (v xv : Value) (l xs : List Int) (hs : a.eval s = v) (hxv : a.eval x = xv) (hown : RowI w base v l) (hx : IntsAt w xv xs) (hn : l.length + xs.length ≤ 10000000) (hbase : base ≤ w.heap.size)
  (h : ∀ v' w', RowI w' base v' (l ++ xs) → w.grownBy w' v.ownBlock → (v'.ownBlock = v.ownBlock ∨ v'.ownBlock = some w.heap.size) → wpList Tryz.prog ops Q rest (a.put o.dst v') w') :
  wpList Tryz.prog ops Q (o :: rest) a w := by
 refine wpList_plain hgd fun K hK => ?_
 obtain ⟨v', w', hr, h2, h3, h4⟩ := yg w base o.type v xv l xs hown hx hn hbase
 unfold Oper.wp execOp
 simp only [ho, resolve, invoke, builtin, Sem.run_bind, Sem.run_pure, Result.andThen_ok, List.map_toArray, List.map_cons, List.map_nil, hs, hxv, hr]
 exact hK _ _ (h v' w' h2 h3 h4)
theorem zG {w : World} {ops : Array Oper} {o : Oper} {a : Act} {K : Act → World → Prop} {Q : Exit → Act → World → Prop} {E : Prop} (hgd : o.guard = none) (s x : Operand)
  (ho : o.op = .call { callee := .builtin .append, args := #[s, x], argTypes := #[24, 24] })
  (base : Nat) (v xv : Value) (l xs : List Int) (hs : a.eval s = v) (hxv : a.eval x = xv) (hown : RowI w base v l) (hx : IntsAt w xv xs) (hn : l.length + xs.length ≤ 10000000) (hbase : base ≤ w.heap.size) (d : Option Tmp) (hd : o.dst = d)
  (h : ∀ v' w', RowI w' base v' (l ++ xs) → w.grownBy w' v.ownBlock → (v'.ownBlock = v.ownBlock ∨ v'.ownBlock = some w.heap.size) → K (a.put d v') w') :
  if Region.wanted o (yielded ops a.tmps) = true then Oper.wp Tryz.prog o a w K Q else E := by
 subst hd
 have hw : Region.wanted o (yielded ops a.tmps) = true := by simp [Region.wanted, hgd]
 rw [if_pos hw]
 obtain ⟨v', w', hr, h2, h3, h4⟩ := yg w base o.type v xv l xs hown hx hn hbase
 unfold Oper.wp execOp
 simp only [ho, resolve, invoke, builtin, Sem.run_bind, Sem.run_pure, Result.andThen_ok, List.map_toArray, List.map_cons, List.map_nil, hs, hxv, hr]
 exact h v' w' h2 h3 h4
theorem IntsAt.drop {w : World} {a : Addr} {n c k : Nat} {xs : List Int} (h : IntsAt w (.slice (some a) n c) xs) (hk : k ≤ xs.length) (hn : n = xs.length) : IntsAt w (.slice (some (a.add k)) (n - k) (c - k)) (xs.drop k) := by
 obtain ⟨a', c', e, h1, h2, h3⟩ := h
 injection e with e1 e2 e3
 subst e1 e3
 refine ⟨some (a.add k), c - k, by rw [List.length_drop, hn], by rw [List.length_drop]; omega, by omega, fun h0 => ?_⟩
 rw [List.length_drop] at h0
 obtain ⟨b, off, e, hb, hc⟩ := h3 (by omega)
 injection e with e
 subst e
 have e : (⟨b, off, none⟩ : Addr).add k = ⟨b, off + k, none⟩ := by unfold Addr.add; split <;> simp_all
 refine ⟨b, off + k, by rw [e], hb, fun j x hx => ?_⟩
 rw [List.getElem?_drop] at hx
 have := hc (k + j) x hx
 rwa [← Nat.add_assoc] at this
theorem IntsAt.take {w : World} {a : Option Addr} {n c k : Nat} {xs : List Int} (h : IntsAt w (.slice a n c) xs) (hk : k ≤ xs.length) : IntsAt w (.slice a k c) (xs.take k) := by
 obtain ⟨a', c', e, h1, h2, h3⟩ := h
 injection e with e1 e2 e3
 subst e1 e3
 have hl : (xs.take k).length = k := by rw [List.length_take]; omega
 refine ⟨a, c, by rw [hl], by omega, h2, fun h0 => ?_⟩
 obtain ⟨b, off, e, hb, hc⟩ := h3 (by omega)
 refine ⟨b, off, e, hb, fun j x hx => hc j x ?_⟩
 rw [List.getElem?_take] at hx
 split at hx
 ·exact hx
 ·cases hx
end Go.Proofs.YtpbnmhnbkfnaeaaGreatDoor
