/- A part of the proof, put together out of smaller texts. -/
import Derived.Test.YtcnnicbaeicboaaDoorM2
import Derived.Deep.RegionWith
import Derived.Deep.QuietTactic
import Derived.BigQuiet
import Derived.Laws.CopyOwn
import Derived.BigRegion
set_option linter.all false
set_option maxRecDepth 100000
set_option maxHeartbeats 16000000
namespace Go.Proofs.YtcnnicbaeicboaaDoor
open Go.RowKit Nt
theorem xZ (g p n cap : Nat) (a : Option Addr) (w : World) (h : Rd w g p a n cap) (hp : p ≤ 700000000) :
  Calls Tryd.prog 52 #[.pointer (some ⟨g, 0, none⟩)] w fun e w' => (∃ neg us ds, e = .returned (numS neg us ds) ∧ ku us ds) ∧ Drawn w g p n cap a 400 w' := by
 have hlt := h.lt
 have Hlt := hide hlt
 have HR := hide (h.alloc (.cells #[.bool false, .string ⟨#[]⟩, .string ⟨#[]⟩] 26))
 clear h
 go_enter Tryd.func52, Tryd.ntmps52
 go_wp2_with fail
 have h := kE g p n cap a _ (za HR) (by omega)
 refine h.mono ?_
 clear h
 rintro e w1 ⟨⟨neg, x, y, rfl, hx60, hy60⟩, ⟨p1, hp1, hr1⟩, hk1⟩
 have hA := (At3.new w (.bool false) (.string ⟨#[]⟩) (.string ⟨#[]⟩)).keeps hk1 (by omega)
 have HA := hide (hA.alloc (.cells #[.bool neg, .string (dec x), .string (dec y)] 26))
 have HB := hide (At3.new w1 (.bool neg) (.string (dec x)) (.string (dec y)))
 have hs0 := hA.lt
 have hs1 : g < w1.heap.size := hr1.lt
 have HR1 := hide (hr1.alloc (.cells #[.bool neg, .string (dec x), .string (dec y)] 26))
 have HK1 := hide ((((Keeps.refl g w).alloc _).trans hk1).alloc (.cells #[.bool neg, .string (dec x), .string (dec y)] 26))
 clear hr1 hk1 hA
 unfold numV
 go_wp2_with fail
 refine (zL g p1 n cap a 24 _ (za HR1) (by omega) (by omega)).mono ?_
 rintro e w2 ⟨⟨i, rfl, hi⟩, ⟨p2, hp2, hr2⟩, hk2⟩
 have hA1 := (za HA).keeps hk2 (by omega)
 have hA2 := (za HB).keeps hk2 (by omega)
 have c10 := hA1.c0
 have c11 := hA1.c1
 have c12 := hA1.c2
 have f1 := hA1.f
 have c20 := hA2.c0
 have c21 := hA2.c1
 have c22 := hA2.c2
 have f2 := hA2.f
 have hs2 := hA2.lt
 have HR2 := hide hr2
 have HK2 := hide ((za HK1).trans hk2)
 have HA1 := hide hA1
 clear hr2 hk2 hi hA1 hA2
 by_cases hi0 : i = 0
 ·have z0 : ((i : Int) == 0) = true := by rw [beq_iff_eq]; omega
  have HI := hide hi0
  clear hi0
  go_wp2_with fail
  have h := kS g p2 n cap a neg x y w2 (za HR2) (by omega) hx60 hy60
  refine h.mono ?_
  clear h
  rintro e w3 ⟨⟨neg', us, ds, rfl, hsm⟩, ⟨p3, hp3, hr3⟩, hk3⟩
  have hA1 := (za HA1).keeps hk3 (by omega)
  clear c10 c11 c12 f1
  have c10 := hA1.c0
  have c11 := hA1.c1
  have c12 := hA1.c2
  have f1 := hA1.f
  have hD : Drawn w g p n cap a 400 w3 := ⟨⟨p3, by omega, hr3⟩, (za HK2).trans hk3⟩
  have HD := hide hD
  have Hsm := hide hsm
  have hs3 := hA1.lt
  clear hD hsm hr3 hk3 hA1
  unfold numS
  go_wp2
  have hcc := And.intro c10 (And.intro c11 c12)
  refine bodyPost_ret (v := .agg #[.bool neg', .string us, .string ds]) (by simp [results, Tryd.results52, go_sem, hcc]) rfl ⟨⟨neg', us, ds, rfl, za Hsm⟩, ?_⟩
  refine (za HD).more (za Hlt) ?_
  repeat (first | exact Below.refl _ _ | refine Below.setCell ?_ (by first | exact Nat.le_refl _ | exact Nat.le_succ _ | (simp; done) | (simp; omega)) _ | refine Below.alloc ?_ (by first | exact Nat.le_refl _ | (simp; done) | (simp; omega)) _)
 ·have z0 : ((i : Int) == 0) = false := by rw [beq_eq_false_iff_ne]; omega
  have hD : Drawn w g p n cap a 400 w2 := ⟨⟨p2, by omega, za HR2⟩, za HK2⟩
  have HD := hide hD
  clear hD hi0
  go_wp2
  have hcc := And.intro c10 (And.intro c11 c12)
  refine bodyPost_ret (v := .agg #[.bool neg, .string (dec x), .string (dec y)]) (by simp [results, Tryd.results52, go_sem, hcc]) rfl ⟨⟨neg, _, _, rfl, ⟨by omega, by omega⟩⟩, ?_⟩
  refine (za HD).more (za Hlt) ?_
  repeat (first | exact Below.refl _ _ | refine Below.setCell ?_ (by first | exact Nat.le_refl _ | exact Nat.le_succ _ | (simp; done) | (simp; omega)) _ | refine Below.alloc ?_ (by first | exact Nat.le_refl _ | (simp; done) | (simp; omega)) _)
def isI : Value → Bool | .int .i64 _ => true | _ => false
theorem xW {v : Value} (h : isI v = true) : ∃ x, v = .int .i64 x := by
 cases v with
 | int k x => cases k <;> simp [isI] at h; exact ⟨x, rfl⟩
 | _ => simp [isI] at h
theorem xN {w w1 w2 : World} {g q i : Nat} {cs : Array Value} {T : TypeId} (h : w.heap[q]? = some (.cells cs T (0, 0))) (hb : Keeps g w w1) (hk : Keeps g w1 w2) (hqg : q ≠ g) (hi : i < cs.size) :
  ∃ v, v ∈ cs.toList ∧ w2.cell? ⟨q, i, none⟩ = some v := by
 have hq : q < w.heap.size := (Array.getElem?_eq_some_iff.1 h).1
 refine ⟨cs[i], by simp, ?_⟩
 rw [(hb.trans hk).cell (p := ⟨q, i, none⟩) hq hqg]
 simp [World.cell?, h, hi]
theorem qV (a : Option Addr) (n cap : Nat) (w : World) (h : Bytes0 w a n) (hcap : n ≤ cap) (hmax : cap ≤ maxLen) :
  Calls Tryd.prog 13 #[.slice a n cap] w fun e w' => (∃ i : Int, e = .returned (.int .i64 i) ∧ -9223372036854775808 ≤ i ∧ i ≤ 9223372036854775807) ∧ Below w.heap.size w w' := by
 go_enter Tryd.func13, Tryd.ntmps13
 go_wp2_with fail
 refine (vt a n cap w h hcap hmax).mono ?_
 rintro e w1 ⟨rfl, ⟨m, hm, hr1⟩, hb1⟩
 have hg := hr1.lt
 have HR1 := hide hr1
 clear hr1 h
 go_wp2_with fail
 refine (zL w.heap.size 0 m cap a 100 _ (za HR1) (by omega) (by omega)).mono ?_
 rintro e w2 ⟨⟨x, rfl, hx⟩, ⟨p2, hp2, hr2⟩, hk2⟩
 have hx' : x < 100 := by rcases hx with h | h <;> omega
 have HR2 := hide hr2
 have HK2 := hide hk2
 clear hr2 hk2 hx
 go_wp2_with fail
 refine (zL w.heap.size p2 m cap a 100 _ (za HR2) (by omega) (by omega)).mono ?_
 rintro e w3 ⟨⟨y, rfl, hy⟩, ⟨p3, hp3, hr3⟩, hk3⟩
 have hy' : y < 100 := by rcases hy with h | h <;> omega
 have HR3 := hide hr3
 have HK3 := hide ((za HK2).trans hk3)
 clear hr3 hk3 hy
 go_wp2_with fail
 refine (zL w.heap.size p3 m cap a 1073741824 _ (za HR3) (by omega) (by omega)).mono ?_
 rintro e w4 ⟨⟨z, rfl, hz⟩, ⟨p4, hp4, hr4⟩, hk4⟩
 have hz' : z < 1073741824 := by rcases hz with h | h <;> omega
 have hlt4 := hr4.lt
 have HR4 := hide hr4
 have HK4 := hide ((za HK3).trans hk4)
 clear hr4 hk4 hz
 go_wp2_with fail
 refine (zL w.heap.size p4 m cap a 6 _ ((za HR4).alloc _) (by omega) (by omega)).mono ?_
 rintro e w5 ⟨⟨i, rfl, hi⟩, ⟨p5, hp5, hr5⟩, hk5⟩
 have hi' : i < 6 := by rcases hi with h | h <;> omega
 have hiL : (i : Int) < 6 := by omega
 obtain ⟨v, hv, hc⟩ := xN (w1 := w4.alloc _) (q := w4.heap.size) (i := i) (by show (w4.heap.push _)[w4.heap.size]? = _; rw [Array.getElem?_push, if_pos rfl]) (Keeps.refl _ _) hk5 (by omega) (by show i < 6; omega)
 have HF := hide ((((za HK4).alloc _).trans hk5).below (Nat.le_refl _) (by omega))
 obtain ⟨u, rfl, hu0, hu1⟩ : ∃ u : Int, v = .int .i64 u ∧ -9223372036854775808 ≤ u ∧ u ≤ 9223372036854775807 := by
  simp at hv
  rcases hv with rfl | rfl | rfl | rfl | rfl | rfl
  ·exact ⟨_, rfl, by omega, by omega⟩
  ·exact ⟨_, rfl, by omega, by omega⟩
  ·exact ⟨_, rfl, by omega, by omega⟩
  ·exact ⟨_, rfl, by omega, by omega⟩
  ·exact ⟨_, rfl, by omega, by omega⟩
  ·exact ⟨_, rfl, by omega, by omega⟩
 clear hk5 hr5 hi hv
 go_wp2
 go_ret
 exact ⟨⟨u, rfl, hu0, hu1⟩, hb1.trans (za HF)⟩
theorem kA (w : World) (cs : Array Value) (T : TypeId) : (w.alloc (.cells cs T)).heap[w.heap.size]? = some (.cells cs T (0, 0)) := by
 show (w.heap.push _)[w.heap.size]? = _; rw [Array.getElem?_push, if_pos rfl]
theorem ka {cs : Array Value} {i : Nat} (h : cs.toList.all isI = true) (hi : i < cs.size) : ∃ r, cs[i]? = some (.int .i64 r) := by
 obtain ⟨r, hr⟩ := xW (List.all_eq_true.1 h cs[i] (by simp))
 exact ⟨r, by rw [Array.getElem?_eq_getElem hi, hr]⟩
theorem jU {w wa wp : World} {g i q : Nat} {cs : Array Value} {T : TypeId} {v : Value} (hq : q = w.heap.size) (hka : Keeps g (w.alloc (.cells cs T)) wa) (hkp : Keeps g wa wp) (hg : q ≠ g) (hv : cs[i]? = some v) : wp.cell? ⟨q, i, none⟩ = some v := by
 subst hq
 rw [(hka.trans hkp).cell (p := ⟨w.heap.size, i, none⟩) (by simp) hg]
 simp [hv]
theorem jT {w wp : World} {g i q : Nat} {cs : Array Value} {T : TypeId} {v : Value} (hq : q = w.heap.size) (hkp : Keeps g (w.alloc (.cells cs T)) wp) (hg : q ≠ g) (hv : cs[i]? = some v) : wp.cell? ⟨q, i, none⟩ = some v :=
 jU hq hkp (Keeps.refl _ _) hg hv
theorem k9 {w wa wp : World} {g i q : Nat} {cs : Array Value} {T : TypeId} {v : Value} (hq : q = w.heap.size) (hka : Keeps g (w.alloc (.cells cs T)).drew wa) (hkp : Keeps g wa wp) (hg : q ≠ g) (hv : cs[i]? = some v) : wp.cell? ⟨q, i, none⟩ = some v :=
 jU hq (show Keeps g (w.alloc (.cells cs T)) wa from ⟨hka.os, hka.tape, hka.output, hka.size, hka.block⟩) hkp hg hv
theorem ve (a : Option Addr) (n cap : Nat) (w : World) (h : Bytes0 w a n) (hcap : n ≤ cap) (hmax : cap ≤ maxLen) :
  Calls Tryd.prog 10 #[.slice a n cap] w fun e w' => (∃ neg us ds r, e = .returned (.tuple #[numS neg us ds, .int .i64 r]) ∧ ku us ds) ∧ Below w.heap.size w w' := by
 have hA0 := At3.new w (.bool false) (.string ⟨#[]⟩) (.string ⟨#[]⟩)
 have H := hide (h.below ((Below.refl _ _).alloc (Nat.le_refl _) (.cells #[.bool false, .string ⟨#[]⟩, .string ⟨#[]⟩] 26)))
 have HA0 := hide hA0
 clear h hA0
 go_enter Tryd.func10, Tryd.ntmps10
 go_wp2_with fail
 refine (vt a n cap _ (za H) hcap hmax).mono ?_
 rintro e w1 ⟨rfl, ⟨m, hm, hr1⟩, hb1⟩
 rw [show (w.alloc (.cells #[.bool false, .string ⟨#[]⟩, .string ⟨#[]⟩] 26)).heap.size = w.heap.size + 1 from by simp] at hr1 hb1 ⊢
 have hA1 := (za HA0).below (by simpa using hb1)
 have hlt1 := hr1.lt
 have HR1 := hide hr1
 have HA1 := hide hA1
 have HB1 := hide (zf hb1)
 clear hr1 hb1 hA1
 go_wp2
 go_region_with (first | (go_at_call 52; refine (xZ (w.heap.size + 1) 0 m cap a _ (by repeat (first | exact za HR1 | refine Rd.drew ?_ | refine Rd.alloc ?_ _)) (by omega)).mono ?_; rintro e wa ⟨⟨neg, us, ds, rfl, hsm⟩, ⟨pa, hpa, hra⟩, hka⟩; have hlta := hra.lt; have HRa := hide hra; have HKa := hide hka; have Hsm := hide hsm; have HAa : Hid (At3 wa w.heap.size (.bool false) (.string ⟨#[]⟩) (.string ⟨#[]⟩)) := (by refine At3.keeps (g := w.heap.size + 1) ?_ hka (by omega); repeat (first | exact za HA1 | refine At3.drew ?_ | refine At3.alloc ?_ _)); clear hra hka hsm; unfold numS) | (go_at_call 33; refine (zL (w.heap.size + 1) pa m cap a 6 _ (by repeat (first | exact za HRa | refine Rd.drew ?_ | refine Rd.alloc ?_ _)) (by omega) (by omega)).mono ?_; rintro e wp ⟨⟨i, rfl, hi⟩, ⟨pp, hpp, hrp⟩, hkp⟩; have hi6 : i < 6 := (by rcases hi with h | h <;> omega); have hiL : (i : Int) < 6 := (by omega); have hAp : At3 wp w.heap.size (.bool false) (.string ⟨#[]⟩) (.string ⟨#[]⟩) := (by refine At3.keeps (g := w.heap.size + 1) ?_ hkp (by omega); repeat (first | exact za HAa | refine At3.drew ?_ | refine At3.alloc ?_ _)); have c10 := hAp.c0; have c11 := hAp.c1; have c12 := hAp.c2; have f1 := hAp.f; have hs1 := hAp.lt; obtain ⟨r, hr⟩ := ka (cs := #[.int .i64 10, .int .i64 2, .int .i64 8, .int .i64 16, .int .i64 3, .int .i64 0]) rfl hi6; have hrl : ([.int .i64 10, .int .i64 2, .int .i64 8, .int .i64 16, .int .i64 3, .int .i64 0] : List Value)[i]? = some (.int .i64 r) := (by simpa using hr); have hrg := (List.getElem?_eq_some_iff.1 hrl).2; have hcA := (by first | exact jU (q := w1.heap.size) (i := i) rfl (za HKa) hkp (by omega) hr | exact k9 (q := w1.heap.size) (i := i) rfl (za HKa) hkp (by omega) hr | exact jT (q := wa.heap.size) (i := i) rfl hkp (by omega) hr | exact trivial : _); have HKp := hide hkp; clear hrp hkp hi hAp))
 all_goals
  go_wp2
  have hcc := And.intro c10 (And.intro c11 (And.intro c12 (And.intro hs1 hrg)))
  refine bodyPost_ret (v := .tuple #[.agg #[.bool neg, .string us, .string ds], .int .i64 r]) (by simp [results, Tryd.results10, go_sem, hcc]) rfl ⟨⟨neg, us, ds, r, rfl, za Hsm⟩, ?_⟩
  have hF : Below w.heap.size w wp := by
   first
    | exact (za HB1).trans (((show Keeps (w.heap.size + 1) w1 wa from ⟨(za HKa).os, (za HKa).tape, (za HKa).output, (za HKa).size, (za HKa).block⟩).trans (za HKp)).below (by omega) (by omega))
    | exact (za HB1).trans (((show Keeps (w.heap.size + 1) w1 wa from ⟨(za HKa).os, (za HKa).tape, (za HKa).output, (za HKa).size, (za HKa).block⟩).trans (((Keeps.refl _ _).alloc _).trans (za HKp))).below (by omega) (by omega))
    | exact (za HB1).trans (((((Keeps.refl (w.heap.size + 1) w1).alloc (.cells #[.int .i64 10, .int .i64 2, .int .i64 8, .int .i64 16, .int .i64 3, .int .i64 0] 3)).trans (show Keeps (w.heap.size + 1) (w1.alloc (.cells #[.int .i64 10, .int .i64 2, .int .i64 8, .int .i64 16, .int .i64 3, .int .i64 0] 3)) wa from ⟨(za HKa).os, (za HKa).tape, (za HKa).output, (za HKa).size, (za HKa).block⟩)).trans (za HKp)).below (by omega) (by omega))
  refine hF.trans ?_
  repeat (first | exact Below.refl _ _ | refine Below.setCell ?_ (by first | exact Nat.le_refl _ | exact Nat.le_succ _ | (simp; done) | (simp; omega)) _ | refine Below.alloc ?_ (by first | exact Nat.le_refl _ | (simp; done) | (simp; omega)) _)
theorem picks (i2 i3 i4 : Nat) (h2 : i2 < 2) (h3 : i3 < 2) (h4 : i4 < 3) : ∃ m3 : Nat, Hid (wrap64 (5 + wrap64 (wrap64 ((i2 : Int) * (i3 : Int)) * (i4 : Int))) = (m3 : Int)) ∧ m3 ≤ 7 := by
 have k : ∀ a : Nat, a < 2 → ∀ b : Nat, b < 2 → ∀ c : Nat, c < 3 → wrap64 (5 + wrap64 (wrap64 ((a : Int) * (b : Int)) * (c : Int))) = ((5 + a * b * c : Nat) : Int) ∧ 5 + a * b * c ≤ 7 := by decide +kernel
 exact ⟨_, (k i2 h2 i3 h3 i4 h4).1, (k i2 h2 i3 h3 i4 h4).2⟩
theorem ya (neg : Bool) (u d : List UInt8) (r : Int) : (zw neg u d r).length ≤ 482 := by
 unfold zw
 split
 ·rename_i h
  simp only [Bool.and_eq_true] at h
  obtain ⟨b, rfl, hb4⟩ := qc h.2
  obtain ⟨h3, h4, hu, hd, _⟩ := zR h.1
  have e1 := qU (b := b) (n := zj u) (by omega) (by rw [zq, ← zz h3]; exact hu)
  have e2 := qU (b := b) (n := zj d) (by omega) (by rw [zq, ← zz h4]; exact hd)
  unfold txt at e1 e2
  rw [zi] at e1
  rw [zi] at e2
  unfold prM
  rw [Int.toNat_natCast]
  cases neg <;> by_cases h1 : zj d = 1 <;> simp [h1] <;> omega
 ·simp
theorem vc (a : Option Addr) (n cap : Nat) (w : World) (h : Bytes0 w a n) (hcap : n ≤ cap) (hmax : cap ≤ maxLen) :
  Calls Tryd.prog 6 #[.slice a n cap] w fun e w' => (∃ (s : ByteArray) (r : Int), e = .returned (.tuple #[.string s, .int .i64 r]) ∧ s.size ≤ 10000) ∧ Below w.heap.size w w' := by
 go_enter Tryd.func6, Tryd.ntmps6
 go_wp2_with fail
 refine (vt a n cap w h hcap hmax).mono ?_
 rintro e w1 ⟨rfl, ⟨m, hm, hr1⟩, hb1⟩
 have hlt1 := hr1.lt
 have HR1 := hide hr1
 clear hr1 h
 go_wp2_with fail
 refine (zL w.heap.size 0 m cap a 2 _ ((za HR1).alloc _) (by omega) (by omega)).mono ?_
 rintro e w2 ⟨⟨i2, rfl, hi2⟩, ⟨p2, hp2, hr2⟩, hk2⟩
 have hi2' : i2 < 2 := by rcases hi2 with h | h <;> omega
 have HR2 := hide hr2
 have HK2 := hide hk2
 clear hr2 hk2 hi2
 go_wp2_with fail
 refine (zL w.heap.size p2 m cap a 2 _ (za HR2) (by omega) (by omega)).mono ?_
 rintro e w3 ⟨⟨i3, rfl, hi3⟩, ⟨p3, hp3, hr3⟩, hk3⟩
 have hi3' : i3 < 2 := by rcases hi3 with h | h <;> omega
 have HR3 := hide hr3
 have HK3 := hide ((za HK2).trans hk3)
 clear hr3 hk3 hi3
 go_wp2_with fail
 refine (zL w.heap.size p3 m cap a 3 _ (za HR3) (by omega) (by omega)).mono ?_
 rintro e w4 ⟨⟨i4, rfl, hi4⟩, ⟨p4, hp4, hr4⟩, hk4⟩
 have hi4' : i4 < 3 := by rcases hi4 with h | h <;> omega
 have HR4 := hide hr4
 have HK4 := hide ((za HK3).trans hk4)
 clear hr4 hk4 hi4
 obtain ⟨m3, hw3, hm3⟩ := picks i2 i3 i4 hi2' hi3' hi4'
 go_wp2_with fail
 rw [show wrap64 (5 + wrap64 (wrap64 ((i2 : Int) * (i3 : Int)) * (i4 : Int))) = (m3 : Int) from za hw3]
 refine (zL w.heap.size p4 m cap a (m3 : Int) _ (za HR4) (by omega) (by omega)).mono ?_
 rintro e w5 ⟨⟨i5, rfl, hi5⟩, ⟨p5, hp5, hr5⟩, hk5⟩
 have hi5' : i5 < 7 := by rcases hi5 with h | h <;> omega
 have hiL : (i5 : Int) < 7 := by omega
 have HR5 := hide hr5
 have HK5 := hide ((za HK4).trans hk5)
 obtain ⟨r, hr⟩ := ka (cs := #[.int .i64 10, .int .i64 10, .int .i64 2, .int .i64 8, .int .i64 16, .int .i64 3, .int .i64 0]) rfl hi5'
 have hcr := jT (q := w1.heap.size) (i := i5) rfl (za HK5) (by omega) hr
 have HKw := hide (((Keeps.refl w.heap.size w1).alloc (.cells #[.int .i64 10, .int .i64 10, .int .i64 2, .int .i64 8, .int .i64 16, .int .i64 3, .int .i64 0] 3)).trans (za HK5))
 clear hr5 hk5 hi5 hr hw3 HR1 HR2 HR3 HR4 HK2 HK3 HK4 HK5
 go_wp2_with fail
 have h := kE w.heap.size p5 m cap a w5 (za HR5) (by omega)
 refine h.mono ?_
 clear h
 rintro e w6 ⟨⟨neg, x, y, rfl, hx60, hy60⟩, ⟨p6, hp6, hr6⟩, hk6⟩
 have hlt6 := hr6.lt
 have HR6 := hide hr6
 have HK6 := hide ((za HKw).trans hk6)
 clear hr6 hk6
 go_wp2_with fail
 refine (zL w.heap.size p6 m cap a 2 _ ((za HR6).alloc _) (by omega) (by omega)).mono ?_
 rintro e w7 ⟨⟨i7, rfl, hi7⟩, ⟨p7, hp7, hr7⟩, hk7⟩
 have hi7' : i7 < 2 := by rcases hi7 with h | h <;> omega
 have hiL7 : (i7 : Int) < 2 := by omega
 obtain ⟨r7, hr7'⟩ := ka (cs := #[.int .i64 10, .int .i64 r]) rfl hi7'
 have hcr7 := jT (q := w6.heap.size) (i := i7) rfl hk7 (by omega) hr7'
 have HR7 := hide hr7
 have HK7 := hide (((za HK6).alloc (.cells #[.int .i64 10, .int .i64 r] 3)).trans hk7)
 clear hr7 hk7 hi7 hr7' HR5 HKw HR6 HK6
 go_wp2_with fail
 have h := jk neg (txl 10 x) (txl 10 y) r7 w7 (by rw [← zq]; omega) (by rw [← zq]; omega)
 unfold numV
 refine h.mono ?_
 clear h
 rintro e w8 ⟨rfl, hb8⟩
 have hpl := ya neg (txl 10 x) (txl 10 y) r7
 generalize zw neg (txl 10 x) (txl 10 y) r7 = s at *
 have HR8 := hide ((za HR7).keep hb8)
 have HK8 := hide ((za HK7).trans (Keeps.of_below hb8))
 clear hb8 HR7 HK7
 go_wp2_with fail
 refine (zL w.heap.size p7 m cap a 10 _ (za HR8) (by omega) (by omega)).mono ?_
 rintro e w9 ⟨⟨i9, rfl, hi9⟩, ⟨p9, hp9, hr9⟩, hk9⟩
 have hlt9 := hr9.lt
 have hsz := zi s
 have HR9 := hide hr9
 have HK9 := hide ((za HK8).trans hk9)
 clear hr9 hk9 hi9 HR8 HK8 hcr hcr7
 have HB1 := hide hb1
 clear hb1
 rcases Nat.lt_or_ge i9 1 with h | h
 ·have hi0 : i9 = 0 := by omega
  subst hi0
  have hs2 : (⟨#[43]⟩ ++ B s : ByteArray).size ≤ 10000 := by rw [ByteArray.size_append, zi]; show 1 + _ ≤ _; omega
  have hns : ¬ 9223372036854775807 < 1 + (B s).size := by omega
  have Hs2 := hide hs2
  clear hs2
  go_wp2
  go_ret2
  exact ⟨⟨_, r, rfl, za Hs2⟩, (za HB1).trans ((za HK9).below (Nat.le_refl _) (by omega))⟩
 have z0 : ((i9 : Int) == 0) = false := by rw [beq_eq_false_iff_ne]; omega
 rcases Nat.lt_or_ge i9 2 with h2 | h2
 ·have hi0 : i9 = 1 := by omega
  subst hi0
  go_wp2_with fail
  refine (of_c w.heap.size p9 m cap w9.heap.size a #[.string ⟨#[]⟩, .string ⟨#[45]⟩, .string ⟨#[43]⟩, .string ⟨#[47]⟩, .string ⟨#[49, 47]⟩, .string ⟨#[47, 49]⟩, .string ⟨#[49, 47, 48]⟩, .string ⟨#[45, 45, 49]⟩, .string ⟨#[49, 45]⟩, .string ⟨#[49, 46, 53]⟩, .string ⟨#[46, 53]⟩, .string ⟨#[53, 46]⟩, .string ⟨#[46]⟩, .string ⟨#[45, 46, 50, 53]⟩, .string ⟨#[49, 46, 50, 46, 51]⟩, .string ⟨#[49, 47, 50, 47, 51]⟩, .string ⟨#[49, 46, 53, 47, 50]⟩, .string ⟨#[48, 120, 49]⟩, .string ⟨#[70]⟩, .string ⟨#[102]⟩, .string ⟨#[49, 101, 51]⟩, .string ⟨#[32, 49]⟩, .string ⟨#[48, 48]⟩, .string ⟨#[45, 48]⟩, .string ⟨#[48, 48, 55]⟩, .string ⟨#[48, 47, 53]⟩] 26 _ ((za HR9).alloc _) (by omega) rfl (by omega) (by omega) (kA _ _ _) (by omega)).mono ?_
  rintro e w10 ⟨⟨v, rfl, hv⟩, ⟨p10, hp10, hr10⟩, hk10⟩
  obtain ⟨s2, rfl, hs2⟩ := j9 (M := 10) (by rfl) hv
  have HK10 := hide (((za HK9).alloc _).trans hk10)
  clear hr10 hk10 hv
  go_wp2
  go_ret2
  exact ⟨⟨_, r, rfl, by omega⟩, (za HB1).trans ((za HK10).below (Nat.le_refl _) (by omega))⟩
 have z1 : ((i9 : Int) == 1) = false := by rw [beq_eq_false_iff_ne]; omega
 rcases Nat.lt_or_ge i9 3 with h3 | h3
 ·have hi0 : i9 = 2 := by omega
  subst hi0
  go_wp2_with fail
  refine (zL w.heap.size p9 m cap a ((B s).size + 1 : Int) _ (za HR9) (by omega) (by omega)).mono ?_
  rintro e w10 ⟨⟨k, rfl, hk⟩, ⟨p10, hp10, hr10⟩, hk10⟩
  have hks : k ≤ s.length := by rcases hk with h | h <;> omega
  have hks1 : k ≤ (B s).size := by omega
  have hks2 : (k : Int) ≤ (B s).size := by omega
  have hlt10 := hr10.lt
  have HR10 := hide hr10
  have HK10 := hide ((za HK9).trans hk10)
  clear hr10 hk10 hk HK9 HR9
  have hx1 : ((B s).extract 0 k).size = k := by rw [ByteArray.size_extract]; omega
  have hx2 : ((B s).extract k (B s).size).size = (B s).size - k := by rw [ByteArray.size_extract]; omega
  have hx3 := fun s2 : ByteArray => (ByteArray.size_append (a := (B s).extract 0 k) (b := s2))
  go_wp2
  go_region_with (go_at_call 35; refine (of_c w.heap.size p10 m cap w10.heap.size a #[.string ⟨#[48]⟩, .string ⟨#[57]⟩, .string ⟨#[46]⟩, .string ⟨#[47]⟩, .string ⟨#[45]⟩, .string ⟨#[97]⟩, .string ⟨#[32]⟩, .string ⟨#[0]⟩] 8 _ (by repeat (first | exact za HR10 | refine Rd.drew ?_ | refine Rd.alloc ?_ _)) (by omega) rfl (by omega) (by omega) (by exact kA w10 _ _) (by omega)).mono ?_; rintro e w11 ⟨⟨v, rfl, hv⟩, ⟨p11, hp11, hr11⟩, hk11⟩; obtain ⟨s2, rfl, hs2⟩ := j9 (M := 10) (by rfl) hv; have HK11 := hide hk11; clear hr11 hk11 hv; have hn1 : ¬ 9223372036854775807 < ((B s).extract 0 k).size + s2.size := (by omega); have hn2 : ¬ 9223372036854775807 < ((B s).extract 0 k).size + s2.size + ((B s).extract k (B s).size).size := (by omega))
  all_goals
   have hF : Below w.heap.size w1 w11 := by
    first
     | exact (((za HK10).alloc _).trans (za HK11)).below (Nat.le_refl _) (by omega)
     | exact (((za HK10).alloc _).drew.trans (za HK11)).below (Nat.le_refl _) (by omega)
     | exact (((za HK10).drew.alloc _).trans (za HK11)).below (Nat.le_refl _) (by omega)
   have hfin : ((B s).extract 0 k ++ s2 ++ (B s).extract k s.length).size ≤ 10000 := by
    rw [ByteArray.size_append, ByteArray.size_append, ByteArray.size_extract, ByteArray.size_extract]; omega
   have Hfin := hide hfin
   clear hfin
   go_wp2
   go_ret2
   exact ⟨⟨_, r, rfl, za Hfin⟩, (za HB1).trans hF⟩
 have z2 : ((i9 : Int) == 2) = false := by rw [beq_eq_false_iff_ne]; omega
 rcases Nat.lt_or_ge i9 4 with h4 | h4
 ·have hi0 : i9 = 3 := by omega
  subst hi0
  go_wp2_with fail
  refine (zL w.heap.size p9 m cap a 2 _ (za HR9) (by omega) (by omega)).mono ?_
  rintro e w10 ⟨⟨k, rfl, hk⟩, ⟨p10, hp10, hr10⟩, hk10⟩
  have hk2 : k < 2 := by rcases hk with h | h <;> omega
  have HK10 := hide ((za HK9).trans hk10)
  clear hr10 hk10 hk HK9 HR9
  go_wp2_with fail
  refine (vr ⟨#[48]⟩ (240 - ((B s).size : Int) + (k : Int)) 300 _ (by show 1 * _ ≤ _; omega) (by omega) (by omega)).mono ?_
  rintro e w11 ⟨⟨s2, rfl, hs2⟩, rfl⟩
  have hs3 : (s2 ++ B s : ByteArray).size ≤ 10000 := by rw [ByteArray.size_append, zi]; omega
  have hns : ¬ 9223372036854775807 < s2.size + (B s).size := by omega
  have Hs3 := hide hs3
  clear hs3
  go_wp2
  go_ret2
  exact ⟨⟨_, r, rfl, za Hs3⟩, (za HB1).trans ((za HK10).below (Nat.le_refl _) (by omega))⟩
 have z3 : ((i9 : Int) == 3) = false := by rw [beq_eq_false_iff_ne]; omega
 rcases Nat.lt_or_ge i9 5 with h5 | h5
 ·have hi0 : i9 = 4 := by omega
  subst hi0
  go_wp2_with fail
  have h := qB w.heap.size p9 m cap a w9 (za HR9) (by omega)
  refine h.mono ?_
  clear h
  rintro e w10 ⟨⟨u, rfl, hu⟩, ⟨p10, hp10, hr10⟩, hk10⟩
  have HR10 := hide hr10
  have HK10 := hide ((za HK9).trans hk10)
  clear hr10 hk10 HK9 HR9
  go_wp2_with fail
  have h := qB w.heap.size p10 m cap a w10 (za HR10) (by omega)
  refine h.mono ?_
  clear h
  rintro e w11 ⟨⟨d, rfl, hd⟩, ⟨p11, hp11, hr11⟩, hk11⟩
  have HK11 := hide ((za HK10).trans hk11)
  clear hr11 hk11 HK10 HR10
  have hs3 : (dec u ++ ⟨#[46]⟩ ++ dec d : ByteArray).size ≤ 10000 := by rw [ByteArray.size_append, ByteArray.size_append]; show _ + 1 + _ ≤ _; omega
  have hs4 : (dec u ++ ⟨#[46]⟩ : ByteArray).size = (dec u).size + 1 := by rw [ByteArray.size_append]; rfl
  have hns : ¬ 9223372036854775807 < (dec u).size + 1 := by omega
  have hns2 : ¬ 9223372036854775807 < (dec u).size + 1 + (dec d).size := by omega
  have hns3 : ¬ 9223372036854775807 < (dec u ++ ⟨#[46]⟩ : ByteArray).size + (dec d).size := by omega
  have Hs3 := hide hs3
  clear hs3
  go_wp2
  go_ret2
  exact ⟨⟨_, r, rfl, za Hs3⟩, (za HB1).trans ((za HK11).below (Nat.le_refl _) (by omega))⟩
 have z4 : ((i9 : Int) == 4) = false := by rw [beq_eq_false_iff_ne]; omega
 go_wp2
 go_ret2
 exact ⟨⟨_, r, rfl, by omega⟩, (za HB1).trans ((za HK9).below (Nat.le_refl _) (by omega))⟩
theorem Tryd.infoU64 : (Tryd.prog.info? 80).map (fun i => (i.zero, i.size, i.bytes)) = some (some (.int .u64 0), 1, 8) := by kernel_rfl
theorem xc (xs : List Nat) (base : Nat) (v : Value) (w : World) (hs : xs.length ≤ 1000000000) (h : w.ownsRow base 80 1 v xs.length (u64s xs)) :
  Calls Tryd.prog 98 #[v] w fun e w' => (∃ v', e = .returned v' ∧ w.ownsRow base 80 1 v' (strip xs).length (u64s (strip xs)) ∧ v'.ownBlock = v.ownBlock) ∧ w' = w := by
 rcases qS h with ⟨rfl, hn, hx⟩ | ⟨g, cap, rfl, hnc, hbg, hgw⟩
 ·have : xs = [] := List.eq_nil_of_length_eq_zero hn
  subst this
  have H := hide h
  clear h hn hx hs
  go_enter Tryd.func98, Tryd.ntmps98
  go_wp2
  refine wp_loop_rounds 1 ?_; rw [rounds_succ]
  go_wp2
  go_ret
  exact ⟨⟨_, rfl, za H, rfl⟩, rfl⟩
 ·go_enter Tryd.func98, Tryd.ntmps98
  go_wp2
  go_loop [0] (fun v' => ∃ ys : List Nat, v' = .slice (some ⟨g, 0, none⟩) ys.length cap ∧ ys.length ≤ xs.length ∧ w.ownsRow base 80 1 (.slice (some ⟨g, 0, none⟩) ys.length cap) ys.length (u64s ys) ∧ Hid (strip ys = strip xs))
   (fun v' => match v' with | .slice _ n _ => n | _ => 0)
  case atStart => exact ⟨xs, rfl, Nat.le_refl _, h, hide rfl⟩
  case round =>
   obtain ⟨ys, rfl, hyl, hown, hst⟩ := hrel
   by_cases hy0 : 0 < ys.length
   ·have hc := hown.cellAt (ys.length - 1) (by omega)
    rw [zr _ _ (by omega)] at hc
    have hsp : ys = ys.take (ys.length - 1) ++ [ys[ys.length - 1]'(by omega)] := by
     rw [← List.take_succ_eq_append_getElem (by omega), show ys.length - 1 + 1 = ys.length from by omega, List.take_length]
    have htk := yV hown (ys.length - 1) (by omega)
    generalize hd : ys[ys.length - 1]'(by omega) = d at *
    by_cases hd0 : d = 0
    ·have hst2 : strip (ys.take (ys.length - 1)) = strip xs := by
      rw [← za hst]
      conv => rhs; rw [hsp, hd0]
      rw [ja]
     have hq : ((d : Int) == 0) = true := by rw [beq_iff_eq]; omega
     have e1 : u64s (ys.take (ys.length - 1)) = (u64s ys).take (ys.length - 1) := by simp [u64s, List.map_take]
     rw [← e1] at htk
     have hl1 : (ys.take (ys.length - 1)).length = ys.length - 1 := by simp
     generalize ys.take (ys.length - 1) = zs at *
     have hzl : zs.length + 1 = ys.length := by omega
     have Htk := hide htk
     have Hst2 := hide hst2
     clear hst2 htk hsp hd0 e1 hd
     go_wp2
     go_round
     case rel => exact ⟨zs, by rw [hl1], by omega, by rw [hl1]; exact za Htk, Hst2⟩
     case measure => show ys.length - 1 < ys.length; omega
    ·have hq : ((d : Int) == 0) = false := by rw [beq_eq_false_iff_ne]; omega
     have hfin : strip xs = ys := by rw [← za hst, hsp, qD _ _ hd0]
     have Hfin := hide hfin
     clear hfin hsp htk hd0 hd
     go_wp2
     go_ret
     refine ⟨⟨_, rfl, ?_, rfl⟩, rfl⟩
     rw [za Hfin]; exact hown
   ·have : ys = [] := List.eq_nil_of_length_eq_zero (by omega)
    subst this
    have H := hide hown
    go_wp2
    go_ret
    refine ⟨⟨_, rfl, ?_, rfl⟩, rfl⟩
    rw [← za hst]; exact za H
def gr (x : Nat) : List Nat := dg 1000000000 x
theorem q2 (x : Nat) : ofd 1000000000 (gr x) = x := jt (by omega) x
theorem gr_lt (x : Nat) : ∀ d ∈ gr x, d < 1000000000 := dg_lt (by omega) x
theorem z7 : gr 0 = [] := zQ _
theorem jK {x : Nat} : gr x = [] ↔ x = 0 := jm (by omega)
theorem yL {l : List Nat} (h : ∀ d ∈ l, d < 1000000000) : strip l = gr (ofd 1000000000 l) := jZ (by omega) h
theorem qa {x y : Nat} (h : x ≤ y) : (gr x).length ≤ (gr y).length :=
 z9 (by omega) (Nat.lt_of_le_of_lt h (qR (by omega) y))
def isNat (w : World) (v : Value) (x : Nat) : Prop := w.ownsRow 0 80 1 v (gr x).length (u64s (gr x))
def isNatB (w : World) (base : Nat) (v : Value) (x : Nat) : Prop := w.ownsRow base 80 1 v (gr x).length (u64s (gr x))
theorem isNatB.nat {w : World} {base : Nat} {v : Value} {x : Nat} (h : isNatB w base v x) : isNat w v x := ql h (Nat.zero_le _)
theorem zp {w w' : World} {v : Value} {x : Nat} (h : isNat w v x) (hb : Below w.heap.size w w') : isNat w' v x := zt h hb
theorem qT (xs : List Nat) (base : Nat) (v : Value) (w : World) (hs : xs.length ≤ 1000000000) (hd : ∀ d ∈ xs, d < 1000000000) (h : w.ownsRow base 80 1 v xs.length (u64s xs)) :
  Calls Tryd.prog 98 #[v] w fun e w' => (∃ v', e = .returned v' ∧ isNatB w base v' (ofd 1000000000 xs)) ∧ w' = w := by
 refine (xc xs base v w hs h).mono ?_
 rintro e w' ⟨⟨v', rfl, h1, _⟩, rfl⟩
 refine ⟨⟨v', rfl, ?_⟩, rfl⟩
 unfold isNatB
 rw [← yL hd]
 exact h1
theorem kB (x : Nat) (v : Value) (w : World) (h : isNat w v x) (hs : (gr x).length ≤ 1000000000) :
  Calls Tryd.prog 51 #[v] w fun e w' => e = .returned (.bool (decide (x = 1))) ∧ w' = w := by
 have g1 : gr 1 = [1] := by unfold gr; rw [qp (by omega) (by omega)]; simp [zQ]
 have hx1 : x = 1 ↔ gr x = [1] := by
  constructor
  ·intro hh; rw [hh, g1]
  ·intro hh; rw [← q2 x, hh]; simp [ofd]
 unfold isNat at h
 generalize gr x = xs at *
 rcases qS h with ⟨rfl, hn, hx⟩ | ⟨g, cap, rfl, hnc, hbg, hgw⟩
 ·have hf : decide (x = 1) = false := by
   rw [decide_eq_false_iff_not, hx1]; intro hh; rw [hh] at hn; simp at hn
  rw [hf]
  clear h hn hx hs hx1 hf g1
  go_enter Tryd.func51, Tryd.ntmps51
  go_wp2
  go_ret
  exact ⟨rfl, rfl⟩
 ·by_cases hl : xs.length = 1
  ·have hc := h.cellAt 0 (by omega)
   rw [zr _ _ (by omega)] at hc
   have hxs : xs = [xs[0]'(by omega)] := by
    match xs, hl with
    | [a], _ => rfl
   generalize xs[0]'(by omega) = a at *
   have hlI : ((xs.length : Int) == 1) = true := by rw [beq_iff_eq]; omega
   have hf : decide (x = 1) = ((a : Int) == 1) := by
    rw [Bool.eq_iff_iff, decide_eq_true_iff, hx1, hxs, beq_iff_eq]
    simp
    omega
   rw [hf]
   have h0 : 0 < xs.length := by omega
   clear hf hxs hx1 h hl g1
   go_enter Tryd.func51, Tryd.ntmps51
   go_wp2
   go_ret
   exact ⟨rfl, rfl⟩
  ·have hlI : ((xs.length : Int) == 1) = false := by rw [beq_eq_false_iff_ne]; omega
   have hf : decide (x = 1) = false := by
    rw [decide_eq_false_iff_not, hx1]; intro hh; rw [hh] at hl; simp at hl
   rw [hf]
   clear hf hx1 hl g1
   go_enter Tryd.func51, Tryd.ntmps51
   go_wp2
   go_ret
   exact ⟨rfl, rfl⟩
theorem jO (b : Nat) (l : List Nat) (i : Nat) (h : i < l.length) : ofd b l = ofd b (l.take i) + b ^ i * (l[i] + b * ofd b (l.drop (i + 1))) := by
 have e : l = l.take i ++ (l[i] :: l.drop (i + 1)) := by rw [← List.drop_eq_getElem_cons h, List.take_append_drop]
 conv => lhs; rw [e]
 rw [qC]
 simp only [ofd, List.length_take]
 rw [Nat.min_eq_left (by omega)]
theorem kF {l m : List Nat} {b i : Nat} (hl : i < l.length) (hm : i < m.length) (hlen : l.length = m.length) (hb : ∀ d ∈ l, d < b) (hup : ∀ t (h1 : t < l.length) (h2 : t < m.length), i < t → l[t] = m[t]) (hlt : l[i] < m[i]) :
  ofd b l < ofd b m := by
 have hdr : l.drop (i + 1) = m.drop (i + 1) := by
  apply List.ext_getElem
  ·simp [hlen]
  ·intro t h1 h2
   simp only [List.getElem_drop]
   exact hup _ _ _ (by omega)
 rw [jO b l i hl, jO b m i hm, hdr]
 have h1 := ju (b := b) (l.take i) (fun d hd => hb d (List.mem_of_mem_take hd))
 rw [List.length_take, Nat.min_eq_left (by omega)] at h1
 generalize ofd b (m.drop (i + 1)) = D
 have h2 : b ^ i * (l[i] + b * D + 1) ≤ b ^ i * (m[i] + b * D) := Nat.mul_le_mul_left _ (by omega)
 rw [Nat.mul_add] at h2
 omega
theorem xA (x y : Nat) (v u : Value) (w : World) (hx : isNat w v x) (hy : isNat w u y) (hsx : (gr x).length ≤ 1000000) (_hsy : (gr y).length ≤ 1000000) :
  Calls Tryd.prog 133 #[v, u] w fun e w' => e = .returned (.bool (decide (x < y))) ∧ Below w.heap.size w w' := by
 by_cases hlen : (gr x).length = (gr y).length
 ·by_cases h0 : (gr x).length = 0
  ·have hx0 : x = 0 := jK.1 (List.eq_nil_of_length_eq_zero h0)
   have hy0 : y = 0 := jK.1 (List.eq_nil_of_length_eq_zero (by omega))
   obtain ⟨p1, c1, rfl⟩ := zx hx
   obtain ⟨p2, c2, rfl⟩ := zx hy
   rw [show decide (x < y) = false from by rw [hx0, hy0]; rfl, ← hlen, h0]
   clear hx hy hlen h0 hsx hx0 hy0
   go_enter Tryd.func133, Tryd.ntmps133
   go_wp2
   refine wp_loop_rounds 1 ?_; rw [rounds_succ]
   go_wp2
   go_ret
   exact ⟨rfl, Below.refl _ _⟩
  ·obtain ⟨g, cap, rfl, hnc, _, hgw⟩ := zS hx (by omega)
   obtain ⟨g2, cap2, rfl, hnc2, _, hgw2⟩ := zS hy (by omega)
   have hxd := gr_lt x
   have hyd := gr_lt y
   have hxo := q2 x
   have hyo := q2 y
   unfold isNat at hx hy
   generalize gr x = xs at *
   generalize gr y = ys at *
   have Hxd := hide hxd
   have Hyd := hide hyd
   have Hxo := hide hxo
   have Hyo := hide hyo
   have Hlen := hide hlen
   have hneI : ((xs.length : Int) != (ys.length : Int)) = false := by rw [hlen]; simp
   have hleI : (ys.length : Int) = (xs.length : Int) := by omega
   clear hxd hyd hxo hyo
   go_enter Tryd.func133, Tryd.ntmps133
   go_wp2
   go_loopw [5] (fun i wr => ∃ k : Nat, k ≤ xs.length ∧ i = .int .i64 ((k : Int) - 1) ∧ (∃ m, wr = w.drewN m) ∧ Hid (∀ t (h1 : t < xs.length) (h2 : t < ys.length), k ≤ t → xs[t] = ys[t]))
    (fun i _ => ((intOf i) + 1).toNat)
   case atStart => exact ⟨xs.length, Nat.le_refl _, by go_num, ⟨0, rfl⟩, hide (fun t h1 _ h => by omega)⟩
   case round =>
    obtain ⟨k, hk, rfl, ⟨m, rfl⟩, hup⟩ := hrel
    cases k with
    | zero =>
     have hxy : x = y := by
      rw [← za Hxo, ← za Hyo]
      congr 1
      apply List.ext_getElem (za Hlen)
      intro t h1 h2
      exact za hup t h1 h2 (Nat.zero_le _)
     rw [show (((0 : Nat) : Int) - 1) = -1 from rfl]
     have hdf : decide (x < y) = false := by rw [hxy]; simp
     have Hdf := hide hdf
     clear hxy hdf
     go_wp2
     go_ret
     exact ⟨zl (za Hdf).symm, below_drewN (Below.refl _ _) _⟩
    | succ k =>
     rw [show (((k + 1 : Nat) : Int) - 1) = (k : Int) from by omega]
     have hc1 := hx.cellAt k (by omega)
     have hc2 := hy.cellAt k (by omega)
     rw [zr _ _ (by omega)] at hc1
     rw [zr _ _ (by omega)] at hc2
     have hk2 : (k : Int) < xs.length := by omega
     obtain ⟨xk, hxk⟩ : ∃ a, xs[k]'(by omega) = a := ⟨_, rfl⟩
     obtain ⟨yk, hyk⟩ : ∃ a, ys[k]'(by omega) = a := ⟨_, rfl⟩
     rw [hxk] at hc1
     rw [hyk] at hc2
     have Hxk := hide hxk
     have Hyk := hide hyk
     have hc1' : (w.drewN m).cell? ⟨g, k, none⟩ = some (.int .u64 (xk : Int)) := hc1
     have hc2' : (w.drewN m).cell? ⟨g2, k, none⟩ = some (.int .u64 (yk : Int)) := hc2
     clear hxk hyk
     by_cases heq : xk = yk
     ·have hq : ((xk : Int) != (yk : Int)) = false := by rw [heq]; simp
      have Heq := hide heq
      clear heq
      go_wp2
      go_quiet (fail)
      go_wp2
      go_roundw
      case rel =>
       refine ⟨k, by omega, rfl, ⟨m + nq, rfl⟩, ?_⟩
       intro t h1 h2 ht
       by_cases htk : t = k
       ·subst htk; rw [za Hxk, za Hyk]; exact za Heq
       ·exact za hup t h1 h2 (by omega)
      case measure => simp [intOf]
     ·have hq : ((xk : Int) != (yk : Int)) = true := by rw [bne_iff_ne]; omega
      have Heq := hide heq
      clear heq
      go_wp2
      go_quiet (fail)
      go_wp2
      go_quiet (fail)
      go_wp2
      go_ret
      refine ⟨zl ?_, below_drewN (below_drewN (below_drewN (Below.refl _ _) _) _) _⟩
      have hup' := za hup
      have hne := za Heq
      rcases Nat.lt_or_ge xk yk with h1 | h1
      ·have := kF (l := xs) (m := ys) (i := k) (by omega) (by omega) hlen (za Hxd) (fun t a b hh => hup' t a b (by omega)) (by rw [za Hxk, za Hyk]; exact h1)
       rw [za Hxo, za Hyo] at this
       rw [decide_eq_true this, decide_eq_true h1]
      ·have := kF (l := ys) (m := xs) (i := k) (by omega) (by omega) hlen.symm (za Hyd) (fun t a b hh => (hup' t b a (by omega)).symm) (by rw [za Hxk, za Hyk]; omega)
       rw [za Hxo, za Hyo] at this
       rw [decide_eq_false (show ¬ x < y by omega), decide_eq_false (show ¬ xk < yk by omega)]
 ·have hf : decide (x < y) = decide ((gr x).length < (gr y).length) := by
   rw [Bool.eq_iff_iff, decide_eq_true_iff, decide_eq_true_iff]
   constructor
   ·intro h; have := qa (Nat.le_of_lt h); omega
   ·intro h
    rcases Nat.lt_or_ge x y with h1 | h1
    ·exact h1
    ·have := qa h1; omega
  rw [hf]
  unfold isNat at hx hy
  have hne : (((gr x).length : Int) != ((gr y).length : Int)) = true := by rw [bne_iff_ne]; omega
  generalize gr x = xs at *
  generalize gr y = ys at *
  obtain ⟨p1, c1, rfl⟩ := zx hx
  obtain ⟨p2, c2, rfl⟩ := zx hy
  clear hf hlen hx hy
  go_enter Tryd.func133, Tryd.ntmps133
  go_wp2
  go_ret
  exact ⟨rfl, Below.refl _ _⟩
theorem yS {d f c : Nat} (hd : d < 1000000000) (hf : f < 1000000000) (hc : c < 1000000000) : c + d * f < 1000000000 * 1000000000 := by
 have : d * f ≤ 999999999 * 999999999 := Nat.mul_le_mul (by omega) (by omega)
 omega
theorem x5 {xs : List Nat} {k : Nat} (hk : k < xs.length) {f c0 c c' d X : Nat} (h : X + c * 1000000000 ^ k = ofd 1000000000 (xs.take k) * f + c0) (he : d + 1000000000 * c' = c + xs[k] * f) :
  X + 1000000000 ^ k * d + c' * 1000000000 ^ (k + 1) = ofd 1000000000 (xs.take (k + 1)) * f + c0 := by
 rw [List.take_succ_eq_append_getElem hk, zD, List.length_take, Nat.min_eq_left (by omega), Nat.pow_succ]
 generalize 1000000000 ^ k = p at *
 have h2 := congrArg (p * ·) he
 simp only [Nat.mul_add] at h2
 rw [Nat.add_mul, Nat.mul_assoc]
 have e1 : c' * (p * 1000000000) = p * (1000000000 * c') := by rw [Nat.mul_comm c', Nat.mul_assoc]
 have e2 : c * p = p * c := Nat.mul_comm _ _
 omega
theorem j0 (x f c : Nat) (v : Value) (w : World) (hx : isNat w v x) (hs : (gr x).length ≤ 1000000) (hf : f < 1000000000) (hc : c < 1000000000) :
  Calls Tryd.prog 132 #[v, .int .u64 f, .int .u64 c] w fun e w' => (∃ v', e = .returned v' ∧ isNatB w' w.heap.size v' (x * f + c)) ∧ Below w.heap.size w w' := by
 obtain ⟨i0, hi, hz0, hz1, hz2⟩ := info_parts Tryd.infoU64
 have hxd := gr_lt x
 have hxo := q2 x
 unfold isNat at hx
 generalize gr x = xs at *
 obtain ⟨p, cap, rfl⟩ := zx hx
 have Hxd := hide hxd
 have Hxo := hide hxo
 have Hx := hide hx
 clear hxd hxo
 go_enter Tryd.func132, Tryd.ntmps132
 go_wp2_with (refine wpList_make_full _ rfl (.tmp 11) (.tmp 11) 65 rfl w.heap.size 80 i0 (.int .u64 0) 1 Tryd.underlying65 hi hz0 hz1 .i64 .i64 ((xs.length + 1 : Nat) : Int) ((xs.length + 1 : Nat) : Int) (xs.length + 1) rfl rfl rfl rfl (by rw [hz2]; omega) (by unfold maxLen; omega) (Nat.le_refl _) ?_; intro w1 hown1 hg1)
 go_loopw [2, 15] (fun cy i wr => ∃ (k c' : Nat) (ys : List Nat), k ≤ xs.length ∧ cy = .int .u64 c' ∧ c' < 1000000000 ∧ i = .int .i64 k ∧ ys.length = xs.length + 1 ∧
   wr.ownsRow w.heap.size 80 1 (.slice (some ⟨w.heap.size, 0, none⟩) (xs.length + 1) (xs.length + 1)) (xs.length + 1) (u64s ys) ∧ Below w.heap.size w wr ∧
   Hid (∀ d ∈ ys, d < 1000000000) ∧ Hid (ofd 1000000000 (ys.take k) + c' * 1000000000 ^ k = ofd 1000000000 (xs.take k) * f + c))
  (fun _ i _ => xs.length - (intOf i).toNat)
 case atStart =>
  refine ⟨0, c, List.replicate (xs.length + 1) 0, Nat.zero_le _, rfl, hc, rfl, by simp, ?_, (Below.refl _ _).grown hg1 (Nat.le_refl _) (fun _ h => by cases h), ?_, ?_⟩
  ·simpa [Value.cells, toList_madeCells_one, qA] using hown1
  ·intro d hd; simp at hd; omega
  ·show _ = _; simp [ofd]
 case round =>
  clear hown1 hg1
  obtain ⟨k, c', ys, hk, rfl, hc', rfl, hyl, hown, hb, hyd, hval⟩ := hrel
  by_cases hlt : k < xs.length
  ·obtain ⟨g, cap', hv, _⟩ := zS (za Hx) (by omega)
   simp only [Value.slice.injEq, true_and] at hv
   obtain ⟨rfl, rfl⟩ := hv
   have hcx := (zt (za Hx) hb).cellAt k (by omega)
   rw [zr _ _ hlt] at hcx
   obtain ⟨v0, hv0⟩ := zZ hown k (by omega)
   have hfr := hown.frozenAt k
   have hxk : xs[k]'hlt < 1000000000 := za Hxd _ (List.getElem_mem _)
   have hstep := fun d c2 => @x5 xs k hlt f c c' c2 d
   generalize xs[k]'hlt = xk at *
   have Hstep := hide hstep
   have hfit := yS hxk hf hc'
   generalize hpp : xk * f = pp at *
   have hppI : (xk : Int) * f = pp := by rw [← hpp]; simp
   clear hstep hpp
   obtain ⟨d, hd⟩ : ∃ d : Nat, ((c' : Int) + pp) % 1000000000 = d := ⟨(c' + pp) % 1000000000, by omega⟩
   obtain ⟨c2, hc2⟩ : ∃ d : Nat, ((c' : Int) + pp) / 1000000000 = d := ⟨(c' + pp) / 1000000000, by omega⟩
   have hdl : d < 1000000000 := by omega
   have hcl : c2 < 1000000000 := by omega
   have hsum : Hid (d + 1000000000 * c2 = c' + pp) := by show _ = _; omega
   have hst := hown.stored k (.int .u64 (d : Int))
   rw [z6 _ _ d _ rfl] at hst
   have Hst := hide hst
   have hk2 : (k : Int) < (xs.length : Int) + 1 := by omega
   clear hst
   go_wp2
   go_roundw
   case rel =>
    refine ⟨k + 1, c2, ys.set k d, by omega, by rw [hc2], hcl, by go_num, by simpa using hyl, (za Hst).1, hb.setCell (by simp) _, qy (za hyd) hdl, ?_⟩
    have h1 := za Hstep d c2 (za hval) (za hsum)
    show _ = _
    rw [← h1]
    congr 1
    rw [show (ys.set k d).take (k + 1) = ys.take k ++ [d] from by
     rw [List.take_succ_eq_append_getElem (by simp; omega), List.take_set_of_le (Nat.le_refl _), List.getElem_set_self], zD, List.length_take, Nat.min_eq_left (by omega)]
   case measure => simp [intOf]; omega
  ·have hkl : k = xs.length := by omega
   subst hkl
   obtain ⟨v0, hv0⟩ := zZ hown xs.length (by omega)
   have hfr := hown.frozenAt xs.length
   have hst := hown.stored xs.length (.int .u64 (c' : Int))
   rw [z6 _ _ c' _ rfl] at hst
   have hbX := hb.setCell (p := ⟨w.heap.size, xs.length, none⟩) (by simp) (.int .u64 (c' : Int))
   have hk2 : (xs.length : Int) < (xs.length : Int) + 1 := by omega
   have hfin : ofd 1000000000 (ys.set xs.length c') = x * f + c := by
    have h1 := za hval
    rw [List.take_length, za Hxo] at h1
    rw [← h1, show ys.set xs.length c' = ys.take xs.length ++ [c'] from by
     conv => lhs; rw [← List.take_length (l := ys.set xs.length c')]
     rw [List.length_set, hyl, List.take_succ_eq_append_getElem (by simp; omega), List.take_set_of_le (Nat.le_refl _), List.getElem_set_self], zD, List.length_take, Nat.min_eq_left (by omega), Nat.mul_comm]
   have hall := qy (j := xs.length) (v := c') (za hyd) hc'
   have hyl2 : (ys.set xs.length c').length = xs.length + 1 := by simpa using hyl
   generalize ys.set xs.length c' = zs at *
   have Hst := hide hst
   have Hfin := hide hfin
   have Hall := hide hall
   clear hst hfin hall
   go_wp2_with fail
   refine (qT zs w.heap.size _ _ (by omega) (za Hall) (by rw [hyl2]; exact (za Hst).1)).mono ?_
   rintro e w2 ⟨⟨v', rfl, hv'⟩, rfl⟩
   rw [za Hfin] at hv'
   go_wp2
   go_ret
   exact ⟨⟨v', rfl, hv'⟩, hbX⟩
theorem x2 {xs : List Nat} {k : Nat} (hk : k < xs.length) {by_ r X q r' : Nat} (h : ofd 1000000000 (xs.drop (k + 1)) = by_ * X + r) (he : r * 1000000000 + xs[k] = by_ * q + r') :
  ofd 1000000000 (xs.drop k) = by_ * (q + 1000000000 * X) + r' := by
 rw [List.drop_eq_getElem_cons hk]
 simp only [ofd]
 rw [h, Nat.mul_add, Nat.mul_add, ← Nat.mul_assoc, Nat.mul_comm 1000000000 by_, Nat.mul_assoc]
 rw [Nat.mul_comm r] at he
 have e : by_ * (1000000000 * X) = 1000000000 * (by_ * X) := by rw [Nat.mul_left_comm]
 omega
theorem kl {x b q r : Nat} (h : x = b * q + r) (hr : r < b) : x / b = q ∧ x % b = r := by
 have hb : 0 < b := by omega
 subst h
 rw [Nat.mul_add_div hb, Nat.mul_add_mod, Nat.div_eq_of_lt hr, Nat.mod_eq_of_lt hr]
 exact ⟨by omega, rfl⟩
theorem jX (x b : Nat) (v : Value) (w : World) (hx : isNat w v x) (hs : (gr x).length ≤ 1000000) (hb0 : 0 < b) (hb9 : b < 1000000000) :
  Calls Tryd.prog 100 #[v, .int .u64 b] w fun e w' => (∃ v', e = .returned (.tuple #[v', .int .u64 ((x % b : Nat) : Int)]) ∧ isNatB w' w.heap.size v' (x / b)) ∧ Below w.heap.size w w' := by
 obtain ⟨i0, hi, hz0, hz1, hz2⟩ := info_parts Tryd.infoU64
 have hxd := gr_lt x
 have hxo := q2 x
 unfold isNat at hx
 generalize gr x = xs at *
 obtain ⟨p, cap, rfl⟩ := zx hx
 have Hxd := hide hxd
 have Hxo := hide hxo
 have Hx := hide hx
 clear hxd hxo
 go_enter Tryd.func100, Tryd.ntmps100
 go_wp2_with (refine wpList_make_full _ rfl (.tmp 10) (.tmp 10) 65 rfl w.heap.size 80 i0 (.int .u64 0) 1 Tryd.underlying65 hi hz0 hz1 .i64 .i64 xs.length xs.length xs.length rfl rfl rfl rfl (by rw [hz2]; omega) (by unfold maxLen; omega) (Nat.le_refl _) ?_; intro w1 hown1 hg1)
 go_loopw [7, 8] (fun lf i wr => ∃ (k r : Nat) (ys : List Nat), k ≤ xs.length ∧ lf = .int .u64 r ∧ r < b ∧ i = .int .i64 ((k : Int) - 1) ∧ ys.length = xs.length ∧
   wr.ownsRow w.heap.size 80 1 (.slice (some ⟨w.heap.size, 0, none⟩) xs.length xs.length) xs.length (u64s ys) ∧ Below w.heap.size w wr ∧
   Hid (∀ d ∈ ys, d < 1000000000) ∧ Hid (ofd 1000000000 (xs.drop k) = b * ofd 1000000000 (ys.drop k) + r))
  (fun _ i _ => ((intOf i) + 1).toNat)
 case atStart =>
  refine ⟨xs.length, 0, List.replicate xs.length 0, Nat.le_refl _, rfl, hb0, by go_num, by simp, ?_, (Below.refl _ _).grown hg1 (Nat.le_refl _) (fun _ h => by cases h), ?_, ?_⟩
  ·simpa [Value.cells, toList_madeCells_one, qA] using hown1
  ·intro d hd; simp at hd; omega
  ·show _ = _; simp [ofd]
 case round =>
  clear hown1 hg1
  obtain ⟨k, r, ys, hk, rfl, hr, rfl, hyl, hown, hb, hyd, hval⟩ := hrel
  cases k with
  | succ k =>
   rw [show (((k + 1 : Nat) : Int) - 1) = (k : Int) from by omega]
   have hlt : k < xs.length := by omega
   obtain ⟨g, cap', hv, _⟩ := zS (za Hx) (by omega)
   simp only [Value.slice.injEq, true_and] at hv
   obtain ⟨rfl, rfl⟩ := hv
   have hcx := (zt (za Hx) hb).cellAt k (by omega)
   rw [zr _ _ hlt] at hcx
   obtain ⟨v0, hv0⟩ := zZ hown k (by omega)
   have hfr := hown.frozenAt k
   have hxk : xs[k]'hlt < 1000000000 := za Hxd _ (List.getElem_mem _)
   have hstep := fun q r' => @x2 xs k hlt b r (ofd 1000000000 (ys.drop (k + 1))) q r' (za hval)
   generalize xs[k]'hlt = xk at *
   have Hstep := hide hstep
   clear hstep
   have hS : r * 1000000000 + xk < b * 1000000000 := by
    have : (r + 1) * 1000000000 ≤ b * 1000000000 := Nat.mul_le_mul_right _ hr
    omega
   have hq9 : (r * 1000000000 + xk) / b < 1000000000 := by
    rw [Nat.div_lt_iff_lt_mul hb0]; omega
   have hrb : (r * 1000000000 + xk) % b < b := Nat.mod_lt _ hb0
   have hdm := Nat.div_add_mod (r * 1000000000 + xk) b
   have hSI : ((r * 1000000000 + xk : Nat) : Int) = (r : Int) * 1000000000 + xk := by simp
   have hqI : ((r : Int) * 1000000000 + xk) / (b : Int) = (((r * 1000000000 + xk) / b : Nat) : Int) := by rw [← hSI]; rfl
   have hrI : ((r : Int) * 1000000000 + xk) % (b : Int) = (((r * 1000000000 + xk) % b : Nat) : Int) := by rw [← hSI]; rfl
   generalize hq : (r * 1000000000 + xk) / b = q at *
   generalize hr' : (r * 1000000000 + xk) % b = r' at *
   have Hdm := hide hdm
   have hst := hown.stored k (.int .u64 (q : Int))
   rw [z6 _ _ q _ rfl] at hst
   have Hst := hide hst
   have hkI : (k : Int) < xs.length := by omega
   have hbI : (0 : Int) < b := by omega
   clear hst hdm hSI hq hr'
   go_wp2
   go_roundw
   case rel =>
    refine ⟨k, r', ys.set k q, by omega, by rw [hrI], hrb, rfl, by simpa using hyl, (za Hst).1, hb.setCell (by simp) _, qy (za hyd) hq9, ?_⟩
    show _ = _
    rw [za Hstep q r' (za Hdm).symm, List.drop_eq_getElem_cons (l := ys.set k q) (by simp; omega), List.getElem_set_self, List.drop_set_of_lt (by omega)]
    simp only [ofd]
   case measure => simp [intOf]
  | zero =>
   rw [show (((0 : Nat) : Int) - 1) = -1 from rfl]
   have hfin := kl (x := x) (b := b) (q := ofd 1000000000 ys) (r := r) (by rw [← za Hxo]; have := za hval; simpa using this) hr
   have Hfin := hide hfin
   clear hfin
   go_wp2_with fail
   refine (qT ys w.heap.size _ _ (by omega) (za hyd) (by rw [hyl]; exact hown)).mono ?_
   rintro e w2 ⟨⟨v', rfl, hv'⟩, rfl⟩
   rw [← (za Hfin).1] at hv'
   go_wp2
   go_ret2
   refine ⟨⟨v', ?_, hv'⟩, hb⟩
   rw [(za Hfin).2]; rfl
theorem kg (x b : Nat) (v : Value) (w : World) (hx : isNat w v x) (hs : (gr x).length ≤ 1000000) (hb0 : 0 < b) (hb9 : b < 1000000000) :
  Calls Tryd.prog 100 #[v, .int .u64 b] w fun e w' => (∃ v', e = .returned (.tuple #[v', .int .u64 ((x % b : Nat) : Int)]) ∧ isNat w' v' (x / b)) ∧ Below w.heap.size w w' := by
 refine (jX x b v w hx hs hb0 hb9).mono ?_
 rintro e w' ⟨⟨v', h1, h2⟩, h3⟩
 exact ⟨⟨v', h1, h2.nat⟩, h3⟩
def win (L : List Nat) (i k : Nat) : Nat := ofd 1000000000 ((L.drop i).take k)
theorem y4 (L : List Nat) (i : Nat) : win L i 0 = 0 := by simp [win, ofd]
theorem qF (L : List Nat) (i k : Nat) (h : i + k < L.length) : win L i (k + 1) = win L i k + 1000000000 ^ k * L[i + k] := by
 unfold win
 have hl : (L.drop i).length = L.length - i := List.length_drop
 rw [List.take_succ_eq_append_getElem (by omega), zD, List.length_take, Nat.min_eq_left (by omega), List.getElem_drop]
theorem x6 (L : List Nat) (i k j d : Nat) (h : i + k ≤ j) : win (L.set j d) i k = win L i k := by
 unfold win
 congr 1
 apply List.ext_getElem
 ·simp
 ·intro t h1 h2
  simp only [List.getElem_take, List.getElem_drop]
  rw [List.getElem_set_ne]
  simp only [List.length_take, List.length_drop] at h2
  omega
theorem q9 (L : List Nat) (i k d : Nat) (h : i + k < L.length) : win (L.set (i + k) d) i (k + 1) = win L i k + 1000000000 ^ k * d := by
 rw [qF _ _ _ (by simpa using h), x6 _ _ _ _ _ (Nat.le_refl _), List.getElem_set_self]
theorem qM {w a b : World} {g : Nat} (h : w.grownBy a (some g)) (k : a.grownBy b (some g)) : w.grownBy b (some g) :=
 ⟨k.os.trans h.os, k.tape.trans h.tape, k.output.trans h.output, Nat.le_trans h.size k.size, fun j hj hne => (k.block j (Nat.lt_of_lt_of_le hj h.size) hne).trans (h.block j hj hne)⟩
theorem qr {w wr : World} {base e g N cap : Nat} {L : List Nat} (hown : wr.ownsRow base e 1 (.slice (some ⟨g, 0, none⟩) N cap) N (u64s L)) (hgr : w.grownBy wr (some g)) (j d : Nat) (v : Int) (hv : v = (d : Int)) :
  (wr.setCell ⟨g, j, none⟩ (.int .u64 v)).ownsRow base e 1 (.slice (some ⟨g, 0, none⟩) N cap) N (u64s (L.set j d)) ∧ w.grownBy (wr.setCell ⟨g, j, none⟩ (.int .u64 v)) (some g) := by
 have h := hown.stored j (.int .u64 v)
 rw [z6 _ _ d _ hv] at h
 exact ⟨h.1, qM hgr h.2⟩
def zH (L L' : List Nat) (i k : Nat) : Prop := L'.length = L.length ∧ (∀ d ∈ L', d < 1000000000) ∧ ∀ t (h : t < L.length) (h' : t < L'.length), t < i ∨ i + k ≤ t → L'[t] = L[t]
theorem jF {L : List Nat} (h : ∀ d ∈ L, d < 1000000000) (i k : Nat) : zH L L i k := ⟨rfl, h, fun _ _ _ _ => rfl⟩
theorem zT {L L' : List Nat} {i k d : Nat} (h : zH L L' i k) (hd : d < 1000000000) : zH L (L'.set (i + k) d) i (k + 1) := by
 refine ⟨by simpa using h.1, qy h.2.1 hd, ?_⟩
 intro t h1 h2 ht
 rw [List.getElem_set_ne (by omega)]
 exact h.2.2 t h1 (by simpa using h2) (by omega)
theorem yB {X Y V q o o' y x d : Nat} {j : Nat} (h : X + q * Y = V + o * 1000000000 ^ j) (he : d + (o + y * q) = x + o' * 1000000000) :
  X + 1000000000 ^ j * d + q * (Y + 1000000000 ^ j * y) = V + 1000000000 ^ j * x + o' * 1000000000 ^ (j + 1) := by
 rw [Nat.pow_succ]
 generalize 1000000000 ^ j = p at *
 have h2 := congrArg (p * ·) he
 simp only [Nat.mul_add] at h2
 rw [Nat.mul_add, show q * (p * y) = p * (y * q) from by rw [Nat.mul_left_comm, Nat.mul_comm q y], show o' * (p * 1000000000) = p * (o' * 1000000000) from by rw [Nat.mul_left_comm]]
 rw [Nat.mul_comm o p] at h
 omega
theorem y0 {y q o : Nat} (hy : y < 1000000000) (hq : q < 1000000000) (ho : o < 1000000000) : o + y * q ≤ 999999999 * 1000000000 := by
 have : y * q ≤ 999999999 * 999999999 := Nat.mul_le_mul (by omega) (by omega)
 omega
theorem yd (L ys : List Nat) (g gb i m N cap capb q base : Nat) (w : World) (hm : ys.length = m) (hNl : L.length = N) (hN : N ≤ 2000000) (hi : i + m + 1 ≤ N) (hcap : m + 1 ≤ cap)
  (hL : w.ownsRow base 80 1 (.slice (some ⟨g, 0, none⟩) N N) N (u64s L)) (hY : w.ownsRow 0 80 1 (.slice (some ⟨gb, 0, none⟩) m capb) m (u64s ys)) (hgg : gb ≠ g)
  (hLd : ∀ d ∈ L, d < 1000000000) (hYd : ∀ d ∈ ys, d < 1000000000) (hq : q < 1000000000) :
  Calls Tryd.prog 134 #[.slice (some ⟨g, i, none⟩) (m + 1) cap, .slice (some ⟨gb, 0, none⟩) m capb, .int .u64 q] w fun e w' =>
   ∃ (neg : Bool) (L' : List Nat), e = .returned (.bool neg) ∧ w'.ownsRow base 80 1 (.slice (some ⟨g, 0, none⟩) N N) N (u64s L') ∧ w.grownBy w' (some g) ∧ zH L L' i (m + 1) ∧
    win L' i (m + 1) + q * ofd 1000000000 ys = win L i (m + 1) + (if neg then 1000000000 ^ (m + 1) else 0) := by
 have HLd := hide hLd
 have HYd := hide hYd
 have HL := hide hL
 have HY := hide hY
 clear hLd hYd hL hY
 go_enter Tryd.func134, Tryd.ntmps134
 go_wp2
 go_loopw [7, 13] (fun ow j wr => ∃ (k o : Nat) (L' : List Nat), k ≤ m ∧ ow = .int .u64 o ∧ o < 1000000000 ∧ j = .int .i64 k ∧ wr.ownsRow base 80 1 (.slice (some ⟨g, 0, none⟩) N N) N (u64s L') ∧ w.grownBy wr (some g) ∧
   Hid (zH L L' i k) ∧ Hid (win L' i k + q * ofd 1000000000 (ys.take k) = win L i k + o * 1000000000 ^ k))
  (fun _ j _ => m - (intOf j).toNat)
 case atStart =>
  exact ⟨0, 0, L, Nat.zero_le _, rfl, by omega, rfl, za HL, World.grownBy.refl _ _, hide (jF (za HLd) _ _), hide (by simp [y4, ofd])⟩
 case round =>
  obtain ⟨k, o, L', hk, rfl, ho, rfl, hown, hgr, hso, hval⟩ := hrel
  by_cases hlt : k < m
  ·have hL'l : L'.length = N := (za hso).1.trans hNl
   have hcy := (za HY).kept hgr (.inr (by simp [Value.ownBlock]; omega))
   have hcy := hcy.cellAt k (by omega)
   rw [zr _ _ (by omega)] at hcy
   have hcx := hown.cellAt (i + k) (by omega)
   rw [zr _ _ (by omega)] at hcx
   have hfr := hown.frozenAt (i + k)
   have hy9 : ys[k]'(by omega) < 1000000000 := za HYd _ (List.getElem_mem _)
   have hx9 : L'[i + k]'(by omega) < 1000000000 := (za hso).2.1 _ (List.getElem_mem _)
   have hxL : L[i + k]'(by omega) = L'[i + k]'(by omega) := ((za hso).2.2 (i + k) (by omega) (by omega) (.inr (Nat.le_refl _))).symm
   have hwin := qF L i k (by omega)
   have hofd : ofd 1000000000 (ys.take (k + 1)) = ofd 1000000000 (ys.take k) + 1000000000 ^ k * ys[k]'(by omega) := by
    rw [List.take_succ_eq_append_getElem (by omega), zD, List.length_take, Nat.min_eq_left (by omega)]
   rw [hxL] at hwin
   generalize ys[k]'(by omega) = y at *
   generalize L'[i + k]'(by omega) = x at *
   have hfit := y0 hy9 hq ho
   have Hwin := hide hwin
   have Hofd := hide hofd
   have hstep := fun d o' => @yB (win L' i k) (ofd 1000000000 (ys.take k)) (win L i k) q o o' y x d k (za hval)
   generalize hpp : y * q = pp at *
   have hppI : (y : Int) * q = pp := by rw [← hpp]; simp
   have Hstep := hide hstep
   clear hwin hofd hstep hxL hpp
   obtain ⟨t, ht⟩ : ∃ d : Nat, ((o : Int) + pp) % 1000000000 = d := ⟨(o + pp) % 1000000000, by omega⟩
   obtain ⟨c, hc⟩ : ∃ d : Nat, ((o : Int) + pp) / 1000000000 = d := ⟨(o + pp) / 1000000000, by omega⟩
   have hkI : (k : Int) < (m : Int) + 1 := by omega
   have hkI2 : (k : Int) < (m : Int) := by omega
   by_cases hbr : (x : Int) < t
   ·obtain ⟨d, hd⟩ : ∃ d : Nat, (x : Int) + 1000000000 - t = d := ⟨x + 1000000000 - t, by omega⟩
    have hst1 := qr hown hgr (i + k) (x + 1000000000) ((x : Int) + 1000000000) (by simp)
    have hst2 := qr hst1.1 hst1.2 (i + k) d ((x : Int) + 1000000000 - t) hd
    rw [List.set_set] at hst2
    have Hst := hide hst2
    have HD := hide hd
    clear hst1 hst2 hd
    go_wp2
    go_roundw
    case rel =>
     refine ⟨k + 1, c + 1, L'.set (i + k) d, by omega, rfl, by omega, by go_num, (za Hst).1, (za Hst).2, hide (zT (za hso) (by have := za HD; omega)), ?_⟩
     show _ = _
     rw [q9 _ _ _ _ (by omega), za Hofd, za Hwin]
     exact za Hstep d (c + 1) (by have := za HD; omega)
    case measure => simp [intOf]; omega
   ·obtain ⟨d, hd⟩ : ∃ d : Nat, (x : Int) - t = d := ⟨x - t, by omega⟩
    have hst2 := qr hown hgr (i + k) d ((x : Int) - t) hd
    have Hst := hide hst2
    have HD := hide hd
    clear hst2 hd
    go_wp2
    go_roundw
    case rel =>
     refine ⟨k + 1, c, L'.set (i + k) d, by omega, by rw [hc], by omega, by go_num, (za Hst).1, (za Hst).2, hide (zT (za hso) (by have := za HD; omega)), ?_⟩
     show _ = _
     rw [q9 _ _ _ _ (by omega), za Hofd, za Hwin]
     exact za Hstep d c (by have := za HD; omega)
    case measure => simp [intOf]; omega
  ·have hkm : k = m := by omega
   subst hkm
   have hL'l : L'.length = N := (za hso).1.trans hNl
   have hcx := hown.cellAt (i + k) (by omega)
   rw [zr _ _ (by omega)] at hcx
   have hfr := hown.frozenAt (i + k)
   have hx9 : L'[i + k]'(by omega) < 1000000000 := (za hso).2.1 _ (List.getElem_mem _)
   have hxL : L[i + k]'(by omega) = L'[i + k]'(by omega) := ((za hso).2.2 (i + k) (by omega) (by omega) (.inr (Nat.le_refl _))).symm
   have hwin := qF L i k (by omega)
   rw [hxL] at hwin
   generalize L'[i + k]'(by omega) = x at *
   have Hwin := hide hwin
   have hval' := za hval
   rw [← hm, List.take_length, hm] at hval'
   have Hval := hide hval'
   clear hwin hxL hval'
   have hkI : (k : Int) < (k : Int) + 1 := by omega
   by_cases hge : o ≤ x
   ·obtain ⟨d, hd⟩ : ∃ d : Nat, (x : Int) - o = d := ⟨x - o, by omega⟩
    have hst2 := qr hown hgr (i + k) d ((x : Int) - o) hd
    have Hst := hide hst2
    have HD := hide hd
    clear hst2 hd
    go_wp2
    go_ret
    refine ⟨false, L'.set (i + k) d, rfl, (za Hst).1, (za Hst).2, zT (za hso) (by have := za HD; omega), ?_⟩
    rw [q9 _ _ _ _ (by omega), za Hwin]
    have h1 := za Hval
    have h2 : x = d + o := by have := za HD; omega
    rw [h2, Nat.mul_add]
    rw [Nat.mul_comm o] at h1
    simp only [Bool.false_eq_true, if_false]
    omega
   ·obtain ⟨d, hd⟩ : ∃ d : Nat, (x : Int) + (1000000000 - o) = d := ⟨x + (1000000000 - o), by omega⟩
    have hst2 := qr hown hgr (i + k) d ((x : Int) + (1000000000 - o)) hd
    have Hst := hide hst2
    have HD := hide hd
    clear hst2 hd
    go_wp2
    go_ret
    refine ⟨true, L'.set (i + k) d, rfl, (za Hst).1, (za Hst).2, zT (za hso) (by have := za HD; omega), ?_⟩
    rw [q9 _ _ _ _ (by omega), za Hwin]
    have h1 := za Hval
    have h2 : d + o = x + 1000000000 := by have := za HD; omega
    have h3 := congrArg (1000000000 ^ k * ·) h2
    simp only [Nat.mul_add] at h3
    rw [Nat.mul_comm o] at h1
    rw [Nat.pow_succ]
    simp only [if_true]
    omega
theorem yw {X Y V c c' y x d : Nat} {j : Nat} (h : X + c * 1000000000 ^ j = V + Y) (he : d + 1000000000 * c' = c + (x + y)) :
  X + 1000000000 ^ j * d + c' * 1000000000 ^ (j + 1) = V + 1000000000 ^ j * x + (Y + 1000000000 ^ j * y) := by
 rw [Nat.pow_succ]
 generalize 1000000000 ^ j = p at *
 have h2 := congrArg (p * ·) he
 simp only [Nat.mul_add] at h2
 rw [show c' * (p * 1000000000) = p * (1000000000 * c') from by rw [Nat.mul_left_comm, Nat.mul_comm c']]
 rw [Nat.mul_comm c p] at h
 omega
theorem v6 {w : World} {base : Nat} {e : TypeId} {size : Nat} {v : Value} {n : Nat} {xs : List Value} (h : w.ownsRow base e size v n xs) (k : Nat) : (w.drewN k).ownsRow base e size v n xs := h
theorem vM {w wr : World} {r : Option Nat} (h : w.grownBy wr r) (k : Nat) : w.grownBy (wr.drewN k) r := ⟨h.os, h.tape, h.output, h.size, h.block⟩
theorem yb (L ys : List Nat) (g gb i m N cap capb base : Nat) (w : World) (hm : ys.length = m) (hNl : L.length = N) (hN : N ≤ 2000000) (hi : i + m + 1 ≤ N) (hcap : m + 1 ≤ cap)
  (hL : w.ownsRow base 80 1 (.slice (some ⟨g, 0, none⟩) N N) N (u64s L)) (hY : w.ownsRow 0 80 1 (.slice (some ⟨gb, 0, none⟩) m capb) m (u64s ys)) (hgg : gb ≠ g)
  (hLd : ∀ d ∈ L, d < 1000000000) (hYd : ∀ d ∈ ys, d < 1000000000) :
  Calls Tryd.prog 135 #[.slice (some ⟨g, i, none⟩) (m + 1) cap, .slice (some ⟨gb, 0, none⟩) m capb] w fun e w' =>
   ∃ (up : Bool) (L' : List Nat), e = .returned (.bool up) ∧ w'.ownsRow base 80 1 (.slice (some ⟨g, 0, none⟩) N N) N (u64s L') ∧ w.grownBy w' (some g) ∧ zH L L' i (m + 1) ∧
    win L' i (m + 1) + (if up then 1000000000 ^ (m + 1) else 0) = win L i (m + 1) + ofd 1000000000 ys := by
 have HLd := hide hLd
 have HYd := hide hYd
 have HL := hide hL
 have HY := hide hY
 clear hLd hYd hL hY
 go_enter Tryd.func135, Tryd.ntmps135
 go_wp2
 go_loopw [5, 10] (fun cy j wr => ∃ (k c : Nat) (L' : List Nat), k ≤ m ∧ cy = .int .u64 c ∧ c ≤ 1 ∧ j = .int .i64 k ∧ wr.ownsRow base 80 1 (.slice (some ⟨g, 0, none⟩) N N) N (u64s L') ∧ w.grownBy wr (some g) ∧
   Hid (zH L L' i k) ∧ Hid (win L' i k + c * 1000000000 ^ k = win L i k + ofd 1000000000 (ys.take k)))
  (fun _ j _ => m - (intOf j).toNat)
 case atStart =>
  exact ⟨0, 0, L, Nat.zero_le _, rfl, by omega, rfl, za HL, World.grownBy.refl _ _, hide (jF (za HLd) _ _), hide (by simp [y4, ofd])⟩
 case round =>
  obtain ⟨k, c, L', hk, rfl, hc, rfl, hown, hgr, hso, hval⟩ := hrel
  by_cases hlt : k < m
  ·have hL'l : L'.length = N := (za hso).1.trans hNl
   have hcy := (za HY).kept hgr (.inr (by simp [Value.ownBlock]; omega))
   have hcy := hcy.cellAt k (by omega)
   rw [zr _ _ (by omega)] at hcy
   have hcx := hown.cellAt (i + k) (by omega)
   rw [zr _ _ (by omega)] at hcx
   have hfr := hown.frozenAt (i + k)
   have hy9 : ys[k]'(by omega) < 1000000000 := za HYd _ (List.getElem_mem _)
   have hx9 : L'[i + k]'(by omega) < 1000000000 := (za hso).2.1 _ (List.getElem_mem _)
   have hxL : L[i + k]'(by omega) = L'[i + k]'(by omega) := ((za hso).2.2 (i + k) (by omega) (by omega) (.inr (Nat.le_refl _))).symm
   have hwin := qF L i k (by omega)
   have hofd : ofd 1000000000 (ys.take (k + 1)) = ofd 1000000000 (ys.take k) + 1000000000 ^ k * ys[k]'(by omega) := by
    rw [List.take_succ_eq_append_getElem (by omega), zD, List.length_take, Nat.min_eq_left (by omega)]
   rw [hxL] at hwin
   generalize ys[k]'(by omega) = y at *
   generalize L'[i + k]'(by omega) = x at *
   have Hwin := hide hwin
   have Hofd := hide hofd
   have hstep := fun d c' => @yw (win L' i k) (ofd 1000000000 (ys.take k)) (win L i k) c c' y x d k (za hval)
   have Hstep := hide hstep
   clear hwin hofd hstep hxL
   obtain ⟨d, hd⟩ : ∃ d : Nat, ((c : Int) + (x + y)) % 1000000000 = d := ⟨(c + (x + y)) % 1000000000, by omega⟩
   obtain ⟨c2, hc2⟩ : ∃ d : Nat, ((c : Int) + (x + y)) / 1000000000 = d := ⟨(c + (x + y)) / 1000000000, by omega⟩
   have hkI : (k : Int) < (m : Int) + 1 := by omega
   have hkI2 : (k : Int) < (m : Int) := by omega
   have hdl : d < 1000000000 := by omega
   have hsum : Hid (d + 1000000000 * c2 = c + (x + y)) := by show _ = _; omega
   have hc21 : c2 ≤ 1 := by omega
   have hst := fun nq => qr (v6 hown nq) (vM hgr nq) (i + k) d (d : Int) rfl
   have Hst := hide hst
   clear hst
   go_wp2
   go_quiet (fail)
   go_wp2
   go_roundw
   case rel =>
    refine ⟨k + 1, c2, L'.set (i + k) d, by omega, by rw [hc2], hc21, by go_num, (za Hst nq).1, (za Hst nq).2, hide (zT (za hso) hdl), ?_⟩
    show _ = _
    rw [q9 _ _ _ _ (by omega), za Hofd, za Hwin]
    exact za Hstep d c2 (za hsum)
   case measure => simp [intOf]; omega
  ·have hkm : k = m := by omega
   subst hkm
   have hL'l : L'.length = N := (za hso).1.trans hNl
   have hcx := hown.cellAt (i + k) (by omega)
   rw [zr _ _ (by omega)] at hcx
   have hfr := hown.frozenAt (i + k)
   have hx9 : L'[i + k]'(by omega) < 1000000000 := (za hso).2.1 _ (List.getElem_mem _)
   have hxL : L[i + k]'(by omega) = L'[i + k]'(by omega) := ((za hso).2.2 (i + k) (by omega) (by omega) (.inr (Nat.le_refl _))).symm
   have hwin := qF L i k (by omega)
   rw [hxL] at hwin
   generalize L'[i + k]'(by omega) = x at *
   have Hwin := hide hwin
   have hval' := za hval
   rw [← hm, List.take_length, hm] at hval'
   have Hval := hide hval'
   clear hwin hxL hval'
   have hkI : (k : Int) < (k : Int) + 1 := by omega
   obtain ⟨d, hd⟩ : ∃ d : Nat, ((c : Int) + x) % 1000000000 = d := ⟨(c + x) % 1000000000, by omega⟩
   have hdl : d < 1000000000 := by omega
   have hst := qr hown hgr (i + k) d (d : Int) rfl
   have Hst := hide hst
   clear hst
   by_cases hup : c + x = 1000000000
   ·have hq : ((c : Int) + x == 1000000000) = true := by rw [beq_iff_eq]; omega
    have Hup := hide hup
    clear hup
    go_wp2
    go_ret
    refine ⟨true, L'.set (i + k) d, rfl, (za Hst).1, (za Hst).2, zT (za hso) hdl, ?_⟩
    rw [q9 _ _ _ _ (by omega), za Hwin]
    have h1 := za Hval
    have h2 : d = 0 := by have := za Hup; omega
    have h3 := congrArg (1000000000 ^ k * ·) (za Hup)
    simp only [Nat.mul_add] at h3
    rw [Nat.mul_comm c] at h1
    rw [Nat.pow_succ, h2]
    simp only [if_true]
    omega
   ·have hq : ((c : Int) + x == 1000000000) = false := by rw [beq_eq_false_iff_ne]; omega
    have Hup := hide hup
    clear hup
    go_wp2
    go_ret
    refine ⟨false, L'.set (i + k) d, rfl, (za Hst).1, (za Hst).2, zT (za hso) hdl, ?_⟩
    rw [q9 _ _ _ _ (by omega), za Hwin]
    have h1 := za Hval
    have h2 : d = c + x := by have := za Hup; omega
    rw [h2, Nat.mul_add]
    rw [Nat.mul_comm c] at h1
    simp only [Bool.false_eq_true, if_false]
    omega
theorem qt (b : Nat) (l : List Nat) (k : Nat) (h : k ≤ l.length) : ofd b l = ofd b (l.take k) + b ^ k * ofd b (l.drop k) := by
 conv => lhs; rw [← List.take_append_drop k l]
 rw [qC, List.length_take, Nat.min_eq_left h]
theorem xP {l : List Nat} {m : Nat} (h : ofd 1000000000 l < 1000000000 ^ m) (hm : m ≤ l.length) : ofd 1000000000 (l.drop m) = 0 ∧ ofd 1000000000 l = ofd 1000000000 (l.take m) := by
 have e := qt 1000000000 l m hm
 rcases Nat.eq_zero_or_pos (ofd 1000000000 (l.drop m)) with h0 | h0
 ·exact ⟨h0, by rw [e, h0]; simp⟩
 ·have := Nat.mul_le_mul_left (1000000000 ^ m) h0
  omega
theorem xw {V Y top yl p : Nat} (hV : V < (top + 1) * p) (hY : yl * p ≤ Y) (hyl : 0 < yl) : V / Y ≤ top / yl := by
 rw [Nat.le_div_iff_mul_le hyl]
 have h1 : V / Y * (yl * p) ≤ V := Nat.le_trans (Nat.mul_le_mul_left _ hY) (Nat.div_mul_le_self V Y)
 rw [← Nat.mul_assoc] at h1
 have h2 : V / Y * yl * p < (top + 1) * p := by omega
 have := Nat.lt_of_mul_lt_mul_right h2
 omega
theorem xI {L : List Nat} {i m Y : Nat} (hl : i + m + 1 ≤ L.length) (hd : ∀ d ∈ L, d < 1000000000) (hR : ofd 1000000000 (L.drop (i + 1)) < Y) (hY : Y < 1000000000 ^ m) :
  ofd 1000000000 (L.drop i) = win L i (m + 1) ∧ ofd 1000000000 (L.drop (i + m + 1)) = 0 ∧ win L i (m + 1) < 1000000000 * Y := by
 have hi : i < L.length := by omega
 have e : L.drop i = L[i] :: L.drop (i + 1) := List.drop_eq_getElem_cons hi
 have hx : L[i] < 1000000000 := hd _ (List.getElem_mem hi)
 have hV : ofd 1000000000 (L.drop i) < 1000000000 * Y := by
  rw [e]; simp only [ofd]
  have := Nat.mul_le_mul_left 1000000000 (Nat.succ_le_of_lt hR)
  rw [Nat.mul_succ] at this
  omega
 have hV2 : ofd 1000000000 (L.drop i) < 1000000000 ^ (m + 1) := by
  rw [Nat.pow_succ, Nat.mul_comm]
  exact Nat.lt_of_lt_of_le hV (Nat.mul_le_mul_left _ (Nat.le_of_lt hY))
 have ht := xP hV2 (by simp; omega)
 rw [List.drop_drop] at ht
 refine ⟨ht.2, ?_, ?_⟩
 ·rw [show i + m + 1 = i + (m + 1) from by omega]; exact ht.1
 ·rw [← show ofd 1000000000 (L.drop i) = win L i (m + 1) from ht.2]; exact hV
theorem yA {L L' : List Nat} {i k : Nat} (h : zH L L' i k) : L'.take i = L.take i := by
 apply List.ext_getElem
 ·simp [h.1]
 ·intro t h1 h2
  simp only [List.getElem_take]
  have : t < i := by simp at h1; omega
  exact h.2.2 t _ _ (.inl this)
theorem yz {L L' : List Nat} {i k : Nat} (h : zH L L' i k) : L'.drop (i + k) = L.drop (i + k) := by
 apply List.ext_getElem
 ·simp [h.1]
 ·intro t h1 h2
  simp only [List.getElem_drop]
  exact h.2.2 _ _ _ (.inr (by omega))
theorem kZ (b T p li Y D R W q : Nat) (h : li + b * R = W + q * Y) : T + p * li + p * b * (Y * D + R) = T + p * (Y * (q + b * D) + W) := by
 have key : li + b * (Y * D + R) = Y * (q + b * D) + W := by
  rw [Nat.mul_add, Nat.mul_add, Nat.mul_left_comm Y, Nat.mul_comm Y q]
  omega
 rw [← key, Nat.mul_add p, Nat.mul_assoc, Nat.add_assoc]
theorem yU (b : Nat) {L L' O : List Nat} {i Y X q W V : Nat} (hi : i < L.length) (hO : i < O.length)
  (hinv : X = ofd b (L.take (i + 1)) + b ^ (i + 1) * (Y * ofd b (O.drop (i + 1)) + ofd b (L.drop (i + 1))))
  (hV : ofd b (L.drop i) = V) (htk : L'.take i = L.take i) (hW : ofd b (L'.drop i) = W) (hw : W + q * Y = V) :
  X = ofd b (L'.take i) + b ^ i * (Y * ofd b ((O.set i q).drop i) + ofd b (L'.drop i)) := by
 have e : L.drop i = L[i] :: L.drop (i + 1) := List.drop_eq_getElem_cons hi
 rw [e] at hV
 simp only [ofd] at hV
 rw [hW, htk, List.drop_eq_getElem_cons (l := O.set i q) (by simpa using hO), List.getElem_set_self, List.drop_set_of_lt (by omega)]
 simp only [ofd]
 rw [hinv, List.take_succ_eq_append_getElem hi, zD, List.length_take, Nat.min_eq_left (by omega), Nat.pow_succ]
 exact kZ b _ _ _ _ _ _ _ _ (hV.trans hw.symm)
theorem k2 (b : Nat) {L L' : List Nat} {i k : Nat} (hl : i + k ≤ L'.length) (hdr : L'.drop (i + k) = L.drop (i + k)) (h0 : ofd b (L.drop (i + k)) = 0) : ofd b (L'.drop i) = ofd b ((L'.drop i).take k) := by
 rw [qt b (L'.drop i) k (by simp; omega), List.drop_drop, hdr, h0, Nat.mul_zero, Nat.add_zero]
theorem vZ {L L' O : List Nat} {i m Y X q : Nat} (hl : i + m + 1 ≤ L.length) (hO : i < O.length) (hd : ∀ d ∈ L, d < 1000000000) (hY : Y < 1000000000 ^ m)
  (hinv : X = ofd 1000000000 (L.take (i + 1)) + 1000000000 ^ (i + 1) * (Y * ofd 1000000000 (O.drop (i + 1)) + ofd 1000000000 (L.drop (i + 1)))) (hR : ofd 1000000000 (L.drop (i + 1)) < Y)
  (hso : zH L L' i (m + 1)) (hw : win L' i (m + 1) + q * Y = win L i (m + 1)) (hlt : win L' i (m + 1) < Y) :
  X = ofd 1000000000 (L'.take i) + 1000000000 ^ i * (Y * ofd 1000000000 ((O.set i q).drop i) + ofd 1000000000 (L'.drop i)) ∧ ofd 1000000000 (L'.drop i) < Y := by
 obtain ⟨h1, h2, _⟩ := xI hl hd hR hY
 have hL' : ofd 1000000000 (L'.drop i) = win L' i (m + 1) :=
  k2 1000000000 (by have := hso.1; omega) (yz hso) h2
 have hi : i < L.length := Nat.lt_of_lt_of_le (Nat.lt_of_le_of_lt (Nat.le_add_right i m) (Nat.lt_succ_self _)) hl
 exact ⟨yU 1000000000 hi hO hinv h1 (yA hso) hL' hw, hL' ▸ hlt⟩
theorem vz {V Y W q : Nat} (hw : W + q * Y = V) (hq : V / Y ≤ q) (hY : 0 < Y) : W < Y := by
 have h1 : q ≤ V / Y := by
  rw [Nat.le_div_iff_mul_le hY]; omega
 have : q = V / Y := by omega
 have h2 := Nat.div_add_mod V Y
 rw [← this, Nat.mul_comm] at h2
 have := Nat.mod_lt V hY
 omega
theorem vY {V Y W q p : Nat} (hw : W + q * Y = V + p) (hW : W < p) : V / Y < q := by
 have hY : 0 < Y := by
  rcases Nat.eq_zero_or_pos Y with h | h
  ·subst h; simp at hw; omega
  ·exact h
 rw [Nat.div_lt_iff_lt_mul hY]
 omega
theorem kx {L : List Nat} (hd : ∀ d ∈ L, d < 1000000000) (i k : Nat) (h : i + k ≤ L.length) : win L i k < 1000000000 ^ k := by
 have := ju (b := 1000000000) ((L.drop i).take k) (fun d hd' => hd d (List.mem_of_mem_drop (List.mem_of_mem_take hd')))
 rw [List.length_take, List.length_drop, Nat.min_eq_left (by omega)] at this
 exact this
theorem x7 {L : List Nat} (hd : ∀ d ∈ L, d < 1000000000) (i m : Nat) (h : i + (m + 1) < L.length) :
  win L i (m + 1 + 1) < (L[i + (m + 1)] * 1000000000 + L[i + m] + 1) * 1000000000 ^ m := by
 rw [qF L i (m + 1) h, qF L i m (by omega), Nat.pow_succ]
 have := kx hd i m (by omega)
 generalize L[i + (m + 1)] = a
 generalize L[i + m] = b
 generalize 1000000000 ^ m = p at *
 rw [Nat.add_mul, Nat.add_mul, Nat.mul_assoc a, Nat.mul_comm p b, Nat.mul_comm p 1000000000, Nat.mul_comm (1000000000 * p) a]
 omega
theorem Ze {ys : List Nat} {m : Nat} (h : ys.length = m + 1) : ys[m] * 1000000000 ^ m ≤ ofd 1000000000 ys := by
 have := xF 1000000000 ys m (by omega)
 rw [Nat.mul_comm]; exact this
theorem k5 {y : Nat} (h : y < 1000000000) : 0 < 1000000000 / (y + 1) := Nat.div_pos (by omega) (by omega)
theorem xM {y : Nat} (h : 0 < y) : 1000000000 / (y + 1) < 1000000000 := Nat.div_lt_self (by omega) (by omega)
theorem ks {y s m : Nat} {ys : List Nat} (hy : ys = gr y) (hm : ys.length = m + 1) (hs : 1000000000 / (ys[m] + 1) = s) (hs0 : 0 < s) : (gr (y * s)).length = m + 1 ∧ y * s < 1000000000 ^ (m + 1) := by
 have hyd : ∀ d ∈ ys, d < 1000000000 := by rw [hy]; exact gr_lt y
 have hyo : ofd 1000000000 ys = y := by rw [hy]; exact q2 y
 have h1 : y < (ys[m] + 1) * 1000000000 ^ m := by
  have e := jO 1000000000 ys m (by omega)
  rw [show ys.drop (m + 1) = [] from List.drop_eq_nil_of_le (by omega)] at e
  simp only [ofd, Nat.mul_zero, Nat.add_zero] at e
  have h2 := ju (b := 1000000000) (ys.take m) (fun d hd => hyd d (List.mem_of_mem_take hd))
  rw [List.length_take, Nat.min_eq_left (by omega)] at h2
  rw [hyo] at e
  rw [Nat.add_mul, e, Nat.mul_comm]
  omega
 have h3 : (ys[m] + 1) * s ≤ 1000000000 := by rw [← hs, Nat.mul_comm]; exact Nat.div_mul_le_self _ _
 have h4 : y * s < 1000000000 ^ (m + 1) := by
  have h5 : y * s < (ys[m] + 1) * 1000000000 ^ m * s := Nat.mul_lt_mul_of_pos_right h1 hs0
  rw [Nat.mul_right_comm] at h5
  have h6 : (ys[m] + 1) * s * 1000000000 ^ m ≤ 1000000000 * 1000000000 ^ m := Nat.mul_le_mul_right _ h3
  rw [Nat.pow_succ, Nat.mul_comm (1000000000 ^ m)]
  omega
 refine ⟨?_, h4⟩
 have h7 : (gr (y * s)).length ≤ m + 1 := z9 (by omega) h4
 have h8 : (gr y).length ≤ (gr (y * s)).length := qa (Nat.le_mul_of_pos_right y hs0)
 rw [← hy] at h8
 omega
theorem kn {y m : Nat} (h : (gr y).length = m + 1) : 1000000000 ^ m ≤ y := by
 rcases Nat.lt_or_ge y (1000000000 ^ m) with h1 | h1
 ·have := z9 (b := 1000000000) (by omega) h1
  unfold gr at h; omega
 ·exact h1
theorem kk {x y s n m : Nat} {L : List Nat} (hx : (gr x).length = n) (hy : (gr y).length = m + 1) (hmn : m + 1 ≤ n) (hL : ofd 1000000000 L = x * s) (hLl : L.length = n + 1) (hs0 : 0 < s) :
  ofd 1000000000 (L.drop (n - m)) < y * s := by
 have h1 : x < 1000000000 ^ n := by rw [← hx]; exact qR (by omega) x
 have h2 := kn hy
 have e := qt 1000000000 L (n - m) (by omega)
 rw [hL] at e
 have h3 : 1000000000 ^ (n - m) * ofd 1000000000 (L.drop (n - m)) ≤ x * s := by omega
 have h4 : x * s < 1000000000 ^ n * s := Nat.mul_lt_mul_of_pos_right h1 hs0
 have h5 : 1000000000 ^ n * s = 1000000000 ^ (n - m) * (1000000000 ^ m * s) := by
  rw [← Nat.mul_assoc, ← Nat.pow_add]; congr 2; omega
 have h6 : 1000000000 ^ (n - m) * (1000000000 ^ m * s) ≤ 1000000000 ^ (n - m) * (y * s) := Nat.mul_le_mul_left _ (Nat.mul_le_mul_right _ h2)
 have h7 : 1000000000 ^ (n - m) * ofd 1000000000 (L.drop (n - m)) < 1000000000 ^ (n - m) * (y * s) := by omega
 exact Nat.lt_of_mul_lt_mul_left h7
theorem xJ {x y s Q R : Nat} (h : x * s = y * s * Q + R) (hR : R < y * s) (hs : 0 < s) : x / y = Q ∧ R / s = x % y := by
 have hy : 0 < y := by
  rcases Nat.eq_zero_or_pos y with h0 | h0
  ·subst h0; simp at hR
  ·exact h0
 have hQ : x / y = Q := by
  have h1 : x * s / (y * s) = Q := (kl h hR).1
  rwa [Nat.mul_div_mul_right _ _ hs] at h1
 refine ⟨hQ, ?_⟩
 have h2 : x * s % (y * s) = R := (kl h hR).2
 rw [Nat.mul_mod_mul_right] at h2
 rw [← h2, Nat.mul_div_cancel _ hs]
theorem j1 (x f : Nat) (v : Value) (w : World) (hx : isNat w v x) (hs : (gr x).length ≤ 1000000) (hf : f < 1000000000) :
  Calls Tryd.prog 132 #[v, .int .u64 f, .int .u64 0] w fun e w' => (∃ v', e = .returned v' ∧ isNatB w' w.heap.size v' (x * f)) ∧ Below w.heap.size w w' := by
 have := j0 x f 0 v w hx hs hf (by omega)
 simpa using this
def cellN (w : World) (b j : Nat) : Nat := match w.cell? ⟨b, j, none⟩ with
 | some v => (intOf v).toNat
 | none => 0
theorem jb {w : World} {b j d : Nat} (h : w.cell? ⟨b, j, none⟩ = some (.int .u64 (d : Int))) : cellN w b j = d := by
 unfold cellN; rw [h]; rfl
theorem qv {w : World} {base : Nat} {e : TypeId} {size : Nat} {v : Value} {n : Nat} {xs : List Value} (h : w.ownsRow base e size v n xs) : w.drew.ownsRow base e size v n xs := h
theorem jq {L L1 L2 : List Nat} {i k : Nat} (h : zH L L1 i k) (h' : zH L1 L2 i k) : zH L L2 i k := by
 refine ⟨h'.1.trans h.1, h'.2.1, ?_⟩
 intro t h1 h2 ht
 rw [h'.2.2 t (by rw [h.1]; exact h1) h2 ht]
 exact h.2.2 t h1 _ ht
theorem jp {W W' V Y q p : Nat} {up : Bool} (h : W + (q + 1) * Y = V + if true then p else 0) (h' : W' + (if up then p else 0) = W + Y) : W' + q * Y = V + if (!up) then p else 0 := by
 rw [Nat.add_mul] at h
 cases up <;> simp at h h' ⊢ <;> omega
theorem x3 (l : List Nat) (k : Nat) (b : Nat) : ofd b (l ++ List.replicate k 0) = ofd b l := by
 rw [qC, zN]; simp
theorem kj (x y : Nat) (v u : Value) (w : World) (hx : isNat w v x) (hy : isNat w u y) (hsx : (gr x).length ≤ 1000000) (hsy : (gr y).length ≤ 1000000) (hlt : x < y) :
  Calls Tryd.prog 94 #[v, u] w fun e w' => (∃ v1 v2, e = .returned (.tuple #[v1, v2]) ∧ isNat w' v1 (x / y) ∧ isNat w' v2 (x % y)) ∧ Below w.heap.size w w' := by
 rw [Nat.div_eq_of_lt hlt, Nat.mod_eq_of_lt hlt]
 have hl := xA x y v u w hx hy hsx hsy
 rw [decide_eq_true hlt] at hl
 have Hl := hide hl
 have Hx := hide hx
 clear hl hx hy hlt hsx hsy
 go_enter Tryd.func94, Tryd.ntmps94
 go_wp2_with fail
 refine (za Hl).mono ?_
 rintro e w1 ⟨rfl, hb1⟩
 go_wp2
 go_ret2
 have hbX := hb1.alloc hb1.size (.cells #[] 80)
 refine ⟨⟨_, _, rfl, ?_, zt (za Hx) hbX⟩, hbX⟩
 have := World.ownsRow_made (base := 0) (e := 80) (size := 1) w1 #[] 0 (Nat.zero_le _) (by decide) (by simp)
 unfold isNat
 rw [z7]
 exact this
theorem ki (x y : Nat) (v u : Value) (w : World) (hx : isNat w v x) (hy : isNat w u y) (hsx : (gr x).length ≤ 1000000) (hsy : (gr y).length ≤ 1000000) (hle : y ≤ x) (hy0 : 0 < y) :
  Calls Tryd.prog 94 #[v, u] w fun e w' => (∃ v1 v2, e = .returned (.tuple #[v1, v2]) ∧ isNat w' v1 (x / y) ∧ isNat w' v2 (x % y)) ∧ Below w.heap.size w w' := by
 obtain ⟨i0, hi, hz0, hz1, hz2⟩ := info_parts Tryd.infoU64
 have hl := xA x y v u w hx hy hsx hsy
 rw [decide_eq_false (by omega)] at hl
 have Hl := hide hl
 have Hx := hide hx
 have Hy := hide hy
 clear hl
 have hyne : gr y ≠ [] := fun h => by have := jK.1 h; omega
 have hml : (gr y).length ≤ (gr x).length := qa hle
 obtain ⟨m, hm⟩ : ∃ m, (gr y).length = m + 1 := ⟨(gr y).length - 1, by have : (gr y).length ≠ 0 := fun h => hyne (List.eq_nil_of_length_eq_zero h); omega⟩
 obtain ⟨n, hn⟩ : ∃ n, (gr x).length = n := ⟨_, rfl⟩
 obtain ⟨K, hKI⟩ : ∃ K : Nat, (n : Int) - m = K := ⟨n - m, by omega⟩
 obtain ⟨gy, cy, hu, hcy, _, hgy⟩ := zS hy (by omega)
 obtain ⟨gx, cx, hv, hcx, _, hgx⟩ := zS hx (by omega)
 subst hu
 subst hv
 have hcell := Hy.out.cellAt m (by omega)
 rw [zr _ _ (by omega)] at hcell
 have htop9 : (gr y)[m]'(by omega) < 1000000000 := gr_lt y _ (List.getElem_mem _)
 have htop0 : 0 < (gr y)[m]'(by omega) := by
  have := (xo (b := 1000000000) (by omega) y).2 ((gr y)[m]'(by omega)) (by
   rw [List.getLast?_eq_getElem?]
   show (gr y)[(gr y).length - 1]? = _
   rw [show (gr y).length - 1 = m from by omega]
   exact List.getElem?_eq_getElem _)
  omega
 have hsc := fun s hs hs0 => @ks y s m (gr y) rfl hm hs hs0
 obtain ⟨yt, hyt⟩ : ∃ a, (gr y)[m]'(by omega) = a := ⟨_, rfl⟩
 rw [hyt] at hcell htop9 htop0
 simp only [hyt] at hsc
 have hs0 := k5 htop9
 have hs9 := xM htop0
 obtain ⟨s, hs⟩ : ∃ s, 1000000000 / (yt + 1) = s := ⟨_, rfl⟩
 rw [hs] at hs0 hs9
 have hsc := hsc s hs hs0
 have hsI : (1000000000 : Int) / ((yt : Int) + 1) = (s : Int) := by rw [← hs]; rfl
 have Hsc := hide hsc
 have Hm := hide hm
 have Hn := hide hn
 rw [hm] at hml hsy hcy Hy Hl
 rw [hn] at hml hsx hcx Hx Hl
 rw [hm, hn]
 clear hx hy hsc hs hyt hyne hm hn
 go_enter Tryd.func94, Tryd.ntmps94
 go_wp2_with fail
 refine (za Hl).mono ?_
 clear Hl
 rintro e w1 ⟨rfl, hb1⟩
 have hcell1 : w1.cell? ⟨gy, m, none⟩ = some (.int .u64 (yt : Int)) := by rw [hb1.cell (p := ⟨gy, m, none⟩) hgy]; exact hcell
 go_wp2_with (refine wpList_make_full _ rfl (.tmp 31) (.tmp 31) 65 rfl w.heap.size 80 i0 (.int .u64 0) 1 Tryd.underlying65 hi hz0 hz1 .i64 .i64 ((n + 1 : Nat) : Int) ((n + 1 : Nat) : Int) (n + 1) rfl rfl rfl rfl (by rw [hz2]; omega) (by unfold maxLen; omega) hb1.size ?_; intro w2 hown2 hg2)
 have hb2 : Below w.heap.size w w2 := hb1.grown hg2 hb1.size (fun _ h => by cases h)
 have hxs9 : (gr (x * s)).length ≤ n + 1 := by
  apply z9 (by omega)
  have h1 : x < 1000000000 ^ n := by have := qR (b := 1000000000) (by omega) x; rwa [show (dg 1000000000 x).length = n from za Hn] at this
  rw [Nat.pow_succ]
  exact Nat.mul_lt_mul'' h1 hs9
 refine (j1 x s _ _ (zt (za Hx) hb2) (by rw [za Hn]; exact hsx) hs9).mono ?_
 rintro e w3 ⟨⟨v3, rfl, hv3⟩, hb3⟩
 have hown3 := zt hown2 hb3
 have hb03 := hb2.trans (hb3.mono hb2.size)
 rw [show (madeCells (Value.int IntKind.u64 0).cells ((n + 1) * 1)).toList = u64s (List.replicate (n + 1) 0) from by
  rw [Nat.mul_one, show (Value.int IntKind.u64 0).cells = #[.int .u64 0] from rfl, toList_madeCells_one, qA]] at hown3
 have hblk := vA hown3
 obtain ⟨p3, c3, hv3s⟩ := zx hv3
 subst hv3s
 obtain ⟨k3, hk3⟩ : ∃ k3, (gr (x * s)).length = k3 := ⟨_, rfl⟩
 have hsome := fun h => zS hv3 h
 have hcells := fun g cap (h : Value.slice p3 (gr (x * s)).length c3 = .slice (some ⟨g, 0, none⟩) (gr (x * s)).length cap) => (h ▸ hv3 : w3.ownsRow w2.heap.size 80 1 (.slice (some ⟨g, 0, none⟩) (gr (x * s)).length cap) (gr (x * s)).length (u64s (gr (x * s)))).cells (g := g) rfl
 have hpos : 0 < (u64s (gr (x * s))).length → ∃ ad, p3 = some ad ∧ ∀ j v, (u64s (gr (x * s)))[j]? = some v → w3.cell? (ad.add j) = some v := by
  intro h
  obtain ⟨g, cap, hh, _⟩ := hsome (by rwa [qL] at h)
  have h2 := hcells g cap hh
  simp only [Value.slice.injEq, true_and] at hh
  exact ⟨_, hh.1, h2⟩
 have Hblk := hide hblk
 have Hpos := hide hpos
 have hsz1 := hb1.size
 clear hblk hpos hsome hcells hown3 hown2 hg2 hb1 hb2 hb3 hv3 hcell hcell1
 have hk3l : k3 ≤ n + 1 := by omega
 have Hk3 := hide hk3
 rw [hk3]
 clear hk3
 go_wp2_with (refine wpList_copy_splice rfl (.tmp 33) (.tmp 36) 65 65 rfl 80 Tryd.underlying65 (by simp [hi, hz1]) (some ⟨w1.heap.size, 0, none⟩) p3 (n + 1) (n + 1) k3 c3 rfl rfl w1.heap.size 0 (u64s (List.replicate (n + 1) 0)) 80 (za Hblk) (u64s (gr (x * s))) (by rw [qL, za Hk3]; exact (Nat.min_eq_left hk3l).symm) (fun h => ⟨rfl, za Hpos h⟩) (by simp [u64s]; have := za Hk3; omega) (xQ _) w.heap.size w hb03 hsz1 ?_; intro w4 hg4 hb4)
 have hrow : splice (u64s (List.replicate (n + 1) 0)) 0 (u64s (gr (x * s))) = u64s (gr (x * s) ++ List.replicate (n + 1 - k3) 0) := by
  unfold splice
  rw [List.take_zero, List.nil_append, Nat.zero_add, qL, za Hk3, ← xd, List.drop_replicate, y3]
 have hg4' := za hg4
 rw [hrow] at hg4'
 have hLl : (gr (x * s) ++ List.replicate (n + 1 - k3) 0).length = n + 1 := by
  rw [List.length_append, List.length_replicate, za Hk3]; omega
 have hLo : ofd 1000000000 (gr (x * s) ++ List.replicate (n + 1 - k3) 0) = x * s := by rw [x3, q2]
 have hLd : ∀ d ∈ gr (x * s) ++ List.replicate (n + 1 - k3) 0, d < 1000000000 := by
  intro d hd
  rcases List.mem_append.1 hd with h | h
  ·exact gr_lt _ d h
  ·simp at h; omega
 have hownL := jC (base := w.heap.size) (n := n + 1) hg4' (by rw [qL]; exact hLl) (by unfold maxLen; omega) hsz1
 have hgl4 : w1.heap.size < w4.heap.size := (Array.getElem?_eq_some_iff.1 hg4').1
 generalize gr (x * s) ++ List.replicate (n + 1 - k3) 0 = L0 at *
 have HLl := hide hLl
 have HLo := hide hLo
 have HLd := hide hLd
 have HownL := hide hownL
 generalize w1.heap.size = gl at *
 clear hrow hg4 hg4' hLl hLo hLd hownL Hblk Hpos hb03 hxs9
 refine (j1 y s _ _ (zt (za Hy) hb4) (by rw [za Hm]; exact hsy) hs9).mono ?_
 rintro e w5 ⟨⟨v5, rfl, hv5⟩, hb5⟩
 have hl5 := (za Hsc).1
 obtain ⟨gb, cb, hv5s, hcb, hgb4, hgb5⟩ := zS hv5 (by omega)
 subst hv5s
 rw [hl5] at hcb
 have hownL5 := zt (za HownL) hb5
 have hb05 := hb4.trans (hb5.mono hb4.size)
 have hys9 := gr_lt (y * s)
 have hyso := q2 (y * s)
 have hytop := (xo (b := 1000000000) (by omega) (y * s)).2
 rw [show dg 1000000000 (y * s) = gr (y * s) from rfl] at hytop
 have hYl := (za Hsc).2
 unfold isNatB at hv5
 have hpos0 : 0 < y * s := Nat.mul_pos hy0 hs0
 have hstart := fun L hL hLl => @kk x y s n m L (za Hn) (za Hm) hml hL hLl hs0
 have Hstart := hide (hstart L0 (za HLo) (za HLl))
 obtain ⟨Y, hY⟩ : ∃ Y, y * s = Y := ⟨_, rfl⟩
 rw [hY] at hl5 hv5 hys9 hyso hYl hpos0 Hstart
 rw [hY] at hytop
 rw [show (gr (y * s)).length = m + 1 from (za Hsc).1]
 generalize gr Y = ys at *
 have HY := hide hY
 have Hys9 := hide hys9
 have Hytop := hide hytop
 have Hyso := hide hyso
 have HYl := hide hYl
 have Hl5 := hide hl5
 clear hys9 hyso hytop hYl hY hstart hb4 hb5 HownL hsc hl5
 go_wp2_with (refine wpList_make_full _ rfl (.tmp 44) (.tmp 44) 65 rfl w.heap.size 80 i0 (.int .u64 0) 1 Tryd.underlying65 hi hz0 hz1 .i64 .i64 K K K rfl rfl rfl rfl (by rw [hz2]; omega) (by unfold maxLen; omega) hb05.size ?_; intro w6 hown6 hg6)
 have hownO0 : w6.ownsRow w.heap.size 80 1 (.slice (some ⟨w5.heap.size, 0, none⟩) K K) K (u64s (List.replicate K 0)) := by
  simpa [Value.cells, toList_madeCells_one, qA] using hown6
 have hb56 : Below w5.heap.size w5 w6 := (Below.refl _ _).grown hg6 (Nat.le_refl _) (fun _ h => by cases h)
 have hownL6 := zt hownL5 hb56
 have hownB6 := ql (zt hv5 hb56) (Nat.zero_le _)
 rw [za Hl5] at hownB6
 have hb06 := hb05.trans (hb56.mono hb05.size)
 have hob : w.heap.size ≤ w5.heap.size := hb05.size
 generalize w5.heap.size = bo at *
 have hglb : gl ≠ gb := by omega
 have hgbo : gb ≠ bo := by omega
 have hglo : gl ≠ bo := by omega
 have hK0 : 0 < K := by omega
 have hnK : n = m + K := by omega
 have HnK := hide hnK
 clear hown6 hg6 hv5 hownL5 hb56 hb05 hnK
 go_loopw [10] (fun i wr => ∃ (k : Nat) (L O : List Nat), k ≤ K ∧ i = .int .i64 ((k : Int) - 1) ∧ L.length = n + 1 ∧ O.length = K ∧
   wr.ownsRow w.heap.size 80 1 (.slice (some ⟨gl, 0, none⟩) (n + 1) (n + 1)) (n + 1) (u64s L) ∧ wr.ownsRow w.heap.size 80 1 (.slice (some ⟨bo, 0, none⟩) K K) K (u64s O) ∧
   wr.ownsRow 0 80 1 (.slice (some ⟨gb, 0, none⟩) (m + 1) cb) (m + 1) (u64s ys) ∧ Below w.heap.size w wr ∧ Hid (∀ d ∈ L, d < 1000000000) ∧ Hid (∀ d ∈ O, d < 1000000000) ∧
   Hid (x * s = ofd 1000000000 (L.take k) + 1000000000 ^ k * (Y * ofd 1000000000 (O.drop k) + ofd 1000000000 (L.drop k))) ∧ Hid (ofd 1000000000 (L.drop k) < Y))
  (fun i _ => ((intOf i) + 1).toNat)
 case atStart =>
  refine ⟨K, L0, List.replicate K 0, Nat.le_refl _, rfl, za HLl, by simp, hownL6, hownO0, hownB6, hb06, HLd, hide (by intro d hd; simp at hd; omega), ?_, ?_⟩
  ·show _ = _
   rw [List.drop_of_length_le (by simp), ofd, Nat.mul_zero, Nat.zero_add, ← qt 1000000000 L0 K (by rw [za HLl]; have := za HnK; omega), za HLo]
  ·show _ < _
   have := za Hstart
   rwa [show n - m = K from by have := za HnK; omega] at this
 case round =>
  clear hownL6 hownO0 hownB6 hb06
  obtain ⟨k, L, O, hk, rfl, hLl, hOl, hownL, hownO, hownB, hb, hLd, hOd, hinv, hR⟩ := hrel
  cases k with
  | zero =>
   rw [show (((0 : Nat) : Int) - 1) = -1 from rfl]
   have hinv0 : x * s = Y * ofd 1000000000 O + ofd 1000000000 L := by have := za hinv; simpa [ofd] using this
   have hR0 : ofd 1000000000 L < Y := by have := za hR; simpa using this
   have hend := xJ (x := x) (y := y) (s := s) (Q := ofd 1000000000 O) (R := ofd 1000000000 L) (by rw [za HY]; exact hinv0) (by rw [za HY]; exact hR0) hs0
   have Hend := hide hend
   have HO := hide hownO
   have hLlen := qa (Nat.le_of_lt hR0)
   have hYlen : (gr Y).length ≤ 1000000 := by rw [← za HY, (za Hsc).1]; omega
   clear hinv0 hR0 hend hinv hR hownO hownB
   go_wp2_with fail
   refine (qT L w.heap.size _ _ (by omega) (za hLd) (by rw [hLl]; exact hownL)).mono ?_
   rintro e w7 ⟨⟨v7, rfl, hv7⟩, rfl⟩
   have hv7n := hv7.nat
   clear hv7
   go_wp2_with fail
   refine (kg (ofd 1000000000 L) s v7 _ hv7n (by omega) hs0 hs9).mono ?_
   rintro e w8 ⟨⟨v8, rfl, hv8⟩, hb8⟩
   have hO8 := zt (za HO) hb8
   have hbZ := hb.trans (hb8.mono hb.size)
   rw [(za Hend).2] at hv8
   clear hownL hv7n
   go_wp2_with fail
   refine (qT O w.heap.size _ _ (by omega) (za hOd) (by rw [hOl]; exact hO8)).mono ?_
   rintro e w9 ⟨⟨v9, rfl, hv9⟩, rfl⟩
   have hv9n := hv9.nat
   rw [← (za Hend).1] at hv9n
   clear hv9 hO8
   go_wp2
   go_ret2
   exact ⟨⟨_, _, rfl, hv9n, hv8⟩, hbZ⟩
  | succ i =>
   rw [show (((i + 1 : Nat) : Int) - 1) = (i : Int) from by omega]
   have hin : i + (m + 1) < L.length := by have := za HnK; omega
   have hcT1 := hownL.cellAt (i + (m + 1)) (by omega)
   rw [zr _ _ hin] at hcT1
   have hcT0 := hownL.cellAt (i + m) (by omega)
   rw [zr _ _ (by omega)] at hcT0
   have hcY := hownB.cellAt m (by omega)
   rw [zr _ _ (by have := za Hl5; omega)] at hcY
   obtain ⟨v0, hv0⟩ := zZ hownO i (by omega)
   have hfO := hownO.frozenAt i
   have hiI : (i : Int) + (m + 1) < n + 1 := by have := za HnK; omega
   have hiK : (i : Int) < K := by omega
   have hT1 : L[i + (m + 1)]'hin < 1000000000 := za hLd _ (List.getElem_mem _)
   have hT0 : L[i + m]'(by omega) < 1000000000 := za hLd _ (List.getElem_mem _)
   have hwt := x7 (za hLd) i m hin
   have htl := Ze (za Hl5)
   have hyl0 : 0 < ys[m]'(by have := za Hl5; omega) := by
    have hl5 := za Hl5
    have := za Hytop (ys[m]'(by omega)) (by
     rw [List.getLast?_eq_getElem?, show ys.length - 1 = m from by omega]
     exact List.getElem?_eq_getElem _)
    omega
   have hyl9 : ys[m]'(by have := za Hl5; omega) < 1000000000 := za Hys9 _ (List.getElem_mem _)
   generalize L[i + (m + 1)]'hin = ta at *
   generalize L[i + m]'(by omega) = tb at *
   generalize ys[m]'(by have := za Hl5; omega) = yl at *
   have Hwt := hide hwt
   have Htl := hide htl
   clear hwt htl
   obtain ⟨q0, hq0⟩ : ∃ q : Nat, ((ta : Int) * 1000000000 + tb) / yl = q := ⟨(ta * 1000000000 + tb) / yl, rfl⟩
   have Hq0 : Hid ((ta * 1000000000 + tb) / yl = q0) := by
    show _ = _
    have : (((ta * 1000000000 + tb) / yl : Nat) : Int) = (q0 : Int) := by rw [← hq0]; rfl
    omega
   have hq0d : ((ta : Int) * 1000000000 + tb).tdiv yl = q0 := by rw [Int.tdiv_eq_ediv_of_nonneg (by omega)]; exact hq0
   have hq0le : q0 ≤ ta * 1000000000 + tb := by rw [← za Hq0]; exact Nat.div_le_self _ _
   have e1 := wi64 ((m : Int) + 1) (by omega) (by omega)
   have e2 : ((m : Int) + 1).toNat = m + 1 := by omega
   have e3 := wu64 ((ta : Int) * 1000000000) (by omega) (by omega)
   have e4 := wu64 ((ta : Int) * 1000000000 + tb) (by omega) (by omega)
   have e5 : i + (m + 1) + 1 - i = m + 1 + 1 := by omega
   have e6 := wu64 (q0 : Int) (by omega) (by omega)
   have hyl0I : (0 : Int) < yl := by omega
   have hyl0N : ¬ (yl : Int) = 0 := by omega
   go_wp2_with fail
   go_region
   have hV := xI (m := m + 1) (by omega) (za hLd) (za hR) (za HYl)
   have hVq : win L i (m + 1 + 1) / Y ≤ 999999999 := by
    have := (Nat.div_lt_iff_lt_mul hpos0).2 hV.2.2
    omega
   have hVg : win L i (m + 1 + 1) / Y ≤ q0 := by
    have h1 := xw (Y := Y) (za Hwt) (by rw [← za Hyso]; exact za Htl) hyl0
    rw [za Hq0] at h1; exact h1
   have HVq := hide hVq
   have HVg := hide hVg
   clear hV hVq hVg
   go_wp2_with fail
   ·
    obtain ⟨q1, hq1⟩ : ∃ q1 : Nat, 999999999 = q1 := ⟨_, rfl⟩
    rw [show (999999999 : Int) = (q1 : Int) from by rw [← hq1]; rfl]
    have HV1 : Hid (win L i (m + 1 + 1) / Y ≤ q1) := by rw [← hq1]; exact HVq
    have hq9 : q1 < 1000000000 := by omega
    clear hq1
    have hO1 := (hownO.stored i (.int .u64 (q1 : Int))).1
    rw [z6 _ _ q1 _ rfl] at hO1
    have hbW := (hb.setCell (p := ⟨bo, i, none⟩) hob (.int .u64 (q1 : Int))).drew
    have hL1 := ownsRow_setCell_other hownL (a := ⟨bo, i, none⟩) (by simp [Value.ownBlock]; omega) (.int .u64 (q1 : Int))
    have hB1 := ownsRow_setCell_other hownB (a := ⟨bo, i, none⟩) (by simp [Value.ownBlock]; omega) (.int .u64 (q1 : Int))
    have h := yd L ys gl gb i (m + 1) (n + 1) (n + 1 - i) cb q1 w.heap.size _ (za Hl5) hLl (by omega) (by omega) (by omega) (qv hL1) (qv hB1) (by omega) (za hLd) (za Hys9) hq9
    refine h.mono ?_
    clear h
    rintro e w7 ⟨neg, L1, rfl, hL7, hg7, hso7, hw7⟩
    have hO7 := (qv hO1).kept hg7 (.inr (by simp [Value.ownBlock]; omega))
    have hB7 := (qv hB1).kept hg7 (.inr (by simp [Value.ownBlock]; omega))
    have hb7 := hbW.grown hg7 hbW.size (fun k hk => by cases hk; omega)
    rw [za Hyso] at hw7
    have Hso7 := hide hso7
    have Hw7 := hide hw7
    clear hO1 hL1 hB1 hbW hg7 hso7 hw7
    go_wp2_with fail
    go_loopw [12] (fun bl wr => ∃ (q : Nat) (neg : Bool) (L2 : List Nat), bl = .bool neg ∧ q < 1000000000 ∧ wr.ownsRow w.heap.size 80 1 (.slice (some ⟨gl, 0, none⟩) (n + 1) (n + 1)) (n + 1) (u64s L2) ∧ wr.ownsRow w.heap.size 80 1 (.slice (some ⟨bo, 0, none⟩) K K) K (u64s (O.set i q)) ∧
      wr.ownsRow 0 80 1 (.slice (some ⟨gb, 0, none⟩) (m + 1) cb) (m + 1) (u64s ys) ∧ Below w.heap.size w wr ∧ Hid (zH L L2 i (m + 1 + 1)) ∧
      Hid (win L2 i (m + 1 + 1) + q * Y = win L i (m + 1 + 1) + if neg then 1000000000 ^ (m + 1 + 1) else 0) ∧ Hid (win L i (m + 1 + 1) / Y ≤ q))
     (fun _ wr => cellN wr bo i)
    case atStart => exact ⟨q1, neg, L1, rfl, hq9, hL7, hO7, hB7, hb7, Hso7, Hw7, HV1⟩
    case round =>
     clear hL7 hO7 hB7 hb7 Hso7 Hw7 HV1 hownL hownO hownB hb
     obtain ⟨q, ng, L2, rfl, hq, hL2, hO2, hB2, hb2, hso2, hw2, hV2⟩ := hrel
     cases ng with
     | false =>
      go_wp2_with fail
      go_roundw
      case rel =>
       have hw3 : win L2 i (m + 1 + 1) + q * Y = win L i (m + 1 + 1) := by have := za hw2; simpa using this
       have hlt3 := vz hw3 (za hV2) hpos0
       have hst := vZ (m := m + 1) (by omega) (by omega) (za hLd) (za HYl) (za hinv) (za hR) (za hso2) hw3 hlt3
       exact ⟨i, L2, O.set i q, by omega, rfl, (za hso2).1.trans hLl, by simpa using hOl, hL2, hO2, hB2, hb2, hide (za hso2).2.1, hide (qy (za hOd) hq), hide hst.1, hide hst.2⟩
      case measure => simp [intOf]
     | true =>
      have hcO := hO2.cellAt i (by omega)
      rw [zr _ _ (by simp; omega), List.getElem_set_self] at hcO
      have hfO2 := hO2.frozenAt i
      have hmore := vY (za hw2) (kx (za hso2).2.1 i (m + 1 + 1) (by have := (za hso2).1; omega))
      have hq0' : 0 < q := Nat.lt_of_le_of_lt (Nat.zero_le _) hmore
      obtain ⟨q', rfl⟩ : ∃ q', q = q' + 1 := ⟨q - 1, by omega⟩
      have HV3 : Hid (win L i (m + 1 + 1) / Y ≤ q') := Nat.le_of_lt_succ hmore
      clear hmore
      have hO3 := (hO2.stored i (.int .u64 (q' : Int))).1
      rw [z6 _ _ q' _ rfl, List.set_set] at hO3
      have hbW := hb2.setCell (p := ⟨bo, i, none⟩) hob (.int .u64 (q' : Int))
      have hL3 := ownsRow_setCell_other hL2 (a := ⟨bo, i, none⟩) (by simp [Value.ownBlock]; omega) (.int .u64 (q' : Int))
      have hB3 := ownsRow_setCell_other hB2 (a := ⟨bo, i, none⟩) (by simp [Value.ownBlock]; omega) (.int .u64 (q' : Int))
      have hcq : cellN wr bo i = q' + 1 := jb hcO
      have Hcq := hide hcq
      have hL2l := (za hso2).1.trans hLl
      have HO3 := hide hO3
      clear hL2 hO2 hB2 hb2 hcq hO3
      go_wp2_with fail
      have h := yb L2 ys gl gb i (m + 1) (n + 1) (n + 1 - i) cb w.heap.size _ (za Hl5) hL2l (by omega) (by omega) (by omega) hL3 hB3 (by omega) (za hso2).2.1 (za Hys9)
      refine h.mono ?_
      clear h
      rintro e w8 ⟨up, L3, rfl, hL8, hg8, hso8, hw8⟩
      have hO8 := (za HO3).kept hg8 (.inr (by simp [Value.ownBlock]; omega))
      have hB8 := hB3.kept hg8 (.inr (by simp [Value.ownBlock]; omega))
      have hb8 := hbW.grown hg8 hbW.size (fun k hk => by cases hk; omega)
      have hc8 := hO8.cellAt i (by omega)
      rw [zr _ _ (by simp; omega), List.getElem_set_self] at hc8
      have Hc8 := hide (jb hc8)
      have Hso8 : Hid (zH L L3 i (m + 1 + 1)) := jq (za hso2) hso8
      have Hw8 : Hid (win L3 i (m + 1 + 1) + q' * Y = win L i (m + 1 + 1) + if (!up) then 1000000000 ^ (m + 1 + 1) else 0) := by
       rw [za Hyso] at hw8
       exact jp (za hw2) hw8
      clear hc8 hL3 hB3 hbW hg8 hso8 hw8 hso2 hw2
      have hnot : ∀ (x : Bool) (w : World), (Op.unary .not (.bool x)).run Tryd.prog w = .ok (.bool (!x)) w := fun _ _ => rfl
      go_wp2_with fail
      go_roundw
      case rel => exact ⟨q', !up, L3, rfl, by omega, hL8, hO8, hB8, hb8, Hso8, Hw8, HV3⟩
      case measure => rw [za Hc8, za Hcq]; omega
   ·
    obtain ⟨q1, hq1⟩ : ∃ q1 : Nat, q0 = q1 := ⟨_, rfl⟩
    have hq9 : q1 < 1000000000 := by omega
    rw [hq1]
    have HV1 : Hid (win L i (m + 1 + 1) / Y ≤ q1) := by rw [← hq1]; exact HVg
    clear hq1
    have hO1 := (hownO.stored i (.int .u64 (q1 : Int))).1
    rw [z6 _ _ q1 _ rfl] at hO1
    have hbW := (hb.setCell (p := ⟨bo, i, none⟩) hob (.int .u64 (q1 : Int))).drew
    have hL1 := ownsRow_setCell_other hownL (a := ⟨bo, i, none⟩) (by simp [Value.ownBlock]; omega) (.int .u64 (q1 : Int))
    have hB1 := ownsRow_setCell_other hownB (a := ⟨bo, i, none⟩) (by simp [Value.ownBlock]; omega) (.int .u64 (q1 : Int))
    have h := yd L ys gl gb i (m + 1) (n + 1) (n + 1 - i) cb q1 w.heap.size _ (za Hl5) hLl (by omega) (by omega) (by omega) (qv hL1) (qv hB1) (by omega) (za hLd) (za Hys9) hq9
    refine h.mono ?_
    clear h
    rintro e w7 ⟨neg, L1, rfl, hL7, hg7, hso7, hw7⟩
    have hO7 := (qv hO1).kept hg7 (.inr (by simp [Value.ownBlock]; omega))
    have hB7 := (qv hB1).kept hg7 (.inr (by simp [Value.ownBlock]; omega))
    have hb7 := hbW.grown hg7 hbW.size (fun k hk => by cases hk; omega)
    rw [za Hyso] at hw7
    have Hso7 := hide hso7
    have Hw7 := hide hw7
    clear hO1 hL1 hB1 hbW hg7 hso7 hw7
    go_wp2_with fail
    go_loopw [12] (fun bl wr => ∃ (q : Nat) (neg : Bool) (L2 : List Nat), bl = .bool neg ∧ q < 1000000000 ∧ wr.ownsRow w.heap.size 80 1 (.slice (some ⟨gl, 0, none⟩) (n + 1) (n + 1)) (n + 1) (u64s L2) ∧ wr.ownsRow w.heap.size 80 1 (.slice (some ⟨bo, 0, none⟩) K K) K (u64s (O.set i q)) ∧
      wr.ownsRow 0 80 1 (.slice (some ⟨gb, 0, none⟩) (m + 1) cb) (m + 1) (u64s ys) ∧ Below w.heap.size w wr ∧ Hid (zH L L2 i (m + 1 + 1)) ∧
      Hid (win L2 i (m + 1 + 1) + q * Y = win L i (m + 1 + 1) + if neg then 1000000000 ^ (m + 1 + 1) else 0) ∧ Hid (win L i (m + 1 + 1) / Y ≤ q))
     (fun _ wr => cellN wr bo i)
    case atStart => exact ⟨q1, neg, L1, rfl, hq9, hL7, hO7, hB7, hb7, Hso7, Hw7, HV1⟩
    case round =>
     clear hL7 hO7 hB7 hb7 Hso7 Hw7 HV1 hownL hownO hownB hb
     obtain ⟨q, ng, L2, rfl, hq, hL2, hO2, hB2, hb2, hso2, hw2, hV2⟩ := hrel
     cases ng with
     | false =>
      go_wp2_with fail
      go_roundw
      case rel =>
       have hw3 : win L2 i (m + 1 + 1) + q * Y = win L i (m + 1 + 1) := by have := za hw2; simpa using this
       have hlt3 := vz hw3 (za hV2) hpos0
       have hst := vZ (m := m + 1) (by omega) (by omega) (za hLd) (za HYl) (za hinv) (za hR) (za hso2) hw3 hlt3
       exact ⟨i, L2, O.set i q, by omega, rfl, (za hso2).1.trans hLl, by simpa using hOl, hL2, hO2, hB2, hb2, hide (za hso2).2.1, hide (qy (za hOd) hq), hide hst.1, hide hst.2⟩
      case measure => simp [intOf]
     | true =>
      have hcO := hO2.cellAt i (by omega)
      rw [zr _ _ (by simp; omega), List.getElem_set_self] at hcO
      have hfO2 := hO2.frozenAt i
      have hmore := vY (za hw2) (kx (za hso2).2.1 i (m + 1 + 1) (by have := (za hso2).1; omega))
      have hq0' : 0 < q := Nat.lt_of_le_of_lt (Nat.zero_le _) hmore
      obtain ⟨q', rfl⟩ : ∃ q', q = q' + 1 := ⟨q - 1, by omega⟩
      have HV3 : Hid (win L i (m + 1 + 1) / Y ≤ q') := Nat.le_of_lt_succ hmore
      clear hmore
      have hO3 := (hO2.stored i (.int .u64 (q' : Int))).1
      rw [z6 _ _ q' _ rfl, List.set_set] at hO3
      have hbW := hb2.setCell (p := ⟨bo, i, none⟩) hob (.int .u64 (q' : Int))
      have hL3 := ownsRow_setCell_other hL2 (a := ⟨bo, i, none⟩) (by simp [Value.ownBlock]; omega) (.int .u64 (q' : Int))
      have hB3 := ownsRow_setCell_other hB2 (a := ⟨bo, i, none⟩) (by simp [Value.ownBlock]; omega) (.int .u64 (q' : Int))
      have hcq : cellN wr bo i = q' + 1 := jb hcO
      have Hcq := hide hcq
      have hL2l := (za hso2).1.trans hLl
      have HO3 := hide hO3
      clear hL2 hO2 hB2 hb2 hcq hO3
      go_wp2_with fail
      have h := yb L2 ys gl gb i (m + 1) (n + 1) (n + 1 - i) cb w.heap.size _ (za Hl5) hL2l (by omega) (by omega) (by omega) hL3 hB3 (by omega) (za hso2).2.1 (za Hys9)
      refine h.mono ?_
      clear h
      rintro e w8 ⟨up, L3, rfl, hL8, hg8, hso8, hw8⟩
      have hO8 := (za HO3).kept hg8 (.inr (by simp [Value.ownBlock]; omega))
      have hB8 := hB3.kept hg8 (.inr (by simp [Value.ownBlock]; omega))
      have hb8 := hbW.grown hg8 hbW.size (fun k hk => by cases hk; omega)
      have hc8 := hO8.cellAt i (by omega)
      rw [zr _ _ (by simp; omega), List.getElem_set_self] at hc8
      have Hc8 := hide (jb hc8)
      have Hso8 : Hid (zH L L3 i (m + 1 + 1)) := jq (za hso2) hso8
      have Hw8 : Hid (win L3 i (m + 1 + 1) + q' * Y = win L i (m + 1 + 1) + if (!up) then 1000000000 ^ (m + 1 + 1) else 0) := by
       rw [za Hyso] at hw8
       exact jp (za hw2) hw8
      clear hc8 hL3 hB3 hbW hg8 hso8 hw8 hso2 hw2
      have hnot : ∀ (x : Bool) (w : World), (Op.unary .not (.bool x)).run Tryd.prog w = .ok (.bool (!x)) w := fun _ _ => rfl
      go_wp2_with fail
      go_roundw
      case rel => exact ⟨q', !up, L3, rfl, by omega, hL8, hO8, hB8, hb8, Hso8, Hw8, HV3⟩
      case measure => rw [za Hc8, za Hcq]; omega
theorem kh (x y : Nat) (v u : Value) (w : World) (hx : isNat w v x) (hy : isNat w u y) (hsx : (gr x).length ≤ 1000000) (hsy : (gr y).length ≤ 1000000) (hy0 : 0 < y) :
  Calls Tryd.prog 94 #[v, u] w fun e w' => (∃ v1 v2, e = .returned (.tuple #[v1, v2]) ∧ isNat w' v1 (x / y) ∧ isNat w' v2 (x % y)) ∧ Below w.heap.size w w' := by
 rcases Nat.lt_or_ge x y with h | h
 ·exact kj x y v u w hx hy hsx hsy h
 ·exact ki x y v u w hx hy hsx hsy h hy0
def valU (w : World) : Value → Nat
 | .slice (some a) n _ => ofd 1000000000 ((List.range n).map fun j => cellN w a.block j)
 | _ => 0
theorem kJ {w : World} {v : Value} {x : Nat} (h : isNat w v x) : valU w v = x := by
 have ho := q2 x
 unfold isNat at h
 generalize gr x = xs at *
 rcases qS h with ⟨rfl, hn, _⟩ | ⟨g, cap, rfl, _⟩
 ·have : xs = [] := List.eq_nil_of_length_eq_zero hn
  subst this
  simp [valU]; simpa [ofd] using ho
 ·show ofd 1000000000 ((List.range xs.length).map fun j => cellN w g j) = x
  rw [← ho]
  congr 1
  apply List.ext_getElem
  ·simp
  ·intro j h1 h2
   simp only [List.getElem_map, List.getElem_range]
   apply jb
   rw [h.cellAt j (by omega), zr _ _ h2]
theorem gcd_c (x y : Nat) (v u : Value) (w : World) (hx : isNat w v x) (hy : isNat w u y) (hsx : (gr x).length ≤ 1000000) (hsy : (gr y).length ≤ 1000000) :
  Calls Tryd.prog 50 #[v, u] w fun e w' => (∃ v', e = .returned v' ∧ isNat w' v' (Nat.gcd x y)) ∧ Below w.heap.size w w' := by
 go_enter Tryd.func50, Tryd.ntmps50
 go_wp2
 go_loopw [0, 1] (fun a b wr => ∃ (x' y' : Nat), isNat wr a x' ∧ isNat wr b y' ∧ (gr x').length ≤ 1000000 ∧ (gr y').length ≤ 1000000 ∧ Below w.heap.size w wr ∧ Hid (Nat.gcd x' y' = Nat.gcd x y))
  (fun _ b wr => valU wr b)
 case atStart => exact ⟨x, y, hx, hy, hsx, hsy, Below.refl _ _, hide rfl⟩
 case round =>
  obtain ⟨x', y', hx', hy', hsx', hsy', hb, hg⟩ := hrel
  obtain ⟨p, cap, hv⟩ := zx hy'
  by_cases hz : y' = 0
  ·subst hz
   rw [z7] at hv
   subst hv
   go_wp2
   go_ret
   refine ⟨⟨_, rfl, ?_⟩, hb⟩
   rw [← za hg, Nat.gcd_zero_right]
   exact hx'
  ·have hn0 : 0 < (gr y').length := by
    rcases Nat.eq_zero_or_pos (gr y').length with h | h
    ·exact absurd (jK.1 (List.eq_nil_of_length_eq_zero h)) hz
    ·exact h
   have hnI : ¬ ((gr y').length : Int) ≤ 0 := by omega
   have Hy := hide hy'
   have Hx := hide hx'
   subst hv
   clear hx' hy'
   go_wp2_with fail
   refine (kh x' y' _ _ _ (za Hx) (za Hy) hsx' hsy' (by omega)).mono ?_
   rintro e w1 ⟨⟨v1, v2, rfl, hv1, hv2⟩, hb1⟩
   have hy1 := zt (za Hy) hb1
   have hlt := Nat.mod_lt x' (show 0 < y' by omega)
   have hlen := qa (Nat.le_of_lt hlt)
   have hm1 := kJ (za Hy)
   have hm2 := kJ hv2
   have Hm1 := hide hm1
   have Hm2 := hide hm2
   have HV2 := hide hv2
   have HY1 := hide hy1
   clear hm1 hm2 hv2 hv1 hy1
   go_wp2_with fail
   go_roundw
   case rel =>
    refine ⟨y', x' % y', za HY1, za HV2, hsy', by omega, hb.trans (hb1.mono hb.size), hide ?_⟩
    rw [Nat.gcd_comm y', ← Nat.gcd_rec y' x', Nat.gcd_comm, za hg]
   case measure =>
    rw [za Hm2, za Hm1]; exact hlt
theorem kG (N : Nat) (w : World) (hN : N < 18446744073709551616) :
  Calls Tryd.prog 55 #[.int .u64 N] w fun e w' => (∃ v', e = .returned v' ∧ isNat w' v' N) ∧ Below w.heap.size w w' := by
 obtain ⟨i0, hi, hz0, hz1, hz2⟩ := info_parts Tryd.infoU64
 have hlen : (gr N).length ≤ 3 := z9 (by omega) (Nat.lt_of_lt_of_le hN (by decide))
 have Hlen := hide hlen
 clear hlen
 go_enter Tryd.func55, Tryd.ntmps55
 go_wp2
 go_loopw [0, 3] (fun wd v wr => ∃ (k : Nat) (xs : List Nat), wd = .int .u64 k ∧ k < 18446744073709551616 ∧ wr.ownsRow w.heap.size 80 1 v xs.length (u64s xs) ∧ Below w.heap.size w wr ∧ Hid (gr N = xs ++ gr k))
  (fun wd _ _ => (intOf wd).toNat)
 case atStart =>
  exact ⟨N, [], rfl, hN, World.ownsRow_made w #[] 0 (Nat.le_refl _) (by decide) (by simp), (Below.refl _ _).alloc (Nat.le_refl _) _, hide (by simp)⟩
 case round =>
  obtain ⟨k, xs, rfl, hk, hown, hb, hgr⟩ := hrel
  by_cases hz : 0 < k
  ·have hg := qp (b := 1000000000) (by omega) hz
   have hxl : xs.length ≤ 3 := by
    have h1 := congrArg List.length (za hgr)
    have := za Hlen
    rw [List.length_append] at h1; omega
   obtain ⟨d, hd⟩ : ∃ d : Nat, (k : Int) % 1000000000 = d := ⟨k % 1000000000, by omega⟩
   obtain ⟨q, hq⟩ : ∃ d : Nat, (k : Int) / 1000000000 = d := ⟨k / 1000000000, by omega⟩
   have hgr2 : gr N = (xs ++ [d]) ++ gr q := by
    rw [za hgr]
    unfold gr
    rw [hg, show k % 1000000000 = d from by omega, show k / 1000000000 = q from by omega]; simp
   have Hgr2 := hide hgr2
   have hw := hb.size
   clear hg hgr2
   go_wp2_with (at_builtin; refine wpList_append_own _ rfl (.tmp 9) (.tmp 12) 65 rfl w.heap.size 80 i0 (.int .u64 0) 1 8 Tryd.underlying65 hi hz0 hz1 hz2 rfl (by decide) _ _ _ rfl (hown.alloc _) ⟨wr.heap.size, 0, none⟩ 1 1 [.int .u64 d] rfl rfl (cell_one_new _ _ _) (by intro u hu; simp at hu; subst hu; rfl) (by unfold maxLen; omega) (by omega) (by simp; omega) ?_; intro v2 w2 hown2 hg2 _)
   have hbX := zG (hb.alloc hw _) (hown.alloc _) hg2 (by simp <;> omega)
   go_roundw
   case rel => exact ⟨q, xs ++ [d], rfl, by omega, by rw [List.length_append, ← xe]; exact hown2, hbX, Hgr2⟩
   case measure => simp [intOf]; omega
  ·have hk0 : k = 0 := by omega
   subst hk0
   go_wp2
   go_ret
   refine ⟨⟨_, rfl, ?_⟩, hb⟩
   have h1 := za hgr
   rw [z7, List.append_nil] at h1
   unfold isNat
   rw [h1]
   exact ql hown (Nat.zero_le _)
def revTo (l l' : List UInt8) (k : Nat) : Prop :=
 l'.length = l.length ∧ ∀ t (h : t < l.length) (h' : t < l'.length), l'[t] = if t < k ∨ l.length - k ≤ t then l[l.length - 1 - t]'(by omega) else l[t]
theorem kr (l : List UInt8) : revTo l l 0 := ⟨rfl, fun t h h' => by rw [if_neg (by omega)]⟩
theorem k4 {l l' : List UInt8} {k : Nat} (h : revTo l l' k) (hk : l.length ≤ 2 * k + 1) : l' = l.reverse := by
 apply List.ext_getElem
 ·simp [h.1]
 ·intro t h1 h2
  rw [List.getElem_reverse, h.2 t (by simpa using h2) h1]
  by_cases ht : t < k ∨ l.length - k ≤ t
  ·rw [if_pos ht]
  ·rw [if_neg ht]
   congr 1
   have : t < l.length := by simpa using h2
   omega
theorem kq {l l' : List UInt8} {k : Nat} (h : revTo l l' k) (hk : 2 * k + 1 < l.length) {a b : UInt8} (ha : l'[k]? = some a) (hb : l'[l.length - 1 - k]? = some b) :
  revTo l ((l'.set k b).set (l.length - 1 - k) a) (k + 1) := by
 have hl := h.1
 have ha' : l[k]'(by omega) = a := by
  rw [List.getElem?_eq_getElem (by omega)] at ha
  have := h.2 k (by omega) (by omega)
  rw [if_neg (by omega)] at this
  rw [← this]; simpa using ha
 have hb' : l[l.length - 1 - k]'(by omega) = b := by
  rw [List.getElem?_eq_getElem (by omega)] at hb
  have := h.2 (l.length - 1 - k) (by omega) (by omega)
  rw [if_neg (by omega)] at this
  rw [← this]; simpa using hb
 refine ⟨by simpa using hl, ?_⟩
 intro t h1 h2
 by_cases h3 : t = l.length - 1 - k
 ·subst h3
  rw [List.getElem_set_self, if_pos (by omega), ← ha']
  congr 1; omega
 ·rw [List.getElem_set_ne (by omega)]
  by_cases h4 : t = k
  ·subst h4
   rw [List.getElem_set_self, if_pos (by omega), ← hb']
  ·rw [List.getElem_set_ne (by omega), h.2 t h1 (by omega)]
   by_cases h5 : t < k ∨ l.length - k ≤ t
   ·rw [if_pos h5, if_pos (by omega)]
   ·rw [if_neg h5, if_neg (by omega)]
theorem vJ (l : List UInt8) (j : Nat) (h : j < l.length) : (l.map u8v)[j]? = some (.int .u8 (l[j]).toNat) := by simp [u8v, h]
theorem kI (l : List UInt8) (j : Nat) (c : UInt8) : (l.map u8v).set j (.int .u8 c.toNat) = (l.set j c).map u8v := by simp [u8v, List.map_set]
theorem yc (l : List UInt8) (g cap base : Nat) (w : World) (hs : l.length ≤ 1000000000) (h : w.ownsRow base 5 1 (.slice (some ⟨g, 0, none⟩) l.length cap) l.length (l.map u8v)) :
  Calls Tryd.prog 101 #[.slice (some ⟨g, 0, none⟩) l.length cap] w fun e w' => e = .returned (.tuple #[]) ∧ w'.ownsRow base 5 1 (.slice (some ⟨g, 0, none⟩) l.length cap) l.length (l.reverse.map u8v) ∧ w.grownBy w' (some g) := by
 go_enter Tryd.func101, Tryd.ntmps101
 go_wp2
 go_loopw [2, 3] (fun i j wr => ∃ (k : Nat) (l' : List UInt8), 2 * k ≤ l.length + 1 ∧ i = .int .i64 k ∧ j = .int .i64 ((l.length : Int) - 1 - k) ∧ wr.ownsRow base 5 1 (.slice (some ⟨g, 0, none⟩) l.length cap) l.length (l'.map u8v) ∧ w.grownBy wr (some g) ∧ Hid (revTo l l' k))
  (fun i _ _ => l.length - (intOf i).toNat)
 case atStart => exact ⟨0, l, by omega, rfl, by go_num, h, World.grownBy.refl _ _, hide (kr l)⟩
 case round =>
  obtain ⟨k, l', hk, rfl, rfl, hown, hg, hrev⟩ := hrel
  by_cases hlt : 2 * k + 1 < l.length
  ·have hll := (za hrev).1
   have hlI : (k : Int) < (l.length : Int) - 1 - k := by omega
   have hc0 := hown.cellAt k (by omega)
   rw [vJ _ _ (by omega)] at hc0
   have hc1 := hown.cellAt (l.length - 1 - k) (by omega)
   rw [vJ _ _ (by omega)] at hc1
   have hf0 := hown.frozenAt k
   have hf1 := hown.frozenAt (l.length - 1 - k)
   have hga : l'[k]? = some (l'[k]'(by omega)) := List.getElem?_eq_getElem _
   have hgb : l'[l.length - 1 - k]? = some (l'[l.length - 1 - k]'(by omega)) := List.getElem?_eq_getElem _
   have hstep := fun a b ha hb => @kq l l' k (za hrev) hlt a b ha hb
   have hst1 := hstep _ _ hga hgb
   generalize l'[k]'(by omega) = a at *
   generalize l'[l.length - 1 - k]'(by omega) = b at *
   have hs1 := hown.stored k (.int .u8 b.toNat)
   rw [kI] at hs1
   have hs2 := hs1.1.stored (l.length - 1 - k) (.int .u8 a.toNat)
   rw [kI] at hs2
   have Hown := hide hs2.1
   have Hg := hide (qM (qM hg hs1.2) hs2.2)
   have Hst := hide hst1
   have e1 : ((l.length : Int) - 1 - k).toNat = l.length - 1 - k := by omega
   have hkl : (k : Int) < l.length := by omega
   have hjl : (l.length : Int) - 1 - k < l.length := by omega
   have hj0 : 0 ≤ (l.length : Int) - 1 - k := by omega
   have hne : ¬ k = l.length - 1 - k := by omega
   clear hs1 hs2 hst1 hstep hga hgb hll
   go_wp2
   go_region
   all_goals
    go_wp2
    go_roundw
    case rel => exact ⟨k + 1, (l'.set k b).set (l.length - 1 - k) a, by omega, by go_num, by go_num, za Hown, ⟨(za Hg).os, (za Hg).tape, (za Hg).output, (za Hg).size, (za Hg).block⟩, Hst⟩
    case measure => simp [intOf]; omega
  ·go_wp2
   go_end0
   have := k4 (za hrev) (by omega)
   rw [this] at hown
   exact ⟨rfl, hown, hg⟩
end Go.Proofs.YtcnnicbaeicboaaDoor
