/- A part of the proof, put together out of smaller texts. -/
import Derived.Test.YtpbnmhnbkfnaeaaGreatDoorM4
import Derived.Deep.QuietTactic
import Derived.BigQuiet
import Derived.Laws.CopyOwn
import Derived.BigRegion
import Derived.Deep.RegionWith
import Derived.Deep.RegionHeld3
set_option linter.all false
set_option maxRecDepth 100000
set_option maxHeartbeats 32000000
namespace Go.Proofs.YtpbnmhnbkfnaeaaGreatDoor
open Go.RowKit Nt
abbrev XA (neg : Bool) (x y : Nat) : ByteArray := B (zU neg (txl 10 x) (txl 10 y) 10)
theorem DSt.putN {K g B b i m q c k n : Nat} {W0 w : World} {nv rv : Value} {x : Int} {t : ByteArray} (h : DSt K g B b W0 nv rv i m w) (hq : BN K w B q c n) (hB : B ≤ q) (ht : t.size ≤ K) :
  DSt K g B b W0 nv rv i m (((w.setCell ⟨q, k * 3, none⟩ (.int .i64 x)).setCell ⟨q, k * 3 + 1, none⟩ (.string t)).setCell ⟨q, k * 3 + 2, none⟩ (.slice none 0 0)) := by
 have q0 : qN K w B ((k * 3) % 3) (.int .i64 x) := ⟨fun _ => ⟨x, rfl⟩, fun e => by omega, fun e => by omega⟩
 have h1 := h.setN hq hB (j := k * 3) q0
 have b1 := (Ty.setN (K := K) (base := B) hq (i := k * 3) q0).bn _ _ _ hB hq
 have q1 : ∀ W, qN K W B ((k * 3 + 1) % 3) (.string t) := fun W => ⟨fun e => by omega, fun _ => ⟨t, rfl, ht⟩, fun e => by omega⟩
 have h2 := h1.setN b1 hB (j := k * 3 + 1) (q1 _)
 have b2 := (Ty.setN (K := K) (base := B) b1 (i := k * 3 + 1) (q1 _)).bn _ _ _ hB b1
 exact h2.setN b2 hB (j := k * 3 + 2) ⟨fun e => by omega, fun e => by omega, fun _ => ⟨0, Nat.zero_le _, jd _ _⟩⟩
theorem ZN (g p n cap : Nat) (a : Option Addr) (w : World) (h : Rd w g p a n cap) (hp : p ≤ 400000000) :
  Calls Tryz.prog 41 #[.pointer (some ⟨g, 0, none⟩)] w fun e w' => DtOut w.heap.size e w' ∧ Drawn w g p n cap a 20000 w' := by
 have hlt := h.lt
 have Hlt := hide hlt
 have HKW0 := hide ((Keeps.refl g w).alloc (.cells #[.slice none 0 0, .slice none 0 0] 26))
 have HR := hide (h.alloc (.cells #[.slice none 0 0, .slice none 0 0] 26))
 have HA0 := hide (AtC2.new w (.slice none 0 0) (.slice none 0 0) 26)
 clear h
 go_enter Tryz.func41, Tryz.ntmps41
 go_wp2_with fail
 obtain ⟨W0, hW0⟩ : ∃ W0, w.alloc (.cells #[.slice none 0 0, .slice none 0 0] 26) = W0 := ⟨_, rfl⟩
 have hz0 : W0.heap.size = w.heap.size + 1 := by rw [← hW0]; simp
 rw [hW0] at HKW0 HR HA0 ⊢
 have HKW := HKW0
 have HA := HA0
 clear hW0 HKW0 HA0
 have h := Kb g p n cap a W0 (za HR) (by omega)
 refine h.mono ?_
 clear h
 rintro e w1 ⟨⟨nv, rv, ln, lr, rfl, hn1, hn9, hr4, hsn, hsi⟩, ⟨p1, hp1, hr1⟩, hk1⟩
 obtain ⟨na, nc, rfl, _, _⟩ := hsn.form
 obtain ⟨ra0, rc0, rfl, _, _⟩ := hsi.form
 obtain ⟨B, hB⟩ : ∃ B, W0.heap.size = B := ⟨_, rfl⟩
 have HBW : Hid (w.heap.size ≤ B) := hide (by omega)
 obtain ⟨b, hbb⟩ : ∃ b, w1.heap.size = b := ⟨_, rfl⟩
 have HBB : Hid (B ≤ b) := hide (by have := hk1.size; omega)
 have HD1 : Hid (DSt 1000 g B b W0 (.slice na ln nc) (.slice ra0 lr rc0) ln lr (w1.alloc (.cells #[.slice na ln nc, .slice ra0 lr rc0] 26))) := hide (by
  have hsz := hk1.size
  rw [hB] at hsn hsi
  subst hbb
  exact ⟨AtC2.new w1 _ _ _, hsn.ty (Ty.below (zf (Below.refl _ _) _)), hsi.ty (Ty.below (K := 1000) (zf (Below.refl _ _) _)), hk1.alloc _, by omega, by omega, by omega, by omega, by simp; omega⟩)
 have HR1 := hide (hr1.alloc (.cells #[.slice na ln nc, .slice ra0 lr rc0] 26))
 have HLOW := hide (za HD1).low
 clear hsn hsi hr1 hk1 hB HR
 go_wp2_with fail
 clear hbb
 refine (zX g p1 n cap a 8 _ (za HR1) (by omega) (by omega)).mono ?_
 rintro e w2 ⟨⟨k0, rfl, hk0⟩, ⟨p2, hp2, hr2⟩, hk2⟩
 have hk8 : k0 < 8 := by rcases hk0 with h | h <;> omega
 have HR2 := hide hr2
 have HD2 := hide ((za HD1).keeps hk2)
 clear hr2 hk2 hk0
 go_wp2_with fail
 go_loopw [4] (fun v wk => ∃ (j m p3 : Nat) (rv : Value), v = .int .i64 j ∧ j ≤ 7 ∧ m + j ≤ 12 ∧ p3 + j ≤ p2 + 8 ∧ DSt 1000 g B b W0 (.slice na ln nc) rv ln m wk ∧ Rd wk g p3 a n cap) (fun v _ => (intOf v).toNat)
 case atStart => exact ⟨k0, lr, p2, _, rfl, by omega, by omega, by omega, za HD2, za HR2⟩
 case round =>
  obtain ⟨j, m, p3, rv, rfl, hj7, hmj, hp3, hD3, hR3⟩ := hrel
  obtain ⟨wk, hwk⟩ : ∃ wk, wk = wr := ⟨_, rfl⟩
  subst hwk
  obtain ⟨ra, rc, rfl, _, _⟩ := hD3.roots.form
  have HD3 := hide hD3
  have HR3 := hide hR3
  clear hD3 hR3
  by_cases hj : 0 < (j : Int)
  ·have a0 := (za HD3).box.n0
   have a1 := (za HD3).box.n1
   have hlm : (m : Int) < 12 := by omega
   go_wp2_with fail
   go_region_law (first | ((refine qX (by rfl) _ _ (by rfl) 1000 B (.slice ra m rc) m w5.heap.size (x : Int) (by rfl) (by rfl) (by with_reducible exact (za HD5).roots) (by with_reducible exact q5) (by omega) (za HD5).low.2.2.2.2 (some 28) (by rfl) ?_; intro g6 c6 w6 hs6 hg6; have HS6 := hide hs6; have HG6 := hide hg6; have f2 := ((za HD5).box.gr hg6 (by decide)).n1; have f3 := ((za HD5).box.gr hg6 (by decide)).f; clear hs6 hg6)) | (go_simp; go_at_call 27; refine (zX g p3 n cap a (ln : Int) wk.drew (by exact (za HR3).drew) (by omega) (by omega)).mono ?_; rintro e w5 ⟨⟨x, rfl, _⟩, ⟨p5, hp5, hr5⟩, hk5⟩; have hk5 := (Keeps.refl g wk).drew.trans hk5; have HR5 := hide (hr5.alloc (.cells #[.int .i64 (x : Int)] 3)); have HD5 := hide (((za HD3).keeps hk5).alloc (.cells #[.int .i64 (x : Int)] 3)); have e0 := ((za HD3).keeps hk5).box.n0; have e1 := ((za HD3).keeps hk5).box.n1; have e0' := (za HD5).box.n0; have e2 := (za HD5).box.n1; have q5 : (w5.alloc (.cells #[.int .i64 (x : Int)] 3)).cell? ⟨w5.heap.size, 0, none⟩ = some (.int .i64 (x : Int)) := World.news_of_block (heap_alloc_new w5 (.cells #[.int .i64 (x : Int)] 3)) 0 _ rfl; clear hr5 hk5; (try dsimp only)))
   all_goals
    have HD7 := hide ((za HD5).appI (za HG6) (za HS6))
    have HR7 := hide ((za HR5).from (za HLOW).2.2.1 ((za HG6).low.setCell (p := ⟨b, 1, none⟩) (za HBB) (.slice (some ⟨g6, 0, none⟩) (m + 1) c6)))
    clear f2 f3 e0 e1 e2 a0 a1 e0' hlm
    go_wp2_with fail
    go_roundw
    case rel => exact ⟨j - 1, m + 1, p5, _, by go_num, by omega, by omega, by omega, za HD7, za HR7⟩
    case measure => simp [intOf]; omega
  ·obtain rfl : j = 0 := by omega
   have a0 := (za HD3).box.n0
   have a1 := (za HD3).box.n1
   go_wp2_with fail
   refine (zX g p3 n cap a 3 _ (za HR3) (by omega) (by omega)).mono ?_
   rintro e w4 ⟨⟨z4, rfl, _⟩, ⟨p4, hp4, hr4'⟩, hk4⟩
   have HR4 := hide hr4'
   have HD4 := hide ((za HD3).keeps hk4)
   clear hr4' hk4 a0 a1
   by_cases hz4 : (z4 : Int) = 0
   ·have hz4' : ((z4 : Int) == 0) = true := by rw [beq_iff_eq]; exact hz4
    have a0 := (za HD4).box.n0
    go_wp2_with fail
    refine (zX g p4 n cap a (ln : Int) _ (za HR4) (by omega) (by omega)).mono ?_
    rintro e w5 ⟨⟨k, rfl, hk⟩, ⟨p5, hp5, hr5⟩, hk5⟩
    have hkl : k < ln := by rcases hk with h | h <;> omega
    have HR5 := hide hr5
    have HD5 := hide ((za HD4).keeps hk5)
    clear hr5 hk5 a0 hk hz4'
    have a0 := (za HD5).box.n0
    obtain ⟨gn, e, hgn, hbn, _⟩ := (za HD5).nodes.node hkl
    subst e
    have HBN := hide hbn
    have HGN := hide hgn
    clear hbn hgn
    go_wp2_with fail
    go_region_law (first | (go_simp; go_at_call 58; refine (Y4 g p5 n cap a w5.drew (by exact (za HR5).drew) (by omega)).mono ?_; rintro e w6 ⟨⟨neg, x, y, rfl, hx, hy⟩, ⟨p6, hp6, hr6⟩, hk6⟩; have hk6 := (Keeps.refl g w5).drew.trans hk6; have HR6 := hide hr6; have HD6 := hide ((za HD5).keeps hk6); have HB6 := hide ((Ty.keeps (K := 1000) hk6 (za HLOW).2.2.1).bn _ _ _ (za HGN) (za HBN)); have e0 := (za HD6).box.n0; clear hr6 hk6; (try dsimp only)) | (go_simp; go_at_call 57; refine (vf neg (txl 10 x) (txl 10 y) 10 w6 (by rw [← zH]; omega) (by rw [← zH]; omega)).mono ?_; rintro e w7 ⟨rfl, hb7⟩; have HR7 := hide ((za HR6).keep hb7); have HD7 := hide ((za HD6).below hb7); have HB7 := hide ((Ty.below (K := 1000) hb7).bn _ _ _ (za HGN) (za HB6)); have e1 := (za HD7).box.n0; have hl := YS neg (txl 10 x) (txl 10 y) 10; rw [← zi] at hl; have ff := (za HB7).frozen; obtain ⟨gz, ez, _, _, _, x5, s5, ka5, kc5, kl5, d0, d1, d2, _⟩ := (za HD7).nodes.node hkl; cases ez; clear hb7; (try dsimp only)))
    all_goals
     have HD8' := hide ((za HD7).putN (k := k) (x := 1) (t := XA neg x y) (za HB7) (za HGN) (Nat.le_trans hl (by decide)))
     have HR8' := hide ((za HR7).from (za HLOW).2.2.1 ((((Below.refl B w7).setCell (p := ⟨gn, k * 3, none⟩) (za HGN) (.int .i64 1)).setCell (p := ⟨gn, k * 3 + 1, none⟩) (za HGN) (.string (XA neg x y))).setCell (p := ⟨gn, k * 3 + 2, none⟩) (za HGN) (.slice none 0 0)))
     clear d0 d1 d2 ff e0 e1 a0
     go_wp2_with fail
     refine (zX g p6 n cap a 20 _ (za HR8') (by omega) (by omega)).mono ?_
     rintro e w8 ⟨⟨z8, rfl, _⟩, ⟨p8, hp8, hr8⟩, hk8⟩
     have HR8 := hide hr8
     have HD8 := hide ((za HD8').keeps hk8)
     clear hr8 hk8
     have a0 := (za HD8).box.n0
     have a1 := (za HD8).box.n1
     by_cases hz8 : (z8 : Int) = 0
     ·have hz8' : ((z8 : Int) == 0) = true := by rw [beq_iff_eq]; exact hz8
      obtain ⟨d, hd, hd1, hd2, hd3⟩ := Q8 (za HD8).nodes (za HD8).roots (by decide)
      have HDD := hide hd3
      clear hd3
      go_wp2_with fail
      have h := Zg g p8 n cap a d _ w8 (za HR8) (by omega) hd (by rw [hd1]; omega) (by rw [hd2]; omega) (za HDD)
      refine h.mono ?_
      clear h hd hz8' a0 a1
      rintro e w9 ⟨⟨nz, rz, k9, m9, rfl, hk91, hk92, hm9, hsn, hsi⟩, ⟨p9, hp9, hr9⟩, hk9⟩
      obtain ⟨na9, nc9, rfl, _, _⟩ := hsn.form
      obtain ⟨ra9, rc9, rfl, _, _⟩ := hsi.form
      have HSN := hide (hsn.base (by have := (za HD8).low.2.2.2.2; have := za HBW; omega : w.heap.size ≤ w8.heap.size))
      have HSI := hide (hsi.base (by have := (za HD8).low.2.2.2.2; have := za HBW; omega : w.heap.size ≤ w8.heap.size))
      have HR9 := hide hr9
      have HK9 := hide ((za HD8).keep.trans hk9)
      clear hsn hsi hr9 hk9
      have hA := (za HA).keeps (za HK9) (by have := za Hlt; omega)
      have b0 := hA.n0
      have b1 := hA.n1
      have bf := hA.f
      have hZ := (hA.st0 (.slice na9 k9 nc9)).st1 (.slice ra9 m9 rc9)
      have z0 := hZ.n0
      have z1 := hZ.n1
      have HZ := hide (And.intro z0 z1)
      have hty : Ty 1001 w.heap.size w9 ((w9.setCell ⟨w.heap.size, 0, none⟩ (.slice na9 k9 nc9)).setCell ⟨w.heap.size, 1, none⟩ (.slice ra9 m9 rc9)) := (Ty.box hA (by decide) (by decide) _).trans (Ty.box (hA.st0 _) (by decide) (by decide) _)
      have HOUT : Hid (DtOut w.heap.size (.returned (.agg #[.slice na9 k9 nc9, .slice ra9 m9 rc9])) ((w9.setCell ⟨w.heap.size, 0, none⟩ (.slice na9 k9 nc9)).setCell ⟨w.heap.size, 1, none⟩ (.slice ra9 m9 rc9))) := hide ⟨_, _, k9, m9, rfl, by omega, by omega, by omega, SN.ty (za HSN) hty, SI.ty (za HSI) hty⟩
      have hD : Drawn w g p n cap a 20000 w9 := ⟨⟨p9, by omega, (za HR9)⟩, (za HKW).trans (za HK9)⟩
      have HDR := hide (hD.more (za Hlt) (((Below.refl w.heap.size w9).setCell (p := ⟨w.heap.size, 0, none⟩) (Nat.le_refl _) (.slice na9 k9 nc9)).setCell (p := ⟨w.heap.size, 1, none⟩) (Nat.le_refl _) (.slice ra9 m9 rc9)))
      clear hD hty z0 z1 hZ hA
      go_wp2_with fail
      have hz := za HZ
      refine bodyPost_ret (v := .agg #[.slice na9 k9 nc9, .slice ra9 m9 rc9]) (by simp [results, Tryz.results41, go_sem, hz]) rfl ⟨za HOUT, za HDR⟩
     ·have hz8' : ((z8 : Int) == 0) = false := by rw [beq_eq_false_iff_ne]; exact hz8
      have HSN := hide (((za HD8).nodes.wide (K' := 1001) (by decide)).base (za HBW))
      have HSI := hide ((za HD8).roots.base (za HBW))
      have hA := (za HA).keeps ((za HD8).keep) (by have := za Hlt; omega)
      have b0 := hA.n0
      have b1 := hA.n1
      have bf := hA.f
      have hZ := (hA.st0 (.slice (some ⟨gn, 0, none⟩) ln nc)).st1 (.slice ra m rc)
      have z0 := hZ.n0
      have z1 := hZ.n1
      have HZ := hide (And.intro z0 z1)
      have hty : Ty 1001 w.heap.size w8 ((w8.setCell ⟨w.heap.size, 0, none⟩ (.slice (some ⟨gn, 0, none⟩) ln nc)).setCell ⟨w.heap.size, 1, none⟩ (.slice ra m rc)) := (Ty.box hA (by decide) (by decide) _).trans (Ty.box (hA.st0 _) (by decide) (by decide) _)
      have HOUT : Hid (DtOut w.heap.size (.returned (.agg #[.slice (some ⟨gn, 0, none⟩) ln nc, .slice ra m rc])) ((w8.setCell ⟨w.heap.size, 0, none⟩ (.slice (some ⟨gn, 0, none⟩) ln nc)).setCell ⟨w.heap.size, 1, none⟩ (.slice ra m rc))) := hide ⟨_, _, ln, m, rfl, by omega, by omega, by omega, SN.ty (za HSN) hty, SI.ty (za HSI) hty⟩
      have hD : Drawn w g p n cap a 20000 w8 := ⟨⟨p8, by omega, (za HR8)⟩, (za HKW).trans ((za HD8).keep)⟩
      have HDR := hide (hD.more (za Hlt) (((Below.refl w.heap.size w8).setCell (p := ⟨w.heap.size, 0, none⟩) (Nat.le_refl _) (.slice (some ⟨gn, 0, none⟩) ln nc)).setCell (p := ⟨w.heap.size, 1, none⟩) (Nat.le_refl _) (.slice ra m rc)))
      clear hD hty z0 z1 hZ hA
      go_wp2_with fail
      have hz := za HZ
      refine bodyPost_ret (v := .agg #[.slice (some ⟨gn, 0, none⟩) ln nc, .slice ra m rc]) (by simp [results, Tryz.results41, go_sem, hz]) rfl ⟨za HOUT, za HDR⟩
   ·have hz4' : ((z4 : Int) == 0) = false := by rw [beq_eq_false_iff_ne]; exact hz4
    go_wp2_with fail
    refine (zX g p4 n cap a 20 _ (za HR4) (by omega) (by omega)).mono ?_
    rintro e w8 ⟨⟨z8, rfl, _⟩, ⟨p8, hp8, hr8⟩, hk8⟩
    have HR8 := hide hr8
    have HD8 := hide ((za HD4).keeps hk8)
    clear hr8 hk8
    have a0 := (za HD8).box.n0
    have a1 := (za HD8).box.n1
    by_cases hz8 : (z8 : Int) = 0
    ·have hz8' : ((z8 : Int) == 0) = true := by rw [beq_iff_eq]; exact hz8
     obtain ⟨d, hd, hd1, hd2, hd3⟩ := Q8 (za HD8).nodes (za HD8).roots (by decide)
     have HDD := hide hd3
     clear hd3
     go_wp2_with fail
     have h := Zg g p8 n cap a d _ w8 (za HR8) (by omega) hd (by rw [hd1]; omega) (by rw [hd2]; omega) (za HDD)
     refine h.mono ?_
     clear h hd hz8' a0 a1
     rintro e w9 ⟨⟨nz, rz, k9, m9, rfl, hk91, hk92, hm9, hsn, hsi⟩, ⟨p9, hp9, hr9⟩, hk9⟩
     obtain ⟨na9, nc9, rfl, _, _⟩ := hsn.form
     obtain ⟨ra9, rc9, rfl, _, _⟩ := hsi.form
     have HSN := hide (hsn.base (by have := (za HD8).low.2.2.2.2; have := za HBW; omega : w.heap.size ≤ w8.heap.size))
     have HSI := hide (hsi.base (by have := (za HD8).low.2.2.2.2; have := za HBW; omega : w.heap.size ≤ w8.heap.size))
     have HR9 := hide hr9
     have HK9 := hide ((za HD8).keep.trans hk9)
     clear hsn hsi hr9 hk9
     have hA := (za HA).keeps (za HK9) (by have := za Hlt; omega)
     have b0 := hA.n0
     have b1 := hA.n1
     have bf := hA.f
     have hZ := (hA.st0 (.slice na9 k9 nc9)).st1 (.slice ra9 m9 rc9)
     have z0 := hZ.n0
     have z1 := hZ.n1
     have HZ := hide (And.intro z0 z1)
     have hty : Ty 1001 w.heap.size w9 ((w9.setCell ⟨w.heap.size, 0, none⟩ (.slice na9 k9 nc9)).setCell ⟨w.heap.size, 1, none⟩ (.slice ra9 m9 rc9)) := (Ty.box hA (by decide) (by decide) _).trans (Ty.box (hA.st0 _) (by decide) (by decide) _)
     have HOUT : Hid (DtOut w.heap.size (.returned (.agg #[.slice na9 k9 nc9, .slice ra9 m9 rc9])) ((w9.setCell ⟨w.heap.size, 0, none⟩ (.slice na9 k9 nc9)).setCell ⟨w.heap.size, 1, none⟩ (.slice ra9 m9 rc9))) := hide ⟨_, _, k9, m9, rfl, by omega, by omega, by omega, SN.ty (za HSN) hty, SI.ty (za HSI) hty⟩
     have hD : Drawn w g p n cap a 20000 w9 := ⟨⟨p9, by omega, (za HR9)⟩, (za HKW).trans (za HK9)⟩
     have HDR := hide (hD.more (za Hlt) (((Below.refl w.heap.size w9).setCell (p := ⟨w.heap.size, 0, none⟩) (Nat.le_refl _) (.slice na9 k9 nc9)).setCell (p := ⟨w.heap.size, 1, none⟩) (Nat.le_refl _) (.slice ra9 m9 rc9)))
     clear hD hty z0 z1 hZ hA
     go_wp2_with fail
     have hz := za HZ
     refine bodyPost_ret (v := .agg #[.slice na9 k9 nc9, .slice ra9 m9 rc9]) (by simp [results, Tryz.results41, go_sem, hz]) rfl ⟨za HOUT, za HDR⟩
    ·have hz8' : ((z8 : Int) == 0) = false := by rw [beq_eq_false_iff_ne]; exact hz8
     have HSN := hide (((za HD8).nodes.wide (K' := 1001) (by decide)).base (za HBW))
     have HSI := hide ((za HD8).roots.base (za HBW))
     have hA := (za HA).keeps ((za HD8).keep) (by have := za Hlt; omega)
     have b0 := hA.n0
     have b1 := hA.n1
     have bf := hA.f
     have hZ := (hA.st0 (.slice na ln nc)).st1 (.slice ra m rc)
     have z0 := hZ.n0
     have z1 := hZ.n1
     have HZ := hide (And.intro z0 z1)
     have hty : Ty 1001 w.heap.size w8 ((w8.setCell ⟨w.heap.size, 0, none⟩ (.slice na ln nc)).setCell ⟨w.heap.size, 1, none⟩ (.slice ra m rc)) := (Ty.box hA (by decide) (by decide) _).trans (Ty.box (hA.st0 _) (by decide) (by decide) _)
     have HOUT : Hid (DtOut w.heap.size (.returned (.agg #[.slice na ln nc, .slice ra m rc])) ((w8.setCell ⟨w.heap.size, 0, none⟩ (.slice na ln nc)).setCell ⟨w.heap.size, 1, none⟩ (.slice ra m rc))) := hide ⟨_, _, ln, m, rfl, by omega, by omega, by omega, SN.ty (za HSN) hty, SI.ty (za HSI) hty⟩
     have hD : Drawn w g p n cap a 20000 w8 := ⟨⟨p8, by omega, (za HR8)⟩, (za HKW).trans ((za HD8).keep)⟩
     have HDR := hide (hD.more (za Hlt) (((Below.refl w.heap.size w8).setCell (p := ⟨w.heap.size, 0, none⟩) (Nat.le_refl _) (.slice na ln nc)).setCell (p := ⟨w.heap.size, 1, none⟩) (Nat.le_refl _) (.slice ra m rc)))
     clear hD hty z0 z1 hZ hA
     go_wp2_with fail
     have hz := za HZ
     refine bodyPost_ret (v := .agg #[.slice na ln nc, .slice ra m rc]) (by simp [results, Tryz.results41, go_sem, hz]) rfl ⟨za HOUT, za HDR⟩
theorem ZT (a : Option Addr) (n cap : Nat) (w : World) (h : Bytes0 w a n) (hcap : n ≤ cap) (hmax : cap ≤ maxLen) :
  Calls Tryz.prog 14 #[.slice a n cap] w fun e w' => DtOut w.heap.size e w' ∧ Below w.heap.size w w' := by
 have H := hide (h.below (zf (Below.refl _ _) (.cells #[.slice none 0 0, .slice none 0 0] 26)))
 have HA := hide (AtC2.new w (.slice none 0 0) (.slice none 0 0) 26)
 have HB0 := hide (zf (Below.refl w.heap.size w) (.cells #[.slice none 0 0, .slice none 0 0] 26))
 clear h
 go_enter Tryz.func14, Tryz.ntmps14
 go_wp2_with fail
 refine (JQ a n cap _ (za H) hcap hmax).mono ?_
 rintro e w1 ⟨rfl, ⟨m, hm, hr1⟩, hb1⟩
 rw [World.size_alloc] at hr1 hb1 ⊢
 have HR1 := hide hr1
 have HA1 := hide ((za HA).below (by rw [World.size_alloc]; exact hb1))
 have HB1 := hide ((za HB0).trans (hb1.mono (Nat.le_succ _)))
 clear hr1 hb1
 go_wp2_with fail
 have h := ZN (w.heap.size + 1) 0 m cap a w1 (za HR1) (by omega)
 refine h.mono ?_
 clear h
 rintro e w2 ⟨⟨nz, rz, k9, m9, rfl, hk91, hk92, hm9, hsn, hsi⟩, ⟨p2, hp2, hr2⟩, hk2⟩
 obtain ⟨na, nc, rfl, _, _⟩ := hsn.form
 obtain ⟨ra, rc, rfl, _, _⟩ := hsi.form
 have hA := (za HA1).keeps hk2 (by omega)
 have b0 := hA.n0
 have b1 := hA.n1
 have bf := hA.f
 have hZ := (hA.st0 (.slice na k9 nc)).st1 (.slice ra m9 rc)
 have z0 := hZ.n0
 have z1 := hZ.n1
 have HZ := hide (And.intro z0 z1)
 have hs1 : w.heap.size ≤ w1.heap.size := (za HB1).size
 have hty : Ty 1001 w.heap.size w2 ((w2.setCell ⟨w.heap.size, 0, none⟩ (.slice na k9 nc)).setCell ⟨w.heap.size, 1, none⟩ (.slice ra m9 rc)) := (Ty.box hA (by decide) (by decide) _).trans (Ty.box (hA.st0 _) (by decide) (by decide) _)
 have HOUT : Hid (DtOut w.heap.size (.returned (.agg #[.slice na k9 nc, .slice ra m9 rc])) ((w2.setCell ⟨w.heap.size, 0, none⟩ (.slice na k9 nc)).setCell ⟨w.heap.size, 1, none⟩ (.slice ra m9 rc))) := hide ⟨_, _, k9, m9, rfl, hk91, hk92, hm9, (hsn.base hs1).ty hty, (hsi.base hs1).ty hty⟩
 have HBE := hide ((((za HB1).trans (hk2.below (by omega) hs1)).setCell (p := ⟨w.heap.size, 0, none⟩) (Nat.le_refl _) (.slice na k9 nc)).setCell (p := ⟨w.heap.size, 1, none⟩) (Nat.le_refl _) (.slice ra m9 rc))
 clear z0 z1 hZ hty hsn hsi hk2 hr2 hA
 go_wp2_with fail
 have hz := za HZ
 refine bodyPost_ret (v := .agg #[.slice na k9 nc, .slice ra m9 rc]) (by simp [results, Tryz.results14, go_sem, hz]) rfl ⟨za HOUT, za HBE⟩
theorem zbe {w w' : World} {g z : Nat} {cs : Array Value} {T : TypeId} {v : Value} (k : Keeps g (w.alloc (.cells cs T)) w') (hg : w.heap.size ≠ g) (hv : cs[z]? = some v) : w'.cell? ⟨w.heap.size, z, none⟩ = some v := by
 rw [k.cell (p := ⟨w.heap.size, z, none⟩) (by simp) hg]
 exact kQ w hv
theorem QU {w : World} {a : Addr} {b : Nat} {u v x : Value} (h : w.cell? a = some x) (hb : b ≠ a.block) : ((w.setCell ⟨b, 0, none⟩ u).setCell ⟨b, 1, none⟩ v).cell? a = some x := by
 rw [World.cell?_setCell_far _ _ _ _ hb, World.cell?_setCell_far _ _ _ _ hb]; exact h
theorem zaT (w : World) {b z : Nat} {u v x : Value} {cs : Array Value} {T : TypeId} (hv : cs[z]? = some x) : (((w.setCell ⟨b, 0, none⟩ u).setCell ⟨b, 1, none⟩ v).alloc (.cells cs T)).cell? ⟨w.heap.size, z, none⟩ = some x := by
 have h := kQ ((w.setCell ⟨b, 0, none⟩ u).setCell ⟨b, 1, none⟩ v) (T := T) hv
 simpa [jg] using h
theorem out_a {B B' b k m : Nat} {nv rv x y : Value} {w : World} (hA : AtC2 w b x y 26) (hsn : SN 1001 w B nv k) (hsi : SI w B rv m) (hB : B' ≤ B) (h1 : 1 ≤ k) (h2 : k ≤ 200) (h3 : m ≤ 200) :
  DtOut B' (.returned (.agg #[nv, rv])) ((w.setCell ⟨b, 0, none⟩ nv).setCell ⟨b, 1, none⟩ rv) := by
 have hty : Ty 1001 B w ((w.setCell ⟨b, 0, none⟩ nv).setCell ⟨b, 1, none⟩ rv) := (Ty.box hA (by decide) (by decide) _).trans (Ty.box (hA.st0 _) (by decide) (by decide) _)
 exact ⟨_, _, k, m, rfl, h1, h2, h3, (hsn.ty hty).base hB, (hsi.ty hty).base hB⟩
theorem DtOut.alloc {B : Nat} {e : Ending} {w : World} (h : DtOut B e w) (o : Obj) : DtOut B e (w.alloc o) := by
 obtain ⟨nv, rv, k, m, rfl, h1, h2, h3, h4, h5⟩ := h
 exact ⟨nv, rv, k, m, rfl, h1, h2, h3, h4.ty (Ty.below (zf (Below.refl _ _) o)), h5.ty (Ty.below (K := 1001) (zf (Below.refl _ _) o))⟩
def YD : Array Value := #[.int .i64 16, .int .i64 64, .int .i64 1, .int .i64 0, .int .i64 1000003, .int .i64 7]
theorem VN {z : Nat} (h : z < 6) : ∃ y : Int, YD[z]? = some (.int .i64 y) := by
 rcases (show z = 0 ∨ z = 1 ∨ z = 2 ∨ z = 3 ∨ z = 4 ∨ z = 5 by omega) with rfl | rfl | rfl | rfl | rfl | rfl <;> exact ⟨_, rfl⟩
theorem Z1 (a : Option Addr) (n cap : Nat) (w : World) (h : Bytes0 w a n) (hcap : n ≤ cap) (hmax : cap ≤ maxLen) :
  Calls Tryz.prog 18 #[.slice a n cap] w fun e w' => (∃ u y, e = .returned (.tuple #[u, .int .i64 y]) ∧ DtOut w.heap.size (.returned u) w') ∧ Below w.heap.size w w' := by
 have H := hide (h.below (zf (Below.refl _ _) (.cells #[.slice none 0 0, .slice none 0 0] 26)))
 have HA := hide (AtC2.new w (.slice none 0 0) (.slice none 0 0) 26)
 have HB0 := hide (zf (Below.refl w.heap.size w) (.cells #[.slice none 0 0, .slice none 0 0] 26))
 clear h
 go_enter Tryz.func18, Tryz.ntmps18
 go_wp2_with fail
 refine (JQ a n cap _ (za H) hcap hmax).mono ?_
 rintro e w1 ⟨rfl, ⟨m, hm, hr1⟩, hb1⟩
 rw [World.size_alloc] at hr1 hb1 ⊢
 have HR1 := hide hr1
 have HA1 := hide ((za HA).below (by rw [World.size_alloc]; exact hb1))
 have HB1 := hide ((za HB0).trans (hb1.mono (Nat.le_succ _)))
 have hsw : w.heap.size + 1 < w1.heap.size := hr1.lt
 obtain ⟨g, hg⟩ : ∃ g, w.heap.size + 1 = g := ⟨_, rfl⟩
 rw [hg] at HR1 hsw ⊢
 have HG := hide hg
 have hsw' : w.heap.size ≤ w1.heap.size := (za HB1).size
 clear hr1 hb1 hg
 go_wp2_with fail
 go_region_law (first | (go_simp; go_at_call 41; refine (ZN g 0 m cap a _ (by first | exact (za HR1).drew | exact ((za HR1).alloc _).drew) (by omega)).mono ?_; rintro e w2 ⟨⟨nz, rz, k9, m9, rfl, hk91, hk92, hm9, hsn, hsi⟩, ⟨p2, hp2, hr2⟩, hk2⟩; obtain ⟨na, nc, rfl, _, _⟩ := hsn.form; obtain ⟨ra, rc, rfl, _, _⟩ := hsi.form; have HK2' := hide hk2; have hk2 : Keeps g w1 w2 := (by first | exact (Keeps.refl g w1).drew.trans hk2 | exact ((Keeps.refl g w1).alloc (.cells #[.int .i64 16, .int .i64 64, .int .i64 1, .int .i64 0, .int .i64 1000003, .int .i64 7] 3)).drew.trans hk2); have HK2 := hide hk2; have HR2 := hide hr2; have HSN := hide (hsn.base (by simp : w1.heap.size ≤ _)); have HSI := hide (hsi.base (by simp : w1.heap.size ≤ _)); clear hsn hsi hk2 hr2; (try dsimp only)) | (go_simp; go_at_call 27; refine (zX g p2 m cap a 6 _ (by first | exact (za HR2) | exact ((za HR2).alloc _)) (by omega) (by omega)).mono ?_; rintro e w3 ⟨⟨z, rfl, hz⟩, ⟨p3, hp3, hr3⟩, hk3⟩; have hz2 : z < 6 := (by rcases hz with h | h <;> omega); have hz3 : (z : Int) < 6 := (by omega); obtain ⟨y, hy⟩ := VN hz2; have tA := (by first | exact (zbe hk3 (by have := (za HK2).size; omega) hy) | exact (hk3.cell_of (Y8 (za HK2') (by omega) hy) (by show w1.heap.size ≠ g; omega)) | exact True.intro : _); have hk3 : Keeps g w2 w3 := (by first | exact hk3 | exact ((Keeps.refl g w2).alloc (.cells #[.int .i64 16, .int .i64 64, .int .i64 1, .int .i64 0, .int .i64 1000003, .int .i64 7] 3)).trans hk3); have tB := kQ (T := 3) w3 hy; have tA' := (by first | exact QU (b := w.heap.size) (u := .slice na k9 nc) (v := .slice ra m9 rc) tA (by have := (za HK2).size; have := za HG; show w.heap.size ≠ w2.heap.size; omega) | exact QU (b := w.heap.size) (u := .slice na k9 nc) (v := .slice ra m9 rc) tA (by have := za HG; show w.heap.size ≠ w1.heap.size; omega) | exact True.intro : _); have tB' := QU (u := .slice na k9 nc) (v := .slice ra m9 rc) tB (by show w.heap.size ≠ w3.heap.size; have := (za HK2).size; have := hk3.size; have := za HG; omega); have tB'' := zaT w3 (b := w.heap.size) (u := .slice na k9 nc) (v := .slice ra m9 rc) (T := 3) hy; unfold YD at tA tB tA' tB' tB''; have HR3 := hide hr3; have HK3 := hide ((za HK2).trans hk3); have hA := (za HA1).keeps (za HK3) (by have := za HG; omega); have b0 := hA.n0; have b1 := hA.n1; have bf := hA.f; have hA' := hA.alloc (.cells #[.int .i64 16, .int .i64 64, .int .i64 1, .int .i64 0, .int .i64 1000003, .int .i64 7] 3); have b0' := hA'.n0; have b1' := hA'.n1; have bf' := hA'.f; have hA0 := hA; have HSN3 := hide ((za HSN).ty (Ty.keeps (K := 1001) hk3 hsw)); have HSI3 := hide ((za HSI).ty (Ty.keeps (K := 1001) hk3 hsw)); clear hr3 hk3 hy hz hA' hA; (try dsimp only)))
 all_goals
  have hA := hA0
  have zA := (hA.st0 (.slice na k9 nc)).st1 (.slice ra m9 rc)
  have zB := ((hA.alloc (.cells #[.int .i64 16, .int .i64 64, .int .i64 1, .int .i64 0, .int .i64 1000003, .int .i64 7] 3)).st0 (.slice na k9 nc)).st1 (.slice ra m9 rc)
  have zC := zA.alloc (.cells #[.int .i64 16, .int .i64 64, .int .i64 1, .int .i64 0, .int .i64 1000003, .int .i64 7] 3)
  have zz := And.intro zA.n0 (And.intro zA.n1 (And.intro zB.n0 (And.intro zB.n1 (And.intro zC.n0 zC.n1))))
  have oA := out_a hA (za HSN3) (za HSI3) hsw' hk91 hk92 hm9
  have oB := out_a (hA.alloc (.cells #[.int .i64 16, .int .i64 64, .int .i64 1, .int .i64 0, .int .i64 1000003, .int .i64 7] 3)) ((za HSN3).ty (Ty.below (zf (Below.refl _ _) (.cells #[.int .i64 16, .int .i64 64, .int .i64 1, .int .i64 0, .int .i64 1000003, .int .i64 7] 3)))) ((za HSI3).ty (Ty.below (K := 1001) (zf (Below.refl _ _) (.cells #[.int .i64 16, .int .i64 64, .int .i64 1, .int .i64 0, .int .i64 1000003, .int .i64 7] 3)))) hsw' hk91 hk92 hm9
  have HZ := hide zz
  have HO := hide (And.intro oA (And.intro oB (oA.alloc (.cells #[.int .i64 16, .int .i64 64, .int .i64 1, .int .i64 0, .int .i64 1000003, .int .i64 7] 3))))
  clear zA zB zC zz oA oB hA0 hA
  go_wp2_with fail
  have hz := za HZ
  have ho := za HO
  refine bodyPost_ret (v := .tuple #[.agg #[.slice na k9 nc, .slice ra m9 rc], .int .i64 y]) (by simp [results, Tryz.results18, go_sem, hz]) rfl ⟨⟨_, y, rfl, by first | exact ho.1 | exact ho.2.1 | exact ho.2.2⟩, ?_⟩
  refine ((za HB1).trans ((za HK3).below (by have := za HG; omega) (za HB1).size)).trans ?_
  have h3z : w.heap.size ≤ w3.heap.size := Nat.le_trans hsw' (za HK3).size
  repeat (first | exact Below.refl _ _ | refine Below.setCell ?_ (by exact Nat.le_refl _) _ | refine Below.alloc ?_ (by first | exact h3z | (simp [World.setCell]; omega)) _)
theorem Tryz.infoU64 : (Tryz.prog.info? 173).map (fun i => (i.zero, i.size, i.bytes)) = some (some (.int .u64 0), 1, 8) := by kernel_rfl
theorem Kf (xs : List Nat) (base : Nat) (v : Value) (w : World) (hs : xs.length ≤ 1000000000) (h : w.ownsRow base 173 1 v xs.length (u64s xs)) :
  Calls Tryz.prog 205 #[v] w fun e w' => (∃ v', e = .returned v' ∧ w.ownsRow base 173 1 v' (strip xs).length (u64s (strip xs)) ∧ v'.ownBlock = v.ownBlock) ∧ w' = w := by
 rcases vN h with ⟨rfl, hn, hx⟩ | ⟨g, cap, rfl, hnc, hbg, hgw⟩
 ·have : xs = [] := List.eq_nil_of_length_eq_zero hn
  subst this
  have H := hide h
  clear h hn hx hs
  go_enter Tryz.func205, Tryz.ntmps205
  go_wp2
  refine wp_loop_rounds 1 ?_; rw [rounds_succ]
  go_wp2
  go_ret
  exact ⟨⟨_, rfl, za H, rfl⟩, rfl⟩
 ·go_enter Tryz.func205, Tryz.ntmps205
  go_wp2
  go_loop [0] (fun v' => ∃ ys : List Nat, v' = .slice (some ⟨g, 0, none⟩) ys.length cap ∧ ys.length ≤ xs.length ∧ w.ownsRow base 173 1 (.slice (some ⟨g, 0, none⟩) ys.length cap) ys.length (u64s ys) ∧ Hid (strip ys = strip xs))
   (fun v' => match v' with | .slice _ n _ => n | _ => 0)
  case atStart => exact ⟨xs, rfl, Nat.le_refl _, h, hide rfl⟩
  case round =>
   obtain ⟨ys, rfl, hyl, hown, hst⟩ := hrel
   by_cases hy0 : 0 < ys.length
   ·have hc := hown.cellAt (ys.length - 1) (by omega)
    rw [zx _ _ (by omega)] at hc
    have hsp : ys = ys.take (ys.length - 1) ++ [ys[ys.length - 1]'(by omega)] := by
     rw [← List.take_succ_eq_append_getElem (by omega), show ys.length - 1 + 1 = ys.length from by omega, List.take_length]
    have htk := Ve hown (ys.length - 1) (by omega)
    generalize hd : ys[ys.length - 1]'(by omega) = d at *
    by_cases hd0 : d = 0
    ·have hst2 : strip (ys.take (ys.length - 1)) = strip xs := by
      rw [← za hst]
      conv => rhs; rw [hsp, hd0]
      rw [yh]
     have hq : ((d : Int) == 0) = true := by rw [beq_iff_eq]; omega
     have e1 : u64s (ys.take (ys.length - 1)) = (u64s ys).take (ys.length - 1) := by simp [u64s, List.map_take]
     rw [← e1] at htk
     have hl1 : (ys.take (ys.length - 1)).length = ys.length - 1 := by simp
     generalize ys.take (ys.length - 1) = zs at *
     have hzl : zs.length + 1 = ys.length := by omega
     have Htk := hide htk
     have Hst2 := hide hst2
     clear hst2 htk hsp hd0 e1 hd
     go_wp2
     go_round
     case rel => exact ⟨zs, by rw [hl1], by omega, by rw [hl1]; exact za Htk, Hst2⟩
     case measure => show ys.length - 1 < ys.length; omega
    ·have hq : ((d : Int) == 0) = false := by rw [beq_eq_false_iff_ne]; omega
     have hfin : strip xs = ys := by rw [← za hst, hsp, j8 _ _ hd0]
     have Hfin := hide hfin
     clear hfin hsp htk hd0 hd
     go_wp2
     go_ret
     refine ⟨⟨_, rfl, ?_, rfl⟩, rfl⟩
     rw [za Hfin]; exact hown
   ·have : ys = [] := List.eq_nil_of_length_eq_zero (by omega)
    subst this
    have H := hide hown
    go_wp2
    go_ret
    refine ⟨⟨_, rfl, ?_, rfl⟩, rfl⟩
    rw [← za hst]; exact za H
def gr (x : Nat) : List Nat := dg 1000000000 x
theorem qQ (x : Nat) : ofd 1000000000 (gr x) = x := yB (by omega) x
theorem gr_lt (x : Nat) : ∀ d ∈ gr x, d < 1000000000 := dg_lt (by omega) x
theorem ji : gr 0 = [] := qJ _
theorem xh {x : Nat} : gr x = [] ↔ x = 0 := yU (by omega)
theorem Vs {l : List Nat} (h : ∀ d ∈ l, d < 1000000000) : strip l = gr (ofd 1000000000 l) := xE (by omega) h
theorem jc {x y : Nat} (h : x ≤ y) : (gr x).length ≤ (gr y).length :=
 jW (by omega) (Nat.lt_of_le_of_lt h (jy (by omega) y))
def isNat (w : World) (v : Value) (x : Nat) : Prop := w.ownsRow 0 173 1 v (gr x).length (u64s (gr x))
def isNatB (w : World) (base : Nat) (v : Value) (x : Nat) : Prop := w.ownsRow base 173 1 v (gr x).length (u64s (gr x))
theorem isNatB.nat {w : World} {base : Nat} {v : Value} {x : Nat} (h : isNatB w base v x) : isNat w v x := zK h (Nat.zero_le _)
theorem zo {w w' : World} {v : Value} {x : Nat} (h : isNat w v x) (hb : Below w.heap.size w w') : isNat w' v x := zr h hb
theorem q8 (xs : List Nat) (base : Nat) (v : Value) (w : World) (hs : xs.length ≤ 1000000000) (hd : ∀ d ∈ xs, d < 1000000000) (h : w.ownsRow base 173 1 v xs.length (u64s xs)) :
  Calls Tryz.prog 205 #[v] w fun e w' => (∃ v', e = .returned v' ∧ isNatB w base v' (ofd 1000000000 xs)) ∧ w' = w := by
 refine (Kf xs base v w hs h).mono ?_
 rintro e w' ⟨⟨v', rfl, h1, _⟩, rfl⟩
 refine ⟨⟨v', rfl, ?_⟩, rfl⟩
 unfold isNatB
 rw [← Vs hd]
 exact h1
theorem YE (x : Nat) (v : Value) (w : World) (h : isNat w v x) (hs : (gr x).length ≤ 1000000000) :
  Calls Tryz.prog 187 #[v] w fun e w' => e = .returned (.bool (decide (x = 1))) ∧ w' = w := by
 have g1 : gr 1 = [1] := by unfold gr; rw [jQ (by omega) (by omega)]; simp [qJ]
 have hx1 : x = 1 ↔ gr x = [1] := by
  constructor
  ·intro hh; rw [hh, g1]
  ·intro hh; rw [← qQ x, hh]; simp [ofd]
 unfold isNat at h
 generalize gr x = xs at *
 rcases vN h with ⟨rfl, hn, hx⟩ | ⟨g, cap, rfl, hnc, hbg, hgw⟩
 ·have hf : decide (x = 1) = false := by
   rw [decide_eq_false_iff_not, hx1]; intro hh; rw [hh] at hn; simp at hn
  rw [hf]
  clear h hn hx hs hx1 hf g1
  go_enter Tryz.func187, Tryz.ntmps187
  go_wp2
  go_ret
  exact ⟨rfl, rfl⟩
 ·by_cases hl : xs.length = 1
  ·have hc := h.cellAt 0 (by omega)
   rw [zx _ _ (by omega)] at hc
   have hxs : xs = [xs[0]'(by omega)] := by
    match xs, hl with
    | [a], _ => rfl
   generalize xs[0]'(by omega) = a at *
   have hlI : ((xs.length : Int) == 1) = true := by rw [beq_iff_eq]; omega
   have hf : decide (x = 1) = ((a : Int) == 1) := by
    rw [Bool.eq_iff_iff, decide_eq_true_iff, hx1, hxs, beq_iff_eq]
    simp
    omega
   rw [hf]
   have h0 : 0 < xs.length := by omega
   clear hf hxs hx1 h hl g1
   go_enter Tryz.func187, Tryz.ntmps187
   go_wp2
   go_ret
   exact ⟨rfl, rfl⟩
  ·have hlI : ((xs.length : Int) == 1) = false := by rw [beq_eq_false_iff_ne]; omega
   have hf : decide (x = 1) = false := by
    rw [decide_eq_false_iff_not, hx1]; intro hh; rw [hh] at hl; simp at hl
   rw [hf]
   clear hf hx1 hl g1
   go_enter Tryz.func187, Tryz.ntmps187
   go_wp2
   go_ret
   exact ⟨rfl, rfl⟩
theorem xf (b : Nat) (l : List Nat) (i : Nat) (h : i < l.length) : ofd b l = ofd b (l.take i) + b ^ i * (l[i] + b * ofd b (l.drop (i + 1))) := by
 have e : l = l.take i ++ (l[i] :: l.drop (i + 1)) := by rw [← List.drop_eq_getElem_cons h, List.take_append_drop]
 conv => lhs; rw [e]
 rw [jD]
 simp only [ofd, List.length_take]
 rw [Nat.min_eq_left (by omega)]
theorem YQ {l m : List Nat} {b i : Nat} (hl : i < l.length) (hm : i < m.length) (hlen : l.length = m.length) (hb : ∀ d ∈ l, d < b) (hup : ∀ t (h1 : t < l.length) (h2 : t < m.length), i < t → l[t] = m[t]) (hlt : l[i] < m[i]) :
  ofd b l < ofd b m := by
 have hdr : l.drop (i + 1) = m.drop (i + 1) := by
  apply List.ext_getElem
  ·simp [hlen]
  ·intro t h1 h2
   simp only [List.getElem_drop]
   exact hup _ _ _ (by omega)
 rw [xf b l i hl, xf b m i hm, hdr]
 have h1 := yi (b := b) (l.take i) (fun d hd => hb d (List.mem_of_mem_take hd))
 rw [List.length_take, Nat.min_eq_left (by omega)] at h1
 generalize ofd b (m.drop (i + 1)) = D
 have h2 : b ^ i * (l[i] + b * D + 1) ≤ b ^ i * (m[i] + b * D) := Nat.mul_le_mul_left _ (by omega)
 rw [Nat.mul_add] at h2
 omega
theorem Jn (x y : Nat) (v u : Value) (w : World) (hx : isNat w v x) (hy : isNat w u y) (hsx : (gr x).length ≤ 1000000) (_hsy : (gr y).length ≤ 1000000) :
  Calls Tryz.prog 202 #[v, u] w fun e w' => e = .returned (.bool (decide (x < y))) ∧ Below w.heap.size w w' := by
 by_cases hlen : (gr x).length = (gr y).length
 ·by_cases h0 : (gr x).length = 0
  ·have hx0 : x = 0 := xh.1 (List.eq_nil_of_length_eq_zero h0)
   have hy0 : y = 0 := xh.1 (List.eq_nil_of_length_eq_zero (by omega))
   obtain ⟨p1, c1, rfl⟩ := zt hx
   obtain ⟨p2, c2, rfl⟩ := zt hy
   rw [show decide (x < y) = false from by rw [hx0, hy0]; rfl, ← hlen, h0]
   clear hx hy hlen h0 hsx hx0 hy0
   go_enter Tryz.func202, Tryz.ntmps202
   go_wp2
   refine wp_loop_rounds 1 ?_; rw [rounds_succ]
   go_wp2
   go_ret
   exact ⟨rfl, Below.refl _ _⟩
  ·obtain ⟨g, cap, rfl, hnc, _, hgw⟩ := qn hx (by omega)
   obtain ⟨g2, cap2, rfl, hnc2, _, hgw2⟩ := qn hy (by omega)
   have hxd := gr_lt x
   have hyd := gr_lt y
   have hxo := qQ x
   have hyo := qQ y
   unfold isNat at hx hy
   generalize gr x = xs at *
   generalize gr y = ys at *
   have Hxd := hide hxd
   have Hyd := hide hyd
   have Hxo := hide hxo
   have Hyo := hide hyo
   have Hlen := hide hlen
   have hneI : ((xs.length : Int) != (ys.length : Int)) = false := by rw [hlen]; simp
   have hleI : (ys.length : Int) = (xs.length : Int) := by omega
   clear hxd hyd hxo hyo
   go_enter Tryz.func202, Tryz.ntmps202
   go_wp2
   go_loopw [5] (fun i wr => ∃ k : Nat, k ≤ xs.length ∧ i = .int .i64 ((k : Int) - 1) ∧ (∃ m, wr = w.drewN m) ∧ Hid (∀ t (h1 : t < xs.length) (h2 : t < ys.length), k ≤ t → xs[t] = ys[t]))
    (fun i _ => ((intOf i) + 1).toNat)
   case atStart => exact ⟨xs.length, Nat.le_refl _, by go_num, ⟨0, rfl⟩, hide (fun t h1 _ h => by omega)⟩
   case round =>
    obtain ⟨k, hk, rfl, ⟨m, rfl⟩, hup⟩ := hrel
    cases k with
    | zero =>
     have hxy : x = y := by
      rw [← za Hxo, ← za Hyo]
      congr 1
      apply List.ext_getElem (za Hlen)
      intro t h1 h2
      exact za hup t h1 h2 (Nat.zero_le _)
     rw [show (((0 : Nat) : Int) - 1) = -1 from rfl]
     have hdf : decide (x < y) = false := by rw [hxy]; simp
     have Hdf := hide hdf
     clear hxy hdf
     go_wp2
     go_ret
     exact ⟨zD (za Hdf).symm, qO (Below.refl _ _) _⟩
    | succ k =>
     rw [show (((k + 1 : Nat) : Int) - 1) = (k : Int) from by omega]
     have hc1 := hx.cellAt k (by omega)
     have hc2 := hy.cellAt k (by omega)
     rw [zx _ _ (by omega)] at hc1
     rw [zx _ _ (by omega)] at hc2
     have hk2 : (k : Int) < xs.length := by omega
     obtain ⟨xk, hxk⟩ : ∃ a, xs[k]'(by omega) = a := ⟨_, rfl⟩
     obtain ⟨yk, hyk⟩ : ∃ a, ys[k]'(by omega) = a := ⟨_, rfl⟩
     rw [hxk] at hc1
     rw [hyk] at hc2
     have Hxk := hide hxk
     have Hyk := hide hyk
     have hc1' : (w.drewN m).cell? ⟨g, k, none⟩ = some (.int .u64 (xk : Int)) := hc1
     have hc2' : (w.drewN m).cell? ⟨g2, k, none⟩ = some (.int .u64 (yk : Int)) := hc2
     clear hxk hyk
     by_cases heq : xk = yk
     ·have hq : ((xk : Int) != (yk : Int)) = false := by rw [heq]; simp
      have Heq := hide heq
      clear heq
      go_wp2
      go_quiet (fail)
      go_wp2
      go_roundw
      case rel =>
       refine ⟨k, by omega, rfl, ⟨m + nq, rfl⟩, ?_⟩
       intro t h1 h2 ht
       by_cases htk : t = k
       ·subst htk; rw [za Hxk, za Hyk]; exact za Heq
       ·exact za hup t h1 h2 (by omega)
      case measure => simp [intOf]
     ·have hq : ((xk : Int) != (yk : Int)) = true := by rw [bne_iff_ne]; omega
      have Heq := hide heq
      clear heq
      go_wp2
      go_quiet (fail)
      go_wp2
      go_quiet (fail)
      go_wp2
      go_ret
      refine ⟨zD ?_, qO (qO (qO (Below.refl _ _) _) _) _⟩
      have hup' := za hup
      have hne := za Heq
      rcases Nat.lt_or_ge xk yk with h1 | h1
      ·have := YQ (l := xs) (m := ys) (i := k) (by omega) (by omega) hlen (za Hxd) (fun t a b hh => hup' t a b (by omega)) (by rw [za Hxk, za Hyk]; exact h1)
       rw [za Hxo, za Hyo] at this
       rw [decide_eq_true this, decide_eq_true h1]
      ·have := YQ (l := ys) (m := xs) (i := k) (by omega) (by omega) hlen.symm (za Hyd) (fun t a b hh => (hup' t b a (by omega)).symm) (by rw [za Hxk, za Hyk]; omega)
       rw [za Hxo, za Hyo] at this
       rw [decide_eq_false (show ¬ x < y by omega), decide_eq_false (show ¬ xk < yk by omega)]
 ·have hf : decide (x < y) = decide ((gr x).length < (gr y).length) := by
   rw [Bool.eq_iff_iff, decide_eq_true_iff, decide_eq_true_iff]
   constructor
   ·intro h; have := jc (Nat.le_of_lt h); omega
   ·intro h
    rcases Nat.lt_or_ge x y with h1 | h1
    ·exact h1
    ·have := jc h1; omega
  rw [hf]
  unfold isNat at hx hy
  have hne : (((gr x).length : Int) != ((gr y).length : Int)) = true := by rw [bne_iff_ne]; omega
  generalize gr x = xs at *
  generalize gr y = ys at *
  obtain ⟨p1, c1, rfl⟩ := zt hx
  obtain ⟨p2, c2, rfl⟩ := zt hy
  clear hf hlen hx hy
  go_enter Tryz.func202, Tryz.ntmps202
  go_wp2
  go_ret
  exact ⟨rfl, Below.refl _ _⟩
theorem J4 {d f c : Nat} (hd : d < 1000000000) (hf : f < 1000000000) (hc : c < 1000000000) : c + d * f < 1000000000 * 1000000000 := by
 have : d * f ≤ 999999999 * 999999999 := Nat.mul_le_mul (by omega) (by omega)
 omega
theorem zaW {xs : List Nat} {k : Nat} (hk : k < xs.length) {f c0 c c' d X : Nat} (h : X + c * 1000000000 ^ k = ofd 1000000000 (xs.take k) * f + c0) (he : d + 1000000000 * c' = c + xs[k] * f) :
  X + 1000000000 ^ k * d + c' * 1000000000 ^ (k + 1) = ofd 1000000000 (xs.take (k + 1)) * f + c0 := by
 rw [List.take_succ_eq_append_getElem hk, zZ, List.length_take, Nat.min_eq_left (by omega), Nat.pow_succ]
 generalize 1000000000 ^ k = p at *
 have h2 := congrArg (p * ·) he
 simp only [Nat.mul_add] at h2
 rw [Nat.add_mul, Nat.mul_assoc]
 have e1 : c' * (p * 1000000000) = p * (1000000000 * c') := by rw [Nat.mul_comm c', Nat.mul_assoc]
 have e2 : c * p = p * c := Nat.mul_comm _ _
 omega
theorem xI (x f c : Nat) (v : Value) (w : World) (hx : isNat w v x) (hs : (gr x).length ≤ 1000000) (hf : f < 1000000000) (hc : c < 1000000000) :
  Calls Tryz.prog 201 #[v, .int .u64 f, .int .u64 c] w fun e w' => (∃ v', e = .returned v' ∧ isNatB w' w.heap.size v' (x * f + c)) ∧ Below w.heap.size w w' := by
 obtain ⟨i0, hi, hz0, hz1, hz2⟩ := info_parts Tryz.infoU64
 have hxd := gr_lt x
 have hxo := qQ x
 unfold isNat at hx
 generalize gr x = xs at *
 obtain ⟨p, cap, rfl⟩ := zt hx
 have Hxd := hide hxd
 have Hxo := hide hxo
 have Hx := hide hx
 clear hxd hxo
 go_enter Tryz.func201, Tryz.ntmps201
 go_wp2_with (refine wpList_make_full _ rfl (.tmp 11) (.tmp 11) 178 rfl w.heap.size 173 i0 (.int .u64 0) 1 Tryz.underlying178 hi hz0 hz1 .i64 .i64 ((xs.length + 1 : Nat) : Int) ((xs.length + 1 : Nat) : Int) (xs.length + 1) rfl rfl rfl rfl (by rw [hz2]; omega) (by unfold maxLen; omega) (Nat.le_refl _) ?_; intro w1 hown1 hg1)
 go_loopw [2, 15] (fun cy i wr => ∃ (k c' : Nat) (ys : List Nat), k ≤ xs.length ∧ cy = .int .u64 c' ∧ c' < 1000000000 ∧ i = .int .i64 k ∧ ys.length = xs.length + 1 ∧
   wr.ownsRow w.heap.size 173 1 (.slice (some ⟨w.heap.size, 0, none⟩) (xs.length + 1) (xs.length + 1)) (xs.length + 1) (u64s ys) ∧ Below w.heap.size w wr ∧
   Hid (∀ d ∈ ys, d < 1000000000) ∧ Hid (ofd 1000000000 (ys.take k) + c' * 1000000000 ^ k = ofd 1000000000 (xs.take k) * f + c))
  (fun _ i _ => xs.length - (intOf i).toNat)
 case atStart =>
  refine ⟨0, c, List.replicate (xs.length + 1) 0, Nat.zero_le _, rfl, hc, rfl, by simp, ?_, (Below.refl _ _).grown hg1 (Nat.le_refl _) (fun _ h => by cases h), ?_, ?_⟩
  ·simpa [Value.cells, toList_madeCells_one, qE] using hown1
  ·intro d hd; simp at hd; omega
  ·show _ = _; simp [ofd]
 case round =>
  clear hown1 hg1
  obtain ⟨k, c', ys, hk, rfl, hc', rfl, hyl, hown, hb, hyd, hval⟩ := hrel
  by_cases hlt : k < xs.length
  ·obtain ⟨g, cap', hv, _⟩ := qn (za Hx) (by omega)
   simp only [Value.slice.injEq, true_and] at hv
   obtain ⟨rfl, rfl⟩ := hv
   have hcx := (zr (za Hx) hb).cellAt k (by omega)
   rw [zx _ _ hlt] at hcx
   obtain ⟨v0, hv0⟩ := qB hown k (by omega)
   have hfr := hown.frozenAt k
   have hxk : xs[k]'hlt < 1000000000 := za Hxd _ (List.getElem_mem _)
   have hstep := fun d c2 => @zaW xs k hlt f c c' c2 d
   generalize xs[k]'hlt = xk at *
   have Hstep := hide hstep
   have hfit := J4 hxk hf hc'
   generalize hpp : xk * f = pp at *
   have hppI : (xk : Int) * f = pp := by rw [← hpp]; simp
   clear hstep hpp
   obtain ⟨d, hd⟩ : ∃ d : Nat, ((c' : Int) + pp) % 1000000000 = d := ⟨(c' + pp) % 1000000000, by omega⟩
   obtain ⟨c2, hc2⟩ : ∃ d : Nat, ((c' : Int) + pp) / 1000000000 = d := ⟨(c' + pp) / 1000000000, by omega⟩
   have hdl : d < 1000000000 := by omega
   have hcl : c2 < 1000000000 := by omega
   have hsum : Hid (d + 1000000000 * c2 = c' + pp) := by show _ = _; omega
   have hst := hown.stored k (.int .u64 (d : Int))
   rw [qS _ _ d _ rfl] at hst
   have Hst := hide hst
   have hk2 : (k : Int) < (xs.length : Int) + 1 := by omega
   clear hst
   go_wp2
   go_roundw
   case rel =>
    refine ⟨k + 1, c2, ys.set k d, by omega, by rw [hc2], hcl, by go_num, by simpa using hyl, (za Hst).1, hb.setCell (by simp) _, qy (za hyd) hdl, ?_⟩
    have h1 := za Hstep d c2 (za hval) (za hsum)
    show _ = _
    rw [← h1]
    congr 1
    rw [show (ys.set k d).take (k + 1) = ys.take k ++ [d] from by
     rw [List.take_succ_eq_append_getElem (by simp; omega), List.take_set_of_le (Nat.le_refl _), List.getElem_set_self], zZ, List.length_take, Nat.min_eq_left (by omega)]
   case measure => simp [intOf]; omega
  ·have hkl : k = xs.length := by omega
   subst hkl
   obtain ⟨v0, hv0⟩ := qB hown xs.length (by omega)
   have hfr := hown.frozenAt xs.length
   have hst := hown.stored xs.length (.int .u64 (c' : Int))
   rw [qS _ _ c' _ rfl] at hst
   have hbX := hb.setCell (p := ⟨w.heap.size, xs.length, none⟩) (by simp) (.int .u64 (c' : Int))
   have hk2 : (xs.length : Int) < (xs.length : Int) + 1 := by omega
   have hfin : ofd 1000000000 (ys.set xs.length c') = x * f + c := by
    have h1 := za hval
    rw [List.take_length, za Hxo] at h1
    rw [← h1, show ys.set xs.length c' = ys.take xs.length ++ [c'] from by
     conv => lhs; rw [← List.take_length (l := ys.set xs.length c')]
     rw [List.length_set, hyl, List.take_succ_eq_append_getElem (by simp; omega), List.take_set_of_le (Nat.le_refl _), List.getElem_set_self], zZ, List.length_take, Nat.min_eq_left (by omega), Nat.mul_comm]
   have hall := qy (j := xs.length) (v := c') (za hyd) hc'
   have hyl2 : (ys.set xs.length c').length = xs.length + 1 := by simpa using hyl
   generalize ys.set xs.length c' = zs at *
   have Hst := hide hst
   have Hfin := hide hfin
   have Hall := hide hall
   clear hst hfin hall
   go_wp2_with fail
   refine (q8 zs w.heap.size _ _ (by omega) (za Hall) (by rw [hyl2]; exact (za Hst).1)).mono ?_
   rintro e w2 ⟨⟨v', rfl, hv'⟩, rfl⟩
   rw [za Hfin] at hv'
   go_wp2
   go_ret
   exact ⟨⟨v', rfl, hv'⟩, hbX⟩
theorem zbj {xs : List Nat} {k : Nat} (hk : k < xs.length) {by_ r X q r' : Nat} (h : ofd 1000000000 (xs.drop (k + 1)) = by_ * X + r) (he : r * 1000000000 + xs[k] = by_ * q + r') :
  ofd 1000000000 (xs.drop k) = by_ * (q + 1000000000 * X) + r' := by
 rw [List.drop_eq_getElem_cons hk]
 simp only [ofd]
 rw [h, Nat.mul_add, Nat.mul_add, ← Nat.mul_assoc, Nat.mul_comm 1000000000 by_, Nat.mul_assoc]
 rw [Nat.mul_comm r] at he
 have e : by_ * (1000000000 * X) = 1000000000 * (by_ * X) := by rw [Nat.mul_left_comm]
 omega
theorem VV {x b q r : Nat} (h : x = b * q + r) (hr : r < b) : x / b = q ∧ x % b = r := by
 have hb : 0 < b := by omega
 subst h
 rw [Nat.mul_add_div hb, Nat.mul_add_mod, Nat.div_eq_of_lt hr, Nat.mod_eq_of_lt hr]
 exact ⟨by omega, rfl⟩
theorem xD (x b : Nat) (v : Value) (w : World) (hx : isNat w v x) (hs : (gr x).length ≤ 1000000) (hb0 : 0 < b) (hb9 : b < 1000000000) :
  Calls Tryz.prog 206 #[v, .int .u64 b] w fun e w' => (∃ v', e = .returned (.tuple #[v', .int .u64 ((x % b : Nat) : Int)]) ∧ isNatB w' w.heap.size v' (x / b)) ∧ Below w.heap.size w w' := by
 obtain ⟨i0, hi, hz0, hz1, hz2⟩ := info_parts Tryz.infoU64
 have hxd := gr_lt x
 have hxo := qQ x
 unfold isNat at hx
 generalize gr x = xs at *
 obtain ⟨p, cap, rfl⟩ := zt hx
 have Hxd := hide hxd
 have Hxo := hide hxo
 have Hx := hide hx
 clear hxd hxo
 go_enter Tryz.func206, Tryz.ntmps206
 go_wp2_with (refine wpList_make_full _ rfl (.tmp 10) (.tmp 10) 178 rfl w.heap.size 173 i0 (.int .u64 0) 1 Tryz.underlying178 hi hz0 hz1 .i64 .i64 xs.length xs.length xs.length rfl rfl rfl rfl (by rw [hz2]; omega) (by unfold maxLen; omega) (Nat.le_refl _) ?_; intro w1 hown1 hg1)
 go_loopw [7, 8] (fun lf i wr => ∃ (k r : Nat) (ys : List Nat), k ≤ xs.length ∧ lf = .int .u64 r ∧ r < b ∧ i = .int .i64 ((k : Int) - 1) ∧ ys.length = xs.length ∧
   wr.ownsRow w.heap.size 173 1 (.slice (some ⟨w.heap.size, 0, none⟩) xs.length xs.length) xs.length (u64s ys) ∧ Below w.heap.size w wr ∧
   Hid (∀ d ∈ ys, d < 1000000000) ∧ Hid (ofd 1000000000 (xs.drop k) = b * ofd 1000000000 (ys.drop k) + r))
  (fun _ i _ => ((intOf i) + 1).toNat)
 case atStart =>
  refine ⟨xs.length, 0, List.replicate xs.length 0, Nat.le_refl _, rfl, hb0, by go_num, by simp, ?_, (Below.refl _ _).grown hg1 (Nat.le_refl _) (fun _ h => by cases h), ?_, ?_⟩
  ·simpa [Value.cells, toList_madeCells_one, qE] using hown1
  ·intro d hd; simp at hd; omega
  ·show _ = _; simp [ofd]
 case round =>
  clear hown1 hg1
  obtain ⟨k, r, ys, hk, rfl, hr, rfl, hyl, hown, hb, hyd, hval⟩ := hrel
  cases k with
  | succ k =>
   rw [show (((k + 1 : Nat) : Int) - 1) = (k : Int) from by omega]
   have hlt : k < xs.length := by omega
   obtain ⟨g, cap', hv, _⟩ := qn (za Hx) (by omega)
   simp only [Value.slice.injEq, true_and] at hv
   obtain ⟨rfl, rfl⟩ := hv
   have hcx := (zr (za Hx) hb).cellAt k (by omega)
   rw [zx _ _ hlt] at hcx
   obtain ⟨v0, hv0⟩ := qB hown k (by omega)
   have hfr := hown.frozenAt k
   have hxk : xs[k]'hlt < 1000000000 := za Hxd _ (List.getElem_mem _)
   have hstep := fun q r' => @zbj xs k hlt b r (ofd 1000000000 (ys.drop (k + 1))) q r' (za hval)
   generalize xs[k]'hlt = xk at *
   have Hstep := hide hstep
   clear hstep
   have hS : r * 1000000000 + xk < b * 1000000000 := by
    have : (r + 1) * 1000000000 ≤ b * 1000000000 := Nat.mul_le_mul_right _ hr
    omega
   have hq9 : (r * 1000000000 + xk) / b < 1000000000 := by
    rw [Nat.div_lt_iff_lt_mul hb0]; omega
   have hrb : (r * 1000000000 + xk) % b < b := Nat.mod_lt _ hb0
   have hdm := Nat.div_add_mod (r * 1000000000 + xk) b
   have hSI : ((r * 1000000000 + xk : Nat) : Int) = (r : Int) * 1000000000 + xk := by simp
   have hqI : ((r : Int) * 1000000000 + xk) / (b : Int) = (((r * 1000000000 + xk) / b : Nat) : Int) := by rw [← hSI]; rfl
   have hrI : ((r : Int) * 1000000000 + xk) % (b : Int) = (((r * 1000000000 + xk) % b : Nat) : Int) := by rw [← hSI]; rfl
   generalize hq : (r * 1000000000 + xk) / b = q at *
   generalize hr' : (r * 1000000000 + xk) % b = r' at *
   have Hdm := hide hdm
   have hst := hown.stored k (.int .u64 (q : Int))
   rw [qS _ _ q _ rfl] at hst
   have Hst := hide hst
   have hkI : (k : Int) < xs.length := by omega
   have hbI : (0 : Int) < b := by omega
   clear hst hdm hSI hq hr'
   go_wp2
   go_roundw
   case rel =>
    refine ⟨k, r', ys.set k q, by omega, by rw [hrI], hrb, rfl, by simpa using hyl, (za Hst).1, hb.setCell (by simp) _, qy (za hyd) hq9, ?_⟩
    show _ = _
    rw [za Hstep q r' (za Hdm).symm, List.drop_eq_getElem_cons (l := ys.set k q) (by simp; omega), List.getElem_set_self, List.drop_set_of_lt (by omega)]
    simp only [ofd]
   case measure => simp [intOf]
  | zero =>
   rw [show (((0 : Nat) : Int) - 1) = -1 from rfl]
   have hfin := VV (x := x) (b := b) (q := ofd 1000000000 ys) (r := r) (by rw [← za Hxo]; have := za hval; simpa using this) hr
   have Hfin := hide hfin
   clear hfin
   go_wp2_with fail
   refine (q8 ys w.heap.size _ _ (by omega) (za hyd) (by rw [hyl]; exact hown)).mono ?_
   rintro e w2 ⟨⟨v', rfl, hv'⟩, rfl⟩
   rw [← (za Hfin).1] at hv'
   go_wp2
   go_ret2
   refine ⟨⟨v', ?_, hv'⟩, hb⟩
   rw [(za Hfin).2]; rfl
theorem Yr (x b : Nat) (v : Value) (w : World) (hx : isNat w v x) (hs : (gr x).length ≤ 1000000) (hb0 : 0 < b) (hb9 : b < 1000000000) :
  Calls Tryz.prog 206 #[v, .int .u64 b] w fun e w' => (∃ v', e = .returned (.tuple #[v', .int .u64 ((x % b : Nat) : Int)]) ∧ isNat w' v' (x / b)) ∧ Below w.heap.size w w' := by
 refine (xD x b v w hx hs hb0 hb9).mono ?_
 rintro e w' ⟨⟨v', h1, h2⟩, h3⟩
 exact ⟨⟨v', h1, h2.nat⟩, h3⟩
end Go.Proofs.YtpbnmhnbkfnaeaaGreatDoor
namespace Go.Proofs.YtpbnmhnbkfnaeaaGreatDoor.Nt
theorem yQ (b : Nat) (l : List Nat) (k : Nat) : ofd b (l.take (k + 1)) = ofd b (l.take k) + b ^ k * l.getD k 0 := by
 by_cases h : k < l.length
 ·rw [List.take_succ_eq_append_getElem h, zZ, List.length_take, Nat.min_eq_left (by omega), List.getD_eq_getElem?_getD, List.getElem?_eq_getElem h]; rfl
 ·rw [List.take_of_length_le (by omega), List.take_of_length_le (by omega), List.getD_eq_getElem?_getD, List.getElem?_eq_none (by omega)]; simp
theorem JJ {L : List Nat} {k d : Nat} (h : k < L.length) : (L.set k d).take (k + 1) = L.take k ++ [d] := by
 rw [List.take_succ_eq_append_getElem (by simpa using h), List.take_set_of_le (Nat.le_refl k)]; simp
theorem Yh {b : Nat} {L xs ys : List Nat} {k c c' d : Nat} (h : ofd b (L.take k) + ofd b (ys.take k) = ofd b (xs.take k) + c * b ^ k) (hk : k < L.length) (he : d + (c + ys.getD k 0) = xs.getD k 0 + c' * b) :
  ofd b ((L.set k d).take (k + 1)) + ofd b (ys.take (k + 1)) = ofd b (xs.take (k + 1)) + c' * b ^ (k + 1) := by
 rw [JJ hk, zZ, yQ, yQ, List.length_take, Nat.min_eq_left (by omega), Nat.pow_succ]
 generalize ys.getD k 0 = yk at *
 generalize xs.getD k 0 = xk at *
 generalize b ^ k = p at *
 have e := congrArg (p * ·) he
 simp only [Nat.mul_add] at e
 rw [Nat.mul_comm c p] at h
 rw [show c' * (p * b) = p * (c' * b) from by rw [Nat.mul_left_comm]]
 omega
theorem Km {b : Nat} {L xs ys : List Nat} {c : Nat} (hl : L.length = xs.length) (hly : ys.length ≤ xs.length) (hd : ∀ d ∈ L, d < b) (h : ofd b (L.take xs.length) + ofd b (ys.take xs.length) = ofd b (xs.take xs.length) + c * b ^ xs.length)
  (hle : ofd b ys ≤ ofd b xs) : ofd b L = ofd b xs - ofd b ys := by
 rw [List.take_of_length_le (by omega), List.take_of_length_le hly, List.take_of_length_le (by omega)] at h
 have hL := yi L hd
 rw [hl] at hL
 have : c = 0 := by
  rcases Nat.eq_zero_or_pos c with h0 | h0
  ·exact h0
  ·have := Nat.mul_le_mul_right (b ^ xs.length) h0
   omega
 subst this; omega
theorem QI {b : Nat} {L : List Nat} {ys : List Nat} {k a x : Nat} {V : Nat} (hk : k + 1 < L.length) (ha : L[k] + ys.getD k 0 = a) (hx : L[k + 1] = x) (h : ofd b L + b ^ k * ofd b (ys.drop k) = V) :
  ofd b (((L.set k a).set (k + 1) (x + a / b)).set k (a % b)) + b ^ (k + 1) * ofd b (ys.drop (k + 1)) = V := by
 have h1 := jH b L k a (by omega)
 have h2 := jH b (L.set k a) (k + 1) (x + a / b) (by simpa using hk)
 have h3 := jH b ((L.set k a).set (k + 1) (x + a / b)) k (a % b) (by simp; omega)
 have e2 : (L.set k a)[k + 1]'(by simpa using hk) = x := by rw [List.getElem_set_ne (by omega)]; exact hx
 have e3 : ((L.set k a).set (k + 1) (x + a / b))[k]'(by simp; omega) = a := by rw [List.getElem_set_ne (by omega)]; simp
 rw [e2] at h2
 rw [e3] at h3
 have hdrop : ofd b (ys.drop k) = ys.getD k 0 + b * ofd b (ys.drop (k + 1)) := by
  by_cases hh : k < ys.length
  ·rw [List.drop_eq_getElem_cons hh, List.getD_eq_getElem?_getD, List.getElem?_eq_getElem hh]; rfl
  ·rw [List.drop_of_length_le (by omega), List.drop_of_length_le (by omega), List.getD_eq_getElem?_getD, List.getElem?_eq_none (by omega)]; simp [ofd]
 rw [hdrop] at h
 have hdm := Nat.div_add_mod a b
 generalize ofd b (ys.drop (k + 1)) = Y at *
 generalize ys.getD k 0 = yk at *
 rw [← ha] at h1
 generalize L[k] = lk at *
 rw [Nat.pow_succ] at h2 ⊢
 generalize b ^ k = p at *
 have e4 : p * a = p * b * (a / b) + p * (a % b) := by rw [Nat.mul_assoc, ← Nat.mul_add, hdm]
 rw [Nat.mul_add] at h1 h2
 rw [Nat.mul_add, ← Nat.mul_assoc] at h
 rw [← ha] at h2 h3 e4 ⊢
 rw [Nat.mul_add] at e4
 rw [Nat.mul_add] at h3
 omega
theorem kL {b : Nat} {L : List Nat} {k a' v u : Nat} (hk : k + 1 < L.length) (h1 : ∀ d ∈ L.take k, d < b) (h2 : ∀ d ∈ L.drop (k + 1), d < b) (ha : a' < b) (hv : v ≤ b) :
  (∀ d ∈ (((L.set k u).set (k + 1) v).set k a').take (k + 1), d < b) ∧ (∀ d ∈ (((L.set k u).set (k + 1) v).set k a').drop (k + 1 + 1), d < b) ∧ (((L.set k u).set (k + 1) v).set k a').getD (k + 1) 0 ≤ b := by
 refine ⟨?_, ?_, ?_⟩
 ·rw [JJ (by simp; omega)]
  intro d hd
  rcases List.mem_append.1 hd with h | h
  ·rw [List.take_set_of_le (by omega), List.take_set_of_le (Nat.le_refl k)] at h
   exact h1 d h
  ·simp at h; omega
 ·intro d hd
  rw [List.drop_set_of_lt (by omega), List.drop_set_of_lt (by omega), List.drop_set_of_lt (by omega)] at hd
  apply h2 d
  rw [show k + 1 + 1 = (k + 1) + 1 from rfl, ← List.drop_drop] at hd
  exact List.mem_of_mem_drop hd
 ·rw [List.getD_eq_getElem?_getD, List.getElem?_set_ne (by omega), List.getElem?_set_self (by simpa using hk)]
  simpa using hv
theorem Y2 {b : Nat} {L : List Nat} {k : Nat} (hk : k + 1 < L.length) (h2 : ∀ d ∈ L.drop (k + 1), d < b) : L[k + 1] < b := by
 apply h2
 rw [show List.drop (k + 1) L = L[k + 1] :: List.drop (k + 1 + 1) L from List.drop_eq_getElem_cons hk]; exact List.mem_cons_self
theorem Qw {b : Nat} {L : List Nat} {n V : Nat} (hl : L.length = n + 1) (h : ofd b L = V) (hV : V < 2 * b ^ n) (hb : 2 ≤ b) : L[n] < b := by
 have h1 := V9 b L n (by omega)
 rcases Nat.lt_or_ge L[n] b with h2 | h2
 ·exact h2
 ·have h3 : b ^ n * b ≤ b ^ n * L[n] := Nat.mul_le_mul_left _ h2
  have h4 : b ^ n * 2 ≤ b ^ n * b := Nat.mul_le_mul_left _ hb
  omega
theorem Yp {b : Nat} {L ys : List Nat} {i j c t xi yj P : Nat} (hk : i + j < L.length) (hy : ys.getD j 0 = yj) (ht : L[i + j] + xi * yj + c = t) (h : ofd b L + c * b ^ (i + j) = P + b ^ i * (xi * ofd b (ys.take j))) :
  ofd b (L.set (i + j) (t % b)) + (t / b) * b ^ (i + (j + 1)) = P + b ^ i * (xi * ofd b (ys.take (j + 1))) := by
 have h1 := jH b L (i + j) (t % b) hk
 rw [yQ, hy, ← Nat.add_assoc, Nat.pow_succ]
 have hdm := Nat.div_add_mod t b
 generalize ofd b (L.set (i + j) (t % b)) = A at *
 generalize L[i + j] = lk at *
 have e1 : b ^ i * (xi * (ofd b (ys.take j) + b ^ j * yj)) = b ^ i * (xi * ofd b (ys.take j)) + b ^ (i + j) * (xi * yj) := by
  rw [Nat.mul_add, Nat.mul_add, Nat.pow_add]; congr 1
  rw [Nat.mul_left_comm xi, Nat.mul_assoc]
 rw [e1]
 generalize b ^ i * (xi * ofd b (ys.take j)) = Q at *
 generalize b ^ (i + j) = p at *
 have e2 : p * t = p * lk + p * (xi * yj) + p * c := by rw [← ht, Nat.mul_add, Nat.mul_add]
 have e3 : p * t = t / b * (p * b) + p * (t % b) := by
  have := congrArg (p * ·) hdm
  simp only [Nat.mul_add] at this
  rw [← this]; congr 1
  rw [Nat.mul_comm b (t / b), Nat.mul_left_comm]
 rw [Nat.mul_comm c p] at h
 omega
theorem Xd {b : Nat} {L xs ys : List Nat} {i m c : Nat} (hk : i + m < L.length) (hm : ys.length = m) (h0 : L[i + m] = 0) (h : ofd b L + c * b ^ (i + m) = ofd b (xs.take i) * ofd b ys + b ^ i * (xs.getD i 0 * ofd b (ys.take m))) :
  ofd b (L.set (i + m) c) = ofd b (xs.take (i + 1)) * ofd b ys := by
 have h1 := jH b L (i + m) c hk
 rw [h0, Nat.mul_zero, Nat.add_zero] at h1
 rw [List.take_of_length_le (l := ys) (by omega)] at h
 rw [yQ, Nat.add_mul, h1, Nat.mul_assoc, ← h, Nat.mul_comm c]
end Go.Proofs.YtpbnmhnbkfnaeaaGreatDoor.Nt
namespace Go.Proofs.YtpbnmhnbkfnaeaaGreatDoor
open Go.RowKit Nt
theorem jT {l : List Nat} {k : Nat} (h : k < l.length) : l.getD k 0 = l[k] := by rw [List.getD_eq_getElem?_getD, List.getElem?_eq_getElem h]; rfl
theorem xd {l : List Nat} {k : Nat} (h : l.length ≤ k) : l.getD k 0 = 0 := by rw [List.getD_eq_getElem?_getD, List.getElem?_eq_none h]; rfl
theorem j7 {w : World} {base e : Nat} {p : Option Addr} {cap : Nat} {xs : List Nat} (h : w.ownsRow base e 1 (.slice p xs.length cap) xs.length (u64s xs)) (k : Nat) (hk : k < xs.length) : ∃ g, p = some ⟨g, 0, none⟩ ∧ w.cell? ⟨g, k, none⟩ = some (.int .u64 ((xs[k] : Nat) : Int)) := by
 obtain ⟨g, cap', hv, _⟩ := qn h (by omega)
 simp only [Value.slice.injEq, true_and] at hv
 obtain ⟨rfl, rfl⟩ := hv
 have hc := h.cellAt k (by omega)
 rw [zx _ _ hk] at hc
 exact ⟨g, rfl, hc⟩
theorem qv {wr : World} {base e g N cap : Nat} {L : List Nat} (hown : wr.ownsRow base e 1 (.slice (some ⟨g, 0, none⟩) N cap) N (u64s L)) (k d : Nat) (v : Int) (hv : v = (d : Int)) :
  (wr.setCell ⟨g, k, none⟩ (.int .u64 v)).ownsRow base e 1 (.slice (some ⟨g, 0, none⟩) N cap) N (u64s (L.set k d)) := by
 have h := hown.stored k (.int .u64 v)
 rw [qS _ _ d _ hv] at h
 exact h.1
theorem YT (x y : Nat) (v u : Value) (w : World) (hx : isNat w v x) (hy : isNat w u y) (hyx : y ≤ x) (hs : (gr x).length ≤ 1000000) :
  Calls Tryz.prog 209 #[v, u] w fun e w' => (∃ v', e = .returned v' ∧ isNatB w' w.heap.size v' (x - y)) ∧ Below w.heap.size w w' := by
 obtain ⟨i0, hi, hz0, hz1, hz2⟩ := info_parts Tryz.infoU64
 have hxd := gr_lt x
 have hyd := gr_lt y
 have hxo := qQ x
 have hyo := qQ y
 have hlen := jc hyx
 have hend := fun L c => @Km 1000000000 L (gr x) (gr y) c
 rw [hxo, hyo] at hend
 unfold isNat at hx hy
 generalize gr x = xs at *
 generalize gr y = ys at *
 obtain ⟨p, cap, rfl⟩ := zt hx
 obtain ⟨q, cap2, rfl⟩ := zt hy
 have Hxd := hide hxd
 have Hyd := hide hyd
 have Hx := hide hx
 have Hy := hide hy
 have Hend := hide hend
 clear hxd hyd hxo hyo hx hy hend
 go_enter Tryz.func209, Tryz.ntmps209
 go_wp2_with (refine wpList_make_full _ rfl (.tmp 10) (.tmp 10) 178 rfl w.heap.size 173 i0 (.int .u64 0) 1 Tryz.underlying178 hi hz0 hz1 .i64 .i64 xs.length xs.length xs.length rfl rfl rfl rfl (by rw [hz2]; omega) (by unfold maxLen; omega) (Nat.le_refl _) ?_; intro w1 hown1 hg1)
 go_loopw [6, 14] (fun ow i wr => ∃ (k c : Nat) (L : List Nat), k ≤ xs.length ∧ i = .int .i64 (k : Int) ∧ ow = .int .u64 (c : Int) ∧ c ≤ 1 ∧ L.length = xs.length ∧
   wr.ownsRow w.heap.size 173 1 (.slice (some ⟨w.heap.size, 0, none⟩) xs.length xs.length) xs.length (u64s L) ∧ Below w.heap.size w wr ∧
   Hid (∀ d ∈ L, d < 1000000000) ∧ Hid (ofd 1000000000 (L.take k) + ofd 1000000000 (ys.take k) = ofd 1000000000 (xs.take k) + c * 1000000000 ^ k))
  (fun _ i _ => (xs.length - intOf i).toNat)
 case atStart =>
  refine ⟨0, 0, List.replicate xs.length 0, Nat.zero_le _, rfl, rfl, by omega, by simp, ?_, (Below.refl _ _).grown hg1 (Nat.le_refl _) (fun _ h => by cases h), ?_, ?_⟩
  ·simpa [Value.cells, toList_madeCells_one, qE] using hown1
  ·intro d hd; simp at hd; omega
  ·show _ = _; simp [ofd]
 case round =>
  clear hown1 hg1
  obtain ⟨k, c, L, hk, rfl, rfl, hc, hLl, hown, hb, hLd, hval⟩ := hrel
  by_cases hlt : k < xs.length
  ·obtain ⟨g, rfl, hcx⟩ := j7 (zr (za Hx) hb) k hlt
   have hxk : xs[k]'hlt < 1000000000 := za Hxd _ (List.getElem_mem _)
   obtain ⟨v0, hv0⟩ := qB hown k (by omega)
   have hfr := hown.frozenAt k
   have hstep := fun d c' => @Yh 1000000000 L xs ys k c c' d (za hval) (by omega)
   rw [jT hlt] at hstep
   generalize xs[k]'hlt = xk at *
   have hkI : (k : Int) < xs.length := by omega
   by_cases hky : k < ys.length
   ·obtain ⟨g2, rfl, hcy⟩ := j7 (zr (za Hy) hb) k hky
    have hyk : ys[k]'hky < 1000000000 := za Hyd _ (List.getElem_mem _)
    rw [jT hky] at hstep
    generalize ys[k]'hky = yk at *
    have Hstep := hide hstep
    clear hstep
    have hkyI : (k : Int) < ys.length := by omega
    by_cases hge : xk < c + yk
    ·skip
     go_wp2
     go_roundw
     case rel => exact ⟨k + 1, 1, L.set k (xk + 1000000000 - (c + yk)), by omega, by go_num, rfl, by omega, by simpa using hLl, qv hown k (xk + 1000000000 - (c + yk)) _ (by omega), hb.setCell (by simp) _, qy (za hLd) (by omega), za Hstep (xk + 1000000000 - (c + yk)) 1 (by omega)⟩
     case measure => simp [intOf]; omega
    ·skip
     go_wp2
     go_roundw
     case rel => exact ⟨k + 1, 0, L.set k (xk - (c + yk)), by omega, by go_num, rfl, by omega, by simpa using hLl, qv hown k (xk - (c + yk)) _ (by omega), hb.setCell (by simp) _, qy (za hLd) (by omega), za Hstep (xk - (c + yk)) 0 (by omega)⟩
     case measure => simp [intOf]; omega
   ·rw [xd (by omega)] at hstep
    have Hstep := hide hstep
    clear hstep
    have hkyI : ¬ (k : Int) < ys.length := by omega
    by_cases hge : xk < c
    ·skip
     go_wp2
     go_roundw
     case rel => exact ⟨k + 1, 1, L.set k (xk + 1000000000 - c), by omega, by go_num, rfl, by omega, by simpa using hLl, qv hown k (xk + 1000000000 - c) _ (by omega), hb.setCell (by simp) _, qy (za hLd) (by omega), za Hstep (xk + 1000000000 - c) 1 (by omega)⟩
     case measure => simp [intOf]; omega
    ·skip
     go_wp2
     go_roundw
     case rel => exact ⟨k + 1, 0, L.set k (xk - c), by omega, by go_num, rfl, by omega, by simpa using hLl, qv hown k (xk - c) _ (by omega), hb.setCell (by simp) _, qy (za hLd) (by omega), za Hstep (xk - c) 0 (by omega)⟩
     case measure => simp [intOf]; omega
  ·have hkn : k = xs.length := by omega
   subst hkn
   have hfin := za Hend L c hLl hlen (za hLd) (za hval) hyx
   have Hfin := hide hfin
   clear hfin
   go_wp2_with fail
   refine (q8 L w.heap.size _ _ (by omega) (za hLd) (by rw [hLl]; exact hown)).mono ?_
   rintro e w2 ⟨⟨v', rfl, hv'⟩, rfl⟩
   rw [za Hfin] at hv'
   go_wp2
   go_ret
   exact ⟨⟨v', rfl, hv'⟩, hb⟩
theorem JD (b : Nat) (l : List Nat) (k : Nat) : ofd b (l ++ List.replicate k 0) = ofd b l := by rw [jD, z6]; omega
theorem YN (x y : Nat) (h : (gr y).length ≤ (gr x).length) : x + y < 2 * 1000000000 ^ (gr x).length := by
 have h1 := jy (b := 1000000000) (by omega) x
 have h2 := jy (b := 1000000000) (by omega) y
 have h3 : 1000000000 ^ (gr y).length ≤ 1000000000 ^ (gr x).length := Nat.pow_le_pow_right (by omega) h
 unfold gr at *
 omega
theorem Vl {P : Program} {w w0 : World} {dT ty elem t : TypeId} {g B dLen dCap sLen sCap : Nat} {sp : Option Addr} {cur cs : List Value} (hu : P.underlying dT = some (.slice elem)) (hsz : (P.info? elem).map (·.size) = some 1)
  (hg : w.heap[g]? = some (.cells cur.toArray t (0, 0))) (hn : cs.length = Nat.min sLen dLen) (hpos : 0 < cs.length → ∃ ad, sp = some ad ∧ ∀ j v, cs[j]? = some v → w.cell? (ad.add j) = some v)
  (hfit : cs.length ≤ cur.length) (h1 : ∀ v ∈ cs, v.oneCell' = true) (hb : Below B w0 w) (hBg : B ≤ g) :
  ∃ w', (Builtin.copy_ #[dT, dT] ty #[.slice (some ⟨g, 0, none⟩) dLen dCap, .slice sp sLen sCap]).run P w = .ok (.int .i64 (cs.length : Int)) w' ∧ w'.heap[g]? = some (.cells (splice cur 0 cs).toArray t (0, 0)) ∧ Below B w0 w' := by
 by_cases h0 : cs.length = 0
 ·obtain rfl : cs = [] := List.eq_nil_of_length_eq_zero h0
  exact ⟨w, run_copy_none w dT dT ty elem _ _ _ _ _ _ hu hsz (by simpa using hn.symm), by simpa [splice] using hg, hb⟩
 ·obtain ⟨ad, rfl, hsrc⟩ := hpos (by omega)
  refine ⟨_, run_copy_row (P := P) w dT dT ty elem g 0 dLen dCap ad sLen sCap cur.toArray t cs hu hsz hg hn hsrc (by simpa using hfit) h1, ?_, below_setRow hb hBg _⟩
  have hh := setRow_heap w g cur.toArray (cur.toArray.toList.take 0 ++ cs ++ cur.toArray.toList.drop (0 + cs.length)).toArray t (0, 0) hg
  simpa [splice] using hh
theorem KA (x y : Nat) (v u : Value) (w : World) (hx : isNat w v x) (hy : isNat w u y) (hl : (gr y).length ≤ (gr x).length) (hs : (gr x).length ≤ 1000000) :
  Calls Tryz.prog 208 #[v, u] w fun e w' => (∃ v', e = .returned v' ∧ isNatB w' w.heap.size v' (x + y)) ∧ Below w.heap.size w w' := by
 obtain ⟨i0, hi, hz0, hz1, hz2⟩ := info_parts Tryz.infoU64
 have hxd := gr_lt x
 have hyd := gr_lt y
 have hxo := qQ x
 have hyo := qQ y
 have hV := YN x y hl
 unfold isNat at hx hy
 generalize gr x = xs at *
 generalize gr y = ys at *
 obtain ⟨p, cap, rfl⟩ := zt hx
 obtain ⟨q, cap2, rfl⟩ := zt hy
 have h2cells := fun g cap' (h : Value.slice p xs.length cap = .slice (some ⟨g, 0, none⟩) xs.length cap') (w1 : World) (hb : Below w.heap.size w w1) => (h ▸ zr hx hb : w1.ownsRow 0 173 1 (.slice (some ⟨g, 0, none⟩) xs.length cap') xs.length (u64s xs)).cells (g := g) rfl
 have Hxd := hide hxd
 have Hyd := hide hyd
 have Hx := hide hx
 have Hy := hide hy
 have HV := hide hV
 have Hxo := hide hxo
 have Hyo := hide hyo
 have hnl : ¬ (xs.length : Int) < ys.length := by omega
 clear hxd hyd hxo hyo hx hy hV
 go_enter Tryz.func208, Tryz.ntmps208
 go_wp2_with (refine wpList_make_full _ rfl (.tmp 16) (.tmp 16) 178 rfl w.heap.size 173 i0 (.int .u64 0) 1 Tryz.underlying178 hi hz0 hz1 .i64 .i64 (xs.length + 1) (xs.length + 1) (xs.length + 1) rfl rfl (by go_num) (by go_num) (by rw [hz2]; omega) (by unfold maxLen; omega) (Nat.le_refl _) ?_; intro w1 hown1 hg1)
 have hb1 : Below w.heap.size w w1 := (Below.refl _ _).grown hg1 (Nat.le_refl _) (fun _ h => by cases h)
 have hown1' : w1.ownsRow w.heap.size 173 1 (.slice (some ⟨w.heap.size, 0, none⟩) (xs.length + 1) (xs.length + 1)) (xs.length + 1) (u64s (List.replicate (xs.length + 1) 0)) := by
  simpa [Value.cells, toList_madeCells_one, qE] using hown1
 have hblk := jZ hown1'
 have Hblk := hide hblk
 have hpos : 0 < (u64s xs).length → ∃ ad, p = some ad ∧ ∀ j v, (u64s xs)[j]? = some v → w1.cell? (ad.add j) = some v := by
  intro h
  obtain ⟨g, cap', hh, _⟩ := qn (za Hx) (by rwa [zQ] at h)
  have h2 := (h2cells g cap' hh w1 hb1)
  simp only [Value.slice.injEq, true_and] at hh
  exact ⟨_, hh.1, h2⟩
 have Hpos := hide hpos
 clear hown1 hg1 hown1' hblk hpos
 obtain ⟨w2, hcopy, hg2, hb2⟩ := Vl (P := Tryz.prog) (dT := 178) (ty := 3) (elem := 173) (sp := p) (sLen := xs.length) (sCap := cap) (dLen := xs.length + 1) (dCap := xs.length + 1) (cs := u64s xs) Tryz.underlying178 (by simp [hi, hz1]) (za Hblk) (by rw [zQ]; exact (Nat.min_eq_left (by omega)).symm) (za Hpos) (by simp [u64s]) (Zd _) hb1 (Nat.le_refl _)
 have hrow : splice (u64s (List.replicate (xs.length + 1) 0)) 0 (u64s xs) = u64s (xs ++ [0]) := by
  unfold splice
  rw [List.take_zero, List.nil_append, Nat.zero_add, zQ, ← xq, List.drop_replicate, yG, show xs.length + 1 - xs.length = 1 from by omega]
  rfl
 rw [hrow] at hg2
 rw [zQ] at hcopy
 have hownL := jx (base := w.heap.size) (n := xs.length + 1) hg2 (by rw [zQ]; simp) (by unfold maxLen; omega) (Nat.le_refl _)
 have HownL := hide hownL
 have Hb2 := hide hb2
 clear hrow hg2 hownL hb2 hb1 Hblk Hpos h2cells
 rw [hcopy]; simp only [Result.andThen]; rw [Oper.upon_value]
 clear hcopy
 go_wp2
 go_loopw [23] (fun i wr => ∃ (k : Nat) (L : List Nat), k ≤ xs.length ∧ i = .int .i64 (k : Int) ∧ L.length = xs.length + 1 ∧
   wr.ownsRow w.heap.size 173 1 (.slice (some ⟨w.heap.size, 0, none⟩) (xs.length + 1) (xs.length + 1)) (xs.length + 1) (u64s L) ∧ Below w.heap.size w wr ∧
   Hid (∀ d ∈ L.take k, d < 1000000000) ∧ Hid (∀ d ∈ L.drop (k + 1), d < 1000000000) ∧ L.getD k 0 ≤ 1000000000 ∧ Hid (ofd 1000000000 L + 1000000000 ^ k * ofd 1000000000 (ys.drop k) = x + y))
  (fun i _ => (xs.length - intOf i).toNat)
 case atStart =>
  refine ⟨0, xs ++ [0], Nat.zero_le _, rfl, by simp, za HownL, za Hb2, by show ∀ d ∈ _, _; simp, ?_, ?_, ?_⟩
  ·intro d hd
   have := List.mem_of_mem_drop hd
   rcases List.mem_append.1 this with h | h
   ·exact za Hxd d h
   ·simp at h; omega
  ·cases xs with
   | nil => simp
   | cons a r => have := za Hxd a (by simp); simp; omega
  ·show _ = _
   rw [show [0] = List.replicate 1 0 from rfl, JD, List.drop_zero, za Hxo, za Hyo, Nat.pow_zero, Nat.one_mul]
 case round =>
  clear HownL Hb2
  obtain ⟨k, L, hk, rfl, hLl, hown, hb, hLt, hLd, hLk, hval⟩ := hrel
  by_cases hlt : k < xs.length
  ·have hk1 : k + 1 < L.length := by omega
   have hx1 := Y2 hk1 (za hLd)
   have hc0 := hown.cellAt k (by omega)
   rw [zx _ _ (by omega)] at hc0
   have hc1 := hown.cellAt (k + 1) (by omega)
   rw [zx _ _ hk1] at hc1
   have hf0 := hown.frozenAt k
   have hf1 := hown.frozenAt (k + 1)
   rw [jT (by omega)] at hLk
   have hstep := fun a => @QI 1000000000 L ys k a L[k + 1] (x + y) hk1
   obtain ⟨a0, ha0⟩ : ∃ a0, L[k]'(by omega) = a0 := ⟨_, rfl⟩
   obtain ⟨x1, hx1e⟩ : ∃ x1, L[k + 1]'hk1 = x1 := ⟨_, rfl⟩
   rw [ha0] at hc0 hLk hstep
   rw [hx1e] at hc1 hx1 hstep
   have Hstep := hide hstep
   have Ha0 := hide ha0
   have hx1e' := hx1e
   have hkI : (k : Int) < xs.length := by omega
   clear hstep ha0 hx1e
   have Hx1e := hide hx1e'
   clear hx1e'
   by_cases hky : k < ys.length
   ·obtain ⟨g2, rfl, hcy⟩ := j7 (zr (za Hy) hb) k hky
    have hyk : ys[k]'hky < 1000000000 := za Hyd _ (List.getElem_mem _)
    obtain ⟨yk, hye⟩ : ∃ yk, ys[k]'hky = yk := ⟨_, rfl⟩
    rw [hye] at hcy hyk
    have Hye := hide hye
    clear hye
    have hkyI : (k : Int) < ys.length := by omega
    obtain ⟨a, ha⟩ : ∃ a : Nat, a0 + yk = a := ⟨_, rfl⟩
    have hIa : (a0 : Int) + yk = a := by omega
    have ha2 : a ≤ 1999999999 := by omega
    have e1 := wu64 (a : Int) (by omega) (by omega)
    have Haa : Hid (a0 + ys.getD k 0 = a) := by show _ = _; rw [jT hky, za Hye]; exact ha
    have hown1 := qv hown k a (a : Int) rfl
    have Hown1 := hide (show ((wr.setCell ⟨w.heap.size, k, none⟩ (.int .u64 (a : Int))).drew).ownsRow w.heap.size 173 1 (.slice (some ⟨w.heap.size, 0, none⟩) (xs.length + 1) (xs.length + 1)) (xs.length + 1) (u64s (L.set k a)) from hown1)
    have Hb1 := hide ((hb.setCell (p := ⟨w.heap.size, k, none⟩) (Nat.le_refl _) (.int .u64 (a : Int))).drew)
    clear ha hown1 hown hb
    go_wp2
    go_region
    clear hc0 hc1 hf0 hf1 hcy hIa e1
    generalize (wr.setCell ⟨w.heap.size, k, none⟩ (.int .u64 (a : Int))).drew = W1 at *
    have hL1 : (L.set k a).length = xs.length + 1 := by simpa using hLl
    have hc0 := (za Hown1).cellAt k (by omega)
    rw [zx _ _ (by omega), List.getElem_set_self] at hc0
    have hc1 := (za Hown1).cellAt (k + 1) (by omega)
    rw [zx _ _ (by simpa using hk1), List.getElem_set_ne (by omega), za Hx1e] at hc1
    have hf0 := (za Hown1).frozenAt k
    have hf1 := (za Hown1).frozenAt (k + 1)
    obtain ⟨q9, hq9⟩ : ∃ q9, a / 1000000000 = q9 := ⟨_, rfl⟩
    have hq9' : q9 ≤ 1 := by omega
    have e2 : (a : Int).tdiv 1000000000 = q9 := by rw [Int.tdiv_eq_ediv_of_nonneg (by omega)]; omega
    have e3 := wu64 (q9 : Int) (by omega) (by omega)
    have e4 := wu64 ((x1 : Int) + q9) (by omega) (by omega)
    have hstep := za Hstep a (za Haa) (by first | trivial | rfl) (za hval)
    rw [hq9] at hstep
    have hinv := @kL 1000000000 L k (a % 1000000000) (x1 + q9) a hk1 (za hLt) (za hLd) (Nat.mod_lt _ (by omega)) (by omega)
    have hown2 := qv (za Hown1) (k + 1) (x1 + q9) ((x1 : Int) + q9) (by omega)
    have Hinv := hide hinv
    have Hstep2 := hide hstep
    have Hown2 := hide hown2
    clear hstep hinv hown2
    go_wp2
    go_region
    clear hc0 hc1 hf0 hf1 e2 e3 e4
    have hb2 := ((za Hb1).setCell (p := ⟨w.heap.size, k + 1, none⟩) (Nat.le_refl _) (.int .u64 ((x1 : Int) + q9))).drew
    have hown2 : (World.drew (World.setCell _ ⟨w.heap.size, k + 1, none⟩ (.int .u64 ((x1 : Int) + q9)))).ownsRow w.heap.size 173 1 (.slice (some ⟨w.heap.size, 0, none⟩) (xs.length + 1) (xs.length + 1)) (xs.length + 1) (u64s ((L.set k a).set (k + 1) (x1 + q9))) := za Hown2
    have hc0 := hown2.cellAt k (by omega)
    rw [zx _ _ (by simp; omega), List.getElem_set_ne (by omega), List.getElem_set_self] at hc0
    have hf0 := hown2.frozenAt k
    have hown3 := qv hown2 k (a % 1000000000) ((a : Int) % 1000000000) (by omega)
    have Hown3 := hide hown3
    have Hb2 := hide hb2
    clear hown2 hown3 hb2
    go_wp2
    go_roundw
    case rel => exact ⟨k + 1, _, by omega, by go_num, by simpa using hLl, za Hown3, (za Hb2).setCell (Nat.le_refl _) _, (za Hinv).1, (za Hinv).2.1, (za Hinv).2.2, Hstep2⟩
    case measure => simp [intOf]; omega
   ·obtain ⟨a, ha⟩ : ∃ a : Nat, a0 = a := ⟨_, rfl⟩
    have ha2 : a ≤ 1999999999 := by omega
    have Haa : Hid (a0 + ys.getD k 0 = a) := by show _ = _; rw [xd (by omega)]; exact ha
    have hLs : L.set k a = L := by rw [← ha, ← za Ha0]; exact List.set_getElem_self (by omega)
    have Hown1 := hide (show wr.ownsRow w.heap.size 173 1 (.slice (some ⟨w.heap.size, 0, none⟩) (xs.length + 1) (xs.length + 1)) (xs.length + 1) (u64s (L.set k a)) from by rw [hLs]; exact hown)
    have Hb1 := hide hb
    have hkyI : ¬ (k : Int) < ys.length := by omega
    clear ha hown hb hLs hc0 hc1 hf0 hf1
    obtain ⟨W1, hW1⟩ : ∃ W1, wr = W1 := ⟨_, rfl⟩
    subst hW1
    have hL1 : (L.set k a).length = xs.length + 1 := by simpa using hLl
    have hc0 := (za Hown1).cellAt k (by omega)
    rw [zx _ _ (by omega), List.getElem_set_self] at hc0
    have hc1 := (za Hown1).cellAt (k + 1) (by omega)
    rw [zx _ _ (by simpa using hk1), List.getElem_set_ne (by omega), za Hx1e] at hc1
    have hf0 := (za Hown1).frozenAt k
    have hf1 := (za Hown1).frozenAt (k + 1)
    obtain ⟨q9, hq9⟩ : ∃ q9, a / 1000000000 = q9 := ⟨_, rfl⟩
    have hq9' : q9 ≤ 1 := by omega
    have e2 : (a : Int).tdiv 1000000000 = q9 := by rw [Int.tdiv_eq_ediv_of_nonneg (by omega)]; omega
    have e3 := wu64 (q9 : Int) (by omega) (by omega)
    have e4 := wu64 ((x1 : Int) + q9) (by omega) (by omega)
    have hstep := za Hstep a (za Haa) (by first | trivial | rfl) (za hval)
    rw [hq9] at hstep
    have hinv := @kL 1000000000 L k (a % 1000000000) (x1 + q9) a hk1 (za hLt) (za hLd) (Nat.mod_lt _ (by omega)) (by omega)
    have hown2 := qv (za Hown1) (k + 1) (x1 + q9) ((x1 : Int) + q9) (by omega)
    have Hinv := hide hinv
    have Hstep2 := hide hstep
    have Hown2 := hide hown2
    clear hstep hinv hown2
    go_wp2
    go_region
    clear hc0 hc1 hf0 hf1 e2 e3 e4
    have hb2 := ((za Hb1).setCell (p := ⟨w.heap.size, k + 1, none⟩) (Nat.le_refl _) (.int .u64 ((x1 : Int) + q9))).drew
    have hown2 : (World.drew (World.setCell _ ⟨w.heap.size, k + 1, none⟩ (.int .u64 ((x1 : Int) + q9)))).ownsRow w.heap.size 173 1 (.slice (some ⟨w.heap.size, 0, none⟩) (xs.length + 1) (xs.length + 1)) (xs.length + 1) (u64s ((L.set k a).set (k + 1) (x1 + q9))) := za Hown2
    have hc0 := hown2.cellAt k (by omega)
    rw [zx _ _ (by simp; omega), List.getElem_set_ne (by omega), List.getElem_set_self] at hc0
    have hf0 := hown2.frozenAt k
    have hown3 := qv hown2 k (a % 1000000000) ((a : Int) % 1000000000) (by omega)
    have Hown3 := hide hown3
    have Hb2 := hide hb2
    clear hown2 hown3 hb2
    go_wp2
    go_roundw
    case rel => exact ⟨k + 1, _, by omega, by go_num, by simpa using hLl, za Hown3, (za Hb2).setCell (Nat.le_refl _) _, (za Hinv).1, (za Hinv).2.1, (za Hinv).2.2, Hstep2⟩
    case measure => simp [intOf]; omega
  ·have hkn : k = xs.length := by omega
   subst hkn
   have hval' := za hval
   rw [List.drop_of_length_le (by omega)] at hval'
   have hval2 : ofd 1000000000 L = x + y := by simpa [ofd] using hval'
   have htop := Qw hLl hval2 (za HV) (by omega)
   have hall : ∀ d ∈ L, d < 1000000000 := by
    intro d hd
    obtain ⟨j, hj, rfl⟩ := List.getElem_of_mem hd
    by_cases hjn : j = xs.length
    ·subst hjn; exact htop
    ·exact za hLt _ (by rw [List.mem_take_iff_getElem]; exact ⟨j, by omega, rfl⟩)
   have Hall := hide hall
   have Hv2 := hide hval2
   clear hval' hval2 htop hall
   go_wp2_with fail
   refine (q8 L w.heap.size _ _ (by omega) (za Hall) (by rw [hLl]; exact hown)).mono ?_
   rintro e w2 ⟨⟨v', rfl, hv'⟩, rfl⟩
   rw [za Hv2] at hv'
   go_wp2
   go_ret
   exact ⟨⟨v', rfl, hv'⟩, hb⟩
theorem Yq (x y : Nat) (v u : Value) (w : World) (hx : isNat w v x) (hy : isNat w u y) (hl : (gr y).length < (gr x).length) (hs : (gr x).length ≤ 1000000) :
  Calls Tryz.prog 208 #[u, v] w fun e w' => (∃ v', e = .returned v' ∧ isNatB w' w.heap.size v' (x + y)) ∧ Below w.heap.size w w' := by
 obtain ⟨i0, hi, hz0, hz1, hz2⟩ := info_parts Tryz.infoU64
 have hxd := gr_lt x
 have hyd := gr_lt y
 have hxo := qQ x
 have hyo := qQ y
 have hV := YN x y (by omega)
 unfold isNat at hx hy
 generalize gr x = xs at *
 generalize gr y = ys at *
 obtain ⟨p, cap, rfl⟩ := zt hx
 obtain ⟨q, cap2, rfl⟩ := zt hy
 have h2cells := fun g cap' (h : Value.slice p xs.length cap = .slice (some ⟨g, 0, none⟩) xs.length cap') (w1 : World) (hb : Below w.heap.size w w1) => (h ▸ zr hx hb : w1.ownsRow 0 173 1 (.slice (some ⟨g, 0, none⟩) xs.length cap') xs.length (u64s xs)).cells (g := g) rfl
 have Hxd := hide hxd
 have Hyd := hide hyd
 have Hx := hide hx
 have Hy := hide hy
 have HV := hide hV
 have Hxo := hide hxo
 have Hyo := hide hyo
 have hnl : (ys.length : Int) < xs.length := by omega
 clear hxd hyd hxo hyo hx hy hV
 go_enter Tryz.func208, Tryz.ntmps208
 go_wp2_with (refine wpList_make_full _ rfl (.tmp 16) (.tmp 16) 178 rfl w.heap.size 173 i0 (.int .u64 0) 1 Tryz.underlying178 hi hz0 hz1 .i64 .i64 (xs.length + 1) (xs.length + 1) (xs.length + 1) rfl rfl (by go_num) (by go_num) (by rw [hz2]; omega) (by unfold maxLen; omega) (Nat.le_refl _) ?_; intro w1 hown1 hg1)
 have hb1 : Below w.heap.size w w1 := (Below.refl _ _).grown hg1 (Nat.le_refl _) (fun _ h => by cases h)
 have hown1' : w1.ownsRow w.heap.size 173 1 (.slice (some ⟨w.heap.size, 0, none⟩) (xs.length + 1) (xs.length + 1)) (xs.length + 1) (u64s (List.replicate (xs.length + 1) 0)) := by
  simpa [Value.cells, toList_madeCells_one, qE] using hown1
 have hblk := jZ hown1'
 have Hblk := hide hblk
 have hpos : 0 < (u64s xs).length → ∃ ad, p = some ad ∧ ∀ j v, (u64s xs)[j]? = some v → w1.cell? (ad.add j) = some v := by
  intro h
  obtain ⟨g, cap', hh, _⟩ := qn (za Hx) (by rwa [zQ] at h)
  have h2 := (h2cells g cap' hh w1 hb1)
  simp only [Value.slice.injEq, true_and] at hh
  exact ⟨_, hh.1, h2⟩
 have Hpos := hide hpos
 clear hown1 hg1 hown1' hblk hpos
 obtain ⟨w2, hcopy, hg2, hb2⟩ := Vl (P := Tryz.prog) (dT := 178) (ty := 3) (elem := 173) (sp := p) (sLen := xs.length) (sCap := cap) (dLen := xs.length + 1) (dCap := xs.length + 1) (cs := u64s xs) Tryz.underlying178 (by simp [hi, hz1]) (za Hblk) (by rw [zQ]; exact (Nat.min_eq_left (by omega)).symm) (za Hpos) (by simp [u64s]) (Zd _) hb1 (Nat.le_refl _)
 have hrow : splice (u64s (List.replicate (xs.length + 1) 0)) 0 (u64s xs) = u64s (xs ++ [0]) := by
  unfold splice
  rw [List.take_zero, List.nil_append, Nat.zero_add, zQ, ← xq, List.drop_replicate, yG, show xs.length + 1 - xs.length = 1 from by omega]
  rfl
 rw [hrow] at hg2
 rw [zQ] at hcopy
 have hownL := jx (base := w.heap.size) (n := xs.length + 1) hg2 (by rw [zQ]; simp) (by unfold maxLen; omega) (Nat.le_refl _)
 have HownL := hide hownL
 have Hb2 := hide hb2
 clear hrow hg2 hownL hb2 hb1 Hblk Hpos h2cells
 rw [hcopy]; simp only [Result.andThen]; rw [Oper.upon_value]
 clear hcopy
 go_wp2
 go_loopw [23] (fun i wr => ∃ (k : Nat) (L : List Nat), k ≤ xs.length ∧ i = .int .i64 (k : Int) ∧ L.length = xs.length + 1 ∧
   wr.ownsRow w.heap.size 173 1 (.slice (some ⟨w.heap.size, 0, none⟩) (xs.length + 1) (xs.length + 1)) (xs.length + 1) (u64s L) ∧ Below w.heap.size w wr ∧
   Hid (∀ d ∈ L.take k, d < 1000000000) ∧ Hid (∀ d ∈ L.drop (k + 1), d < 1000000000) ∧ L.getD k 0 ≤ 1000000000 ∧ Hid (ofd 1000000000 L + 1000000000 ^ k * ofd 1000000000 (ys.drop k) = x + y))
  (fun i _ => (xs.length - intOf i).toNat)
 case atStart =>
  refine ⟨0, xs ++ [0], Nat.zero_le _, rfl, by simp, za HownL, za Hb2, by show ∀ d ∈ _, _; simp, ?_, ?_, ?_⟩
  ·intro d hd
   have := List.mem_of_mem_drop hd
   rcases List.mem_append.1 this with h | h
   ·exact za Hxd d h
   ·simp at h; omega
  ·cases xs with
   | nil => simp
   | cons a r => have := za Hxd a (by simp); simp; omega
  ·show _ = _
   rw [show [0] = List.replicate 1 0 from rfl, JD, List.drop_zero, za Hxo, za Hyo, Nat.pow_zero, Nat.one_mul]
 case round =>
  clear HownL Hb2
  obtain ⟨k, L, hk, rfl, hLl, hown, hb, hLt, hLd, hLk, hval⟩ := hrel
  by_cases hlt : k < xs.length
  ·have hk1 : k + 1 < L.length := by omega
   have hx1 := Y2 hk1 (za hLd)
   have hc0 := hown.cellAt k (by omega)
   rw [zx _ _ (by omega)] at hc0
   have hc1 := hown.cellAt (k + 1) (by omega)
   rw [zx _ _ hk1] at hc1
   have hf0 := hown.frozenAt k
   have hf1 := hown.frozenAt (k + 1)
   rw [jT (by omega)] at hLk
   have hstep := fun a => @QI 1000000000 L ys k a L[k + 1] (x + y) hk1
   obtain ⟨a0, ha0⟩ : ∃ a0, L[k]'(by omega) = a0 := ⟨_, rfl⟩
   obtain ⟨x1, hx1e⟩ : ∃ x1, L[k + 1]'hk1 = x1 := ⟨_, rfl⟩
   rw [ha0] at hc0 hLk hstep
   rw [hx1e] at hc1 hx1 hstep
   have Hstep := hide hstep
   have Ha0 := hide ha0
   have hx1e' := hx1e
   have hkI : (k : Int) < xs.length := by omega
   clear hstep ha0 hx1e
   have Hx1e := hide hx1e'
   clear hx1e'
   by_cases hky : k < ys.length
   ·obtain ⟨g2, rfl, hcy⟩ := j7 (zr (za Hy) hb) k hky
    have hyk : ys[k]'hky < 1000000000 := za Hyd _ (List.getElem_mem _)
    obtain ⟨yk, hye⟩ : ∃ yk, ys[k]'hky = yk := ⟨_, rfl⟩
    rw [hye] at hcy hyk
    have Hye := hide hye
    clear hye
    have hkyI : (k : Int) < ys.length := by omega
    obtain ⟨a, ha⟩ : ∃ a : Nat, a0 + yk = a := ⟨_, rfl⟩
    have hIa : (a0 : Int) + yk = a := by omega
    have ha2 : a ≤ 1999999999 := by omega
    have e1 := wu64 (a : Int) (by omega) (by omega)
    have Haa : Hid (a0 + ys.getD k 0 = a) := by show _ = _; rw [jT hky, za Hye]; exact ha
    have hown1 := qv hown k a (a : Int) rfl
    have Hown1 := hide (show ((wr.setCell ⟨w.heap.size, k, none⟩ (.int .u64 (a : Int))).drew).ownsRow w.heap.size 173 1 (.slice (some ⟨w.heap.size, 0, none⟩) (xs.length + 1) (xs.length + 1)) (xs.length + 1) (u64s (L.set k a)) from hown1)
    have Hb1 := hide ((hb.setCell (p := ⟨w.heap.size, k, none⟩) (Nat.le_refl _) (.int .u64 (a : Int))).drew)
    clear ha hown1 hown hb
    go_wp2
    go_region
    clear hc0 hc1 hf0 hf1 hcy hIa e1
    generalize (wr.setCell ⟨w.heap.size, k, none⟩ (.int .u64 (a : Int))).drew = W1 at *
    have hL1 : (L.set k a).length = xs.length + 1 := by simpa using hLl
    have hc0 := (za Hown1).cellAt k (by omega)
    rw [zx _ _ (by omega), List.getElem_set_self] at hc0
    have hc1 := (za Hown1).cellAt (k + 1) (by omega)
    rw [zx _ _ (by simpa using hk1), List.getElem_set_ne (by omega), za Hx1e] at hc1
    have hf0 := (za Hown1).frozenAt k
    have hf1 := (za Hown1).frozenAt (k + 1)
    obtain ⟨q9, hq9⟩ : ∃ q9, a / 1000000000 = q9 := ⟨_, rfl⟩
    have hq9' : q9 ≤ 1 := by omega
    have e2 : (a : Int).tdiv 1000000000 = q9 := by rw [Int.tdiv_eq_ediv_of_nonneg (by omega)]; omega
    have e3 := wu64 (q9 : Int) (by omega) (by omega)
    have e4 := wu64 ((x1 : Int) + q9) (by omega) (by omega)
    have hstep := za Hstep a (za Haa) (by first | trivial | rfl) (za hval)
    rw [hq9] at hstep
    have hinv := @kL 1000000000 L k (a % 1000000000) (x1 + q9) a hk1 (za hLt) (za hLd) (Nat.mod_lt _ (by omega)) (by omega)
    have hown2 := qv (za Hown1) (k + 1) (x1 + q9) ((x1 : Int) + q9) (by omega)
    have Hinv := hide hinv
    have Hstep2 := hide hstep
    have Hown2 := hide hown2
    clear hstep hinv hown2
    go_wp2
    go_region
    clear hc0 hc1 hf0 hf1 e2 e3 e4
    have hb2 := ((za Hb1).setCell (p := ⟨w.heap.size, k + 1, none⟩) (Nat.le_refl _) (.int .u64 ((x1 : Int) + q9))).drew
    have hown2 : (World.drew (World.setCell _ ⟨w.heap.size, k + 1, none⟩ (.int .u64 ((x1 : Int) + q9)))).ownsRow w.heap.size 173 1 (.slice (some ⟨w.heap.size, 0, none⟩) (xs.length + 1) (xs.length + 1)) (xs.length + 1) (u64s ((L.set k a).set (k + 1) (x1 + q9))) := za Hown2
    have hc0 := hown2.cellAt k (by omega)
    rw [zx _ _ (by simp; omega), List.getElem_set_ne (by omega), List.getElem_set_self] at hc0
    have hf0 := hown2.frozenAt k
    have hown3 := qv hown2 k (a % 1000000000) ((a : Int) % 1000000000) (by omega)
    have Hown3 := hide hown3
    have Hb2 := hide hb2
    clear hown2 hown3 hb2
    go_wp2
    go_roundw
    case rel => exact ⟨k + 1, _, by omega, by go_num, by simpa using hLl, za Hown3, (za Hb2).setCell (Nat.le_refl _) _, (za Hinv).1, (za Hinv).2.1, (za Hinv).2.2, Hstep2⟩
    case measure => simp [intOf]; omega
   ·obtain ⟨a, ha⟩ : ∃ a : Nat, a0 = a := ⟨_, rfl⟩
    have ha2 : a ≤ 1999999999 := by omega
    have Haa : Hid (a0 + ys.getD k 0 = a) := by show _ = _; rw [xd (by omega)]; exact ha
    have hLs : L.set k a = L := by rw [← ha, ← za Ha0]; exact List.set_getElem_self (by omega)
    have Hown1 := hide (show wr.ownsRow w.heap.size 173 1 (.slice (some ⟨w.heap.size, 0, none⟩) (xs.length + 1) (xs.length + 1)) (xs.length + 1) (u64s (L.set k a)) from by rw [hLs]; exact hown)
    have Hb1 := hide hb
    have hkyI : ¬ (k : Int) < ys.length := by omega
    clear ha hown hb hLs hc0 hc1 hf0 hf1
    obtain ⟨W1, hW1⟩ : ∃ W1, wr = W1 := ⟨_, rfl⟩
    subst hW1
    have hL1 : (L.set k a).length = xs.length + 1 := by simpa using hLl
    have hc0 := (za Hown1).cellAt k (by omega)
    rw [zx _ _ (by omega), List.getElem_set_self] at hc0
    have hc1 := (za Hown1).cellAt (k + 1) (by omega)
    rw [zx _ _ (by simpa using hk1), List.getElem_set_ne (by omega), za Hx1e] at hc1
    have hf0 := (za Hown1).frozenAt k
    have hf1 := (za Hown1).frozenAt (k + 1)
    obtain ⟨q9, hq9⟩ : ∃ q9, a / 1000000000 = q9 := ⟨_, rfl⟩
    have hq9' : q9 ≤ 1 := by omega
    have e2 : (a : Int).tdiv 1000000000 = q9 := by rw [Int.tdiv_eq_ediv_of_nonneg (by omega)]; omega
    have e3 := wu64 (q9 : Int) (by omega) (by omega)
    have e4 := wu64 ((x1 : Int) + q9) (by omega) (by omega)
    have hstep := za Hstep a (za Haa) (by first | trivial | rfl) (za hval)
    rw [hq9] at hstep
    have hinv := @kL 1000000000 L k (a % 1000000000) (x1 + q9) a hk1 (za hLt) (za hLd) (Nat.mod_lt _ (by omega)) (by omega)
    have hown2 := qv (za Hown1) (k + 1) (x1 + q9) ((x1 : Int) + q9) (by omega)
    have Hinv := hide hinv
    have Hstep2 := hide hstep
    have Hown2 := hide hown2
    clear hstep hinv hown2
    go_wp2
    go_region
    clear hc0 hc1 hf0 hf1 e2 e3 e4
    have hb2 := ((za Hb1).setCell (p := ⟨w.heap.size, k + 1, none⟩) (Nat.le_refl _) (.int .u64 ((x1 : Int) + q9))).drew
    have hown2 : (World.drew (World.setCell _ ⟨w.heap.size, k + 1, none⟩ (.int .u64 ((x1 : Int) + q9)))).ownsRow w.heap.size 173 1 (.slice (some ⟨w.heap.size, 0, none⟩) (xs.length + 1) (xs.length + 1)) (xs.length + 1) (u64s ((L.set k a).set (k + 1) (x1 + q9))) := za Hown2
    have hc0 := hown2.cellAt k (by omega)
    rw [zx _ _ (by simp; omega), List.getElem_set_ne (by omega), List.getElem_set_self] at hc0
    have hf0 := hown2.frozenAt k
    have hown3 := qv hown2 k (a % 1000000000) ((a : Int) % 1000000000) (by omega)
    have Hown3 := hide hown3
    have Hb2 := hide hb2
    clear hown2 hown3 hb2
    go_wp2
    go_roundw
    case rel => exact ⟨k + 1, _, by omega, by go_num, by simpa using hLl, za Hown3, (za Hb2).setCell (Nat.le_refl _) _, (za Hinv).1, (za Hinv).2.1, (za Hinv).2.2, Hstep2⟩
    case measure => simp [intOf]; omega
  ·have hkn : k = xs.length := by omega
   subst hkn
   have hval' := za hval
   rw [List.drop_of_length_le (by omega)] at hval'
   have hval2 : ofd 1000000000 L = x + y := by simpa [ofd] using hval'
   have htop := Qw hLl hval2 (za HV) (by omega)
   have hall : ∀ d ∈ L, d < 1000000000 := by
    intro d hd
    obtain ⟨j, hj, rfl⟩ := List.getElem_of_mem hd
    by_cases hjn : j = xs.length
    ·subst hjn; exact htop
    ·exact za hLt _ (by rw [List.mem_take_iff_getElem]; exact ⟨j, by omega, rfl⟩)
   have Hall := hide hall
   have Hv2 := hide hval2
   clear hval' hval2 htop hall
   go_wp2_with fail
   refine (q8 L w.heap.size _ _ (by omega) (za Hall) (by rw [hLl]; exact hown)).mono ?_
   rintro e w2 ⟨⟨v', rfl, hv'⟩, rfl⟩
   rw [za Hv2] at hv'
   go_wp2
   go_ret
   exact ⟨⟨v', rfl, hv'⟩, hb⟩
theorem zbB (x y : Nat) (v u : Value) (w : World) (hx : isNat w v x) (hy : isNat w u y) (hsx : (gr x).length ≤ 1000000) (hsy : (gr y).length ≤ 1000000) :
  Calls Tryz.prog 208 #[v, u] w fun e w' => (∃ v', e = .returned v' ∧ isNatB w' w.heap.size v' (x + y)) ∧ Below w.heap.size w w' := by
 by_cases hl : (gr y).length ≤ (gr x).length
 ·exact KA x y v u w hx hy hl hsx
 ·have h := Yq y x u v w hy hx (by omega) hsy
  rw [Nat.add_comm y x] at h
  exact h
theorem Va {L : List Nat} {n j d : Nat} (h : ∀ t, n ≤ t → L.getD t 0 = 0) (hj : j < n) : ∀ t, n ≤ t → (L.set j d).getD t 0 = 0 := by
 intro t ht
 rw [List.getD_eq_getElem?_getD, List.getElem?_set_ne (by omega), ← List.getD_eq_getElem?_getD]
 exact h t ht
theorem ZX {w : World} {base : Nat} {e : TypeId} {size : Nat} {v : Value} {n : Nat} {xs : List Value} {a : Addr} {u : Value} (h : (w.setCell a u).ownsRow base e size v n xs) (k : Nat) : ((w.drewN k).setCell a u).ownsRow base e size v n xs := h
theorem Jo {B : Nat} {a w : World} (h : Below B a w) (n : Nat) : Below B a (w.drewN n) := ⟨h.os, h.tape, h.output, h.size, h.block⟩
theorem zaE (x y : Nat) (v u : Value) (w : World) (hx : isNat w v x) (hy : isNat w u y) (hsx : (gr x).length ≤ 1000000) (hsy : (gr y).length ≤ 1000000) :
  Calls Tryz.prog 188 #[v, u] w fun e w' => (∃ v', e = .returned v' ∧ isNatB w' w.heap.size v' (x * y)) ∧ Below w.heap.size w w' := by
 obtain ⟨i0, hi, hz0, hz1, hz2⟩ := info_parts Tryz.infoU64
 have hxd := gr_lt x
 have hyd := gr_lt y
 have hxo := qQ x
 have hyo := qQ y
 unfold isNat at hx hy
 generalize gr x = xs at *
 generalize gr y = ys at *
 obtain ⟨p, cap, rfl⟩ := zt hx
 obtain ⟨q, cap2, rfl⟩ := zt hy
 have Hxd := hide hxd
 have Hyd := hide hyd
 have Hx := hide hx
 have Hy := hide hy
 have Hxo := hide hxo
 have Hyo := hide hyo
 clear hxd hyd hxo hyo hx hy
 go_enter Tryz.func188, Tryz.ntmps188
 go_wp2_with (refine wpList_make_full _ rfl (.tmp 13) (.tmp 13) 178 rfl w.heap.size 173 i0 (.int .u64 0) 1 Tryz.underlying178 hi hz0 hz1 .i64 .i64 (xs.length + ys.length) (xs.length + ys.length) (xs.length + ys.length) rfl rfl (by go_num) (by go_num) (by rw [hz2]; omega) (by unfold maxLen; omega) (Nat.le_refl _) ?_; intro w1 hown1 hg1)
 go_loopw [17] (fun i wr => ∃ (k : Nat) (L : List Nat), k ≤ xs.length ∧ i = .int .i64 (k : Int) ∧ L.length = xs.length + ys.length ∧
   wr.ownsRow w.heap.size 173 1 (.slice (some ⟨w.heap.size, 0, none⟩) (xs.length + ys.length) (xs.length + ys.length)) (xs.length + ys.length) (u64s L) ∧ Below w.heap.size w wr ∧
   Hid (∀ d ∈ L, d < 1000000000) ∧ Hid (∀ t, k + ys.length ≤ t → L.getD t 0 = 0) ∧ Hid (ofd 1000000000 L = ofd 1000000000 (xs.take k) * ofd 1000000000 ys))
  (fun i _ => (xs.length - intOf i).toNat)
 case atStart =>
  refine ⟨0, List.replicate (xs.length + ys.length) 0, Nat.zero_le _, rfl, by simp, ?_, (Below.refl _ _).grown hg1 (Nat.le_refl _) (fun _ h => by cases h), ?_, ?_, ?_⟩
  ·simpa [Value.cells, toList_madeCells_one, qE] using hown1
  ·intro d hd; simp at hd; omega
  ·intro t _; rw [List.getD_eq_getElem?_getD, List.getElem?_replicate]; split <;> rfl
  ·show _ = _; simp [ofd, z6]
 case round =>
  clear hown1 hg1
  obtain ⟨k, L, hk, rfl, hLl, hown, hb, hLd, hLz, hval⟩ := hrel
  by_cases hlt : k < xs.length
  ·obtain ⟨g, rfl, hcx⟩ := j7 (zr (za Hx) hb) k hlt
   have hxk : xs[k]'hlt < 1000000000 := za Hxd _ (List.getElem_mem _)
   obtain ⟨xk, hxe⟩ : ∃ xk, xs[k]'hlt = xk := ⟨_, rfl⟩
   rw [hxe] at hcx hxk
   have Hxe := hide hxe
   have hkI : (k : Int) < xs.length := by omega
   have Hown := hide hown
   clear hxe hown hcx
   go_wp2
   go_loopw [7, 22] (fun cv jv wr => ∃ (j c : Nat) (L : List Nat), j ≤ ys.length ∧ jv = .int .i64 (j : Int) ∧ cv = .int .u64 (c : Int) ∧ c < 1000000000 ∧ L.length = xs.length + ys.length ∧
     wr.ownsRow w.heap.size 173 1 (.slice (some ⟨w.heap.size, 0, none⟩) (xs.length + ys.length) (xs.length + ys.length)) (xs.length + ys.length) (u64s L) ∧ Below w.heap.size w wr ∧
     Hid (∀ d ∈ L, d < 1000000000) ∧ Hid (∀ t, k + ys.length ≤ t → L.getD t 0 = 0) ∧ Hid (ofd 1000000000 L + c * 1000000000 ^ (k + j) = ofd 1000000000 (xs.take k) * ofd 1000000000 ys + 1000000000 ^ k * (xk * ofd 1000000000 (ys.take j))))
    (fun _ jv _ => (ys.length - intOf jv).toNat)
   case atStart =>
    refine ⟨0, 0, L, Nat.zero_le _, rfl, rfl, by omega, hLl, za Hown, hb, hLd, hLz, ?_⟩
    show _ = _
    rw [za hval]; simp [ofd]
   case round =>
    clear Hown hb hLd hLz hval hLl
    obtain ⟨j, c, L, hj, rfl, rfl, hc, hLl, hown, hb, hLd, hLz, hval⟩ := hrel
    by_cases hjl : j < ys.length
    ·obtain ⟨g2, rfl, hcy⟩ := j7 (zr (za Hy) hb) j hjl
     obtain ⟨g', hg', hcx⟩ := j7 (zr (za Hx) hb) k hlt
     obtain rfl : g' = g := by simpa using hg'.symm
     have hyk : ys[j]'hjl < 1000000000 := za Hyd _ (List.getElem_mem _)
     obtain ⟨yk, hye⟩ : ∃ yk, ys[j]'hjl = yk := ⟨_, rfl⟩
     rw [hye] at hcy hyk
     rw [za Hxe] at hcx
     have hkj : k + j < L.length := by omega
     have hcL := hown.cellAt (k + j) (by omega)
     rw [zx _ _ hkj] at hcL
     have hfL := hown.frozenAt (k + j)
     have hLk : L[k + j]'hkj < 1000000000 := za hLd _ (List.getElem_mem _)
     have hstep := fun t => @Yp 1000000000 L ys k j c t xk yk (ofd 1000000000 (xs.take k) * ofd 1000000000 ys) hkj (by rw [jT hjl]; exact hye)
     obtain ⟨lk, hle⟩ : ∃ lk, L[k + j]'hkj = lk := ⟨_, rfl⟩
     rw [hle] at hcL hLk hstep
     have hxy : xk * yk ≤ 999999999 * 999999999 := Nat.mul_le_mul (by omega) (by omega)
     obtain ⟨m, hm⟩ : ∃ m, xk * yk = m := ⟨_, rfl⟩
     rw [hm] at hxy hstep
     have e0 : IntKind.u64.wrap ((xk : Int) * yk) = (m : Int) := by rw [show (xk : Int) * yk = (m : Int) from by rw [← hm]; simp]; exact wu64 _ (by omega) (by omega)
     obtain ⟨s1, hs1⟩ : ∃ s1, lk + m = s1 := ⟨_, rfl⟩
     have e1 : IntKind.u64.wrap ((lk : Int) + m) = (s1 : Int) := by rw [show (lk : Int) + m = (s1 : Int) from by omega]; exact wu64 _ (by omega) (by omega)
     obtain ⟨t, ht⟩ : ∃ t, s1 + c = t := ⟨_, rfl⟩
     have e2 : IntKind.u64.wrap ((c : Int) + s1) = (t : Int) := by rw [show (c : Int) + s1 = (t : Int) from by omega]; exact wu64 _ (by omega) (by omega)
     have ht9 : t ≤ 999999999999999999 := by omega
     have hst := hstep t (by omega) (za hval)
     have Hst := hide hst
     have hjI : (j : Int) < ys.length := by omega
     have hown2 := fun v hv => qv hown (k + j) (t % 1000000000) v hv
     have Hown2 := hide hown2
     have hkj2 : (k : Int) + j < xs.length + ys.length := by omega
     clear hstep hst hye hle hm hs1 ht hown2 hg'
     go_wp2
     go_quiet (fail)
     go_wp2
     go_roundw
     case rel => exact ⟨j + 1, t / 1000000000, L.set (k + j) (t % 1000000000), by omega, by go_num, by go_num, by omega, by simpa using hLl, ZX (za Hown2 _ (by omega)) nq, (Jo hb nq).setCell (Nat.le_refl _) _, qy (za hLd) (Nat.mod_lt _ (by omega)), Va (za hLz) (by omega), za Hst⟩
     case measure => simp [intOf]; omega
    ·have hjn : j = ys.length := by omega
     have hkm : k + ys.length < L.length := by omega
     have hz := za hLz (k + ys.length) (Nat.le_refl _)
     rw [jT hkm] at hz
     have hval' := za hval
     rw [hjn] at hval'
     have hrow := @Xd 1000000000 L xs ys k ys.length c hkm rfl hz (by rw [jT hlt, za Hxe]; exact hval')
     have hcL := hown.cellAt (k + ys.length) (by omega)
     rw [zx _ _ hkm] at hcL
     have hfL := hown.frozenAt (k + ys.length)
     obtain ⟨lk, hle⟩ : ∃ lk, L[k + ys.length]'hkm = lk := ⟨_, rfl⟩
     rw [hle] at hcL
     have hown2 := fun v hv => qv hown (k + ys.length) c v hv
     have Hown2 := hide hown2
     have Hrow := hide hrow
     have hkm2 : (k : Int) + ys.length < xs.length + ys.length := by omega
     clear hz hval' hrow hle hown2
     go_wp2
     go_roundw
     case rel => exact ⟨k + 1, L.set (k + ys.length) c, by omega, by go_num, by simpa using hLl, za Hown2 _ rfl, hb.setCell (Nat.le_refl _) _, qy (za hLd) hc, fun t ht => Va (n := k + 1 + ys.length) (fun t ht => za hLz t (by omega)) (by omega) t ht, za Hrow⟩
     case measure => simp [intOf]; omega
  ·have hkn : k = xs.length := by omega
   subst hkn
   have hval' := za hval
   rw [List.take_of_length_le (by omega), za Hxo, za Hyo] at hval'
   have Hv := hide hval'
   clear hval'
   go_wp2_with fail
   refine (q8 L w.heap.size _ _ (by omega) (za hLd) (by rw [hLl]; exact hown)).mono ?_
   rintro e w2 ⟨⟨v', rfl, hv'⟩, rfl⟩
   rw [za Hv] at hv'
   go_wp2
   go_ret
   exact ⟨⟨v', rfl, hv'⟩, hb⟩
def AtC (w : World) (b : Nat) (cs : Array Value) (T : TypeId) : Prop := w.heap[b]? = some (.cells cs T (0, 0))
theorem AtC.lt {w : World} {b : Nat} {cs : Array Value} {T : TypeId} (h : AtC w b cs T) : b < w.heap.size := (Array.getElem?_eq_some_iff.1 h).1
theorem AtC.new (w : World) (cs : Array Value) (T : TypeId) : AtC (w.alloc (.cells cs T)) w.heap.size cs T := by
 show (w.heap.push _)[w.heap.size]? = _; rw [Array.getElem?_push, if_pos rfl]
theorem AtC.below {w w' : World} {b : Nat} {cs : Array Value} {T : TypeId} (h : AtC w b cs T) (k : Below w.heap.size w w') : AtC w' b cs T := (k.block b h.lt).trans h
theorem AtC.alloc {w : World} {b : Nat} {cs : Array Value} {T : TypeId} (h : AtC w b cs T) (o : Obj) : AtC (w.alloc o) b cs T := h.below ((Below.refl _ _).alloc (Nat.le_refl _) o)
theorem AtC.drew {w : World} {b : Nat} {cs : Array Value} {T : TypeId} (h : AtC w b cs T) : AtC w.drew b cs T := h
theorem AtC.c {w : World} {b : Nat} {cs : Array Value} {T : TypeId} (h : AtC w b cs T) (j : Nat) : w.cell? ⟨b, j, none⟩ = cs[j]? := by unfold AtC at h; simp [World.cell?, h]
theorem AtC.f {w : World} {b : Nat} {cs : Array Value} {T : TypeId} (h : AtC w b cs T) (j : Nat) : w.frozen? ⟨b, j, none⟩ = false := by unfold AtC at h; simp [World.frozen?, h]
theorem far2 {w : World} {b i j : Nat} {u v : Value} {a : Addr} (h : b ≠ a.block) : ((w.setCell ⟨b, i, none⟩ u).setCell ⟨b, j, none⟩ v).cell? a = w.cell? a := by
 rw [World.cell?_setCell_far _ _ _ _ h, World.cell?_setCell_far _ _ _ _ h]
def zS (n : Bool) (v : Value) : Value := .agg #[.bool n, v]
def plusW (a b : Bool × Nat) : Bool × Nat := if a.1 = b.1 then (a.1, a.2 + b.2) else if a.2 < b.2 then (b.1, b.2 - a.2) else (a.1, a.2 - b.2)
def za0 (w : World) (u : Value) (a : Bool × Nat) : Prop := ∃ v, u = zS a.1 v ∧ isNat w v a.2
def yy (w : World) (base : Nat) (u : Value) (a : Bool × Nat) : Prop := ∃ v, u = zS a.1 v ∧ isNatB w base v a.2
theorem qg {w : World} {base b i : Nat} {v u : Value} {x : Nat} (h : isNatB w base v x) (hb : b < base) : isNatB (w.setCell ⟨b, i, none⟩ u) base v x := ownsRow_setCell_below h hb u
theorem zbM (n : Bool) (v : Value) (x : Nat) (w : World) (hx : isNat w v x) :
  Calls Tryz.prog 190 #[zS n v] w fun e w' => (∃ u, e = .returned u ∧ za0 w' u (!n, x)) ∧ Below w.heap.size w w' := by
 obtain ⟨p, cap, rfl⟩ := zt hx
 have Hx := hide hx
 clear hx
 unfold zS
 go_enter Tryz.func190, Tryz.ntmps190
 go_wp2
 refine bodyPost_ret (v := .agg #[.bool (!n), .slice p (gr x).length cap]) (by simp [results, Tryz.results190, go_sem]) rfl ⟨⟨_, rfl, ⟨_, rfl, ?_⟩⟩, ?_⟩
 ·exact zo (za Hx) (((Below.refl _ _).alloc (Nat.le_refl _) _).alloc (by simp) _)
 ·exact ((Below.refl _ _).alloc (Nat.le_refl _) _).alloc (by simp) _
theorem zap (n m : Bool) (v u : Value) (x y : Nat) (w : World) (hx : isNat w v x) (hy : isNat w u y) (hsx : (gr x).length ≤ 1000000) (hsy : (gr y).length ≤ 1000000) :
  Calls Tryz.prog 161 #[zS n v, zS m u] w fun e w' => (∃ z, e = .returned z ∧ yy w' w.heap.size z (n != m, x * y)) ∧ Below w.heap.size w w' := by
 obtain ⟨p, cap, rfl⟩ := zt hx
 obtain ⟨q, cap2, rfl⟩ := zt hy
 obtain ⟨lx, hlx⟩ : ∃ l, (gr x).length = l := ⟨_, rfl⟩
 obtain ⟨ly, hly⟩ : ∃ l, (gr y).length = l := ⟨_, rfl⟩
 rw [hlx] at hx
 rw [hly] at hy
 rw [hlx, hly]
 have hW : Below w.heap.size w (((w.alloc (.cells #[.bool n, .slice p lx cap] 183)).alloc (.cells #[.bool m, .slice q ly cap2] 183)).alloc (.cells #[.bool false, .slice none 0 0] 183)) :=
  (((Below.refl _ _).alloc (Nat.le_refl _) _).alloc (by simp) _).alloc (by simp; omega) _
 have Hx := hide (zo hx hW)
 have Hy := hide (zo hy hW)
 have HW := hide hW
 have HA := hide (((AtC.new w #[.bool n, .slice p lx cap] 183).alloc (.cells #[.bool m, .slice q ly cap2] 183)).alloc (.cells #[.bool false, .slice none 0 0] 183))
 have HB := hide ((AtC.new (w.alloc (.cells #[.bool n, .slice p lx cap] 183)) #[.bool m, .slice q ly cap2] 183).alloc (.cells #[.bool false, .slice none 0 0] 183))
 have HC := hide (AtC.new ((w.alloc (.cells #[.bool n, .slice p lx cap] 183)).alloc (.cells #[.bool m, .slice q ly cap2] 183)) #[.bool false, .slice none 0 0] 183)
 have Hl := hide (And.intro hlx hly)
 clear hx hy hW hlx hly
 rw [World.size_alloc] at HB
 rw [World.size_alloc, World.size_alloc] at HC
 unfold zS
 go_enter Tryz.func161, Tryz.ntmps161
 go_wp2
 go_region_held3 (fun w' => w'.cell? ⟨w.heap.size, 0, none⟩ = some (.bool n) ∧ w'.cell? ⟨w.heap.size, 1, none⟩ = some (.slice p lx cap) ∧ w'.cell? ⟨w.heap.size + 1, 0, none⟩ = some (.bool m) ∧ w'.cell? ⟨w.heap.size + 1, 1, none⟩ = some (.slice q ly cap2)) (((try dsimp only); (repeat' apply And.intro) <;> (first | assumption | (rw [far2 (by first | (simp; done) | (simp; omega))]; assumption) | go_keep))) (first | (go_at_call 188; refine (zaE x y _ _ _ (by first | exact za Hx) (by first | exact za Hy) hsx hsy).mono ?_; rintro e w1 ⟨⟨z, rfl, hz⟩, hb1⟩; obtain ⟨zp, zc, rfl⟩ := zt hz; have hA := (za HA).drew.below hb1; have hB := (za HB).drew.below hb1; have hC := (za HC).drew.below hb1; have a0 : w1.cell? ⟨w.heap.size, 0, none⟩ = some (.bool n) := hA.c 0; have a1 : w1.cell? ⟨w.heap.size, 1, none⟩ = some (.slice p lx cap) := hA.c 1; have b0 : w1.cell? ⟨w.heap.size + 1, 0, none⟩ = some (.bool m) := hB.c 0; have b1 : w1.cell? ⟨w.heap.size + 1, 1, none⟩ = some (.slice q ly cap2) := hB.c 1; have c0 : w1.cell? ⟨w.heap.size + 1 + 1, 0, none⟩ = some (.bool false) := hC.c 0; have c1 : w1.cell? ⟨w.heap.size + 1 + 1, 1, none⟩ = some (.slice none 0 0) := hC.c 1; have cf := hC.f; have Hz := hide hz; have Hb1 := hide hb1; clear hA hB hC hz hb1))
 have hfin : Below w.heap.size w w1 := (za HW).drew.trans ((za Hb1).mono (za HW).drew.size)
 have hs := (za HC).drew.below (za Hb1) |>.lt
 have Hfin := hide hfin
 clear hfin
 go_wp2
 refine bodyPost_ret (v := .agg #[.bool (n != m), .slice zp (gr (x * y)).length zc]) (by simp [results, Tryz.results161, go_sem, c0, c1]; cases n <;> cases m <;> rfl) rfl ⟨⟨_, rfl, ⟨_, rfl, ?_⟩⟩, ?_⟩
 ·have h0 := za Hz
  have h1 := qg h0 (b := w.heap.size + 1 + 1) (i := 0) (u := .bool (n != m)) (by simp)
  exact zK (qg h1 (b := w.heap.size + 1 + 1) (i := 1) (by simp)) (by simp; omega)
 ·exact ((za Hfin).setCell (by show w.heap.size ≤ w.heap.size + 1 + 1; omega) _).setCell (by show w.heap.size ≤ w.heap.size + 1 + 1; omega) _
end Go.Proofs.YtpbnmhnbkfnaeaaGreatDoor
