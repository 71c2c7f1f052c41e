/- PROVED: for every two byte slices, and whatever lies in memory besides the table of tens, which reads as the program's text lays it, laws.FnNumText returns true and leaves both slices and the table as they were. The only condition is the row's own: impl.natTens reads as listed; the card ties that to the program's text. -/
import Derived.Test.YtcnnicbaeicboaaDoorM4
import Derived.Test.YtcnnicbaeicboaaDoorCards
import Derived.Test.YtcnnicbaeicboaaDoorTie
import Derived.ProofKit
import Derived.OpenShut
import Derived.ShutString
import Derived.ChangeOld
import Derived.ChangeVars
import Derived.Lay
import Derived.LaidOnce
import Derived.JoinedOf
import Derived.Handy
import Derived.Lib.LaidTab
import Derived.SevenTiedAt
set_option linter.all false
set_option maxRecDepth 100000
set_option maxHeartbeats 16000000
namespace Go.Proofs.YtcnnicbaeicboaaDoor
open Go.RowKit Nt
theorem yq (a0 a1 : Option Addr) (n0 cap0 n1 cap1 : Nat) (w : World) (h0 : Bytes0 w a0 n0) (h1 : Bytes0 w a1 n1) (hc0 : n0 ≤ cap0) (hc1 : n1 ≤ cap1) (hm0 : cap0 ≤ maxLen) (hm1 : cap1 ≤ maxLen) (hT : Tens w) (hs0 : n0 ≤ 1048576) (hs1 : n1 ≤ 1048576) :
  Calls Tryd.prog 3 #[.slice a0 n0 cap0, .slice a1 n1 cap1] w fun e w' => e = .returned (.bool true) ∧ Below w.heap.size w w' := by
 have H0 := hide h0
 have H1 := hide h1
 have HT := hide hT
 clear h0 h1 hT
 have d0 : decide (1048576 < (n0 : Int)) = false := by rw [decide_eq_false_iff_not]; omega
 have d1 : decide (1048576 < (n1 : Int)) = false := by rw [decide_eq_false_iff_not]; omega
 go_enter Tryd.func3, Tryd.ntmps3
 go_wp2_with fail
 refine (vc a0 n0 cap0 w (za H0) hc0 hm0).mono ?_
 rintro e w1 ⟨⟨s, r, rfl, hsz⟩, hb1⟩
 obtain ⟨l, rfl⟩ : ∃ l, s = B l := ⟨s.data.toList, (vb s).symm⟩
 rw [zi] at hsz
 have HB1 := hide hb1
 clear hb1
 go_wp2_with fail
 have h := jc l r w1 (by omega) ((za HT).below (za HB1))
 refine h.mono ?_
 clear h
 rintro e w2 ⟨rfl, hb2⟩
 unfold zd
 rw [xE]
 have hok := x1 l r
 have hln := xS l r
 have hsp := fun w => vE l r w (by omega)
 unfold zd at hsp
 rw [xE] at hsp
 generalize ansN (zk l r) = N at *
 generalize ansU (zk l r) = U at *
 generalize ansD (zk l r) = D at *
 generalize (zk l r).isSome = k at *
 have Hok := hide hok
 have Hsp := hide hsp
 have HB2 := hide ((za HB1).trans (hb2.mono (za HB1).size))
 clear hok hsp hb2
 unfold numB
 go_wp2_with fail
 refine (za Hsp _).mono ?_
 rintro e w3 ⟨rfl, hb3⟩
 have hA := (At3.new w2 (.bool N) (.string (B U)) (.string (B D))).below hb3
 have HB3 := hide ((za HB2).trans ((((Below.refl _ _).alloc (Nat.le_refl _) _).trans (hb3.mono (by simp))).mono (za HB2).size))
 have HA := hide hA
 have c0 := hA.c0
 have c1 := hA.c1
 have c2 := hA.c2
 have hs3 := hA.lt
 clear hb3 hA
 unfold numB
 go_wp2_with fail
 have h := qb N U D (w3.alloc (.cells #[.bool N, .string (B U), .string (B D)] 26)) (by omega) (by omega) ((za HT).below ((za HB3).alloc (za HB3).size _))
 unfold numB at h
 rw [za Hok] at h
 refine h.mono ?_
 clear h
 rintro e w4 ⟨rfl, hb4⟩
 have HB4 := hide (((za HB3).alloc (za HB3).size (.cells #[.bool N, .string (B U), .string (B D)] 26)).trans (hb4.mono ((za HB3).alloc (za HB3).size _).size))
 clear hb4 c0 c1 c2 hs3 HA HB1 HB2 HB3
 go_wp2_with fail
 refine (ve a1 n1 cap1 w4 ((za H1).below (za HB4)) hc1 hm1).mono ?_
 rintro e w5 ⟨⟨neg, us, ds, rr, rfl, hsm⟩, hb5⟩
 obtain ⟨u, rfl⟩ : ∃ l, us = B l := ⟨us.data.toList, (vb us).symm⟩
 obtain ⟨d, rfl⟩ : ∃ l, ds = B l := ⟨ds.data.toList, (vb ds).symm⟩
 have hul : u.length ≤ 1000 := by have := hsm.1; rwa [zi] at this
 have hdl : d.length ≤ 1000 := by have := hsm.2; rwa [zi] at this
 have HB5 := hide ((za HB4).trans (hb5.mono (za HB4).size))
 clear hb5 hsm HB4
 unfold numS
 go_wp2_with fail
 have h := vl neg u d rr (w5.alloc (.cells #[.bool neg, .string (B u), .string (B d)] 26)) (by omega) (by omega) ((za HT).below ((za HB5).alloc (za HB5).size _))
 unfold numB at h
 refine h.mono ?_
 clear h
 rintro e w6 ⟨rfl, hb6⟩
 have hA := (At3.new w5 (.bool neg) (.string (B u)) (.string (B d))).below hb6
 have HA := hide hA
 have c0 := hA.c0
 have c1 := hA.c1
 have c2 := hA.c2
 have hs6 := hA.lt
 have HB6 := hide (((za HB5).alloc (za HB5).size (.cells #[.bool neg, .string (B u), .string (B d)] 26)).trans (hb6.mono ((za HB5).alloc (za HB5).size _).size))
 clear hb6 hA
 go_wp2_with fail
 have h := jk neg u d rr w6 (by omega) (by omega)
 unfold numB at h
 refine h.mono ?_
 clear h
 rintro e w7 ⟨rfl, hb7⟩
 have hA := (za HA).below hb7
 clear HA c0 c1 c2 hs6
 have HA := hide hA
 have c0 := hA.c0
 have c1 := hA.c1
 have c2 := hA.c2
 have hs7 := hA.lt
 have HB7 := hide ((za HB6).trans (hb7.mono (za HB6).size))
 clear hb7 hA HB5 HB6
 obtain ⟨S, hS⟩ : ∃ S, zw neg u d rr = S := ⟨_, rfl⟩
 rw [hS]
 have HS := hide hS
 clear hS
 have hSb : ((B S).toList == ([] : List UInt8)) = decide (S = []) := by rw [B_tl]; by_cases h : S = [] <;> simp [h]
 by_cases hSe : S = []
 ·rw [decide_eq_true hSe] at hSb
  have HSe := hide hSe
  clear hSe
  have HBt : Hid (Below w.heap.size w w7) := (by first | exact za HB7 | exact (za HB7).alloc (za HB7).size _)
  go_wp2_with fail
  refine (qV a0 n0 cap0 w7 ((za H0).below (za HBt)) hc0 hm0).mono ?_
  rintro e wi ⟨⟨i, rfl, hi0, hi1⟩, hbi⟩
  have HBi := hide ((za HBt).trans (hbi.mono (za HBt).size))
  clear hbi HBt
  go_wp2_with fail
  have h := q3 i wi hi0 hi1 ((za HT).below (za HBi))
  refine h.mono ?_
  clear h
  rintro e wj ⟨rfl, hbj⟩
  have HBj := hide ((za HBi).trans (hbj.mono (za HBi).size))
  clear hbj
  rw [jM]
  have hspI := fun w => q8 i w hi0 hi1
  have hokI := kb hi0 hi1
  have hlen := zR hokI
  have hlU := hlen.2.2.1
  have hlD := hlen.2.2.2.1
  clear hlen
  rw [jM] at hspI
  generalize txl 10 i.natAbs = IU at *
  generalize txl 10 1 = ID at *
  have HspI := hide hspI
  clear hspI
  unfold numB at *
  have hokC := fun W (h : Tens W) => qb (decide (i < 0)) IU ID W (by omega) (by omega) h
  rw [hokI] at hokC
  unfold numB at hokC
  have HokC := hide hokC
  clear hokI hokC
  have HA0 := hide (At3.new wj (.bool (decide (i < 0))) (.string (B IU)) (.string (B ID)))
  have HW0 := hide ((za HBj).alloc (za HBj).size (.cells #[.bool (decide (i < 0)), .string (B IU), .string (B ID)] 26))
  have HT0 := hide ((za HT).below (za HW0))
  go_wp2
  go_region_with (first | (go_at_call 15; refine (za HspI _).mono ?_; rintro e wk ⟨rfl, hbk⟩; have hAk := (za HA0).drew.below hbk; have ck0 := hAk.c0; have ck1 := hAk.c1; have ck2 := hAk.c2; have HAk := hide hAk; have HTk := hide (Tens.below (show Tens (wj.alloc (.cells #[.bool (decide (i < 0)), .string (B IU), .string (B ID)] 26)).drew from za HT0) hbk); have HBk := hide hbk; clear hbk hAk) | (go_at_call 9; refine (za HokC _ (by exact za HTk)).mono ?_; rintro e wl ⟨rfl, hbl⟩; have hAl := (za HAk).below hbl; have cl0 := hAl.c0; have cl1 := hAl.c1; have cl2 := hAl.c2; have HBl := hide hbl; clear hbl hAl))
  all_goals
   go_wp2
   go_ret
   exact ⟨rfl, ((za HW0).drew.trans ((za HBk).mono (za HW0).drew.size)).trans ((za HBl).mono ((za HW0).drew.trans ((za HBk).mono (za HW0).drew.size)).size)⟩
 ·rw [decide_eq_false hSe] at hSb
  have hfacts : okM neg u d = true ∧ zn rr = true := by
   have h := za HS
   unfold zw at h
   by_cases hh : (okM neg u d && zn rr) = true
   ·simpa using hh
   ·rw [if_neg hh] at h; exact absurd h.symm hSe
  obtain ⟨hok, hrad⟩ := hfacts
  obtain ⟨b, rfl, hb4⟩ := qc hrad
  have hp := zR hok
  have Bu : dec (zj u) = B u := by unfold dec txt; rw [← zz hp.1]
  have Bd : dec (zj d) = B d := by unfold dec txt; rw [← zz hp.2.1]
  have hSl : S.length ≤ 482 := by rw [← za HS]; exact ya _ _ _ _
  have HSe := hide hSe
  clear hSe hp
  go_wp2_with fail
  have h := jc S b w7 (by omega) ((za HT).below (za HB7))
  refine h.mono ?_
  clear h
  rintro e w8 ⟨rfl, hb8⟩
  have hA := (za HA).below hb8
  clear c0 c1 c2 hs7
  have c0 := hA.c0
  have c1 := hA.c1
  have c2 := hA.c2
  have hs8 := hA.lt
  have HB8 := hide ((za HB7).trans (hb8.mono (za HB7).size))
  clear hb8 hA HB7
  have hSz := zi S
  by_cases hl : S.length ≤ 240
  ·have hpp := yX hok hb4 (by rw [za HS]; exact hl)
   rw [za HS] at hpp
   have hans : zd (some (neg, zj u, zj d)) = .tuple #[.agg #[.bool neg, .string (B u), .string (B d)], .bool true] := by
    show Value.tuple #[numV neg (dec (zj u)) (dec (zj d)), .bool true] = _
    rw [Bu, Bd]; rfl
   rw [hpp, hans]
   clear hans
   have HX := hide (And.intro hpp (And.intro hok (And.intro hrad (And.intro Bu Bd))))
   clear hpp hok hrad Bu Bd
   have HBt : Hid (Below w.heap.size w (w8.alloc (.cells #[.bool neg, .string (B u), .string (B d)] 26))) := (by first | exact za HB8 | exact (za HB8).alloc (za HB8).size _)
   go_wp2_with fail
   refine (qV a0 n0 cap0 (w8.alloc (.cells #[.bool neg, .string (B u), .string (B d)] 26)) ((za H0).below (za HBt)) hc0 hm0).mono ?_
   rintro e wi ⟨⟨i, rfl, hi0, hi1⟩, hbi⟩
   have HBi := hide ((za HBt).trans (hbi.mono (za HBt).size))
   clear hbi HBt
   go_wp2_with fail
   have h := q3 i wi hi0 hi1 ((za HT).below (za HBi))
   refine h.mono ?_
   clear h
   rintro e wj ⟨rfl, hbj⟩
   have HBj := hide ((za HBi).trans (hbj.mono (za HBi).size))
   clear hbj
   rw [jM]
   have hspI := fun w => q8 i w hi0 hi1
   have hokI := kb hi0 hi1
   have hlen := zR hokI
   have hlU := hlen.2.2.1
   have hlD := hlen.2.2.2.1
   clear hlen
   rw [jM] at hspI
   generalize txl 10 i.natAbs = IU at *
   generalize txl 10 1 = ID at *
   have HspI := hide hspI
   clear hspI
   unfold numB at *
   have hokC := fun W (h : Tens W) => qb (decide (i < 0)) IU ID W (by omega) (by omega) h
   rw [hokI] at hokC
   unfold numB at hokC
   have HokC := hide hokC
   clear hokI hokC
   have HA0 := hide (At3.new wj (.bool (decide (i < 0))) (.string (B IU)) (.string (B ID)))
   have HW0 := hide ((za HBj).alloc (za HBj).size (.cells #[.bool (decide (i < 0)), .string (B IU), .string (B ID)] 26))
   have HT0 := hide ((za HT).below (za HW0))
   go_wp2
   go_region_with (first | (go_at_call 15; refine (za HspI _).mono ?_; rintro e wk ⟨rfl, hbk⟩; have hAk := (za HA0).drew.below hbk; have ck0 := hAk.c0; have ck1 := hAk.c1; have ck2 := hAk.c2; have HAk := hide hAk; have HTk := hide (Tens.below (show Tens (wj.alloc (.cells #[.bool (decide (i < 0)), .string (B IU), .string (B ID)] 26)).drew from za HT0) hbk); have HBk := hide hbk; clear hbk hAk) | (go_at_call 9; refine (za HokC _ (by exact za HTk)).mono ?_; rintro e wl ⟨rfl, hbl⟩; have hAl := (za HAk).below hbl; have cl0 := hAl.c0; have cl1 := hAl.c1; have cl2 := hAl.c2; have HBl := hide hbl; clear hbl hAl))
   all_goals
    go_wp2
    go_ret
    exact ⟨rfl, ((za HW0).drew.trans ((za HBk).mono (za HW0).drew.size)).trans ((za HBl).mono ((za HW0).drew.trans ((za HBk).mono (za HW0).drew.size)).size)⟩
  ·have hpp := jP S b (.inr (by omega))
   rw [hpp, show zd none = .tuple #[.agg #[.bool false, .string ⟨#[]⟩, .string ⟨#[]⟩], .bool false] from rfl]
   have HX := hide (And.intro hpp (And.intro hok (And.intro hrad (And.intro Bu Bd))))
   have hl2 : 240 < (B S).size := by omega
   clear hpp hok hrad Bu Bd
   have HBt : Hid (Below w.heap.size w (w8.alloc (.cells #[.bool false, .string ⟨#[]⟩, .string ⟨#[]⟩] 26))) := (by first | exact za HB8 | exact (za HB8).alloc (za HB8).size _)
   go_wp2_with fail
   refine (qV a0 n0 cap0 (w8.alloc (.cells #[.bool false, .string ⟨#[]⟩, .string ⟨#[]⟩] 26)) ((za H0).below (za HBt)) hc0 hm0).mono ?_
   rintro e wi ⟨⟨i, rfl, hi0, hi1⟩, hbi⟩
   have HBi := hide ((za HBt).trans (hbi.mono (za HBt).size))
   clear hbi HBt
   go_wp2_with fail
   have h := q3 i wi hi0 hi1 ((za HT).below (za HBi))
   refine h.mono ?_
   clear h
   rintro e wj ⟨rfl, hbj⟩
   have HBj := hide ((za HBi).trans (hbj.mono (za HBi).size))
   clear hbj
   rw [jM]
   have hspI := fun w => q8 i w hi0 hi1
   have hokI := kb hi0 hi1
   have hlen := zR hokI
   have hlU := hlen.2.2.1
   have hlD := hlen.2.2.2.1
   clear hlen
   rw [jM] at hspI
   generalize txl 10 i.natAbs = IU at *
   generalize txl 10 1 = ID at *
   have HspI := hide hspI
   clear hspI
   unfold numB at *
   have hokC := fun W (h : Tens W) => qb (decide (i < 0)) IU ID W (by omega) (by omega) h
   rw [hokI] at hokC
   unfold numB at hokC
   have HokC := hide hokC
   clear hokI hokC
   have HA0 := hide (At3.new wj (.bool (decide (i < 0))) (.string (B IU)) (.string (B ID)))
   have HW0 := hide ((za HBj).alloc (za HBj).size (.cells #[.bool (decide (i < 0)), .string (B IU), .string (B ID)] 26))
   have HT0 := hide ((za HT).below (za HW0))
   go_wp2
   go_region_with (first | (go_at_call 15; refine (za HspI _).mono ?_; rintro e wk ⟨rfl, hbk⟩; have hAk := (za HA0).drew.below hbk; have ck0 := hAk.c0; have ck1 := hAk.c1; have ck2 := hAk.c2; have HAk := hide hAk; have HTk := hide (Tens.below (show Tens (wj.alloc (.cells #[.bool (decide (i < 0)), .string (B IU), .string (B ID)] 26)).drew from za HT0) hbk); have HBk := hide hbk; clear hbk hAk) | (go_at_call 9; refine (za HokC _ (by exact za HTk)).mono ?_; rintro e wl ⟨rfl, hbl⟩; have hAl := (za HAk).below hbl; have cl0 := hAl.c0; have cl1 := hAl.c1; have cl2 := hAl.c2; have HBl := hide hbl; clear hbl hAl))
   all_goals
    go_wp2
    go_ret
    exact ⟨rfl, ((za HW0).drew.trans ((za HBk).mono (za HW0).drew.size)).trans ((za HBl).mono ((za HW0).drew.trans ((za HBk).mono (za HW0).drew.size)).size)⟩
theorem yQ (a0 a1 : Option Addr) (n0 cap0 n1 cap1 : Nat) (w : World) (h : 1048576 < n0 ∨ 1048576 < n1) :
  Calls Tryd.prog 3 #[.slice a0 n0 cap0, .slice a1 n1 cap1] w fun e w' => e = .returned (.bool true) ∧ Below w.heap.size w w' := by
 by_cases h0 : 1048576 < n0
 ·have d0 : decide (1048576 < (n0 : Int)) = true := by rw [decide_eq_true_iff]; omega
  clear h
  go_enter Tryd.func3, Tryd.ntmps3
  go_wp2
  go_ret
  exact ⟨rfl, Below.refl _ _⟩
 ·have h1 : 1048576 < n1 := by omega
  have d0 : decide (1048576 < (n0 : Int)) = false := by rw [decide_eq_false_iff_not]; omega
  have d1 : decide (1048576 < (n1 : Int)) = true := by rw [decide_eq_true_iff]; omega
  clear h
  go_enter Tryd.func3, Tryd.ntmps3
  go_wp2
  go_ret
  exact ⟨rfl, Below.refl _ _⟩
theorem kV (a0 a1 : Option Addr) (n0 cap0 n1 cap1 : Nat) (w : World) (h0 : Bytes0 w a0 n0) (h1 : Bytes0 w a1 n1) (hc0 : n0 ≤ cap0) (hc1 : n1 ≤ cap1) (hm0 : cap0 ≤ maxLen) (hm1 : cap1 ≤ maxLen) (hT : Tens w) :
  Calls Tryd.prog 3 #[.slice a0 n0 cap0, .slice a1 n1 cap1] w fun e w' => e = .returned (.bool true) ∧ Below w.heap.size w w' := by
 by_cases h : 1048576 < n0 ∨ 1048576 < n1
 ·exact yQ a0 a1 n0 cap0 n1 cap1 w h
 ·exact yq a0 a1 n0 cap0 n1 cap1 w h0 h1 hc0 hc1 hm0 hm1 hT (by omega) (by omega)
end Go.Proofs.YtcnnicbaeicboaaDoor
namespace Go.Proofs.YtcnnicbaeicboaaDoor
open Go.ChangeShapes Go.WideShapes Go.ChangeAt Go.RowKit Nt
theorem own : ownKnob Tryd.prog.godebug = none := by kernel_rfl
theorem yo : laidOutB Tryd.prog = true := by kernel_rfl
theorem gTens : Tryd.prog.globalNamed "loop.example/sistab/impl.natTens" = some 0 := by kernel_rfl
theorem vT : (Tryd.prog.globals[0]?).map (·.type) = some 118 := by kernel_rfl
theorem kM : Tryd.prog.cellsOf 80 = 1 := by kernel_rfl
theorem kL : Tryd.prog.cellsOf 118 = 9 := by kernel_rfl
theorem xf {P : Program} {B g : Nat} {W W' : World} {n : String} {cs : Array Value} (h : Below B W W') (hg : P.globalNamed n = some g) (hgB : g < B) (hv : W.var? P n = some cs) : W'.var? P n = some cs := by
 unfold World.var? at hv ⊢
 simp only [hg, Option.bind_some] at hv ⊢
 rw [h.block g hgB]
 exact hv
theorem yC {W : World} (h : laidMet Tryd.prog Rows.fnNumTextRow.laid W) : Tens W := by
 have hT : Lib.TabIs Tryd.prog W "loop.example/sistab/impl.natTens" .u64 [1, 10, 100, 1000, 10000, 100000, 1000000, 10000000, 100000000] :=
  Lib.tabIs_of_head gTens vT Tryd.underlying118 Tryd.underlying80 kM kL h
 intro j hj
 have h0 := hT.cell gTens j (by simpa using hj)
 rw [h0]
 match j, hj with
 | 0, _ => rfl
 | 1, _ => rfl
 | 2, _ => rfl
 | 3, _ => rfl
 | 4, _ => rfl
 | 5, _ => rfl
 | 6, _ => rfl
 | 7, _ => rfl
 | 8, _ => rfl
theorem yI {H : Type} {enc : TypeId × Value → H} {W : World} {a0 : Option Addr} {len cap : Nat} {d : DataW H} {p : List MemPlace}
  (h : DataW.Trod enc Tryd.prog W 0 (fun _ => true) true 22 (.slice a0 len cap) d p) : Bytes0 W a0 len ∧ len ≤ cap ∧ cap ≤ maxLen := by
 obtain ⟨fuel, hf⟩ := h
 rcases open_ints Tryd.underlying22 Tryd.underlying5 (by kernel_rfl) hf with ⟨hcs, _⟩ | ⟨x, l, c, zs, hcs, _, hl, hm, hz, _, hcell, hwz⟩
 ·simp [Value.cells] at hcs
  obtain ⟨rfl, rfl, rfl⟩ := hcs
  exact ⟨fun h => absurd h (by omega), Nat.le_refl _, by unfold maxLen; omega⟩
 ·simp [Value.cells] at hcs
  obtain ⟨rfl, rfl, rfl⟩ := hcs
  refine ⟨fun h0 => ?_, hl, hm⟩
  have hz' : zs.length = cap := by simpa using hz
  obtain ⟨b, off, spot⟩ := x
  have hc := hcell 0 (by omega)
  have hspot : spot = none := by simpa [Addr.add] using World.cell?_spot hc
  subst hspot
  refine ⟨b, off, rfl, World.block_lt_of_cell? W _ hc, fun j hj => ?_⟩
  have hcj := hcell j (by omega)
  have hjz : j < zs.length := by omega
  have hw := hwz (zs.getD j 0) (by rw [List.getD_eq_getElem?_getD, List.getElem?_eq_getElem hjz]; exact List.getElem_mem hjz)
  have hw' : 0 ≤ zs.getD j 0 ∧ zs.getD j 0 ≤ 255 := by simpa [Lit.wf, IntKind.min, IntKind.max, IntKind.signed, IntKind.bits] using hw
  refine ⟨(zs.getD j 0).toNat, by omega, ?_⟩
  rw [show (((zs.getD j 0).toNat : Nat) : Int) = zs.getD j 0 from by omega]
  by_cases hj0 : j = 0
  ·subst hj0; simpa [Addr.add] using hcj
  ·simpa [Addr.add, hj0] using hcj
theorem y1 (os : Os) (started : os.Started) (H : Type) (enc : TypeId × Value → H) :
  ReturnsInHanded {} Tryd.checked os 3 .any (fun w args => (Rows.fnNumTextSpec.pre enc Tryd.prog Tryd.f3 [] false w args ∧ laidMetH Tryd.prog Rows.fnNumTextRow.laid w) ∧ sizedMet enc Tryd.prog Tryd.f3 (OpenSpec.ofChange Rows.fnNumTextSpec) false w args)
   (Rows.fnNumTextSpec.post enc Tryd.prog Tryd.f3 false true false false) := by
 refine returnsInHanded_of_change_and (C := Tryd.checked) (X := fun w _ => laidMetH Tryd.prog Rows.fnNumTextRow.laid w) (fun _ _ _ hh h => h.of_heap hh) own started (by kernel_rfl) Tryd.func3
  (ChangeSpec.witness_shaped (enc := enc) (C := Tryd.checked) (os := os) (X := fun w _ => laidMetH Tryd.prog Rows.fnNumTextRow.laid w) false (World.laidAll Tryd.prog os Rows.fnNumTextRow.laid) #[.slice none 0 0, .slice none 0 0] 8 (World.laidAll_os _ _ _)
   (World.shaped_of_ZipB (by kernel_rfl) (by kernel_rfl)) (by kernel_rfl) (by kernel_rfl) (by kernel_rfl)
   (by rw [MakeChecks.laidMetH_plain _ _ _ (by kernel_rfl)]; exact laidMet_laidAll _ (by kernel_rfl) (by kernel_rfl))) ?_
 intro W base args ds gs before hval0 hW _ _ hL _
 have hval : ∀ (j : Nat) t v, Tryd.f3.params[j]? = some t → args[j]? = some v → Value.okWide Tryd.prog W .any base t v := hval0
 have hW' := hW
 obtain ⟨p, q, hA0, hV0, rfl, _, _⟩ := hW
 have hA : DataW.TrodAll enc Tryd.prog W 0 (fun _ => true) true Tryd.f3.params.toList args.toList ds p := hA0
 have hV : DataW.TrodVars enc Tryd.prog W (fun _ => true) ["loop.example/sistab/impl.natTens"] gs q := hV0
 rw [Tryd.params3] at hA hval
 obtain ⟨v0, vs0, d0, ds0, p0, q0, hargs, rfl, rfl, h0, r0⟩ := trodAll_cons hA
 obtain ⟨v1, vs1, d1, ds1, p1, q1, rfl, rfl, rfl, h1, r1⟩ := trodAll_cons r0
 obtain ⟨rfl, rfl, rfl⟩ := trodAll_nil r1
 obtain rfl : args = #[v0, v1] := by cases args; simp_all
 obtain ⟨g, t, cs, fuel, d, p', rfl, hg, ht, hvar, hd, rfl⟩ := trodVars_one hV
 obtain rfl := Option.some.inj (gTens.symm.trans hg)
 obtain rfl := Option.some.inj (vT.symm.trans ht)
 obtain ⟨a0, len0, cap0, rfl⟩ := okWide_slice Tryd.underlying22 (hval 0 22 v0 rfl rfl)
 obtain ⟨a1, len1, cap1, rfl⟩ := okWide_slice Tryd.underlying22 (hval 1 22 v1 rfl rfl)
 have k0 := h0
 have k1 := h1
 have lt0 : ∀ x ∈ p0, x.block < W.heap.size := by obtain ⟨m, hm⟩ := k0; exact DataW.trod_lt m _ _ _ hm
 have lt1 : ∀ x ∈ p1, x.block < W.heap.size := by obtain ⟨m, hm⟩ := k1; exact DataW.trod_lt m _ _ _ hm
 have ltv : ∀ x ∈ p', x.block < W.heap.size := DataW.trod_lt fuel _ _ _ hd
 have b0 := yI h0
 have b1 := yI h1
 have hT := yC (W := W) (by rw [MakeChecks.laidMetH_plain _ _ _ (by kernel_rfl)] at hL; exact hL)
 have hgl : 0 < W.heap.size := World.block_lt_of_cell? W _ (hT 0 (by omega))
 clear hA0 hval0 hV0
 refine (kV a0 a1 len0 cap0 len1 cap1 W b0.1 b1.1 b0.2.1 b1.2.1 b0.2.2 b1.2.2 hT).mono fun e W' ⟨he, bel⟩ => ?_
 subst he
 obtain ⟨fuel', hd'⟩ := Below.trod yo (by kernel_rfl) (of_decide_eq_true (by kernel_rfl)) (v := .agg cs) (⟨fuel, by simpa [Value.cells] using hd⟩ : DataW.Trod enc Tryd.prog W 0 (fun _ => true) true 118 (.agg cs) d p') bel ltv
 have hv' := trodVars_mk1 (enc := enc) (spare := fun b => decide (b < W.heap.size)) hg ht (xf bel hg hgl hvar) (by simpa [Value.cells] using hd')
 exact ⟨_, rfl, _, _, _, [], _, _, hW', trodAll_mk1 (shut_bool Tryd.underlying4 _), (trodAll_cons_mk (Below.trod yo (by kernel_rfl) (of_decide_eq_true (by kernel_rfl)) k0 bel lt0) (trodAll_cons_mk (Below.trod yo (by kernel_rfl) (of_decide_eq_true (by kernel_rfl)) k1 bel lt1) trodAll_mk0)), hv', bel.frame _, fun h => by cases h⟩
theorem kw : Rows.FnNumTextSaid :=
 OpenClaim.holds_of_wide 3 Tryd.f3 rfl rfl rfl rfl rfl rfl rfl ⟨rfl, rfl, rfl, rfl, rfl⟩ rfl rfl rfl rfl rfl (by kernel_rfl) Tryd.func3 (by kernel_rfl)
  (of_decide_eq_true (by kernel_rfl)) (by unfold Func.isWrapper; first | (rw [if_pos (by decide +kernel)]; kernel_rfl) | (rw [if_neg (by decide +kernel)]; exact ⟨rfl, rfl⟩))
  (fun os started H enc _ => y1 os started H enc)
theorem fnNumText_card : Rows.FnNumTextCardSaid :=
 Claim7.holds_tied_plain_at .later [] [.data] true Rows.fnNumTextCard.stood.harness false kw (fun _ h => by cases h) (by kernel_rfl) (fun _ h => by cases h) fnNumText_row_tie rfl ⟨rfl, rfl⟩ (by kernel_rfl) rfl
  (fun f fn hf hfn => by
   obtain rfl : f = 3 := Option.some.inj ((show Tryd.prog.funcNamed "loop.example/sistab/laws.FnNumText" = some 3 by kernel_rfl).symm.trans hf) |>.symm
   obtain rfl : fn = Tryd.f3 := (Option.some.inj (Tryd.func3.symm.trans hfn)).symm
   exact ⟨by kernel_rfl, fun j t ht => by
    rw [Tryd.params3] at ht
    have hm : t ∈ [22, 22] := by simpa using Array.mem_of_getElem? ht
    have hall : ([22, 22].all fun u => !Tryd.prog.wantsStandIn u) = true := by kernel_rfl
    exact (show Tryd.prog.wantsStandIn t = false by simpa using List.all_eq_true.1 hall t hm)⟩)
  (by kernel_rfl)
#print axioms fnNumText_card
end Go.Proofs.YtcnnicbaeicboaaDoor
