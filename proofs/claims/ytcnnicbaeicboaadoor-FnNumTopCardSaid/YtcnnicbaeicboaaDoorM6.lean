/- PROVED: for every two byte slices, and whatever lies in memory besides the table of tens, which reads as the program's text lays it, laws.FnNumTop returns true and leaves both slices and the table as they were. The only condition is the row's own: impl.natTens reads as listed; the card ties that to the program's text. -/
import Derived.Test.YtcnnicbaeicboaaDoorM5
import Derived.Test.YtcnnicbaeicboaaDoorCards
import Derived.Test.YtcnnicbaeicboaaDoorTie
import Derived.Deep.CutRange
import Derived.Deep.RegionHeld3
import Derived.ProofKit
import Derived.OpenShut
import Derived.ShutString
import Derived.ChangeOld
import Derived.ChangeVars
import Derived.Lay
import Derived.LaidOnce
import Derived.JoinedOf
import Derived.Handy
import Derived.Lib.LaidTab
import Derived.SevenTiedAt
set_option linter.all false
set_option maxRecDepth 100000
set_option maxHeartbeats 16000000
namespace Go.Proofs.YtcnnicbaeicboaaDoor
open Go.RowKit Nt
theorem AtC.keeps {w w' : World} {b g : Nat} {cs : Array Value} {T : TypeId} (h : AtC w b cs T) (k : Keeps g w w') (hg : b ≠ g) : AtC w' b cs T := (k.block b h.lt hg).trans h
theorem AtC.put3 {w : World} {b : Nat} {x y z : Value} {T : TypeId} (h : AtC w b #[x, y, z] T) (u v t : Value) : AtC (((w.setCell ⟨b, 0, none⟩ u).setCell ⟨b, 1, none⟩ v).setCell ⟨b, 2, none⟩ t) b #[u, v, t] T := by
 have h1 : (w.setCell ⟨b, 0, none⟩ u).heap[b]? = some (.cells #[u, y, z] T (0, 0)) := by
  show (w.heap.modify b _)[b]? = _
  rw [Array.getElem?_modify, if_pos rfl, show w.heap[b]? = _ from h]
  rfl
 have h2 : ((w.setCell ⟨b, 0, none⟩ u).setCell ⟨b, 1, none⟩ v).heap[b]? = some (.cells #[u, v, z] T (0, 0)) := by
  show ((w.setCell ⟨b, 0, none⟩ u).heap.modify b _)[b]? = _
  rw [Array.getElem?_modify, if_pos rfl, h1]
  rfl
 show (((w.setCell ⟨b, 0, none⟩ u).setCell ⟨b, 1, none⟩ v).heap.modify b _)[b]? = _
 rw [Array.getElem?_modify, if_pos rfl, h2]
 rfl
theorem AtC.far3 {w : World} {b c : Nat} {cs : Array Value} {T : TypeId} (h : AtC w b cs T) (hc : b ≠ c) (u v t : Value) : AtC (((w.setCell ⟨c, 0, none⟩ u).setCell ⟨c, 1, none⟩ v).setCell ⟨c, 2, none⟩ t) b cs T := by
 unfold AtC; rw [Below.heap_setCell _ _ _ _ hc, Below.heap_setCell _ _ _ _ hc, Below.heap_setCell _ _ _ _ hc]; exact h
theorem zW {B : Nat} {a w : World} (h : Below B a w) {b : Nat} (hb : B ≤ b) (u v t : Value) : Below B a (((w.setCell ⟨b, 0, none⟩ u).setCell ⟨b, 1, none⟩ v).setCell ⟨b, 2, none⟩ t) :=
 ((h.setCell (p := ⟨b, 0, none⟩) hb u).setCell (p := ⟨b, 1, none⟩) hb v).setCell (p := ⟨b, 2, none⟩) hb t
theorem y6 (a : Option Addr) (n cap : Nat) (w : World) (h : Bytes0 w a n) (hcap : n ≤ cap) (hmax : cap ≤ maxLen) :
  Calls Tryd.prog 59 #[.slice a n cap] w fun e w' => (∃ n1 us1 ds1 n2 us2 ds2, e = .returned (.tuple #[numS n1 us1 ds1, numS n2 us2 ds2]) ∧ jl us1 ds1 ∧ jl us2 ds2) ∧ Below w.heap.size w w' := by
 have hW := ((Below.refl w.heap.size w).alloc (Nat.le_refl _) (.cells #[.bool false, .string ⟨#[]⟩, .string ⟨#[]⟩] 26)).alloc (by simp) (.cells #[.bool false, .string ⟨#[]⟩, .string ⟨#[]⟩] 26)
 have H := hide (h.below hW)
 have HW := hide hW
 have hA := (AtC.new w #[.bool false, .string ⟨#[]⟩, .string ⟨#[]⟩] 26).alloc (.cells #[.bool false, .string ⟨#[]⟩, .string ⟨#[]⟩] 26)
 have hB := AtC.new (w.alloc (.cells #[.bool false, .string ⟨#[]⟩, .string ⟨#[]⟩] 26)) #[.bool false, .string ⟨#[]⟩, .string ⟨#[]⟩] 26
 rw [World.size_alloc] at hB
 have HA0 := hide hA
 have HB0 := hide hB
 clear h hW hA hB
 go_enter Tryd.func59, Tryd.ntmps59
 go_wp2_with fail
 refine (ZW a n cap _ (za H) hcap hmax).mono ?_
 rintro e w1 ⟨rfl, ⟨m, hm, hr1⟩, hb1⟩
 have HA1 := hide ((za HA0).below hb1)
 have HB1 := hide ((za HB0).below hb1)
 have HW1 := hide ((za HW).trans (hb1.mono (za HW).size))
 rw [World.size_alloc, World.size_alloc] at hr1 ⊢
 have hlt1 := hr1.lt
 have HR1 := hide hr1
 clear hr1 hb1
 go_wp2_with fail
 have h := xx (w.heap.size + 1 + 1) 0 m cap a w1 (za HR1) (by omega)
 refine h.mono ?_
 clear h
 rintro e w2 ⟨⟨n1, us1, ds1, rfl, hsm1⟩, ⟨p2, hp2, hr2⟩, hk2⟩
 have hlt2 := hr2.lt
 have HR2 := hide (hr2.alloc (.cells #[.bool n1, .string us1, .string ds1] 26))
 have HC2 := hide (AtC.new w2 #[.bool n1, .string us1, .string ds1] 26)
 have HK2 := hide (hk2.alloc (.cells #[.bool n1, .string us1, .string ds1] 26))
 have Hsm1 := hide hsm1
 clear hr2 hk2 hsm1
 unfold numS
 go_wp2_with fail
 have h := xx (w.heap.size + 1 + 1) p2 m cap a (w2.alloc (.cells #[.bool n1, .string us1, .string ds1] 26)) (za HR2) (by omega)
 refine h.mono ?_
 clear h
 rintro e w3 ⟨⟨n2, us2, ds2, rfl, hsm2⟩, ⟨p3, hp3, hr3⟩, hk3⟩
 have hlt3 := hr3.lt
 have HR3 := hide (hr3.alloc (.cells #[.bool n2, .string us2, .string ds2] 26))
 have HC3 := hide (((za HC2).keeps hk3 (by omega)).alloc (.cells #[.bool n2, .string us2, .string ds2] 26))
 have HD3 := hide (AtC.new w3 #[.bool n2, .string us2, .string ds2] 26)
 have HK3 := hide (((za HK2).trans hk3).alloc (.cells #[.bool n2, .string us2, .string ds2] 26))
 have hl23 : w2.heap.size < w3.heap.size := by have := hk3.size; simp at this; omega
 have Hsm2 := hide hsm2
 clear hr3 hk3 hsm2
 unfold numS
 go_wp2_with fail
 refine (jw (w.heap.size + 1 + 1) p3 m cap a 8 _ (za HR3) (by omega) (by omega)).mono ?_
 rintro e w4 ⟨⟨i, rfl, hi⟩, ⟨p4, hp4, hr4⟩, hk4⟩
 have HA := hide (((za HA1).keeps (za HK3) (by omega)).keeps hk4 (by omega))
 have HB := hide (((za HB1).keeps (za HK3) (by omega)).keeps hk4 (by omega))
 have HC := hide ((za HC3).keeps hk4 (by omega))
 have HD := hide ((za HD3).keeps hk4 (by omega))
 have HK4 := hide ((za HK3).trans hk4)
 have HW4 := hide ((za HW1).trans ((za HK4).below (by omega) (by omega)))
 have hs4 := (za HD).lt
 clear hr4 hk4 hi HA1 HB1 HA0 HB0 HC2 HC3 HD3 HK2 HK3 HR1 HR2 HR3
 have a0 : (w4).cell? ⟨w.heap.size, 0, none⟩ = some (.bool false) := (za HA).c 0
 have a1 : (w4).cell? ⟨w.heap.size, 1, none⟩ = some (.string ⟨#[]⟩) := (za HA).c 1
 have a2 : (w4).cell? ⟨w.heap.size, 2, none⟩ = some (.string ⟨#[]⟩) := (za HA).c 2
 have b0 : (w4).cell? ⟨w.heap.size + 1, 0, none⟩ = some (.bool false) := (za HB).c 0
 have b1 : (w4).cell? ⟨w.heap.size + 1, 1, none⟩ = some (.string ⟨#[]⟩) := (za HB).c 1
 have b2 : (w4).cell? ⟨w.heap.size + 1, 2, none⟩ = some (.string ⟨#[]⟩) := (za HB).c 2
 have c0 : (w4).cell? ⟨w2.heap.size, 0, none⟩ = some (.bool n1) := (za HC).c 0
 have c1 : (w4).cell? ⟨w2.heap.size, 1, none⟩ = some (.string us1) := (za HC).c 1
 have c2 : (w4).cell? ⟨w2.heap.size, 2, none⟩ = some (.string ds1) := (za HC).c 2
 have d0 : (w4).cell? ⟨w3.heap.size, 0, none⟩ = some (.bool n2) := (za HD).c 0
 have d1 : (w4).cell? ⟨w3.heap.size, 1, none⟩ = some (.string us2) := (za HD).c 1
 have d2 : (w4).cell? ⟨w3.heap.size, 2, none⟩ = some (.string ds2) := (za HD).c 2
 have fa := (za HA).f
 have fb := (za HB).f
 have fd := (za HD).f
 rcases Nat.lt_or_ge i 1 with h1 | h1
 ·have hi0 : i = 0 := by omega
  subst hi0
  go_wp2
  have HA' := hide ((za HA).far3 (c := w3.heap.size) (by omega) (.bool n1) (.string us1) (.string ds1))
  have HB' := hide ((za HB).far3 (c := w3.heap.size) (by omega) (.bool n1) (.string us1) (.string ds1))
  have HC' := hide ((za HC).far3 (c := w3.heap.size) (by omega) (.bool n1) (.string us1) (.string ds1))
  have HD' := hide ((za HD).put3 (.bool n1) (.string us1) (.string ds1))
  have HWe := hide (zW (za HW4) (b := w3.heap.size) (by omega) (.bool n1) (.string us1) (.string ds1))
  clear HA HB HC HD HW4
  generalize (((w4.setCell ⟨w3.heap.size, 0, none⟩ (.bool n1)).setCell ⟨w3.heap.size, 1, none⟩ (.string us1)).setCell ⟨w3.heap.size, 2, none⟩ (.string ds1)) = W5 at *
  have HA := HA'
  have HB := HB'
  have HC := HC'
  have HD := HD'
  clear HA' HB' HC' HD'
  clear a0 a1 a2 b0 b1 b2 c0 c1 c2 d0 d1 d2 fa fb fd
  have a0 : (W5).cell? ⟨w.heap.size, 0, none⟩ = some (.bool false) := (za HA).c 0
  have a1 : (W5).cell? ⟨w.heap.size, 1, none⟩ = some (.string ⟨#[]⟩) := (za HA).c 1
  have a2 : (W5).cell? ⟨w.heap.size, 2, none⟩ = some (.string ⟨#[]⟩) := (za HA).c 2
  have b0 : (W5).cell? ⟨w.heap.size + 1, 0, none⟩ = some (.bool false) := (za HB).c 0
  have b1 : (W5).cell? ⟨w.heap.size + 1, 1, none⟩ = some (.string ⟨#[]⟩) := (za HB).c 1
  have b2 : (W5).cell? ⟨w.heap.size + 1, 2, none⟩ = some (.string ⟨#[]⟩) := (za HB).c 2
  have c0 : (W5).cell? ⟨w2.heap.size, 0, none⟩ = some (.bool n1) := (za HC).c 0
  have c1 : (W5).cell? ⟨w2.heap.size, 1, none⟩ = some (.string us1) := (za HC).c 1
  have c2 : (W5).cell? ⟨w2.heap.size, 2, none⟩ = some (.string ds1) := (za HC).c 2
  have d0 : (W5).cell? ⟨w3.heap.size, 0, none⟩ = some (.bool n1) := (za HD).c 0
  have d1 : (W5).cell? ⟨w3.heap.size, 1, none⟩ = some (.string us1) := (za HD).c 1
  have d2 : (W5).cell? ⟨w3.heap.size, 2, none⟩ = some (.string ds1) := (za HD).c 2
  have fa := fun j => (show (W5).frozen? ⟨w.heap.size, j, none⟩ = false from (za HA).f j)
  have fb := fun j => (show (W5).frozen? ⟨w.heap.size + 1, j, none⟩ = false from (za HB).f j)
  go_region
  all_goals
   go_wp2
   have hcc := And.intro a0 (And.intro a1 (And.intro a2 (And.intro b0 (And.intro b1 b2))))
   refine bodyPost_ret (v := .tuple #[.agg #[.bool n1, .string us1, .string ds1], .agg #[.bool n1, .string us1, .string ds1]]) (by simp [results, Tryd.results59, go_sem, hcc]) rfl ⟨⟨n1, us1, ds1, n1, us1, ds1, rfl, za Hsm1, za Hsm1⟩, ?_⟩
   exact (zW (zW (za HWe) (b := w.heap.size) (Nat.le_refl _) _ _ _) (b := w.heap.size + 1) (by omega) _ _ _).drew
 have z0 : ((i : Int) == 0) = false := by rw [beq_eq_false_iff_ne]; omega
 rcases Nat.lt_or_ge i 2 with h2 | h2
 ·have hi1 : i = 1 := by omega
  subst hi1
  go_wp2_with fail
  refine (QB n1 us1 ds1 w4).mono ?_
  rintro e w5 ⟨rfl, hb5⟩
  have hA := (za HA).below hb5
  have hB := (za HB).below hb5
  have hC := (za HC).below hb5
  have hD := (za HD).below hb5
  have hWe := (za HW4).trans (hb5.mono (za HW4).size)
  have d0' : w5.cell? ⟨w3.heap.size, 0, none⟩ = some (.bool n2) := hD.c 0
  have d1' : w5.cell? ⟨w3.heap.size, 1, none⟩ = some (.string us2) := hD.c 1
  have d2' : w5.cell? ⟨w3.heap.size, 2, none⟩ = some (.string ds2) := hD.c 2
  have fd' := hD.f
  obtain ⟨b, hb⟩ : ∃ b, (!n1 && us1.toList != [48]) = b := ⟨_, rfl⟩
  rw [hb]
  clear HA HB HC HD HW4 hb hb5
  have HA' := hide (hA.far3 (c := w3.heap.size) (by omega) (.bool b) (.string us1) (.string ds1))
  have HB' := hide (hB.far3 (c := w3.heap.size) (by omega) (.bool b) (.string us1) (.string ds1))
  have HC' := hide (hC.far3 (c := w3.heap.size) (by omega) (.bool b) (.string us1) (.string ds1))
  have HD' := hide (hD.put3 (.bool b) (.string us1) (.string ds1))
  have HWe := hide (zW hWe (b := w3.heap.size) (by omega) (.bool b) (.string us1) (.string ds1))
  clear hA hB hC hD hWe
  go_wp2
  clear d0' d1' d2' fd'
  generalize (((w5.setCell ⟨w3.heap.size, 0, none⟩ (.bool b)).setCell ⟨w3.heap.size, 1, none⟩ (.string us1)).setCell ⟨w3.heap.size, 2, none⟩ (.string ds1)) = W5 at *
  have HA := HA'
  have HB := HB'
  have HC := HC'
  have HD := HD'
  clear HA' HB' HC' HD'
  clear a0 a1 a2 b0 b1 b2 c0 c1 c2 d0 d1 d2 fa fb fd
  have a0 : (W5).cell? ⟨w.heap.size, 0, none⟩ = some (.bool false) := (za HA).c 0
  have a1 : (W5).cell? ⟨w.heap.size, 1, none⟩ = some (.string ⟨#[]⟩) := (za HA).c 1
  have a2 : (W5).cell? ⟨w.heap.size, 2, none⟩ = some (.string ⟨#[]⟩) := (za HA).c 2
  have b0 : (W5).cell? ⟨w.heap.size + 1, 0, none⟩ = some (.bool false) := (za HB).c 0
  have b1 : (W5).cell? ⟨w.heap.size + 1, 1, none⟩ = some (.string ⟨#[]⟩) := (za HB).c 1
  have b2 : (W5).cell? ⟨w.heap.size + 1, 2, none⟩ = some (.string ⟨#[]⟩) := (za HB).c 2
  have c0 : (W5).cell? ⟨w2.heap.size, 0, none⟩ = some (.bool n1) := (za HC).c 0
  have c1 : (W5).cell? ⟨w2.heap.size, 1, none⟩ = some (.string us1) := (za HC).c 1
  have c2 : (W5).cell? ⟨w2.heap.size, 2, none⟩ = some (.string ds1) := (za HC).c 2
  have d0 : (W5).cell? ⟨w3.heap.size, 0, none⟩ = some (.bool b) := (za HD).c 0
  have d1 : (W5).cell? ⟨w3.heap.size, 1, none⟩ = some (.string us1) := (za HD).c 1
  have d2 : (W5).cell? ⟨w3.heap.size, 2, none⟩ = some (.string ds1) := (za HD).c 2
  have fa := fun j => (show (W5).frozen? ⟨w.heap.size, j, none⟩ = false from (za HA).f j)
  have fb := fun j => (show (W5).frozen? ⟨w.heap.size + 1, j, none⟩ = false from (za HB).f j)
  go_region
  all_goals
   go_wp2
   have hcc := And.intro a0 (And.intro a1 (And.intro a2 (And.intro b0 (And.intro b1 b2))))
   refine bodyPost_ret (v := .tuple #[.agg #[.bool n1, .string us1, .string ds1], .agg #[.bool b, .string us1, .string ds1]]) (by simp [results, Tryd.results59, go_sem, hcc]) rfl ⟨⟨n1, us1, ds1, b, us1, ds1, rfl, za Hsm1, za Hsm1⟩, ?_⟩
   exact (zW (zW (za HWe) (b := w.heap.size) (Nat.le_refl _) _ _ _) (b := w.heap.size + 1) (by omega) _ _ _).drew
 have z1 : ((i : Int) == 1) = false := by rw [beq_eq_false_iff_ne]; omega
 have HWe := HW4
 go_wp2
 clear a0 a1 a2 b0 b1 b2 c0 c1 c2 d0 d1 d2 fa fb fd
 have a0 : (w4).cell? ⟨w.heap.size, 0, none⟩ = some (.bool false) := (za HA).c 0
 have a1 : (w4).cell? ⟨w.heap.size, 1, none⟩ = some (.string ⟨#[]⟩) := (za HA).c 1
 have a2 : (w4).cell? ⟨w.heap.size, 2, none⟩ = some (.string ⟨#[]⟩) := (za HA).c 2
 have b0 : (w4).cell? ⟨w.heap.size + 1, 0, none⟩ = some (.bool false) := (za HB).c 0
 have b1 : (w4).cell? ⟨w.heap.size + 1, 1, none⟩ = some (.string ⟨#[]⟩) := (za HB).c 1
 have b2 : (w4).cell? ⟨w.heap.size + 1, 2, none⟩ = some (.string ⟨#[]⟩) := (za HB).c 2
 have c0 : (w4).cell? ⟨w2.heap.size, 0, none⟩ = some (.bool n1) := (za HC).c 0
 have c1 : (w4).cell? ⟨w2.heap.size, 1, none⟩ = some (.string us1) := (za HC).c 1
 have c2 : (w4).cell? ⟨w2.heap.size, 2, none⟩ = some (.string ds1) := (za HC).c 2
 have d0 : (w4).cell? ⟨w3.heap.size, 0, none⟩ = some (.bool n2) := (za HD).c 0
 have d1 : (w4).cell? ⟨w3.heap.size, 1, none⟩ = some (.string us2) := (za HD).c 1
 have d2 : (w4).cell? ⟨w3.heap.size, 2, none⟩ = some (.string ds2) := (za HD).c 2
 have fa := fun j => (show (w4).frozen? ⟨w.heap.size, j, none⟩ = false from (za HA).f j)
 have fb := fun j => (show (w4).frozen? ⟨w.heap.size + 1, j, none⟩ = false from (za HB).f j)
 go_region
 all_goals
  go_wp2
  have hcc := And.intro a0 (And.intro a1 (And.intro a2 (And.intro b0 (And.intro b1 b2))))
  refine bodyPost_ret (v := .tuple #[.agg #[.bool n1, .string us1, .string ds1], .agg #[.bool n2, .string us2, .string ds2]]) (by simp [results, Tryd.results59, go_sem, hcc]) rfl ⟨⟨n1, us1, ds1, n2, us2, ds2, rfl, za Hsm1, za Hsm2⟩, ?_⟩
  exact (zW (zW (za HWe) (b := w.heap.size) (Nat.le_refl _) _ _ _) (b := w.heap.size + 1) (by omega) _ _ _).drew
theorem yy (a : Option Addr) (n cap : Nat) (w : World) (h : Bytes0 w a n) (hcap : n ≤ cap) (hmax : cap ≤ maxLen) :
  Calls Tryd.prog 16 #[.slice a n cap] w fun e w' => (∃ n1 us1 ds1 n2 us2 ds2, e = .returned (.tuple #[numS n1 us1 ds1, numS n2 us2 ds2]) ∧ jl us1 ds1 ∧ jl us2 ds2) ∧ Below w.heap.size w w' := by
 have hW := ((Below.refl w.heap.size w).alloc (Nat.le_refl _) (.cells #[.bool false, .string ⟨#[]⟩, .string ⟨#[]⟩] 26)).alloc (by simp) (.cells #[.bool false, .string ⟨#[]⟩, .string ⟨#[]⟩] 26)
 have H := hide (h.below hW)
 have HW := hide hW
 have hA := (AtC.new w #[.bool false, .string ⟨#[]⟩, .string ⟨#[]⟩] 26).alloc (.cells #[.bool false, .string ⟨#[]⟩, .string ⟨#[]⟩] 26)
 have hB := AtC.new (w.alloc (.cells #[.bool false, .string ⟨#[]⟩, .string ⟨#[]⟩] 26)) #[.bool false, .string ⟨#[]⟩, .string ⟨#[]⟩] 26
 rw [World.size_alloc] at hB
 have HA0 := hide hA
 have HB0 := hide hB
 clear h hW hA hB
 go_enter Tryd.func16, Tryd.ntmps16
 go_wp2_with fail
 refine (y6 a n cap _ (za H) hcap hmax).mono ?_
 rintro e w1 ⟨⟨n1, us1, ds1, n2, us2, ds2, rfl, hsm1, hsm2⟩, hb1⟩
 have hA := (za HA0).below hb1
 have hB := (za HB0).below hb1
 have a0 : w1.cell? ⟨w.heap.size, 0, none⟩ = some (.bool false) := hA.c 0
 have a1 : w1.cell? ⟨w.heap.size, 1, none⟩ = some (.string ⟨#[]⟩) := hA.c 1
 have a2 : w1.cell? ⟨w.heap.size, 2, none⟩ = some (.string ⟨#[]⟩) := hA.c 2
 have b0 : w1.cell? ⟨w.heap.size + 1, 0, none⟩ = some (.bool false) := hB.c 0
 have b1 : w1.cell? ⟨w.heap.size + 1, 1, none⟩ = some (.string ⟨#[]⟩) := hB.c 1
 have b2 : w1.cell? ⟨w.heap.size + 1, 2, none⟩ = some (.string ⟨#[]⟩) := hB.c 2
 have fa := hA.f
 have fb := hB.f
 have HW1 := hide ((za HW).trans (hb1.mono (za HW).size))
 have Hsm := hide (And.intro hsm1 hsm2)
 clear hA hB hb1 hsm1 hsm2
 unfold numS
 go_wp2
 have hcc := And.intro a0 (And.intro a1 (And.intro a2 (And.intro b0 (And.intro b1 b2))))
 refine bodyPost_ret (v := .tuple #[.agg #[.bool n1, .string us1, .string ds1], .agg #[.bool n2, .string us2, .string ds2]]) (by simp [results, Tryd.results16, go_sem, hcc]) rfl ⟨⟨n1, us1, ds1, n2, us2, ds2, rfl, za Hsm⟩, ?_⟩
 refine (za HW1).trans ?_
 repeat (first | exact Below.refl _ _ | refine Below.setCell ?_ (by first | exact Nat.le_refl _ | exact Nat.le_succ _ | (simp; done) | (simp; omega)) _ | refine Below.alloc ?_ (by first | exact Nat.le_refl _ | (simp; done) | (simp; omega)) _)
theorem yA (a : Option Addr) (n cap : Nat) (w : World) (h : Bytes0 w a n) (hcap : n ≤ cap) (hmax : cap ≤ maxLen) :
  Calls Tryd.prog 17 #[.slice a n cap] w fun e w' => (∃ n1 us1 ds1 n2 us2 ds2, e = .returned (.tuple #[numS n1 us1 ds1, numS n2 us2 ds2]) ∧ jl us1 ds1 ∧ jl us2 ds2) ∧ Below w.heap.size w w' := by
 have hW := ((Below.refl w.heap.size w).alloc (Nat.le_refl _) (.cells #[.bool false, .string ⟨#[]⟩, .string ⟨#[]⟩] 26)).alloc (by simp) (.cells #[.bool false, .string ⟨#[]⟩, .string ⟨#[]⟩] 26)
 have H := hide (h.below hW)
 have HW := hide hW
 have hA := (AtC.new w #[.bool false, .string ⟨#[]⟩, .string ⟨#[]⟩] 26).alloc (.cells #[.bool false, .string ⟨#[]⟩, .string ⟨#[]⟩] 26)
 have hB := AtC.new (w.alloc (.cells #[.bool false, .string ⟨#[]⟩, .string ⟨#[]⟩] 26)) #[.bool false, .string ⟨#[]⟩, .string ⟨#[]⟩] 26
 rw [World.size_alloc] at hB
 have HA0 := hide hA
 have HB0 := hide hB
 clear h hW hA hB
 go_enter Tryd.func17, Tryd.ntmps17
 go_wp2_with fail
 refine (y6 a n cap _ (za H) hcap hmax).mono ?_
 rintro e w1 ⟨⟨n1, us1, ds1, n2, us2, ds2, rfl, hsm1, hsm2⟩, hb1⟩
 have hA := (za HA0).below hb1
 have hB := (za HB0).below hb1
 have a0 : w1.cell? ⟨w.heap.size, 0, none⟩ = some (.bool false) := hA.c 0
 have a1 : w1.cell? ⟨w.heap.size, 1, none⟩ = some (.string ⟨#[]⟩) := hA.c 1
 have a2 : w1.cell? ⟨w.heap.size, 2, none⟩ = some (.string ⟨#[]⟩) := hA.c 2
 have b0 : w1.cell? ⟨w.heap.size + 1, 0, none⟩ = some (.bool false) := hB.c 0
 have b1 : w1.cell? ⟨w.heap.size + 1, 1, none⟩ = some (.string ⟨#[]⟩) := hB.c 1
 have b2 : w1.cell? ⟨w.heap.size + 1, 2, none⟩ = some (.string ⟨#[]⟩) := hB.c 2
 have fa := hA.f
 have fb := hB.f
 have HW1 := hide ((za HW).trans (hb1.mono (za HW).size))
 have Hsm := hide (And.intro hsm1 hsm2)
 clear hA hB hb1 hsm1 hsm2
 unfold numS
 go_wp2
 have hcc := And.intro a0 (And.intro a1 (And.intro a2 (And.intro b0 (And.intro b1 b2))))
 refine bodyPost_ret (v := .tuple #[.agg #[.bool n1, .string us1, .string ds1], .agg #[.bool n2, .string us2, .string ds2]]) (by simp [results, Tryd.results17, go_sem, hcc]) rfl ⟨⟨n1, us1, ds1, n2, us2, ds2, rfl, za Hsm⟩, ?_⟩
 refine (za HW1).trans ?_
 repeat (first | exact Below.refl _ _ | refine Below.setCell ?_ (by first | exact Nat.le_refl _ | exact Nat.le_succ _ | (simp; done) | (simp; omega)) _ | refine Below.alloc ?_ (by first | exact Nat.le_refl _ | (simp; done) | (simp; omega)) _)
theorem xv {n : Nat} (h : n ≤ 9223372036854775808) : (gr n).length ≤ 3 := qr (by omega) (Nat.lt_of_le_of_lt h (by decide))
theorem jP (i : Int) (w : World) (h0 : -9223372036854775808 ≤ i) (h1 : i ≤ 9223372036854775807) (hT : Tens w) :
  Calls Tryd.prog 14 #[.int .i64 i] w fun e w' => e = .returned (intV i) ∧ Below w.heap.size w w' := by
 have HT := hide hT
 clear hT
 by_cases hi : 0 ≤ i
 ·obtain ⟨n, rfl⟩ := Int.eq_ofNat_of_zero_le hi
  have Hf : Hid (intV (n : Int) = numV false (dec n) ⟨#[49]⟩) := by
   show _ = _; unfold intV; rw [decide_eq_false (by omega), jL]; simp
  have ew : IntKind.wrap .u64 (n : Int) = (n : Int) := wu64 _ (by omega) (by omega)
  have el : decide ((n : Int) < 0) = false := decide_eq_false (by omega)
  have hg := xv (n := n) (by omega)
  go_enter Tryd.func14, Tryd.ntmps14
  go_wp2_with fail
  refine (xC (n) _ (by omega)).mono ?_
  rintro e w1 ⟨⟨v, rfl, hv⟩, hb1⟩
  have hb0 := zu hb1
  have hz0 : w.heap.size + 1 ≤ w1.heap.size := by have := hb1.size; simpa using this
  have Hv := hide hv
  have HT1 := hide ((za HT).below (zA hb0))
  clear hv
  go_wp2_with fail
  refine (zR (n) v _ (za Hv) (by omega) (za HT1)).mono ?_
  rintro e w2 ⟨rfl, hb2⟩
  have hn2 := zf hb0 hz0 hb2
  have c0 := zi hn2.1 0
  have c1 := zi hn2.1 1
  have c2 := zi hn2.1 2
  have f0 := zF hn2.1 0
  have f1 := zF hn2.1 1
  have f2 := zF hn2.1 2
  have hbX := zA hn2.1
  simp at c0 c1 c2
  clear hb1 hb0 hb2 hn2 hz0
  go_wp2
  refine bodyPost_ret (v := numV false (dec n) ⟨#[49]⟩) (by simp [results, Tryd.results14, go_sem, numV, c0, c1, c2]) rfl ⟨by rw [za Hf], ?_⟩
  exact z7 hbX _ (Nat.le_refl _) _ _ _
 ·obtain ⟨n, hn⟩ := Int.eq_ofNat_of_zero_le (show 0 ≤ -(i + 1) by omega)
  have hn' : i = -(n : Int) - 1 := by omega
  subst hn'
  have Hf : Hid (intV (-(n : Int) - 1) = numV true (dec (n + 1)) ⟨#[49]⟩) := by
   show _ = _; unfold intV; rw [decide_eq_true (by omega), jL, show (-(n : Int) - 1).natAbs = n + 1 from by omega]
  have ew : IntKind.wrap .u64 (-(n : Int) - 1) = 18446744073709551615 - (n : Int) := by rw [IntKind.wrap_u64]; omega
  have en : IntKind.wrap .u64 (-(18446744073709551615 - (n : Int))) = ((n + 1 : Nat) : Int) := by rw [IntKind.wrap_u64]; omega
  have el : decide (-(n : Int) - 1 < 0) = true := decide_eq_true (by omega)
  have hg := xv (n := n + 1) (by omega)
  clear hn
  go_enter Tryd.func14, Tryd.ntmps14
  go_wp2_with fail
  refine (xC (n + 1) _ (by omega)).mono ?_
  rintro e w1 ⟨⟨v, rfl, hv⟩, hb1⟩
  have hb0 := zu hb1
  have hz0 : w.heap.size + 1 ≤ w1.heap.size := by have := hb1.size; simpa using this
  have Hv := hide hv
  have HT1 := hide ((za HT).below (zA hb0))
  clear hv
  go_wp2_with fail
  refine (zR (n + 1) v _ (za Hv) (by omega) (za HT1)).mono ?_
  rintro e w2 ⟨rfl, hb2⟩
  have hn2 := zf hb0 hz0 hb2
  have c0 := zi hn2.1 0
  have c1 := zi hn2.1 1
  have c2 := zi hn2.1 2
  have f0 := zF hn2.1 0
  have f1 := zF hn2.1 1
  have f2 := zF hn2.1 2
  have hbX := zA hn2.1
  simp at c0 c1 c2
  clear hb1 hb0 hb2 hn2 hz0
  go_wp2
  refine bodyPost_ret (v := numV true (dec (n + 1)) ⟨#[49]⟩) (by simp [results, Tryd.results14, go_sem, numV, c0, c1, c2]) rfl ⟨by rw [za Hf], ?_⟩
  exact z7 hbX _ (Nat.le_refl _) _ _ _
theorem jV {us ds : ByteArray} (h : jl us ds) : ∃ u d : List UInt8, us = B u ∧ ds = B d ∧ small (false, u, d) := by
 refine ⟨us.data.toList, ds.data.toList, (jK us).symm, (jK ds).symm, ?_, ?_⟩
 ·have := h.1; show us.data.toList.length ≤ 1000; rwa [← zy, jK]
 ·have := h.2; show ds.data.toList.length ≤ 1000; rwa [← zy, jK]
theorem xP (a : Option Addr) (n cap : Nat) (w : World) (h : Bytes0 w a n) (hcap : n ≤ cap) (hmax : cap ≤ maxLen) :
  Calls Tryd.prog 16 #[.slice a n cap] w fun e w' => (∃ n1 u1 d1 n2 u2 d2, e = .returned (.tuple #[.agg #[.bool n1, .string (B u1), .string (B d1)], .agg #[.bool n2, .string (B u2), .string (B d2)]]) ∧ small (n1, u1, d1) ∧ small (n2, u2, d2)) ∧ Below w.heap.size w w' := by
 refine (yy a n cap w h hcap hmax).mono ?_
 rintro e w' ⟨⟨n1, us1, ds1, n2, us2, ds2, rfl, h1, h2⟩, hb⟩
 obtain ⟨u1, d1, rfl, rfl, s1⟩ := jV h1
 obtain ⟨u2, d2, rfl, rfl, s2⟩ := jV h2
 exact ⟨⟨n1, u1, d1, n2, u2, d2, rfl, s1, s2⟩, hb⟩
theorem xQ (a : Option Addr) (n cap : Nat) (w : World) (h : Bytes0 w a n) (hcap : n ≤ cap) (hmax : cap ≤ maxLen) :
  Calls Tryd.prog 17 #[.slice a n cap] w fun e w' => (∃ n1 u1 d1 n2 u2 d2, e = .returned (.tuple #[.agg #[.bool n1, .string (B u1), .string (B d1)], .agg #[.bool n2, .string (B u2), .string (B d2)]]) ∧ small (n1, u1, d1) ∧ small (n2, u2, d2)) ∧ Below w.heap.size w w' := by
 refine (yA a n cap w h hcap hmax).mono ?_
 rintro e w' ⟨⟨n1, us1, ds1, n2, us2, ds2, rfl, h1, h2⟩, hb⟩
 obtain ⟨u1, d1, rfl, rfl, s1⟩ := jV h1
 obtain ⟨u2, d2, rfl, rfl, s2⟩ := jV h2
 exact ⟨⟨n1, u1, d1, n2, u2, d2, rfl, s1, s2⟩, hb⟩
theorem qc {f : Rt → Rt → Option Rt} (hf : Low f) {a b : T3} {r : T3} {x : Int} (h : fld f a b = (r, x)) : small r := by
 have := Qw f hf a b
 rw [h] at this
 exact ⟨Nat.le_trans this.1 (by decide), Nat.le_trans this.2 (by decide)⟩
theorem jO {f : Rt → Rt → Option Rt} (hf : Low f) {a b : T3} {r : T3} (h : fld f a b = (r, 0)) : okT r = true := by
 have := ZR hf (a := a) (b := b)
 rw [h] at this
 exact this
theorem qC {n1 n2 rn : Bool} {u1 d1 u2 d2 ru rd : List UInt8} {rx : Int} (hr : fld addP (n1, u1, d1) (n2, u2, d2) = ((rn, ru, rd), rx)) (w : World) (ha : small (n1, u1, d1)) (hb : small (n2, u2, d2)) (hT : Tens w) :
  Calls Tryd.prog 18 #[.agg #[.bool n1, .string (B u1), .string (B d1)], .agg #[.bool n2, .string (B u2), .string (B d2)]] w fun e w' => e = .returned (.tuple #[.agg #[.bool rn, .string (B ru), .string (B rd)], .int .i64 rx]) ∧ Below w.heap.size w w' := by
 have h := xR (n1, u1, d1) (n2, u2, d2) w ha hb hT
 rw [hr] at h
 exact h
theorem xU {n1 n2 rn : Bool} {u1 d1 u2 d2 ru rd : List UInt8} {rx : Int} (hr : fld subP (n1, u1, d1) (n2, u2, d2) = ((rn, ru, rd), rx)) (w : World) (ha : small (n1, u1, d1)) (hb : small (n2, u2, d2)) (hT : Tens w) :
  Calls Tryd.prog 23 #[.agg #[.bool n1, .string (B u1), .string (B d1)], .agg #[.bool n2, .string (B u2), .string (B d2)]] w fun e w' => e = .returned (.tuple #[.agg #[.bool rn, .string (B ru), .string (B rd)], .int .i64 rx]) ∧ Below w.heap.size w w' := by
 have h := xV (n1, u1, d1) (n2, u2, d2) w ha hb hT
 rw [hr] at h
 exact h
theorem ja {n1 n2 rn : Bool} {u1 d1 u2 d2 ru rd : List UInt8} {rx : Int} (hr : fld mulP (n1, u1, d1) (n2, u2, d2) = ((rn, ru, rd), rx)) (w : World) (ha : small (n1, u1, d1)) (hb : small (n2, u2, d2)) (hT : Tens w) :
  Calls Tryd.prog 20 #[.agg #[.bool n1, .string (B u1), .string (B d1)], .agg #[.bool n2, .string (B u2), .string (B d2)]] w fun e w' => e = .returned (.tuple #[.agg #[.bool rn, .string (B ru), .string (B rd)], .int .i64 rx]) ∧ Below w.heap.size w w' := by
 have h := v4 (n1, u1, d1) (n2, u2, d2) w ha hb hT
 rw [hr] at h
 exact h
theorem Zk {n1 n2 rn : Bool} {u1 d1 u2 d2 ru rd : List UInt8} {rx : Int} (hr : fld addP (n1, u1, d1) (n2, u2, d2) = ((rn, ru, rd), rx)) (w : World) (ha : small (n1, u1, d1)) (hb : small (n2, u2, d2)) :
  Calls Tryd.prog 19 #[.agg #[.bool n1, .string (B u1), .string (B d1)], .agg #[.bool n2, .string (B u2), .string (B d2)]] w fun e w' => e = .returned (.tuple #[.agg #[.bool rn, .string (B ru), .string (B rd)], .int .i64 rx]) ∧ Below w.heap.size w w' := by
 have h := Zm (n1, u1, d1) (n2, u2, d2) w ha hb
 rw [hr] at h
 exact h
theorem xS {n1 rn : Bool} {u1 d1 ru rd : List UInt8} {rx : Int} (hr : divT (n1, u1, d1) (n1, u1, d1) = ((rn, ru, rd), rx)) (w : World) (ha : okT (n1, u1, d1) = true) (hT : Tens w) :
  Calls Tryd.prog 24 #[.agg #[.bool n1, .string (B u1), .string (B d1)], .agg #[.bool n1, .string (B u1), .string (B d1)]] w fun e w' => e = .returned (.tuple #[.agg #[.bool rn, .string (B ru), .string (B rd)], .int .i64 rx]) ∧ Below w.heap.size w w' := by
 have h := xT (n1, u1, d1) (n1, u1, d1) w ha ha hT
 rw [hr] at h
 exact h
theorem jQ {n : Bool} {u d : List UInt8} (w : World) (ho : okT (n, u, d) = true) (hT : Tens w) :
  Calls Tryd.prog 9 #[.agg #[.bool n, .string (B u), .string (B d)]] w fun e w' => e = .returned (.bool true) ∧ Below w.heap.size w w' := by
 have hl := vl ho
 have h := vw (n, u, d) w ⟨by omega, by omega⟩ hT
 rw [ho] at h
 exact h
theorem zQ {n : Bool} {u d : List UInt8} {k : Bool} (w : World) (ho : okT (n, u, d) = k) (hs : small (n, u, d)) :
  Calls Tryd.prog 21 #[.agg #[.bool n, .string (B u), .string (B d)]] w fun e w' => e = .returned (.bool k) ∧ Below w.heap.size w w' := by
 have h := Qj (n, u, d) w hs
 rw [ho] at h
 exact h
theorem xF {n1 n2 : Bool} {u1 d1 u2 d2 : List UInt8} {x y : Int} (h : sameT ((n1, u1, d1), x) ((n2, u2, d2), y)) (w : World) :
  Calls Tryd.prog 22 #[.agg #[.bool n1, .string (B u1), .string (B d1)], .int .i64 x, .agg #[.bool n2, .string (B u2), .string (B d2)], .int .i64 y] w fun e w' => e = .returned (.bool true) ∧ Below w.heap.size w w' :=
 Qp ((n1, u1, d1), x) ((n2, u2, d2), y) w h
theorem kF (w : World) (hT : Tens w) : Calls Tryd.prog 14 #[.int .i64 0] w fun e w' => e = .returned (.agg #[.bool false, .string ⟨#[48]⟩, .string ⟨#[49]⟩]) ∧ Below w.heap.size w w' := by
 have h := jP 0 w (by decide) (by decide) hT
 rw [show intV 0 = .agg #[.bool false, .string ⟨#[48]⟩, .string ⟨#[49]⟩] from by unfold intV numV; rw [show dec (0 : Int).natAbs = ⟨#[48]⟩ from by decide +kernel, jL]; rfl] at h
 exact h
theorem ZV (w : World) (hT : Tens w) : Calls Tryd.prog 14 #[.int .i64 1] w fun e w' => e = .returned (.agg #[.bool false, .string ⟨#[49]⟩, .string ⟨#[49]⟩]) ∧ Below w.heap.size w w' := by
 have h := jP 1 w (by decide) (by decide) hT
 rw [show intV 1 = .agg #[.bool false, .string ⟨#[49]⟩, .string ⟨#[49]⟩] from by unfold intV numV; rw [show (1 : Int).natAbs = 1 from rfl, jL]; rfl] at h
 exact h
theorem Qr {A B C S T : T3} {L R : T3 × Int} (hc : okT C = true) (hS : fld addP A B = (S, 0)) (hT : fld addP B C = (T, 0)) (hL : fld addP S C = L) (hR : fld addP A T = R) : sameT L R := by
 have := Qs (a := A) (b := B) (c := C) hc (by rw [hS]) (by rw [hT])
 rw [hS, hT] at this
 rw [hL, hR] at this
 exact .inr (.inr this)
theorem QW {A B C T P Z : T3} {M N : T3 × Int} (hT : fld addP B C = (T, 0)) (hP : fld mulP A B = (P, 0)) (hZ : fld mulP A C = (Z, 0)) (hM : fld mulP A T = M) (hN : fld addP P Z = N) : sameT M N := by
 have := QX (a := A) (b := B) (c := C) (by rw [hT]) (by rw [hP]) (by rw [hZ])
 rw [hT, hP, hZ] at this
 rw [hM, hN] at this
 exact .inr (.inr this)
theorem QU {A B S : T3} {K : T3 × Int} (hS : fld addP A B = (S, 0)) (hK : fld subP S B = K) : K = (A, 0) := by
 have := QV (a := A) (b := B) (by rw [hS])
 rw [hS, hK] at this
 exact this
theorem zg {a w w' : World} (h : Below a.heap.size a w) (hb : Below w.heap.size w w') : Below a.heap.size a w' := h.trans (hb.mono h.size)
def Box1 (W : World) (t : T3) (s : Value) (wx : World) : Prop :=
 ∃ g, s = .pointer (some ⟨g, 0, none⟩) ∧ AtC wx g #[.bool t.1, .string (B t.2.1), .string (B t.2.2)] 26 ∧ Below W.heap.size W wx
theorem yU {W w : World} {n : Bool} {u d : List UInt8} (h : Below W.heap.size W w) : Box1 W (n, u, d) (.pointer (some ⟨w.heap.size, 0, none⟩)) (w.alloc (.cells #[.bool n, .string (B u), .string (B d)] 26)) :=
 ⟨_, rfl, AtC.new _ _ _, ze h (Nat.le_refl _) _⟩
theorem yV {W w : World} {n : Bool} {u d : List UInt8} {b : Nat} {x y z : Value} (hM : AtC w b #[x, y, z] 26) (hb : W.heap.size ≤ b) (h : Below W.heap.size W w) : Box1 W (n, u, d) (.pointer (some ⟨b, 0, none⟩)) (((w.setCell ⟨b, 0, none⟩ (.bool n)).setCell ⟨b, 1, none⟩ (.string (B u))).setCell ⟨b, 2, none⟩ (.string (B d))) :=
 ⟨b, rfl, hM.put3 _ _ _, zW h hb _ _ _⟩
theorem far3' {w : World} {b : Nat} {u0 u1 u2 : Value} {a : Addr} (h : b ≠ a.block) : (((w.setCell ⟨b, 0, none⟩ u0).setCell ⟨b, 1, none⟩ u1).setCell ⟨b, 2, none⟩ u2).cell? a = w.cell? a := by
 rw [World.cell?_setCell_far _ _ _ _ h, World.cell?_setCell_far _ _ _ _ h, World.cell?_setCell_far _ _ _ _ h]
theorem y7 (a0 a1 : Option Addr) (n0 cap0 n1 cap1 : Nat) (w : World) (h0 : Bytes0 w a0 n0) (h1 : Bytes0 w a1 n1) (hc0 : n0 ≤ cap0) (hc1 : n1 ≤ cap1) (hm0 : cap0 ≤ maxLen) (hm1 : cap1 ≤ maxLen) (hT : Tens w) (hs0 : n0 ≤ 1048576) (hs1 : n1 ≤ 1048576) :
  Calls Tryd.prog 4 #[.slice a0 n0 cap0, .slice a1 n1 cap1] w fun e w' => e = .returned (.bool true) ∧ Below w.heap.size w w' := by
 have H0 := hide h0
 have H1 := hide h1
 have HT := hide hT
 clear h0 h1 hT
 have d0 : decide (1048576 < (n0 : Int)) = false := by rw [decide_eq_false_iff_not]; omega
 have d1 : decide (1048576 < (n1 : Int)) = false := by rw [decide_eq_false_iff_not]; omega
 go_enter Tryd.func4, Tryd.ntmps4
 go_wp2_with fail
 refine (xP a0 n0 cap0 w (za H0) hc0 hm0).mono ?_
 rintro e w1 ⟨⟨na, ua, da, nb, ub, db, rfl, hsa, hsb⟩, hb1⟩
 have HB1 := hide hb1
 have HsA := hide hsa
 have HsBb := hide hsb
 clear hb1 d0 d1 hsa hsb
 go_wp2_with fail
 refine (xQ a1 n1 cap1 ((w1.alloc (.cells #[.bool na, .string (B ua), .string (B da)] 26)).alloc (.cells #[.bool nb, .string (B ub), .string (B db)] 26)) ((za H1).below (ze (ze (za HB1) (Nat.le_refl _) (.cells #[.bool na, .string (B ua), .string (B da)] 26)) (Nat.le_refl _) (.cells #[.bool nb, .string (B ub), .string (B db)] 26))) hc1 hm1).mono ?_
 rintro e w2 ⟨⟨nc, uc, dc, nc2, uc2, dc2, rfl, hsc, hsc2⟩, hb⟩
 have HsC := hide hsc
 clear hsc hsc2
 have HB2 := hide (zg (ze (ze (za HB1) (Nat.le_refl _) (.cells #[.bool na, .string (B ua), .string (B da)] 26)) (Nat.le_refl _) (.cells #[.bool nb, .string (B ub), .string (B db)] 26)) hb)
 have HXA := hide (((AtC.new w1 #[.bool na, .string (B ua), .string (B da)] 26).alloc (.cells #[.bool nb, .string (B ub), .string (B db)] 26)).below hb)
 have HXBb := hide ((AtC.new (w1.alloc (.cells #[.bool na, .string (B ua), .string (B da)] 26)) #[.bool nb, .string (B ub), .string (B db)] 26).below hb)
 rw [World.size_alloc] at HXBb
 clear hb HB1
 clear H0 H1 hc0 hc1 hm0 hm1 hs0 hs1
 obtain ⟨⟨⟨ns, us, ds⟩, xs⟩, hr⟩ : ∃ r, fld addP (na, ua, da) (nb, ub, db) = r := ⟨_, rfl⟩
 have HsS := hide (qc qy hr)
 have HrS := hide hr
 clear hr
 obtain ⟨⟨⟨np, up, dp⟩, xp⟩, hr⟩ : ∃ r, fld mulP (na, ua, da) (nb, ub, db) = r := ⟨_, rfl⟩
 have HsP := hide (qc jg hr)
 have HrP := hide hr
 clear hr
 have A0 := (za HXA).n0
 have A1 := (za HXA).n1
 have A2 := (za HXA).n2
 have Al := (za HXA).lt
 have Bb0 := (za HXBb).n0
 have Bb1 := (za HXBb).n1
 have Bb2 := (za HXBb).n2
 have Bbl := (za HXBb).lt
 go_wp2_with fail
 have h := qC (za HrS) ((w2.alloc (.cells #[.bool nc, .string (B uc), .string (B dc)] 26)).alloc (.cells #[.bool nc2, .string (B uc2), .string (B dc2)] 26)) (za HsA) (za HsBb) ((za HT).below (ze (ze (za HB2) (Nat.le_refl _) (.cells #[.bool nc, .string (B uc), .string (B dc)] 26)) (Nat.le_refl _) (.cells #[.bool nc2, .string (B uc2), .string (B dc2)] 26)))
 refine h.mono ?_
 clear h
 clear A0 A1 A2 Al Bb0 Bb1 Bb2 Bbl
 rintro e w3 ⟨rfl, hb⟩
 have HB3 := hide (zg (ze (ze (za HB2) (Nat.le_refl _) (.cells #[.bool nc, .string (B uc), .string (B dc)] 26)) (Nat.le_refl _) (.cells #[.bool nc2, .string (B uc2), .string (B dc2)] 26)) hb)
 replace HXA := hide (((((za HXA).alloc _).alloc _)).below hb)
 replace HXBb := hide (((((za HXBb).alloc _).alloc _)).below hb)
 have HXC := hide (((AtC.new w2 #[.bool nc, .string (B uc), .string (B dc)] 26).alloc (.cells #[.bool nc2, .string (B uc2), .string (B dc2)] 26)).below hb)
 have HXC2 := hide ((AtC.new (w2.alloc (.cells #[.bool nc, .string (B uc), .string (B dc)] 26)) #[.bool nc2, .string (B uc2), .string (B dc2)] 26).below hb)
 rw [World.size_alloc] at HXC2
 clear hb HB2
 have A0 := (za HXA).n0
 have A1 := (za HXA).n1
 have A2 := (za HXA).n2
 have Al := (za HXA).lt
 have Bb0 := (za HXBb).n0
 have Bb1 := (za HXBb).n1
 have Bb2 := (za HXBb).n2
 have Bbl := (za HXBb).lt
 go_wp2_with fail
 have h := qC ((kv (nb, ub, db) (na, ua, da)).trans (za HrS)) (w3.alloc (.cells #[.bool ns, .string (B us), .string (B ds)] 26)) (za HsBb) (za HsA) ((za HT).below (ze (za HB3) (Nat.le_refl _) (.cells #[.bool ns, .string (B us), .string (B ds)] 26)))
 refine h.mono ?_
 clear h
 clear A0 A1 A2 Al Bb0 Bb1 Bb2 Bbl
 rintro e w4 ⟨rfl, hb⟩
 have HB4 := hide (zg (ze (za HB3) (Nat.le_refl _) (.cells #[.bool ns, .string (B us), .string (B ds)] 26)) hb)
 replace HXA := hide ((((za HXA).alloc _)).below hb)
 replace HXBb := hide ((((za HXBb).alloc _)).below hb)
 replace HXC := hide ((((za HXC).alloc _)).below hb)
 replace HXC2 := hide ((((za HXC2).alloc _)).below hb)
 have HXS := hide ((AtC.new w3 #[.bool ns, .string (B us), .string (B ds)] 26).below hb)
 clear hb HB3
 have A0 := (za HXA).n0
 have A1 := (za HXA).n1
 have A2 := (za HXA).n2
 have Al := (za HXA).lt
 have Bb0 := (za HXBb).n0
 have Bb1 := (za HXBb).n1
 have Bb2 := (za HXBb).n2
 have Bbl := (za HXBb).lt
 go_wp2_with fail
 have h := Zk (za HrS) (w4.alloc (.cells #[.bool ns, .string (B us), .string (B ds)] 26)) (za HsA) (za HsBb)
 refine h.mono ?_
 clear h
 clear A0 A1 A2 Al Bb0 Bb1 Bb2 Bbl
 rintro e w5 ⟨rfl, hb⟩
 have HB5 := hide (zg (ze (za HB4) (Nat.le_refl _) (.cells #[.bool ns, .string (B us), .string (B ds)] 26)) hb)
 replace HXA := hide ((((za HXA).alloc _)).below hb)
 replace HXBb := hide ((((za HXBb).alloc _)).below hb)
 replace HXC := hide ((((za HXC).alloc _)).below hb)
 replace HXC2 := hide ((((za HXC2).alloc _)).below hb)
 replace HXS := hide ((((za HXS).alloc _)).below hb)
 have HXS2 := hide ((AtC.new w4 #[.bool ns, .string (B us), .string (B ds)] 26).below hb)
 clear hb HB4
 have S0 := (za HXS).n0
 have S1 := (za HXS).n1
 have S2 := (za HXS).n2
 have Sl := (za HXS).lt
 have S20 := (za HXS2).n0
 have S21 := (za HXS2).n1
 have S22 := (za HXS2).n2
 have S2l := (za HXS2).lt
 have A0 := (za HXA).n0
 have A1 := (za HXA).n1
 have A2 := (za HXA).n2
 have Al := (za HXA).lt
 have Bb0 := (za HXBb).n0
 have Bb1 := (za HXBb).n1
 have Bb2 := (za HXBb).n2
 have Bbl := (za HXBb).lt
 go_wp2_with fail
 have h := ja (za HrP) (w5.alloc (.cells #[.bool ns, .string (B us), .string (B ds)] 26)) (za HsA) (za HsBb) ((za HT).below (ze (za HB5) (Nat.le_refl _) (.cells #[.bool ns, .string (B us), .string (B ds)] 26)))
 refine h.mono ?_
 clear h
 clear S0 S1 S2 Sl S20 S21 S22 S2l A0 A1 A2 Al Bb0 Bb1 Bb2 Bbl
 rintro e w6 ⟨rfl, hb⟩
 have HB6 := hide (zg (ze (za HB5) (Nat.le_refl _) (.cells #[.bool ns, .string (B us), .string (B ds)] 26)) hb)
 replace HXA := hide ((((za HXA).alloc _)).below hb)
 replace HXBb := hide ((((za HXBb).alloc _)).below hb)
 replace HXC := hide ((((za HXC).alloc _)).below hb)
 replace HXC2 := hide ((((za HXC2).alloc _)).below hb)
 replace HXS := hide ((((za HXS).alloc _)).below hb)
 replace HXS2 := hide ((((za HXS2).alloc _)).below hb)
 have HXS3 := hide ((AtC.new w5 #[.bool ns, .string (B us), .string (B ds)] 26).below hb)
 clear hb HB5
 clear HXC2
 clear HXS2
 clear HXS3
 have A0 := (za HXA).n0
 have A1 := (za HXA).n1
 have A2 := (za HXA).n2
 have Al := (za HXA).lt
 have Bb0 := (za HXBb).n0
 have Bb1 := (za HXBb).n1
 have Bb2 := (za HXBb).n2
 have Bbl := (za HXBb).lt
 go_wp2_with fail
 have h := ja ((kK (nb, ub, db) (na, ua, da)).trans (za HrP)) (w6.alloc (.cells #[.bool np, .string (B up), .string (B dp)] 26)) (za HsBb) (za HsA) ((za HT).below (ze (za HB6) (Nat.le_refl _) (.cells #[.bool np, .string (B up), .string (B dp)] 26)))
 refine h.mono ?_
 clear h
 clear A0 A1 A2 Al Bb0 Bb1 Bb2 Bbl
 rintro e w7 ⟨rfl, hb⟩
 have HB7 := hide (zg (ze (za HB6) (Nat.le_refl _) (.cells #[.bool np, .string (B up), .string (B dp)] 26)) hb)
 replace HXA := hide ((((za HXA).alloc _)).below hb)
 replace HXBb := hide ((((za HXBb).alloc _)).below hb)
 replace HXC := hide ((((za HXC).alloc _)).below hb)
 replace HXS := hide ((((za HXS).alloc _)).below hb)
 have HXP := hide ((AtC.new w6 #[.bool np, .string (B up), .string (B dp)] 26).below hb)
 clear hb HB6
 have P0 := (za HXP).n0
 have P1 := (za HXP).n1
 have P2 := (za HXP).n2
 have Pl := (za HXP).lt
 have S0 := (za HXS).n0
 have S1 := (za HXS).n1
 have S2 := (za HXS).n2
 have Sl := (za HXS).lt
 go_upto_region 12 with fail
 go_cut [128] from 103 to 128 (fun s wx => s = .bool false ∧ Below ((w7.alloc (.cells #[.bool np, .string (B up), .string (B dp)] 26))).heap.size ((w7.alloc (.cells #[.bool np, .string (B up), .string (B dp)] 26))) wx)
 case first =>
  by_cases hp : xp = 0
  ·subst hp
   by_cases hx : xs = 0
   ·subst hx
    go_wp2_with fail
    have h := jQ (w7.alloc (.cells #[.bool np, .string (B up), .string (B dp)] 26)) (jO jg (za HrP)) ((za HT).below (ze (za HB7) (Nat.le_refl _) (.cells #[.bool np, .string (B up), .string (B dp)] 26)))
    refine h.mono ?_
    clear h
    clear P0 P1 P2 Pl S0 S1 S2 Sl
    rintro e wy ⟨rfl, hb⟩
    have HY := hide hb
    have S0 := (((za HXS).alloc _).below hb).n0
    have S1 := (((za HXS).alloc _).below hb).n1
    have S2 := (((za HXS).alloc _).below hb).n2
    have Sl := (((za HXS).alloc _).below hb).lt
    clear hb
    go_wp2_with fail
    have h := jQ wy (jO qy (za HrS)) (Tens.below ((za HT).below (ze (za HB7) (Nat.le_refl _) (.cells #[.bool np, .string (B up), .string (B dp)] 26))) (za HY))
    refine h.mono ?_
    clear h S0 S1 S2 Sl
    rintro e wz ⟨rfl, hb⟩
    replace HY := hide (zg (za HY) hb)
    clear hb
    go_wp2_with fail
    go_meet
    exact ⟨rfl, za HY⟩
   ·skip
    go_wp2_with fail
    have h := jQ (w7.alloc (.cells #[.bool np, .string (B up), .string (B dp)] 26)) (jO jg (za HrP)) ((za HT).below (ze (za HB7) (Nat.le_refl _) (.cells #[.bool np, .string (B up), .string (B dp)] 26)))
    refine h.mono ?_
    clear h
    clear P0 P1 P2 Pl S0 S1 S2 Sl
    rintro e wy ⟨rfl, hb⟩
    have HY := hide hb
    clear hb
    go_wp2_with fail
    go_meet
    exact ⟨rfl, za HY⟩
  ·by_cases hx : xs = 0
   ·subst hx
    go_wp2_with fail
    have h := jQ (w7.alloc (.cells #[.bool np, .string (B up), .string (B dp)] 26)) (jO qy (za HrS)) ((za HT).below (ze (za HB7) (Nat.le_refl _) (.cells #[.bool np, .string (B up), .string (B dp)] 26)))
    refine h.mono ?_
    clear h
    clear P0 P1 P2 Pl S0 S1 S2 Sl
    rintro e wy ⟨rfl, hb⟩
    have HY := hide hb
    clear hb
    go_wp2_with fail
    go_meet
    exact ⟨rfl, za HY⟩
   ·skip
    go_wp2_with fail
    go_meet
    exact ⟨rfl, Below.refl _ _⟩
 case rest =>
 obtain ⟨rfl, hb⟩ := hcut
 rename World => w8
 clear P0 P1 P2 Pl S0 S1 S2 Sl
 have HB8 := hide (zg (ze (za HB7) (Nat.le_refl _) (.cells #[.bool np, .string (B up), .string (B dp)] 26)) hb)
 replace HXA := hide ((((za HXA).alloc _)).below hb)
 replace HXBb := hide ((((za HXBb).alloc _)).below hb)
 replace HXC := hide ((((za HXC).alloc _)).below hb)
 replace HXS := hide ((((za HXS).alloc _)).below hb)
 replace HXP := hide ((((za HXP).alloc _)).below hb)
 have HXP2 := hide ((AtC.new w7 #[.bool np, .string (B up), .string (B dp)] 26).below hb)
 clear hb HB7
 clear HXP2
 obtain ⟨ka, hka⟩ : ∃ k, okT (na, ua, da) = k := ⟨_, rfl⟩
 have HoA := hide hka
 obtain ⟨kb, hkb⟩ : ∃ k, okT (nb, ub, db) = k := ⟨_, rfl⟩
 have HoBb := hide hkb
 obtain ⟨kc, hkc⟩ : ∃ k, okT (nc, uc, dc) = k := ⟨_, rfl⟩
 have HoC := hide hkc
 clear hka hkb hkc
 cases ka with
 | false =>
  have hno : (okT (na, ua, da) && okT (nb, ub, db)) = false := by rw [za HoA, za HoBb]; rfl
  have h1 := (jq (f := addP) hno).symm.trans (za HrS)
  have h2 := (jq (f := mulP) hno).symm.trans (za HrP)
  have hx : xs = 1 := (congrArg Prod.snd h1).symm
  have hp : xp = 1 := (congrArg Prod.snd h2).symm
  clear h1 h2 hno
  subst hx hp
  have A0 := (za HXA).n0
  have A1 := (za HXA).n1
  have A2 := (za HXA).n2
  have Al := (za HXA).lt
  go_wp2_with fail
  have h := zQ w8 (za HoA) (za HsA)
  refine h.mono ?_
  clear h
  clear A0 A1 A2 Al
  rintro e w9 ⟨rfl, hb⟩
  have HB9 := hide (zg (za HB8) hb)
  replace HXA := hide (((za HXA)).below hb)
  replace HXBb := hide (((za HXBb)).below hb)
  replace HXC := hide (((za HXC)).below hb)
  replace HXS := hide (((za HXS)).below hb)
  replace HXP := hide (((za HXP)).below hb)
  clear hb HB8
  have A0 := (za HXA).n0
  have A1 := (za HXA).n1
  have A2 := (za HXA).n2
  have Al := (za HXA).lt
  go_wp2_with fail
  have h := zQ w9 (za HoA) (za HsA)
  refine h.mono ?_
  clear h
  clear A0 A1 A2 Al
  rintro e w10 ⟨rfl, hb⟩
  have HB10 := hide (zg (za HB9) hb)
  replace HXA := hide (((za HXA)).below hb)
  replace HXBb := hide (((za HXBb)).below hb)
  replace HXC := hide (((za HXC)).below hb)
  replace HXS := hide (((za HXS)).below hb)
  replace HXP := hide (((za HXP)).below hb)
  clear hb HB9
  go_wp2_with fail
  go_ret
  exact ⟨rfl, (za HB10)⟩
 | true =>
  cases kb with
  | false =>
   have hno : (okT (na, ua, da) && okT (nb, ub, db)) = false := by rw [za HoA, za HoBb]; rfl
   have h1 := (jq (f := addP) hno).symm.trans (za HrS)
   have h2 := (jq (f := mulP) hno).symm.trans (za HrP)
   have hx : xs = 1 := (congrArg Prod.snd h1).symm
   have hp : xp = 1 := (congrArg Prod.snd h2).symm
   clear h1 h2 hno
   subst hx hp
   have A0 := (za HXA).n0
   have A1 := (za HXA).n1
   have A2 := (za HXA).n2
   have Al := (za HXA).lt
   go_wp2_with fail
   have h := zQ w8 (za HoA) (za HsA)
   refine h.mono ?_
   clear h
   clear A0 A1 A2 Al
   rintro e w9 ⟨rfl, hb⟩
   have HB9 := hide (zg (za HB8) hb)
   replace HXA := hide (((za HXA)).below hb)
   replace HXBb := hide (((za HXBb)).below hb)
   replace HXC := hide (((za HXC)).below hb)
   replace HXS := hide (((za HXS)).below hb)
   replace HXP := hide (((za HXP)).below hb)
   clear hb HB8
   have Bb0 := (za HXBb).n0
   have Bb1 := (za HXBb).n1
   have Bb2 := (za HXBb).n2
   have Bbl := (za HXBb).lt
   go_wp2_with fail
   have h := zQ w9 (za HoBb) (za HsBb)
   refine h.mono ?_
   clear h
   clear Bb0 Bb1 Bb2 Bbl
   rintro e w10 ⟨rfl, hb⟩
   have HB10 := hide (zg (za HB9) hb)
   replace HXA := hide (((za HXA)).below hb)
   replace HXBb := hide (((za HXBb)).below hb)
   replace HXC := hide (((za HXC)).below hb)
   replace HXS := hide (((za HXS)).below hb)
   replace HXP := hide (((za HXP)).below hb)
   clear hb HB9
   have A0 := (za HXA).n0
   have A1 := (za HXA).n1
   have A2 := (za HXA).n2
   have Al := (za HXA).lt
   go_wp2_with fail
   have h := zQ w10 (za HoA) (za HsA)
   refine h.mono ?_
   clear h
   clear A0 A1 A2 Al
   rintro e w11 ⟨rfl, hb⟩
   have HB11 := hide (zg (za HB10) hb)
   replace HXA := hide (((za HXA)).below hb)
   replace HXBb := hide (((za HXBb)).below hb)
   replace HXC := hide (((za HXC)).below hb)
   replace HXS := hide (((za HXS)).below hb)
   replace HXP := hide (((za HXP)).below hb)
   clear hb HB10
   have Bb0 := (za HXBb).n0
   have Bb1 := (za HXBb).n1
   have Bb2 := (za HXBb).n2
   have Bbl := (za HXBb).lt
   go_wp2_with fail
   have h := zQ w11 (za HoBb) (za HsBb)
   refine h.mono ?_
   clear h
   clear Bb0 Bb1 Bb2 Bbl
   rintro e w12 ⟨rfl, hb⟩
   have HB12 := hide (zg (za HB11) hb)
   replace HXA := hide (((za HXA)).below hb)
   replace HXBb := hide (((za HXBb)).below hb)
   replace HXC := hide (((za HXC)).below hb)
   replace HXS := hide (((za HXS)).below hb)
   replace HXP := hide (((za HXP)).below hb)
   clear hb HB11
   go_wp2_with fail
   go_ret
   exact ⟨rfl, (za HB12)⟩
  | true =>
   cases kc with
   | false =>
    have A0 := (za HXA).n0
    have A1 := (za HXA).n1
    have A2 := (za HXA).n2
    have Al := (za HXA).lt
    go_wp2_with fail
    have h := zQ w8 (za HoA) (za HsA)
    refine h.mono ?_
    clear h
    clear A0 A1 A2 Al
    rintro e w9 ⟨rfl, hb⟩
    have HB9 := hide (zg (za HB8) hb)
    replace HXA := hide (((za HXA)).below hb)
    replace HXBb := hide (((za HXBb)).below hb)
    replace HXC := hide (((za HXC)).below hb)
    replace HXS := hide (((za HXS)).below hb)
    replace HXP := hide (((za HXP)).below hb)
    clear hb HB8
    have Bb0 := (za HXBb).n0
    have Bb1 := (za HXBb).n1
    have Bb2 := (za HXBb).n2
    have Bbl := (za HXBb).lt
    go_wp2_with fail
    have h := zQ w9 (za HoBb) (za HsBb)
    refine h.mono ?_
    clear h
    clear Bb0 Bb1 Bb2 Bbl
    rintro e w10 ⟨rfl, hb⟩
    have HB10 := hide (zg (za HB9) hb)
    replace HXA := hide (((za HXA)).below hb)
    replace HXBb := hide (((za HXBb)).below hb)
    replace HXC := hide (((za HXC)).below hb)
    replace HXS := hide (((za HXS)).below hb)
    replace HXP := hide (((za HXP)).below hb)
    clear hb HB9
    have C0 := (za HXC).n0
    have C1 := (za HXC).n1
    have C2 := (za HXC).n2
    have Cl := (za HXC).lt
    go_wp2_with fail
    have h := zQ w10 (za HoC) (za HsC)
    refine h.mono ?_
    clear h
    clear C0 C1 C2 Cl
    rintro e w11 ⟨rfl, hb⟩
    have HB11 := hide (zg (za HB10) hb)
    replace HXA := hide (((za HXA)).below hb)
    replace HXBb := hide (((za HXBb)).below hb)
    replace HXC := hide (((za HXC)).below hb)
    replace HXS := hide (((za HXS)).below hb)
    replace HXP := hide (((za HXP)).below hb)
    clear hb HB10
    have A0 := (za HXA).n0
    have A1 := (za HXA).n1
    have A2 := (za HXA).n2
    have Al := (za HXA).lt
    go_wp2_with fail
    have h := zQ w11 (za HoA) (za HsA)
    refine h.mono ?_
    clear h
    clear A0 A1 A2 Al
    rintro e w12 ⟨rfl, hb⟩
    have HB12 := hide (zg (za HB11) hb)
    replace HXA := hide (((za HXA)).below hb)
    replace HXBb := hide (((za HXBb)).below hb)
    replace HXC := hide (((za HXC)).below hb)
    replace HXS := hide (((za HXS)).below hb)
    replace HXP := hide (((za HXP)).below hb)
    clear hb HB11
    have Bb0 := (za HXBb).n0
    have Bb1 := (za HXBb).n1
    have Bb2 := (za HXBb).n2
    have Bbl := (za HXBb).lt
    go_wp2_with fail
    have h := zQ w12 (za HoBb) (za HsBb)
    refine h.mono ?_
    clear h
    clear Bb0 Bb1 Bb2 Bbl
    rintro e w13 ⟨rfl, hb⟩
    have HB13 := hide (zg (za HB12) hb)
    replace HXA := hide (((za HXA)).below hb)
    replace HXBb := hide (((za HXBb)).below hb)
    replace HXC := hide (((za HXC)).below hb)
    replace HXS := hide (((za HXS)).below hb)
    replace HXP := hide (((za HXP)).below hb)
    clear hb HB12
    go_wp2_with fail
    go_ret
    exact ⟨rfl, (za HB13)⟩
   | true =>
    have A0 := (za HXA).n0
    have A1 := (za HXA).n1
    have A2 := (za HXA).n2
    have Al := (za HXA).lt
    go_wp2_with fail
    have h := zQ w8 (za HoA) (za HsA)
    refine h.mono ?_
    clear h
    clear A0 A1 A2 Al
    rintro e w9 ⟨rfl, hb⟩
    have HB9 := hide (zg (za HB8) hb)
    replace HXA := hide (((za HXA)).below hb)
    replace HXBb := hide (((za HXBb)).below hb)
    replace HXC := hide (((za HXC)).below hb)
    replace HXS := hide (((za HXS)).below hb)
    replace HXP := hide (((za HXP)).below hb)
    clear hb HB8
    have Bb0 := (za HXBb).n0
    have Bb1 := (za HXBb).n1
    have Bb2 := (za HXBb).n2
    have Bbl := (za HXBb).lt
    go_wp2_with fail
    have h := zQ w9 (za HoBb) (za HsBb)
    refine h.mono ?_
    clear h
    clear Bb0 Bb1 Bb2 Bbl
    rintro e w10 ⟨rfl, hb⟩
    have HB10 := hide (zg (za HB9) hb)
    replace HXA := hide (((za HXA)).below hb)
    replace HXBb := hide (((za HXBb)).below hb)
    replace HXC := hide (((za HXC)).below hb)
    replace HXS := hide (((za HXS)).below hb)
    replace HXP := hide (((za HXP)).below hb)
    clear hb HB9
    have C0 := (za HXC).n0
    have C1 := (za HXC).n1
    have C2 := (za HXC).n2
    have Cl := (za HXC).lt
    go_wp2_with fail
    obtain ⟨⟨⟨nt, ut, dt⟩, xt⟩, hr⟩ : ∃ r, fld addP (nb, ub, db) (nc, uc, dc) = r := ⟨_, rfl⟩
    have HsT := hide (qc qy hr)
    have HrT := hide hr
    clear hr
    have h := zQ w10 (za HoC) (za HsC)
    refine h.mono ?_
    clear h
    clear C0 C1 C2 Cl
    rintro e w11 ⟨rfl, hb⟩
    have HB11 := hide (zg (za HB10) hb)
    replace HXA := hide (((za HXA)).below hb)
    replace HXBb := hide (((za HXBb)).below hb)
    replace HXC := hide (((za HXC)).below hb)
    replace HXS := hide (((za HXS)).below hb)
    replace HXP := hide (((za HXP)).below hb)
    clear hb HB10
    have Bb0 := (za HXBb).n0
    have Bb1 := (za HXBb).n1
    have Bb2 := (za HXBb).n2
    have Bbl := (za HXBb).lt
    have C0 := (za HXC).n0
    have C1 := (za HXC).n1
    have C2 := (za HXC).n2
    have Cl := (za HXC).lt
    go_wp2_with fail
    obtain ⟨⟨⟨nl, ul, dl⟩, xl⟩, hr⟩ : ∃ r, fld addP (ns, us, ds) (nc, uc, dc) = r := ⟨_, rfl⟩
    have HsL := hide (qc qy hr)
    have HrL := hide hr
    clear hr
    obtain ⟨⟨⟨nr, ur, dr⟩, xr⟩, hr⟩ : ∃ r, fld addP (na, ua, da) (nt, ut, dt) = r := ⟨_, rfl⟩
    have HsR := hide (qc qy hr)
    have HrR := hide hr
    clear hr
    have h := qC (za HrT) w11 (za HsBb) (za HsC) ((za HT).below (za HB11))
    refine h.mono ?_
    clear h
    clear Bb0 Bb1 Bb2 Bbl C0 C1 C2 Cl
    rintro e w12 ⟨rfl, hb⟩
    have HB12 := hide (zg (za HB11) hb)
    replace HXA := hide (((za HXA)).below hb)
    replace HXBb := hide (((za HXBb)).below hb)
    replace HXC := hide (((za HXC)).below hb)
    replace HXS := hide (((za HXS)).below hb)
    replace HXP := hide (((za HXP)).below hb)
    clear hb HB11
    have S0 := (za HXS).n0
    have S1 := (za HXS).n1
    have S2 := (za HXS).n2
    have Sl := (za HXS).lt
    have C0 := (za HXC).n0
    have C1 := (za HXC).n1
    have C2 := (za HXC).n2
    have Cl := (za HXC).lt
    go_wp2_with fail
    have h := qC (za HrL) (w12.alloc (.cells #[.bool nt, .string (B ut), .string (B dt)] 26)) (za HsS) (za HsC) ((za HT).below (ze (za HB12) (Nat.le_refl _) (.cells #[.bool nt, .string (B ut), .string (B dt)] 26)))
    refine h.mono ?_
    clear h
    clear S0 S1 S2 Sl C0 C1 C2 Cl
    rintro e w13 ⟨rfl, hb⟩
    have HB13 := hide (zg (ze (za HB12) (Nat.le_refl _) (.cells #[.bool nt, .string (B ut), .string (B dt)] 26)) hb)
    replace HXA := hide ((((za HXA).alloc _)).below hb)
    replace HXBb := hide ((((za HXBb).alloc _)).below hb)
    replace HXC := hide ((((za HXC).alloc _)).below hb)
    replace HXS := hide ((((za HXS).alloc _)).below hb)
    replace HXP := hide ((((za HXP).alloc _)).below hb)
    have HXT := hide ((AtC.new w12 #[.bool nt, .string (B ut), .string (B dt)] 26).below hb)
    clear hb HB12
    have A0 := (za HXA).n0
    have A1 := (za HXA).n1
    have A2 := (za HXA).n2
    have Al := (za HXA).lt
    have T0 := (za HXT).n0
    have T1 := (za HXT).n1
    have T2 := (za HXT).n2
    have Tl := (za HXT).lt
    go_wp2_with fail
    have h := qC (za HrR) (w13.alloc (.cells #[.bool nl, .string (B ul), .string (B dl)] 26)) (za HsA) (za HsT) ((za HT).below (ze (za HB13) (Nat.le_refl _) (.cells #[.bool nl, .string (B ul), .string (B dl)] 26)))
    refine h.mono ?_
    clear h
    clear A0 A1 A2 Al T0 T1 T2 Tl
    rintro e w14 ⟨rfl, hb⟩
    have HB14 := hide (zg (ze (za HB13) (Nat.le_refl _) (.cells #[.bool nl, .string (B ul), .string (B dl)] 26)) hb)
    replace HXA := hide ((((za HXA).alloc _)).below hb)
    replace HXBb := hide ((((za HXBb).alloc _)).below hb)
    replace HXC := hide ((((za HXC).alloc _)).below hb)
    replace HXS := hide ((((za HXS).alloc _)).below hb)
    replace HXP := hide ((((za HXP).alloc _)).below hb)
    replace HXT := hide ((((za HXT).alloc _)).below hb)
    have HXL := hide ((AtC.new w13 #[.bool nl, .string (B ul), .string (B dl)] 26).below hb)
    clear hb HB13
    have L0 := (za HXL).n0
    have L1 := (za HXL).n1
    have L2 := (za HXL).n2
    have Ll := (za HXL).lt
    go_upto_region 19 with fail
    go_cut [187] from 174 to 187 (fun s wx => s = .bool false ∧ Below ((w14.alloc (.cells #[.bool nr, .string (B ur), .string (B dr)] 26))).heap.size ((w14.alloc (.cells #[.bool nr, .string (B ur), .string (B dr)] 26))) wx)
    case first =>
     by_cases hxs : xs = 0
     rotate_left
     ·go_wp2_with fail
      go_meet
      exact ⟨rfl, Below.refl _ _⟩
     subst hxs
     by_cases hxt : xt = 0
     rotate_left
     ·go_wp2_with fail
      go_meet
      exact ⟨rfl, Below.refl _ _⟩
     subst hxt
     go_wp2_with fail
     have h := xF (Qr (za HoC) (za HrS) (za HrT) (za HrL) (za HrR)) (w14.alloc (.cells #[.bool nr, .string (B ur), .string (B dr)] 26))
     refine h.mono ?_
     clear h
     rintro e wy ⟨rfl, hb⟩
     have HY := hide hb
     clear hb
     go_wp2_with fail
     go_meet
     exact ⟨rfl, za HY⟩
    case rest =>
    obtain ⟨rfl, hb⟩ := hcut
    rename World => w15
    clear L0 L1 L2 Ll
    have HB15 := hide (zg (ze (za HB14) (Nat.le_refl _) (.cells #[.bool nr, .string (B ur), .string (B dr)] 26)) hb)
    replace HXA := hide ((((za HXA).alloc _)).below hb)
    replace HXBb := hide ((((za HXBb).alloc _)).below hb)
    replace HXC := hide ((((za HXC).alloc _)).below hb)
    replace HXS := hide ((((za HXS).alloc _)).below hb)
    replace HXP := hide ((((za HXP).alloc _)).below hb)
    replace HXT := hide ((((za HXT).alloc _)).below hb)
    replace HXL := hide ((((za HXL).alloc _)).below hb)
    have HXR := hide ((AtC.new w14 #[.bool nr, .string (B ur), .string (B dr)] 26).below hb)
    clear hb HB14
    clear HXL
    clear HXR
    clear HrL HrR HsL HsR
    obtain ⟨⟨⟨nz, uz, dz⟩, xz⟩, hr⟩ : ∃ r, fld mulP (na, ua, da) (nc, uc, dc) = r := ⟨_, rfl⟩
    have HsZ := hide (qc jg hr)
    have HrZ := hide hr
    clear hr
    obtain ⟨⟨⟨nm, um, dm⟩, xm⟩, hr⟩ : ∃ r, fld mulP (na, ua, da) (nt, ut, dt) = r := ⟨_, rfl⟩
    have HsM := hide (qc jg hr)
    have HrM := hide hr
    clear hr
    obtain ⟨⟨⟨nn, un, dn⟩, xn⟩, hr⟩ : ∃ r, fld addP (np, up, dp) (nz, uz, dz) = r := ⟨_, rfl⟩
    have HsN := hide (qc qy hr)
    have HrN := hide hr
    clear hr
    have A0 := (za HXA).n0
    have A1 := (za HXA).n1
    have A2 := (za HXA).n2
    have Al := (za HXA).lt
    have C0 := (za HXC).n0
    have C1 := (za HXC).n1
    have C2 := (za HXC).n2
    have Cl := (za HXC).lt
    go_wp2_with fail
    have h := ja (za HrZ) w15 (za HsA) (za HsC) ((za HT).below (za HB15))
    refine h.mono ?_
    clear h
    clear A0 A1 A2 Al C0 C1 C2 Cl
    rintro e w16 ⟨rfl, hb⟩
    have HB16 := hide (zg (za HB15) hb)
    replace HXA := hide (((za HXA)).below hb)
    replace HXBb := hide (((za HXBb)).below hb)
    replace HXC := hide (((za HXC)).below hb)
    replace HXS := hide (((za HXS)).below hb)
    replace HXP := hide (((za HXP)).below hb)
    replace HXT := hide (((za HXT)).below hb)
    clear hb HB15
    have A0 := (za HXA).n0
    have A1 := (za HXA).n1
    have A2 := (za HXA).n2
    have Al := (za HXA).lt
    have T0 := (za HXT).n0
    have T1 := (za HXT).n1
    have T2 := (za HXT).n2
    have Tl := (za HXT).lt
    go_wp2_with fail
    have h := ja (za HrM) (w16.alloc (.cells #[.bool nz, .string (B uz), .string (B dz)] 26)) (za HsA) (za HsT) ((za HT).below (ze (za HB16) (Nat.le_refl _) (.cells #[.bool nz, .string (B uz), .string (B dz)] 26)))
    refine h.mono ?_
    clear h
    clear A0 A1 A2 Al T0 T1 T2 Tl
    rintro e w17 ⟨rfl, hb⟩
    have HB17 := hide (zg (ze (za HB16) (Nat.le_refl _) (.cells #[.bool nz, .string (B uz), .string (B dz)] 26)) hb)
    replace HXA := hide ((((za HXA).alloc _)).below hb)
    replace HXBb := hide ((((za HXBb).alloc _)).below hb)
    replace HXC := hide ((((za HXC).alloc _)).below hb)
    replace HXS := hide ((((za HXS).alloc _)).below hb)
    replace HXP := hide ((((za HXP).alloc _)).below hb)
    replace HXT := hide ((((za HXT).alloc _)).below hb)
    have HXZ := hide ((AtC.new w16 #[.bool nz, .string (B uz), .string (B dz)] 26).below hb)
    clear hb HB16
    have P0 := (za HXP).n0
    have P1 := (za HXP).n1
    have P2 := (za HXP).n2
    have Pl := (za HXP).lt
    have Z0 := (za HXZ).n0
    have Z1 := (za HXZ).n1
    have Z2 := (za HXZ).n2
    have Zl := (za HXZ).lt
    go_wp2_with fail
    have h := qC (za HrN) (w17.alloc (.cells #[.bool nm, .string (B um), .string (B dm)] 26)) (za HsP) (za HsZ) ((za HT).below (ze (za HB17) (Nat.le_refl _) (.cells #[.bool nm, .string (B um), .string (B dm)] 26)))
    refine h.mono ?_
    clear h
    clear P0 P1 P2 Pl Z0 Z1 Z2 Zl
    rintro e w18 ⟨rfl, hb⟩
    have HB18 := hide (zg (ze (za HB17) (Nat.le_refl _) (.cells #[.bool nm, .string (B um), .string (B dm)] 26)) hb)
    replace HXA := hide ((((za HXA).alloc _)).below hb)
    replace HXBb := hide ((((za HXBb).alloc _)).below hb)
    replace HXC := hide ((((za HXC).alloc _)).below hb)
    replace HXS := hide ((((za HXS).alloc _)).below hb)
    replace HXP := hide ((((za HXP).alloc _)).below hb)
    replace HXT := hide ((((za HXT).alloc _)).below hb)
    replace HXZ := hide ((((za HXZ).alloc _)).below hb)
    have HXM := hide ((AtC.new w17 #[.bool nm, .string (B um), .string (B dm)] 26).below hb)
    clear hb HB17
    have M0 := (za HXM).n0
    have M1 := (za HXM).n1
    have M2 := (za HXM).n2
    have Ml := (za HXM).lt
    go_upto_region 24 with fail
    go_cut [223] from 206 to 223 (fun s wx => s = .bool false ∧ Below ((w18.alloc (.cells #[.bool nn, .string (B un), .string (B dn)] 26))).heap.size ((w18.alloc (.cells #[.bool nn, .string (B un), .string (B dn)] 26))) wx)
    case first =>
     by_cases hxt : xt = 0
     rotate_left
     ·go_wp2_with fail
      go_meet
      exact ⟨rfl, Below.refl _ _⟩
     subst hxt
     by_cases hxp : xp = 0
     rotate_left
     ·go_wp2_with fail
      go_meet
      exact ⟨rfl, Below.refl _ _⟩
     subst hxp
     by_cases hxz : xz = 0
     rotate_left
     ·go_wp2_with fail
      go_meet
      exact ⟨rfl, Below.refl _ _⟩
     subst hxz
     go_wp2_with fail
     have h := xF (QW (za HrT) (za HrP) (za HrZ) (za HrM) (za HrN)) (w18.alloc (.cells #[.bool nn, .string (B un), .string (B dn)] 26))
     refine h.mono ?_
     clear h
     rintro e wy ⟨rfl, hb⟩
     have HY := hide hb
     clear hb
     go_wp2_with fail
     go_meet
     exact ⟨rfl, za HY⟩
    case rest =>
    obtain ⟨rfl, hb⟩ := hcut
    rename World => w19
    clear M0 M1 M2 Ml
    have HB19 := hide (zg (ze (za HB18) (Nat.le_refl _) (.cells #[.bool nn, .string (B un), .string (B dn)] 26)) hb)
    replace HXA := hide ((((za HXA).alloc _)).below hb)
    replace HXBb := hide ((((za HXBb).alloc _)).below hb)
    replace HXC := hide ((((za HXC).alloc _)).below hb)
    replace HXS := hide ((((za HXS).alloc _)).below hb)
    replace HXP := hide ((((za HXP).alloc _)).below hb)
    replace HXT := hide ((((za HXT).alloc _)).below hb)
    replace HXZ := hide ((((za HXZ).alloc _)).below hb)
    replace HXM := hide ((((za HXM).alloc _)).below hb)
    have HXN := hide ((AtC.new w18 #[.bool nn, .string (B un), .string (B dn)] 26).below hb)
    clear hb HB18
    clear HXC
    clear HXP
    clear HXT
    clear HXZ
    clear HXM
    clear HXN
    clear HrZ HrM HrN HsZ HsM HsN HrP HrT HsP HsT
    obtain ⟨⟨⟨nk, uk, dk⟩, xk⟩, hr⟩ : ∃ r, fld subP (ns, us, ds) (nb, ub, db) = r := ⟨_, rfl⟩
    have HsK := hide (qc QE hr)
    have HrK := hide hr
    clear hr
    obtain ⟨⟨⟨nq, uq, dq⟩, xq⟩, hr⟩ : ∃ r, divT (na, ua, da) (na, ua, da) = r := ⟨_, rfl⟩
    have HrQ := hide hr
    clear hr
    have S0 := (za HXS).n0
    have S1 := (za HXS).n1
    have S2 := (za HXS).n2
    have Sl := (za HXS).lt
    have Bb0 := (za HXBb).n0
    have Bb1 := (za HXBb).n1
    have Bb2 := (za HXBb).n2
    have Bbl := (za HXBb).lt
    go_wp2_with fail
    have h := xU (za HrK) w19 (za HsS) (za HsBb) ((za HT).below (za HB19))
    refine h.mono ?_
    clear h
    clear S0 S1 S2 Sl Bb0 Bb1 Bb2 Bbl
    rintro e w20 ⟨rfl, hb⟩
    have HB20 := hide (zg (za HB19) hb)
    replace HXA := hide (((za HXA)).below hb)
    replace HXBb := hide (((za HXBb)).below hb)
    replace HXS := hide (((za HXS)).below hb)
    clear hb HB19
    have A0 := (za HXA).n0
    have A1 := (za HXA).n1
    have A2 := (za HXA).n2
    have Al := (za HXA).lt
    go_wp2_with fail
    have h := xS (za HrQ) (w20.alloc (.cells #[.bool nk, .string (B uk), .string (B dk)] 26)) (za HoA) ((za HT).below (ze (za HB20) (Nat.le_refl _) (.cells #[.bool nk, .string (B uk), .string (B dk)] 26)))
    refine h.mono ?_
    clear h
    clear A0 A1 A2 Al
    rintro e w21 ⟨rfl, hb⟩
    have HB21 := hide (zg (ze (za HB20) (Nat.le_refl _) (.cells #[.bool nk, .string (B uk), .string (B dk)] 26)) hb)
    replace HXA := hide ((((za HXA).alloc _)).below hb)
    replace HXBb := hide ((((za HXBb).alloc _)).below hb)
    replace HXS := hide ((((za HXS).alloc _)).below hb)
    have HXK := hide ((AtC.new w20 #[.bool nk, .string (B uk), .string (B dk)] 26).below hb)
    clear hb HB20
    go_upto_region 28 with fail
    have HB22 := hide (ze (za HB21) (Nat.le_refl _) (.cells #[.bool nq, .string (B uq), .string (B dq)] 26))
    replace HXA := hide ((za HXA).alloc (.cells #[.bool nq, .string (B uq), .string (B dq)] 26))
    replace HXBb := hide ((za HXBb).alloc (.cells #[.bool nq, .string (B uq), .string (B dq)] 26))
    replace HXS := hide ((za HXS).alloc (.cells #[.bool nq, .string (B uq), .string (B dq)] 26))
    replace HXK := hide ((za HXK).alloc (.cells #[.bool nq, .string (B uq), .string (B dq)] 26))
    have HXQ := hide (AtC.new w21 #[.bool nq, .string (B uq), .string (B dq)] 26)
    obtain ⟨w22, hw⟩ : ∃ x, w21.alloc (.cells #[.bool nq, .string (B uq), .string (B dq)] 26) = x := ⟨_, rfl⟩
    rw [hw] at HXA HXBb HXS HXK HXQ HB22 ⊢
    clear hw
    have Hs0 : Hid (small zeroT) := ⟨by decide, by decide⟩
    have Hs1 : Hid (small oneT) := ⟨by decide, by decide⟩
    have A0 := (za HXA).n0
    have A1 := (za HXA).n1
    have A2 := (za HXA).n2
    have Al := (za HXA).lt
    have HKd := hide (Below.refl w22.heap.size w22).drew
    have HKa := hide (ze (Below.refl w22.heap.size w22) (Nat.le_refl _) (.cells #[.bool false, .string ⟨#[]⟩, .string ⟨#[]⟩] 26)).drew
    have HTk := hide ((za HT).below (za HB22))
    go_cut [32, 33] from 236 to 241 (fun s t wx => Box1 w22 (na, ua, da) s wx ∧ t = .int .i64 0)
    case first =>
     go_region_held3 (fun w' => w'.cell? ⟨w1.heap.size, 0, none⟩ = some (.bool na) ∧ w'.cell? ⟨w1.heap.size, 1, none⟩ = some (.string (B ua)) ∧ w'.cell? ⟨w1.heap.size, 2, none⟩ = some (.string (B da))) (((try dsimp only); (repeat' apply And.intro) <;> (first | with_reducible assumption | (rw [far3' (by first | (simp; done) | (simp; omega) | omega)]; with_reducible assumption) | with_reducible exact (za HXA).drew.n0 | with_reducible exact (za HXA).drew.n1 | with_reducible exact (za HXA).drew.n2 | with_reducible exact ((za HXA).alloc _).drew.n0 | with_reducible exact ((za HXA).alloc _).drew.n1 | with_reducible exact ((za HXA).alloc _).drew.n2 | with_reducible exact ((za HX1).alloc _).n0 | with_reducible exact ((za HX1).alloc _).n1 | with_reducible exact ((za HX1).alloc _).n2 | with_reducible exact ((za HX2).alloc _).n0 | with_reducible exact ((za HX2).alloc _).n1 | with_reducible exact ((za HX2).alloc _).n2 | (rw [far3' (by first | (simp; done) | (simp; omega) | omega)]; with_reducible exact ((za HX2).alloc _).n0) | (rw [far3' (by first | (simp; done) | (simp; omega) | omega)]; with_reducible exact ((za HX2).alloc _).n1) | (rw [far3' (by first | (simp; done) | (simp; omega) | omega)]; with_reducible exact ((za HX2).alloc _).n2)))) (first | (go_at_call 14; refine (kF _ (by first | exact (za HTk).below (za HKd) | exact (za HTk).below (za HKa))).mono ?_; rintro e wi ⟨rfl, hb⟩; have HK1 : Hid (Below w22.heap.size w22 wi) := (by first | exact (za HKd).trans (hb.mono (za HKd).size) | exact (za HKa).trans (hb.mono (za HKa).size)); have HM1 := (by first | exact hide ((AtC.new w22 #[.bool false, .string ⟨#[]⟩, .string ⟨#[]⟩] 26).drew.below hb) | exact trivial : _); have k1 := (za HK1).size; have HX1 := hide ((za HXA).below (za HK1)); have x10 := (za HX1).n0; have x11 := (za HX1).n1; have x12 := (za HX1).n2; clear hb) | (go_at_call 18; refine (qC (kw (za HoA)) _ (za HsA) (za Hs0) (by first | exact (za HTk).below (za HK1) | exact (za HTk).below (ze (za HK1) (Nat.le_refl _) _))).mono ?_; rintro e wj ⟨rfl, hb⟩; have HK12 : Hid (Below wi.heap.size wi wj) := (by first | exact hb | exact (ze (Below.refl _ _) (Nat.le_refl _) _).trans (hb.mono (ze (Below.refl _ _) (Nat.le_refl _) _).size)); have HK2 := hide ((za HK1).trans ((za HK12).mono (za HK1).size)); have HM2 := (by first | exact hide ((za HM1).below (za HK12)) | exact hide ((AtC.new wi #[.bool false, .string ⟨#[]⟩, .string ⟨#[]⟩] 26).below hb) | exact trivial : _); have k2 := (za HK12).size; have HX2 := hide ((za HXA).below (za HK2)); have x20 := (za HX2).n0; have x21 := (za HX2).n1; have x22 := (za HX2).n2; have m0 := (by first | exact (za HM2).n0 | exact trivial : _); have m1 := (by first | exact (za HM2).n1 | exact trivial : _); have m2 := (by first | exact (za HM2).n2 | exact trivial : _); have mf := (by first | exact (za HM2).f | exact trivial : _); have ml := (by first | exact (za HM2).lt | exact trivial : _); clear hb))
     all_goals (go_wp2_with fail; go_meet)
     all_goals refine ⟨?_, rfl⟩
     all_goals first | exact yU (za HK2) | exact yV (za HM2) (by omega) (za HK2)
    case rest =>
    obtain ⟨⟨gE, rfl, hX, hb⟩, rfl⟩ := hcut
    rename World => w23
    clear A0 A1 A2 Al
    clear HKd HKa HTk
    have HB23 := hide (zg (za HB22) hb)
    replace HXA := hide (((za HXA)).below hb)
    replace HXBb := hide (((za HXBb)).below hb)
    replace HXS := hide (((za HXS)).below hb)
    replace HXK := hide (((za HXK)).below hb)
    replace HXQ := hide (((za HXQ)).below hb)
    clear hb HB22
    have HXE := hide hX
    clear hX
    go_upto_region 29 with fail
    have A0 := (za HXA).n0
    have A1 := (za HXA).n1
    have A2 := (za HXA).n2
    have Al := (za HXA).lt
    have HKd := hide (Below.refl w23.heap.size w23).drew
    have HKa := hide (ze (Below.refl w23.heap.size w23) (Nat.le_refl _) (.cells #[.bool false, .string ⟨#[]⟩, .string ⟨#[]⟩] 26)).drew
    have HTk := hide ((za HT).below (za HB23))
    go_cut [34, 35] from 242 to 247 (fun s t wx => Box1 w23 (na, ua, da) s wx ∧ t = .int .i64 0)
    case first =>
     go_region_held3 (fun w' => w'.cell? ⟨w1.heap.size, 0, none⟩ = some (.bool na) ∧ w'.cell? ⟨w1.heap.size, 1, none⟩ = some (.string (B ua)) ∧ w'.cell? ⟨w1.heap.size, 2, none⟩ = some (.string (B da))) (((try dsimp only); (repeat' apply And.intro) <;> (first | with_reducible assumption | (rw [far3' (by first | (simp; done) | (simp; omega) | omega)]; with_reducible assumption) | with_reducible exact (za HXA).drew.n0 | with_reducible exact (za HXA).drew.n1 | with_reducible exact (za HXA).drew.n2 | with_reducible exact ((za HXA).alloc _).drew.n0 | with_reducible exact ((za HXA).alloc _).drew.n1 | with_reducible exact ((za HXA).alloc _).drew.n2 | with_reducible exact ((za HX1).alloc _).n0 | with_reducible exact ((za HX1).alloc _).n1 | with_reducible exact ((za HX1).alloc _).n2 | with_reducible exact ((za HX2).alloc _).n0 | with_reducible exact ((za HX2).alloc _).n1 | with_reducible exact ((za HX2).alloc _).n2 | (rw [far3' (by first | (simp; done) | (simp; omega) | omega)]; with_reducible exact ((za HX2).alloc _).n0) | (rw [far3' (by first | (simp; done) | (simp; omega) | omega)]; with_reducible exact ((za HX2).alloc _).n1) | (rw [far3' (by first | (simp; done) | (simp; omega) | omega)]; with_reducible exact ((za HX2).alloc _).n2)))) (first | (go_at_call 14; refine (ZV _ (by first | exact (za HTk).below (za HKd) | exact (za HTk).below (za HKa))).mono ?_; rintro e wi ⟨rfl, hb⟩; have HK1 : Hid (Below w23.heap.size w23 wi) := (by first | exact (za HKd).trans (hb.mono (za HKd).size) | exact (za HKa).trans (hb.mono (za HKa).size)); have HM1 := (by first | exact hide ((AtC.new w23 #[.bool false, .string ⟨#[]⟩, .string ⟨#[]⟩] 26).drew.below hb) | exact trivial : _); have k1 := (za HK1).size; have HX1 := hide ((za HXA).below (za HK1)); have x10 := (za HX1).n0; have x11 := (za HX1).n1; have x12 := (za HX1).n2; clear hb) | (go_at_call 20; refine (ja (x9 (za HoA)) _ (za HsA) (za Hs1) (by first | exact (za HTk).below (za HK1) | exact (za HTk).below (ze (za HK1) (Nat.le_refl _) _))).mono ?_; rintro e wj ⟨rfl, hb⟩; have HK12 : Hid (Below wi.heap.size wi wj) := (by first | exact hb | exact (ze (Below.refl _ _) (Nat.le_refl _) _).trans (hb.mono (ze (Below.refl _ _) (Nat.le_refl _) _).size)); have HK2 := hide ((za HK1).trans ((za HK12).mono (za HK1).size)); have HM2 := (by first | exact hide ((za HM1).below (za HK12)) | exact hide ((AtC.new wi #[.bool false, .string ⟨#[]⟩, .string ⟨#[]⟩] 26).below hb) | exact trivial : _); have k2 := (za HK12).size; have HX2 := hide ((za HXA).below (za HK2)); have x20 := (za HX2).n0; have x21 := (za HX2).n1; have x22 := (za HX2).n2; have m0 := (by first | exact (za HM2).n0 | exact trivial : _); have m1 := (by first | exact (za HM2).n1 | exact trivial : _); have m2 := (by first | exact (za HM2).n2 | exact trivial : _); have mf := (by first | exact (za HM2).f | exact trivial : _); have ml := (by first | exact (za HM2).lt | exact trivial : _); clear hb))
     all_goals (go_wp2_with fail; go_meet)
     all_goals refine ⟨?_, rfl⟩
     all_goals first | exact yU (za HK2) | exact yV (za HM2) (by omega) (za HK2)
    case rest =>
    obtain ⟨⟨gF, rfl, hX, hb⟩, rfl⟩ := hcut
    rename World => w24
    clear A0 A1 A2 Al
    clear HKd HKa HTk
    have HB24 := hide (zg (za HB23) hb)
    replace HXA := hide (((za HXA)).below hb)
    replace HXBb := hide (((za HXBb)).below hb)
    replace HXS := hide (((za HXS)).below hb)
    replace HXK := hide (((za HXK)).below hb)
    replace HXQ := hide (((za HXQ)).below hb)
    replace HXE := hide (((za HXE)).below hb)
    clear hb HB23
    have HXF := hide hX
    clear hX
    go_upto_region 30 with fail
    go_cut [276] from 248 to 276 (fun s wx => s = .bool false ∧ w24 = wx)
    case first =>
     have K0 := (za HXK).n0
     have K1 := (za HXK).n1
     have K2 := (za HXK).n2
     have Kl := (za HXK).lt
     have A0 := (za HXA).n0
     have A1 := (za HXA).n1
     have A2 := (za HXA).n2
     have Al := (za HXA).lt
     have E0 := (za HXE).n0
     have E1 := (za HXE).n1
     have E2 := (za HXE).n2
     have El := (za HXE).lt
     have F0 := (za HXF).n0
     have F1 := (za HXF).n1
     have F2 := (za HXF).n2
     have Fl := (za HXF).lt
     by_cases hx : xs = 0
     ·subst hx
      have hk := QU (za HrS) (za HrK)
      injection hk with h1 h2
      injection h1 with h3 h4
      injection h4 with h5 h6
      subst h2 h3 h5 h6
      go_wp2_with fail
      go_meet
      exact ⟨rfl, rfl⟩
     ·go_wp2_with fail
      go_meet
      exact ⟨rfl, rfl⟩
    case rest =>
    obtain ⟨rfl, rfl⟩ := hcut
    clear HrS HrK HsK HsS HXK HXE HXF HXS HXBb
    go_upto_region 32 with fail
    have hdiv := kC (za HoA)
    rw [za HrQ] at hdiv
    by_cases hz : (na, ua, da) = zeroT
    ·skip
     rw [if_pos hz] at hdiv
     have hq : xq = 2 := congrArg Prod.snd hdiv
     injection hz with h1 h2
     injection h2 with h3 h4
     subst hq h1 h3 h4
     have A0 : w24.cell? ⟨w1.heap.size, 0, none⟩ = some (.bool false) := (za HXA).n0
     have A1 : w24.cell? ⟨w1.heap.size, 1, none⟩ = some (.string ⟨#[48]⟩) := (za HXA).n1
     have A2 : w24.cell? ⟨w1.heap.size, 2, none⟩ = some (.string ⟨#[49]⟩) := (za HXA).n2
     have Al := (za HXA).lt
     have HKd := hide (Below.refl w24.heap.size w24).drew
     have HTk := hide ((za HT).below (za HB24))
     go_region_held3 (fun w' => w'.cell? ⟨w1.heap.size, 0, none⟩ = some (.bool false) ∧ w'.cell? ⟨w1.heap.size, 1, none⟩ = some (.string ⟨#[48]⟩) ∧ w'.cell? ⟨w1.heap.size, 2, none⟩ = some (.string ⟨#[49]⟩)) (((try dsimp only); (repeat' apply And.intro) <;> (first | with_reducible assumption | with_reducible exact (za HXA).drew.n0 | exact (za HXA).drew.n1 | exact (za HXA).drew.n2))) ((go_at_call 14; refine (kF _ (by exact (za HTk).below (za HKd))).mono ?_; rintro e wi ⟨rfl, hb⟩; have HK1 : Hid (Below w24.heap.size w24 wi) := (za HKd).trans (hb.mono (za HKd).size); have HX1 := hide ((za HXA).below (za HK1)); have x10 : wi.cell? ⟨w1.heap.size, 0, none⟩ = some (.bool false) := (za HX1).n0; have x11 : wi.cell? ⟨w1.heap.size, 1, none⟩ = some (.string ⟨#[48]⟩) := (za HX1).n1; have x12 : wi.cell? ⟨w1.heap.size, 2, none⟩ = some (.string ⟨#[49]⟩) := (za HX1).n2; clear hb))
     clear A0 A1 A2 Al
     have HBi := hide (zg (za HB24) (za HK1))
     go_wp2_with fail
     go_region
     all_goals (go_wp2; go_ret; exact ⟨rfl, (za HBi).drew⟩)
    ·skip
     rw [if_neg hz] at hdiv
     injection hdiv with h1 h2
     injection h1 with h3 h4
     injection h4 with h5 h6
     subst h2 h3 h5 h6
     have hzb : ((B ua).toList == [48]) = false := by rw [B_tl]; have := fun h => hz ((vN (za HoA)).1 h); simpa using this
     have Hz := hide hz
     clear hz
     have A0 : w24.cell? ⟨w1.heap.size, 0, none⟩ = some (.bool na) := (za HXA).n0
     have A1 : w24.cell? ⟨w1.heap.size, 1, none⟩ = some (.string (B ua)) := (za HXA).n1
     have A2 : w24.cell? ⟨w1.heap.size, 2, none⟩ = some (.string (B da)) := (za HXA).n2
     have Al := (za HXA).lt
     have HKd := hide (Below.refl w24.heap.size w24).drew
     have HTk := hide ((za HT).below (za HB24))
     go_region_held3 (fun w' => w'.cell? ⟨w1.heap.size, 0, none⟩ = some (.bool na) ∧ w'.cell? ⟨w1.heap.size, 1, none⟩ = some (.string (B ua)) ∧ w'.cell? ⟨w1.heap.size, 2, none⟩ = some (.string (B da))) (((try dsimp only); (repeat' apply And.intro) <;> (first | with_reducible assumption | with_reducible exact (za HXA).drew.n0 | exact (za HXA).drew.n1 | exact (za HXA).drew.n2))) ((go_at_call 14; refine (kF _ (by exact (za HTk).below (za HKd))).mono ?_; rintro e wi ⟨rfl, hb⟩; have HK1 : Hid (Below w24.heap.size w24 wi) := (za HKd).trans (hb.mono (za HKd).size); have HX1 := hide ((za HXA).below (za HK1)); have x10 : wi.cell? ⟨w1.heap.size, 0, none⟩ = some (.bool na) := (za HX1).n0; have x11 : wi.cell? ⟨w1.heap.size, 1, none⟩ = some (.string (B ua)) := (za HX1).n1; have x12 : wi.cell? ⟨w1.heap.size, 2, none⟩ = some (.string (B da)) := (za HX1).n2; clear hb))
     clear A0 A1 A2 Al
     have HBi := hide (zg (za HB24) (za HK1))
     have HXi := hide ((za HXQ).below (za HK1))
     have q0 : wi.cell? ⟨w21.heap.size, 0, none⟩ = some (.bool false) := (za HXi).n0
     have q1 : wi.cell? ⟨w21.heap.size, 1, none⟩ = some (.string ⟨#[49]⟩) := (za HXi).n1
     have q2 : wi.cell? ⟨w21.heap.size, 2, none⟩ = some (.string ⟨#[49]⟩) := (za HXi).n2
     have ql := (za HXi).lt
     have HTi := hide ((za HT).below (za HBi))
     have HKi := hide (Below.refl wi.heap.size wi).drew
     go_wp2_with fail
     clear HsA HsBb HsC HoA HoBb HoC HB21 Hs0 Hs1 HB24 HXA HXQ HrQ hzb Hz HKd HTk HK1 HX1 x10 x11 x12
     first | go_region_held (fun w' => w'.cell? ⟨w21.heap.size, 0, none⟩ = some (.bool false) ∧ w'.cell? ⟨w21.heap.size, 1, none⟩ = some (.string ⟨#[49]⟩) ∧ w'.cell? ⟨w21.heap.size, 2, none⟩ = some (.string ⟨#[49]⟩)) (((try dsimp only); (repeat' apply And.intro) <;> (first | with_reducible assumption | exact (za HXi).drew.n0 | exact (za HXi).drew.n1 | exact (za HXi).drew.n2 | exact (za HXj).n0 | exact (za HXj).n1 | exact (za HXj).n2))) ((go_at_call 14; refine (ZV _ (by exact (za HTi).below (za HKi))).mono ?_; rintro e wj ⟨rfl, hb⟩; have HK2 : Hid (Below wi.heap.size wi wj) := (za HKi).trans (hb.mono (za HKi).size); have HXj := hide ((za HXi).below (za HK2)); clear hb)) | fail
     all_goals (go_wp2; go_ret; exact ⟨rfl, zg (za HBi) (za HK2)⟩)
theorem kH (a0 a1 : Option Addr) (n0 cap0 n1 cap1 : Nat) (w : World) (h : 1048576 < n0 ∨ 1048576 < n1) :
  Calls Tryd.prog 4 #[.slice a0 n0 cap0, .slice a1 n1 cap1] w fun e w' => e = .returned (.bool true) ∧ Below w.heap.size w w' := by
 by_cases h0 : 1048576 < n0
 ·have d0 : decide (1048576 < (n0 : Int)) = true := by rw [decide_eq_true_iff]; omega
  clear h
  go_enter Tryd.func4, Tryd.ntmps4
  go_wp2
  go_ret
  exact ⟨rfl, Below.refl _ _⟩
 ·have h1 : 1048576 < n1 := by omega
  have d0 : decide (1048576 < (n0 : Int)) = false := by rw [decide_eq_false_iff_not]; omega
  have d1 : decide (1048576 < (n1 : Int)) = true := by rw [decide_eq_true_iff]; omega
  clear h
  go_enter Tryd.func4, Tryd.ntmps4
  go_wp2
  go_ret
  exact ⟨rfl, Below.refl _ _⟩
theorem Z3 (a0 a1 : Option Addr) (n0 cap0 n1 cap1 : Nat) (w : World) (h0 : Bytes0 w a0 n0) (h1 : Bytes0 w a1 n1) (hc0 : n0 ≤ cap0) (hc1 : n1 ≤ cap1) (hm0 : cap0 ≤ maxLen) (hm1 : cap1 ≤ maxLen) (hT : Tens w) :
  Calls Tryd.prog 4 #[.slice a0 n0 cap0, .slice a1 n1 cap1] w fun e w' => e = .returned (.bool true) ∧ Below w.heap.size w w' := by
 by_cases h : 1048576 < n0 ∨ 1048576 < n1
 ·exact kH a0 a1 n0 cap0 n1 cap1 w h
 ·exact y7 a0 a1 n0 cap0 n1 cap1 w h0 h1 hc0 hc1 hm0 hm1 hT (by omega) (by omega)
end Go.Proofs.YtcnnicbaeicboaaDoor
namespace Go.Proofs.YtcnnicbaeicboaaDoor
open Go.ChangeShapes Go.WideShapes Go.ChangeAt Go.RowKit Nt
theorem own : ownKnob Tryd.prog.godebug = none := by kernel_rfl
theorem yH : laidOutB Tryd.prog = true := by kernel_rfl
theorem gTens : Tryd.prog.globalNamed "loop.example/sistab/impl.natTens" = some 0 := by kernel_rfl
theorem vZ : (Tryd.prog.globals[0]?).map (·.type) = some 118 := by kernel_rfl
theorem xO : Tryd.prog.cellsOf 80 = 1 := by kernel_rfl
theorem xN : Tryd.prog.cellsOf 118 = 9 := by kernel_rfl
theorem Zw {P : Program} {B g : Nat} {W W' : World} {n : String} {cs : Array Value} (h : Below B W W') (hg : P.globalNamed n = some g) (hgB : g < B) (hv : W.var? P n = some cs) : W'.var? P n = some cs := by
 unfold World.var? at hv ⊢
 simp only [hg, Option.bind_some] at hv ⊢
 rw [h.block g hgB]
 exact hv
theorem yP {W : World} (h : laidMet Tryd.prog Rows.fnNumTopRow.laid W) : Tens W := by
 have hT : Lib.TabIs Tryd.prog W "loop.example/sistab/impl.natTens" .u64 [1, 10, 100, 1000, 10000, 100000, 1000000, 10000000, 100000000] :=
  Lib.tabIs_of_head gTens vZ Tryd.underlying118 Tryd.underlying80 xO xN h
 intro j hj
 have h0 := hT.cell gTens j (by simpa using hj)
 rw [h0]
 match j, hj with
 | 0, _ => rfl
 | 1, _ => rfl
 | 2, _ => rfl
 | 3, _ => rfl
 | 4, _ => rfl
 | 5, _ => rfl
 | 6, _ => rfl
 | 7, _ => rfl
 | 8, _ => rfl
theorem yW {H : Type} {enc : TypeId × Value → H} {W : World} {a0 : Option Addr} {len cap : Nat} {d : DataW H} {p : List MemPlace}
  (h : DataW.Trod enc Tryd.prog W 0 (fun _ => true) true 22 (.slice a0 len cap) d p) : Bytes0 W a0 len ∧ len ≤ cap ∧ cap ≤ maxLen := by
 obtain ⟨fuel, hf⟩ := h
 rcases open_ints Tryd.underlying22 Tryd.underlying5 (by kernel_rfl) hf with ⟨hcs, _⟩ | ⟨x, l, c, zs, hcs, _, hl, hm, hz, _, hcell, hwz⟩
 ·simp [Value.cells] at hcs
  obtain ⟨rfl, rfl, rfl⟩ := hcs
  exact ⟨fun h => absurd h (by omega), Nat.le_refl _, by unfold maxLen; omega⟩
 ·simp [Value.cells] at hcs
  obtain ⟨rfl, rfl, rfl⟩ := hcs
  refine ⟨fun h0 => ?_, hl, hm⟩
  have hz' : zs.length = cap := by simpa using hz
  obtain ⟨b, off, spot⟩ := x
  have hc := hcell 0 (by omega)
  have hspot : spot = none := by simpa [Addr.add] using World.cell?_spot hc
  subst hspot
  refine ⟨b, off, rfl, World.block_lt_of_cell? W _ hc, fun j hj => ?_⟩
  have hcj := hcell j (by omega)
  have hjz : j < zs.length := by omega
  have hw := hwz (zs.getD j 0) (by rw [List.getD_eq_getElem?_getD, List.getElem?_eq_getElem hjz]; exact List.getElem_mem hjz)
  have hw' : 0 ≤ zs.getD j 0 ∧ zs.getD j 0 ≤ 255 := by simpa [Lit.wf, IntKind.min, IntKind.max, IntKind.signed, IntKind.bits] using hw
  refine ⟨(zs.getD j 0).toNat, by omega, ?_⟩
  rw [show (((zs.getD j 0).toNat : Nat) : Int) = zs.getD j 0 from by omega]
  by_cases hj0 : j = 0
  ·subst hj0; simpa [Addr.add] using hcj
  ·simpa [Addr.add, hj0] using hcj
theorem xd (os : Os) (started : os.Started) (H : Type) (enc : TypeId × Value → H) :
  ReturnsInHanded {} Tryd.checked os 4 .any (fun w args => (Rows.fnNumTopSpec.pre enc Tryd.prog Tryd.f4 [] false w args ∧ laidMetH Tryd.prog Rows.fnNumTopRow.laid w) ∧ sizedMet enc Tryd.prog Tryd.f4 (OpenSpec.ofChange Rows.fnNumTopSpec) false w args)
   (Rows.fnNumTopSpec.post enc Tryd.prog Tryd.f4 false true false false) := by
 refine returnsInHanded_of_change_and (C := Tryd.checked) (X := fun w _ => laidMetH Tryd.prog Rows.fnNumTopRow.laid w) (fun _ _ _ hh h => h.of_heap hh) own started (by kernel_rfl) Tryd.func4
  (ChangeSpec.witness_shaped (enc := enc) (C := Tryd.checked) (os := os) (X := fun w _ => laidMetH Tryd.prog Rows.fnNumTopRow.laid w) false (World.laidAll Tryd.prog os Rows.fnNumTopRow.laid) #[.slice none 0 0, .slice none 0 0] 8 (World.laidAll_os _ _ _)
   (World.shaped_of_ZipB (by kernel_rfl) (by kernel_rfl)) (by kernel_rfl) (by kernel_rfl) (by kernel_rfl)
   (by rw [MakeChecks.laidMetH_plain _ _ _ (by kernel_rfl)]; exact laidMet_laidAll _ (by kernel_rfl) (by kernel_rfl))) ?_
 intro W base args ds gs before hval0 hW _ _ hL _
 have hval : ∀ (j : Nat) t v, Tryd.f4.params[j]? = some t → args[j]? = some v → Value.okWide Tryd.prog W .any base t v := hval0
 have hW' := hW
 obtain ⟨p, q, hA0, hV0, rfl, _, _⟩ := hW
 have hA : DataW.TrodAll enc Tryd.prog W 0 (fun _ => true) true Tryd.f4.params.toList args.toList ds p := hA0
 have hV : DataW.TrodVars enc Tryd.prog W (fun _ => true) ["loop.example/sistab/impl.natTens"] gs q := hV0
 rw [Tryd.params4] at hA hval
 obtain ⟨v0, vs0, d0, ds0, p0, q0, hargs, rfl, rfl, h0, r0⟩ := trodAll_cons hA
 obtain ⟨v1, vs1, d1, ds1, p1, q1, rfl, rfl, rfl, h1, r1⟩ := trodAll_cons r0
 obtain ⟨rfl, rfl, rfl⟩ := trodAll_nil r1
 obtain rfl : args = #[v0, v1] := by cases args; simp_all
 obtain ⟨g, t, cs, fuel, d, p', rfl, hg, ht, hvar, hd, rfl⟩ := trodVars_one hV
 obtain rfl := Option.some.inj (gTens.symm.trans hg)
 obtain rfl := Option.some.inj (vZ.symm.trans ht)
 obtain ⟨a0, len0, cap0, rfl⟩ := okWide_slice Tryd.underlying22 (hval 0 22 v0 rfl rfl)
 obtain ⟨a1, len1, cap1, rfl⟩ := okWide_slice Tryd.underlying22 (hval 1 22 v1 rfl rfl)
 have k0 := h0
 have k1 := h1
 have lt0 : ∀ x ∈ p0, x.block < W.heap.size := by obtain ⟨m, hm⟩ := k0; exact DataW.trod_lt m _ _ _ hm
 have lt1 : ∀ x ∈ p1, x.block < W.heap.size := by obtain ⟨m, hm⟩ := k1; exact DataW.trod_lt m _ _ _ hm
 have ltv : ∀ x ∈ p', x.block < W.heap.size := DataW.trod_lt fuel _ _ _ hd
 have b0 := yW h0
 have b1 := yW h1
 have hT := yP (W := W) (by rw [MakeChecks.laidMetH_plain _ _ _ (by kernel_rfl)] at hL; exact hL)
 have hgl : 0 < W.heap.size := World.block_lt_of_cell? W _ (hT 0 (by omega))
 clear hA0 hval0 hV0
 refine (Z3 a0 a1 len0 cap0 len1 cap1 W b0.1 b1.1 b0.2.1 b1.2.1 b0.2.2 b1.2.2 hT).mono fun e W' ⟨he, bel⟩ => ?_
 subst he
 obtain ⟨fuel', hd'⟩ := Below.trod yH (by kernel_rfl) (of_decide_eq_true (by kernel_rfl)) (v := .agg cs) (⟨fuel, by simpa [Value.cells] using hd⟩ : DataW.Trod enc Tryd.prog W 0 (fun _ => true) true 118 (.agg cs) d p') bel ltv
 have hv' := trodVars_mk1 (enc := enc) (spare := fun b => decide (b < W.heap.size)) hg ht (Zw bel hg hgl hvar) (by simpa [Value.cells] using hd')
 exact ⟨_, rfl, _, _, _, [], _, _, hW', trodAll_mk1 (shut_bool Tryd.underlying4 _), (trodAll_cons_mk (Below.trod yH (by kernel_rfl) (of_decide_eq_true (by kernel_rfl)) k0 bel lt0) (trodAll_cons_mk (Below.trod yH (by kernel_rfl) (of_decide_eq_true (by kernel_rfl)) k1 bel lt1) trodAll_mk0)), hv', bel.frame _, fun h => by cases h⟩
theorem Zr : Rows.FnNumTopSaid :=
 OpenClaim.holds_of_wide 4 Tryd.f4 rfl rfl rfl rfl rfl rfl rfl ⟨rfl, rfl, rfl, rfl, rfl⟩ rfl rfl rfl rfl rfl (by kernel_rfl) Tryd.func4 (by kernel_rfl)
  (of_decide_eq_true (by kernel_rfl)) (by unfold Func.isWrapper; first | (rw [if_pos (by decide +kernel)]; kernel_rfl) | (rw [if_neg (by decide +kernel)]; exact ⟨rfl, rfl⟩))
  (fun os started H enc _ => xd os started H enc)
theorem fnNumTop_card : Rows.FnNumTopCardSaid :=
 Claim7.holds_tied_plain_at .later [] [.data] true Rows.fnNumTopCard.stood.harness false Zr (fun _ h => by cases h) (by kernel_rfl) (fun _ h => by cases h) fnNumTop_row_tie rfl ⟨rfl, rfl⟩ (by kernel_rfl) rfl
  (fun f fn hf hfn => by
   obtain rfl : f = 4 := Option.some.inj ((show Tryd.prog.funcNamed "loop.example/sistab/laws.FnNumTop" = some 4 by kernel_rfl).symm.trans hf) |>.symm
   obtain rfl : fn = Tryd.f4 := (Option.some.inj (Tryd.func4.symm.trans hfn)).symm
   exact ⟨by kernel_rfl, fun j t ht => by
    rw [Tryd.params4] at ht
    have hm : t ∈ [22, 22] := by simpa using Array.mem_of_getElem? ht
    have hall : ([22, 22].all fun u => !Tryd.prog.wantsStandIn u) = true := by kernel_rfl
    exact (show Tryd.prog.wantsStandIn t = false by simpa using List.all_eq_true.1 hall t hm)⟩)
  (by kernel_rfl)
#print axioms fnNumTop_card
end Go.Proofs.YtcnnicbaeicboaaDoor
